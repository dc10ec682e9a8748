/-
  package cnf: clauses in memory; Of's say and variable, turned, sayGates, sayRoots BY CONTRACT.
-/
import Derived.Test.YtlclbidjdhlklaaGreatDoorCnD
namespace Go.Proofs.YtlclbidjdhlklaaGreatDoor
open Go.RowKit Go.Maps

theorem Mvd.cellN {F F' : Nat → Prop} {w w' : World} (h : Mvd F F' w w') {p : Addr} {v : Value} (hc : w.cell? p = some v) (hn : ¬ F p.block) : w'.cell? p = some v ∧ ¬ F' p.block := by
  have hl : p.block < w.heap.size := by
    rcases Nat.lt_or_ge p.block w.heap.size with h | h
    · exact h
    · simp [World.cell?, Array.getElem?_eq_none h] at hc
  have e : w'.cell? p = w.cell? p := by simp only [World.cell?, h.block _ hl hn]
  refine ⟨by rw [e]; exact hc, fun hf => ?_⟩
  rcases h.more _ hf with h1 | h1
  · exact hn h1
  · omega
theorem Mvd.rowN {F F' : Nat → Prop} {w w' : World} (h : Mvd F F' w w') {b : Nat} {v : Obj} (hc : w.heap[b]? = some v) (hn : ¬ F b) : w'.heap[b]? = some v ∧ ¬ F' b := by
  have hl : b < w.heap.size := (Array.getElem?_eq_some_iff.1 hc).1
  refine ⟨by rw [h.block _ hl hn]; exact hc, fun hf => ?_⟩
  rcases h.more _ hf with h1 | h1
  · exact hn h1
  · omega
/-- A clause in memory, in none of such blocks. -/
def ClIn (F : Nat → Prop) (w : World) (v : Value) (l : List Int) : Prop := ∃ o c, v = .slice o l.length c ∧ ∀ k x, l[k]? = some x → ∃ b off, o = some ⟨b, off, none⟩ ∧ ¬ F b ∧ w.cell? ⟨b, off + k, none⟩ = some (.int .i64 x)
theorem ClIn.move {F F' : Nat → Prop} {w w' : World} {v : Value} {l : List Int} (h : ClIn F w v l) (hm : Mvd F F' w w') : ClIn F' w' v l := by
  obtain ⟨o, c, rfl, h⟩ := h
  refine ⟨o, c, rfl, fun k x hk => ?_⟩
  obtain ⟨b, off, e, hn, hc⟩ := h k x hk
  have := hm.cellN hc hn
  exact ⟨b, off, e, this.2, this.1⟩
theorem Mvd.or {F F' : Nat → Prop} {w w' : World} (h : Mvd F F' w w') (B : Nat) : Mvd (fun k => F k ∨ k < B) (fun k => F' k ∨ k < B) w w' :=
  ⟨h.os, h.tape, h.output, h.size, fun k hk hn => h.block k hk (fun hf => hn (.inl hf)), fun k hk => by
    rcases hk with hk | hk
    · rcases h.more k hk with h1 | h1
      · exact .inl (.inl h1)
      · exact .inr h1
    · exact .inl (.inr hk)⟩
theorem ClIn.nil (F : Nat → Prop) (w : World) : ClIn F w (.slice none 0 0) [] := ⟨none, 0, rfl, fun k x hk => by simp at hk⟩
/-- A clause that was made just now. -/
theorem ClIn.new {F : Nat → Prop} {w : World} (hF : ∀ k, F k → k < w.heap.size) (l : List Int) (t : TypeId) (n : Nat) (hn : n = l.length) : ClIn F (w.alloc (.cells (rowI l) t)) (.slice (some ⟨w.heap.size, 0, none⟩) n n) l := by
  subst hn
  refine ⟨_, _, rfl, fun k x hk => ⟨_, _, rfl, fun hf => ?_, ?_⟩⟩
  · have := hF _ hf; omega
  · rw [cell_of_row _ _ _ _ t (0, 0) (heap_alloc_new w _)]
    rw [Nat.zero_add]; exact rowI_get hk
/-- A FORMULA IN BLOCK B: how many variables, its clauses. -/
def FmAt (B : Nat) (n : Int) (cs : List (List Int)) (F : Nat → Prop) (w : World) : Prop :=
  F B ∧ (∀ k, F k → k < w.heap.size) ∧ ∃ t sv vs, w.heap[B]? = some (.cells #[.int .i64 n, sv] t (0, 0)) ∧
    w.ownsRow 0 43 1 sv cs.length vs ∧ (∀ k, sv.ownBlock = some k → F k ∧ k ≠ B) ∧ vs.length = cs.length ∧
    ∀ (k : Nat) l, cs[k]? = some l → ∃ v, vs[k]? = some v ∧ ClIn (fun k => F k ∨ k < B) w v l
theorem FmAt.below {B : Nat} {n : Int} {cs : List (List Int)} {F : Nat → Prop} {w w' : World} (h : FmAt B n cs F w) (hb : Below w.heap.size w w') : FmAt B n cs F w' := by
  obtain ⟨h1, h2, t, sv, vs, h3, h4, h5, h6, h7⟩ := h
  refine ⟨h1, fun k hk => Nat.lt_of_lt_of_le (h2 k hk) hb.size, t, sv, vs, row_keep hb h3, owns_keep h4 (fun k hk => hb.block k (h2 k (h5 k hk).1)), h5, h6, fun k l hk => ?_⟩
  obtain ⟨v, hv, hc⟩ := h7 k l hk
  exact ⟨v, hv, hc.move (Mvd.of_below hb)⟩
theorem FmAt.grown {B : Nat} {n : Int} {cs : List (List Int)} {F : Nat → Prop} {w w2 w3 : World} {t : TypeId} {sv v : Value} {vs : List Value} {l : List Int} {g cap : Nat} (hFB : F B) (hF : ∀ k, F k → k < w.heap.size) (h3 : w.heap[B]? = some (.cells #[.int .i64 n, sv] t (0, 0)))
    (h5 : ∀ k, sv.ownBlock = some k → F k ∧ k ≠ B) (h6 : vs.length = cs.length) (h7 : ∀ (k : Nat) l, cs[k]? = some l → ∃ v, vs[k]? = some v ∧ ClIn (fun k => F k ∨ k < B) w v l) (hv : ClIn (fun k => F k ∨ k < B) w v l) (hb2 : Below w.heap.size w w2) (hgrow : w2.grownBy w3 sv.ownBlock) (hat : sv.ownBlock = some g ∨ g = w2.heap.size) (hlt : g < w3.heap.size)
    (hown : w3.ownsRow 0 43 1 (.slice (some ⟨g, 0, none⟩) (cs.length + 1) cap) (cs.length + 1) (vs ++ [v])) :
    FmAt B n (cs ++ [l]) (With F w w3) (w3.setCell ⟨B, 1, none⟩ (.slice (some ⟨g, 0, none⟩) (cs.length + 1) cap)) ∧ Mvd F (With F w w3) w (w3.setCell ⟨B, 1, none⟩ (.slice (some ⟨g, 0, none⟩) (cs.length + 1) cap)) ∧ w3.heap[B]? = some (.cells #[.int .i64 n, sv] t (0, 0)) := by
  have hs : w.heap.size ≤ w3.heap.size := Nat.le_trans hb2.size hgrow.size
  have hk : ∀ k, k < w.heap.size → sv.ownBlock ≠ some k → w3.heap[k]? = w.heap[k]? := fun k hk hne => by
    rw [hgrow.block k (by have := hb2.size; omega) (fun e => hne e.symm), hb2.block k hk]
  have hgB : g ≠ B := by
    rcases hat with hat | hat
    · exact (h5 g hat).2
    · have := hF B hFB; have := hb2.size; omega
  have h33 : w3.heap[B]? = some (.cells #[.int .i64 n, sv] t (0, 0)) := by
    rw [hk B (hF B hFB) (fun e => (h5 B e).2 rfl)]; exact h3
  have hM : Mvd F (With F w w3) w (w3.setCell ⟨B, 1, none⟩ (.slice (some ⟨g, 0, none⟩) (cs.length + 1) cap)) := by
    refine ⟨?_, ?_, ?_, ?_, fun k hk' hn => ?_, fun k hk => ?_⟩
    · exact hgrow.os.trans hb2.os
    · exact hgrow.tape.trans hb2.tape
    · exact hgrow.output.trans hb2.output
    · rw [size_setCell]; exact hs
    · rw [Below.heap_setCell _ _ _ _ (fun e => hn (by rw [show k = B from e]; exact hFB)), hk k hk' (fun e => hn (h5 k e).1)]
    · rw [size_setCell]; exact hk
  refine ⟨⟨.inl hFB, fun k hk => ?_, t, _, vs ++ [v], heap_setCell_at h33 _, ?_, fun k hk => ?_, by simp [h6], fun k l' hk => ?_⟩, hM, h33⟩
  · rw [size_setCell]
    rcases hk with hk | hk
    · have := hF k hk; omega
    · exact hk.2
  · have e : (cs ++ [l]).length = cs.length + 1 := by simp
    rw [e]
    exact owns_keep hown (fun k hk => by
      have : k = g := by simpa [Value.ownBlock] using hk.symm
      subst this
      exact Below.heap_setCell _ _ _ _ hgB)
  · have : k = g := by simpa [Value.ownBlock] using hk.symm
    subst this
    refine ⟨?_, hgB⟩
    rcases hat with hat | hat
    · exact .inl (h5 k hat).1
    · exact .inr ⟨by have := hb2.size; omega, hlt⟩
  · rcases Nat.lt_or_ge k cs.length with h | h
    · rw [List.getElem?_append_left h] at hk
      obtain ⟨u, hu, hc⟩ := h7 k l' hk
      exact ⟨u, by rw [List.getElem?_append_left (by omega)]; exact hu, hc.move (hM.or B)⟩
    · have hkl : k = cs.length := by
        have := (List.getElem?_eq_some_iff.1 hk).1
        simp at this; omega
      subst hkl
      rw [List.getElem?_append_right (Nat.le_refl _), Nat.sub_self] at hk
      have : l = l' := by simpa using hk
      subst this
      exact ⟨v, by rw [List.getElem?_append_right (by omega), h6, Nat.sub_self]; rfl, hv.move (hM.or B)⟩
theorem Tryz.infoClause : (Tryz.prog.info? 43).map (fun i => (i.zero, i.size, i.bytes)) = some (some (.slice none 0 0), 1, 24) := by kernel_rfl
end Go.Proofs.YtlclbidjdhlklaaGreatDoor
