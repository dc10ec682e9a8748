/-
  package order: rows of ints that grow, in a row of their own.
-/
import Derived.Test.YtpkgingjmgakbaaDoorP29
import Derived.Test.YtpkgingjmgakbaaDoorP14
namespace Go.Proofs.YtpkgingjmgakbaaDoor
open Go.RowKit Go.Maps

/-- Rows of ints, their slices in one block; their blocks are none of F, and no two are the same. -/
def RwsAt (w : World) (base nb : Nat) (F : Nat → Prop) (ls : List (List Int)) : Prop :=
  ∃ vs : List Value, w.heap[nb]? = some (.cells vs.toArray 22 (0, 0)) ∧ vs.length = ls.length ∧ base ≤ nb ∧ (∀ k, F k → k < w.heap.size) ∧
    (∀ (i : Nat) (v : Value) (l : List Int), vs[i]? = some v → ls[i]? = some l → w.ownsRow base 3 1 v l.length (l.map (Value.int .i64)) ∧ ∀ k, v.ownBlock = some k → k ≠ nb ∧ ¬ F k) ∧
    ∀ (i j : Nat) (v u : Value), i ≠ j → vs[i]? = some v → vs[j]? = some u → ∀ k, v.ownBlock = some k → u.ownBlock ≠ some k
theorem RwsAt.move {w w' : World} {base nb : Nat} {F : Nat → Prop} {ls : List (List Int)} (h : RwsAt w base nb F ls) (hs : w.heap.size ≤ w'.heap.size) (hk : ∀ k, base ≤ k → ¬ F k → k < w.heap.size → w'.heap[k]? = w.heap[k]?) (hn : w'.heap[nb]? = w.heap[nb]?) : RwsAt w' base nb F ls := by
  obtain ⟨vs, h1, h2, h3, h4, h5, h6⟩ := h
  refine ⟨vs, hn.trans h1, h2, h3, fun k hF => Nat.lt_of_lt_of_le (h4 k hF) hs, fun i v l hv hl => ?_, h6⟩
  obtain ⟨g1, g2⟩ := h5 i v l hv hl
  exact ⟨owns_keep g1 (fun k hb => hk k (g1.lt k hb).1 (g2 k hb).2 (g1.lt k hb).2), g2⟩
theorem RwsAt.alloc {w : World} {base nb : Nat} {F : Nat → Prop} {ls : List (List Int)} (h : RwsAt w base nb F ls) (o : Obj) : RwsAt (w.alloc o) base nb F ls := by
  have hb : Below w.heap.size w (w.alloc o) := (Below.refl _ _).alloc (Nat.le_refl _) _
  refine h.move hb.size (fun k _ _ hk => hb.block k hk) (hb.block nb ?_)
  obtain ⟨vs, h1, _⟩ := h
  exact (Array.getElem?_eq_some_iff.1 h1).1
theorem RwsAt.below {w w' : World} {base nb : Nat} {F : Nat → Prop} {ls : List (List Int)} (h : RwsAt w base nb F ls) (hb : Below w.heap.size w w') : RwsAt w' base nb F ls := by
  refine h.move hb.size (fun k _ _ hk => hb.block k hk) (hb.block nb ?_)
  obtain ⟨vs, h1, _⟩ := h
  exact (Array.getElem?_eq_some_iff.1 h1).1
theorem RwsAt.fewer {w : World} {base nb : Nat} {F F' : Nat → Prop} {ls : List (List Int)} (h : RwsAt w base nb F ls) (hF : ∀ k, F' k → F k) : RwsAt w base nb F' ls := by
  obtain ⟨vs, h1, h2, h3, h4, h5, h6⟩ := h
  exact ⟨vs, h1, h2, h3, fun k hk => h4 k (hF k hk), fun i v l hv hl => ⟨(h5 i v l hv hl).1, fun k hk => ⟨((h5 i v l hv hl).2 k hk).1, fun hf => ((h5 i v l hv hl).2 k hk).2 (hF k hf)⟩⟩, h6⟩
theorem RwsAt.lt {w : World} {base nb : Nat} {F : Nat → Prop} {ls : List (List Int)} (h : RwsAt w base nb F ls) : nb < w.heap.size := by
  obtain ⟨vs, h1, _⟩ := h
  exact (Array.getElem?_eq_some_iff.1 h1).1
/-- One of them: its slice. -/
theorem RwsAt.at {w : World} {base nb : Nat} {F : Nat → Prop} {ls : List (List Int)} (h : RwsAt w base nb F ls) {i : Nat} {l : List Int} (hl : ls[i]? = some l) : ∃ o c, w.cell? ⟨nb, i, none⟩ = some (.slice o l.length c) ∧ w.frozen? ⟨nb, i, none⟩ = false ∧ w.ownsRow base 3 1 (.slice o l.length c) l.length (l.map (Value.int .i64)) ∧ ∀ k, (Value.slice o l.length c).ownBlock = some k → k ≠ nb ∧ ¬ F k := by
  obtain ⟨vs, h1, h2, h3, h4, h5, h6⟩ := h
  obtain ⟨v, hv⟩ : ∃ v, vs[i]? = some v := ⟨_, List.getElem?_eq_getElem (by have := (List.getElem?_eq_some_iff.1 hl).1; omega)⟩
  obtain ⟨g1, g2⟩ := h5 i v l hv hl
  obtain ⟨o, c, rfl, _⟩ := owns_slice g1
  refine ⟨o, c, ?_, by simp [World.frozen?, h1], g1, g2⟩
  rw [cell_of_row w nb i _ _ (0, 0) h1]
  simpa using hv
/-- One of them has grown, and its slice is written. -/
theorem RwsAt.grown {w w' : World} {base nb : Nat} {F : Nat → Prop} {ls : List (List Int)} (h : RwsAt w base nb F ls) {i : Nat} {l l' : List Int} (hl : ls[i]? = some l) {o : Option Addr} {c g cap : Nat} (hc : w.cell? ⟨nb, i, none⟩ = some (.slice o l.length c)) (hg : w.grownBy w' (Value.slice o l.length c).ownBlock) (ha : (Value.slice o l.length c).ownBlock = some g ∨ g = w.heap.size) (ho : w'.ownsRow base 3 1 (.slice (some ⟨g, 0, none⟩) l'.length cap) l'.length (l'.map (Value.int .i64))) : RwsAt (w'.setCell ⟨nb, i, none⟩ (.slice (some ⟨g, 0, none⟩) l'.length cap)) base nb F (ls.set i l') := by
  have hlt := h.lt
  obtain ⟨vs, h1, h2, h3, h4, h5, h6⟩ := h
  have hil := (List.getElem?_eq_some_iff.1 hl).1
  have hvi : vs[i]? = some (.slice o l.length c) := by
    rw [cell_of_row w nb i _ _ (0, 0) h1] at hc
    simpa using hc
  obtain ⟨g1, g2⟩ := h5 i _ l hvi hl
  have hnb : w'.heap[nb]? = some (.cells vs.toArray 22 (0, 0)) := (hg.block nb hlt (fun e => (g2 nb e.symm).1 rfl)).trans h1
  have hset : ∀ q, q ≠ nb → (w'.setCell ⟨nb, i, none⟩ (.slice (some ⟨g, 0, none⟩) l'.length cap)).heap[q]? = w'.heap[q]? := fun q hq => Below.heap_setCell w' ⟨nb, i, none⟩ _ q hq
  have hgn : g ≠ nb ∧ ¬ F g := by
    rcases ha with ha | rfl
    · exact g2 g ha
    · exact ⟨fun e => by omega, fun hF => by have := h4 _ hF; omega⟩
  have hkeep : ∀ q, q < w.heap.size → (Value.slice o l.length c).ownBlock ≠ some q → q ≠ nb → (w'.setCell ⟨nb, i, none⟩ (.slice (some ⟨g, 0, none⟩) l'.length cap)).heap[q]? = w.heap[q]? := fun q hq hne hqn => (hset q hqn).trans (hg.block q hq (fun e => hne e.symm))
  refine ⟨vs.set i (.slice (some ⟨g, 0, none⟩) l'.length cap), ?_, by simp [h2], h3, fun k hF => ?_, fun j v l2 hv hl2 => ?_, fun j k v u hjk hv hu q hq hq2 => ?_⟩
  · rw [heap_setCell_same w' nb i _ _ _ hnb]
    simp
  · rw [size_setCell]
    exact Nat.lt_of_lt_of_le (h4 k hF) hg.size
  · by_cases e : i = j
    · subst e
      rw [List.getElem?_set_self (by omega)] at hv hl2
      obtain rfl := Option.some.inj hv
      obtain rfl := Option.some.inj hl2
      refine ⟨owns_keep ho (fun k hk => hset k ?_), fun k hk => ?_⟩
      · obtain rfl : g = k := by simpa [Value.ownBlock] using hk
        exact hgn.1
      · obtain rfl : g = k := by simpa [Value.ownBlock] using hk
        exact hgn
    · rw [List.getElem?_set_ne e] at hv hl2
      obtain ⟨f1, f2⟩ := h5 j v l2 hv hl2
      exact ⟨owns_keep f1 (fun k hk => hkeep k (f1.lt k hk).2 (fun e2 => h6 i j _ v e hvi hv k e2 hk) (f2 k hk).1), f2⟩
  · by_cases e : i = j
    · subst e
      rw [List.getElem?_set_self (by omega)] at hv
      obtain rfl := Option.some.inj hv
      obtain rfl : g = q := by simpa [Value.ownBlock] using hq
      rw [List.getElem?_set_ne hjk] at hu
      obtain ⟨l2, hl2⟩ : ∃ l2, ls[k]? = some l2 := ⟨_, List.getElem?_eq_getElem (by have := (List.getElem?_eq_some_iff.1 hu).1; omega)⟩
      rcases ha with ha | rfl
      · exact h6 i k _ u hjk hvi hu g ha hq2
      · have := ((h5 k u l2 hu hl2).1.lt _ hq2).2; omega
    · rw [List.getElem?_set_ne e] at hv
      by_cases e2 : i = k
      · subst e2
        rw [List.getElem?_set_self (by omega)] at hu
        obtain rfl := Option.some.inj hu
        obtain rfl : g = q := by simpa [Value.ownBlock] using hq2
        obtain ⟨l2, hl2⟩ : ∃ l2, ls[j]? = some l2 := ⟨_, List.getElem?_eq_getElem (by have := (List.getElem?_eq_some_iff.1 hv).1; omega)⟩
        rcases ha with ha | rfl
        · exact h6 j i v _ hjk hv hvi g hq ha
        · have := ((h5 j v l2 hv hl2).1.lt _ hq).2; omega
      · rw [List.getElem?_set_ne e2] at hu
        exact h6 j k v u hjk hv hu q hq hq2
end Go.Proofs.YtpkgingjmgakbaaDoor
