/-
  package cnf: clauses in memory; Of's say and variable, turned, sayGates, sayRoots BY CONTRACT.
-/
import Derived.Test.YtlclbidjdhlklaaDoorCnD
namespace Go.Proofs.YtlclbidjdhlklaaDoor
open Go.RowKit Go.Maps

theorem Mvd.cellN {F F' : Nat → Prop} {w w' : World} (h : Mvd F F' w w') {p : Addr} {v : Value} (hc : w.cell? p = some v) (hn : ¬ F p.block) : w'.cell? p = some v ∧ ¬ F' p.block := by
  have hl : p.block < w.heap.size := by
    rcases Nat.lt_or_ge p.block w.heap.size with h | h
    · exact h
    · simp [World.cell?, Array.getElem?_eq_none h] at hc
  have e : w'.cell? p = w.cell? p := by simp only [World.cell?, h.block _ hl hn]
  refine ⟨by rw [e]; exact hc, fun hf => ?_⟩
  rcases h.more _ hf with h1 | h1
  · exact hn h1
  · omega
theorem Mvd.rowN {F F' : Nat → Prop} {w w' : World} (h : Mvd F F' w w') {b : Nat} {v : Obj} (hc : w.heap[b]? = some v) (hn : ¬ F b) : w'.heap[b]? = some v ∧ ¬ F' b := by
  have hl : b < w.heap.size := (Array.getElem?_eq_some_iff.1 hc).1
  refine ⟨by rw [h.block _ hl hn]; exact hc, fun hf => ?_⟩
  rcases h.more _ hf with h1 | h1
  · exact hn h1
  · omega
/-- A clause in memory, in none of such blocks. -/
def ClIn (F : Nat → Prop) (w : World) (v : Value) (l : List Int) : Prop := ∃ o c, v = .slice o l.length c ∧ ∀ k x, l[k]? = some x → ∃ b off, o = some ⟨b, off, none⟩ ∧ ¬ F b ∧ w.cell? ⟨b, off + k, none⟩ = some (.int .i64 x)
theorem ClIn.move {F F' : Nat → Prop} {w w' : World} {v : Value} {l : List Int} (h : ClIn F w v l) (hm : Mvd F F' w w') : ClIn F' w' v l := by
  obtain ⟨o, c, rfl, h⟩ := h
  refine ⟨o, c, rfl, fun k x hk => ?_⟩
  obtain ⟨b, off, e, hn, hc⟩ := h k x hk
  have := hm.cellN hc hn
  exact ⟨b, off, e, this.2, this.1⟩
theorem Mvd.or {F F' : Nat → Prop} {w w' : World} (h : Mvd F F' w w') (B : Nat) : Mvd (fun k => F k ∨ k < B) (fun k => F' k ∨ k < B) w w' :=
  ⟨h.os, h.tape, h.output, h.size, fun k hk hn => h.block k hk (fun hf => hn (.inl hf)), fun k hk => by
    rcases hk with hk | hk
    · rcases h.more k hk with h1 | h1
      · exact .inl (.inl h1)
      · exact .inr h1
    · exact .inl (.inr hk)⟩
theorem ClIn.nil (F : Nat → Prop) (w : World) : ClIn F w (.slice none 0 0) [] := ⟨none, 0, rfl, fun k x hk => by simp at hk⟩
/-- A clause that was made just now. -/
theorem ClIn.new {F : Nat → Prop} {w : World} (hF : ∀ k, F k → k < w.heap.size) (l : List Int) (t : TypeId) (n : Nat) (hn : n = l.length) : ClIn F (w.alloc (.cells (rowI l) t)) (.slice (some ⟨w.heap.size, 0, none⟩) n n) l := by
  subst hn
  refine ⟨_, _, rfl, fun k x hk => ⟨_, _, rfl, fun hf => ?_, ?_⟩⟩
  · have := hF _ hf; omega
  · rw [cell_of_row _ _ _ _ t (0, 0) (heap_alloc_new w _)]
    rw [Nat.zero_add]; exact rowI_get hk
/-- A FORMULA IN BLOCK B: how many variables, its clauses. -/
def FmAt (B : Nat) (n : Int) (cs : List (List Int)) (F : Nat → Prop) (w : World) : Prop :=
  F B ∧ (∀ k, F k → k < w.heap.size) ∧ ∃ t sv vs, w.heap[B]? = some (.cells #[.int .i64 n, sv] t (0, 0)) ∧
    w.ownsRow 0 80 1 sv cs.length vs ∧ (∀ k, sv.ownBlock = some k → F k ∧ k ≠ B) ∧ vs.length = cs.length ∧
    ∀ (k : Nat) l, cs[k]? = some l → ∃ v, vs[k]? = some v ∧ ClIn (fun k => F k ∨ k < B) w v l
theorem FmAt.below {B : Nat} {n : Int} {cs : List (List Int)} {F : Nat → Prop} {w w' : World} (h : FmAt B n cs F w) (hb : Below w.heap.size w w') : FmAt B n cs F w' := by
  obtain ⟨h1, h2, t, sv, vs, h3, h4, h5, h6, h7⟩ := h
  refine ⟨h1, fun k hk => Nat.lt_of_lt_of_le (h2 k hk) hb.size, t, sv, vs, row_keep hb h3, owns_keep h4 (fun k hk => hb.block k (h2 k (h5 k hk).1)), h5, h6, fun k l hk => ?_⟩
  obtain ⟨v, hv, hc⟩ := h7 k l hk
  exact ⟨v, hv, hc.move (Mvd.of_below hb)⟩
theorem FmAt.grown {B : Nat} {n : Int} {cs : List (List Int)} {F : Nat → Prop} {w w2 w3 : World} {t : TypeId} {sv v : Value} {vs : List Value} {l : List Int} {g cap : Nat} (hFB : F B) (hF : ∀ k, F k → k < w.heap.size) (h3 : w.heap[B]? = some (.cells #[.int .i64 n, sv] t (0, 0)))
    (h5 : ∀ k, sv.ownBlock = some k → F k ∧ k ≠ B) (h6 : vs.length = cs.length) (h7 : ∀ (k : Nat) l, cs[k]? = some l → ∃ v, vs[k]? = some v ∧ ClIn (fun k => F k ∨ k < B) w v l) (hv : ClIn (fun k => F k ∨ k < B) w v l) (hb2 : Below w.heap.size w w2) (hgrow : w2.grownBy w3 sv.ownBlock) (hat : sv.ownBlock = some g ∨ g = w2.heap.size) (hlt : g < w3.heap.size)
    (hown : w3.ownsRow 0 80 1 (.slice (some ⟨g, 0, none⟩) (cs.length + 1) cap) (cs.length + 1) (vs ++ [v])) :
    FmAt B n (cs ++ [l]) (With F w w3) (w3.setCell ⟨B, 1, none⟩ (.slice (some ⟨g, 0, none⟩) (cs.length + 1) cap)) ∧ Mvd F (With F w w3) w (w3.setCell ⟨B, 1, none⟩ (.slice (some ⟨g, 0, none⟩) (cs.length + 1) cap)) ∧ w3.heap[B]? = some (.cells #[.int .i64 n, sv] t (0, 0)) := by
  have hs : w.heap.size ≤ w3.heap.size := Nat.le_trans hb2.size hgrow.size
  have hk : ∀ k, k < w.heap.size → sv.ownBlock ≠ some k → w3.heap[k]? = w.heap[k]? := fun k hk hne => by
    rw [hgrow.block k (by have := hb2.size; omega) (fun e => hne e.symm), hb2.block k hk]
  have hgB : g ≠ B := by
    rcases hat with hat | hat
    · exact (h5 g hat).2
    · have := hF B hFB; have := hb2.size; omega
  have h33 : w3.heap[B]? = some (.cells #[.int .i64 n, sv] t (0, 0)) := by
    rw [hk B (hF B hFB) (fun e => (h5 B e).2 rfl)]; exact h3
  have hM : Mvd F (With F w w3) w (w3.setCell ⟨B, 1, none⟩ (.slice (some ⟨g, 0, none⟩) (cs.length + 1) cap)) := by
    refine ⟨?_, ?_, ?_, ?_, fun k hk' hn => ?_, fun k hk => ?_⟩
    · exact hgrow.os.trans hb2.os
    · exact hgrow.tape.trans hb2.tape
    · exact hgrow.output.trans hb2.output
    · rw [size_setCell]; exact hs
    · rw [Below.heap_setCell _ _ _ _ (fun e => hn (by rw [show k = B from e]; exact hFB)), hk k hk' (fun e => hn (h5 k e).1)]
    · rw [size_setCell]; exact hk
  refine ⟨⟨.inl hFB, fun k hk => ?_, t, _, vs ++ [v], heap_setCell_at h33 _, ?_, fun k hk => ?_, by simp [h6], fun k l' hk => ?_⟩, hM, h33⟩
  · rw [size_setCell]
    rcases hk with hk | hk
    · have := hF k hk; omega
    · exact hk.2
  · have e : (cs ++ [l]).length = cs.length + 1 := by simp
    rw [e]
    exact owns_keep hown (fun k hk => by
      have : k = g := by simpa [Value.ownBlock] using hk.symm
      subst this
      exact Below.heap_setCell _ _ _ _ hgB)
  · have : k = g := by simpa [Value.ownBlock] using hk.symm
    subst this
    refine ⟨?_, hgB⟩
    rcases hat with hat | hat
    · exact .inl (h5 k hat).1
    · exact .inr ⟨by have := hb2.size; omega, hlt⟩
  · rcases Nat.lt_or_ge k cs.length with h | h
    · rw [List.getElem?_append_left h] at hk
      obtain ⟨u, hu, hc⟩ := h7 k l' hk
      exact ⟨u, by rw [List.getElem?_append_left (by omega)]; exact hu, hc.move (hM.or B)⟩
    · have hkl : k = cs.length := by
        have := (List.getElem?_eq_some_iff.1 hk).1
        simp at this; omega
      subst hkl
      rw [List.getElem?_append_right (Nat.le_refl _), Nat.sub_self] at hk
      have : l = l' := by simpa using hk
      subst this
      exact ⟨v, by rw [List.getElem?_append_right (by omega), h6, Nat.sub_self]; rfl, hv.move (hM.or B)⟩
theorem Tryd.infoClause : (Tryd.prog.info? 80).map (fun i => (i.zero, i.size, i.bytes)) = some (some (.slice none 0 0), 1, 24) := by kernel_rfl
set_option maxRecDepth 100000 in
set_option maxHeartbeats 1000000 in
theorem say_any {B : Nat} {n : Int} {cs : List (List Int)} {F : Nat → Prop} {w : World} (h : FmAt B n cs F w) (hl : cs.length ≤ 100000) (v : Value) (l : List Int) (hv : ClIn (fun k => F k ∨ k < B) w v l) :
    Calls Tryd.prog 29 #[v, .pointer (some ⟨B, 0, none⟩)] w fun e w' => e = .returned (.tuple #[]) ∧ ∃ F', FmAt B n (cs ++ [l]) F' w' ∧ Mvd F F' w w' := by
  obtain ⟨h1, h2, t, sv, vs, h3, h4, h5, h6, h7⟩ := h
  obtain ⟨o, c, rfl, hnm⟩ := owns_form h4
  obtain ⟨i0, hi0, hz0, hz1, hz2⟩ := info_parts Tryd.infoClause
  have HV : Hid (ClIn (fun k => F k ∨ k < B) w v l) := hv
  obtain ⟨vo, vc, rfl, _⟩ := hv
  have c0 : w.cell? ⟨B, 0 + 1, none⟩ = some (.slice o cs.length c) := by rw [cell_of_row w B (0 + 1) _ t (0, 0) h3]; rfl
  have hM : B < w.heap.size := h2 B h1
  have HB : Hid ((cs.length + 1) * 24 ≤ 140737488355328) := by unfold Hid; omega
  have HM : Hid (cs.length + 1 ≤ maxLen) := by unfold Hid maxLen; omega
  have HO : Hid (∀ o', (w.alloc o').ownsRow 0 80 1 (.slice o cs.length c) cs.length vs) := fun o' => h4.alloc o'
  have HN' : Hid _ := World.news_of_block (heap_alloc_new w (.cells #[.slice vo l.length vc] 80))
  have H1 : Hid (F B) := h1
  have H2 : Hid (∀ k, F k → k < w.heap.size) := h2
  have H3 : Hid (w.heap[B]? = _) := h3
  have H5 : Hid (∀ k, _) := h5
  have H6 : Hid (vs.length = cs.length) := h6
  have H7 : Hid (∀ (k : Nat) l, cs[k]? = some l → ∃ v, vs[k]? = some v ∧ ClIn (fun k => F k ∨ k < B) w v l) := h7
  have HR : Hid ((Value.slice o cs.length c).ownBlock ≠ some B) := fun hk => (h5 B hk).2 rfl
  clear h1 h2 h3 h4 h5 h6 h7 hl hnm
  go_enter Tryd.func29, Tryd.ntmps29
  go_wp2_with (first
    | (at_builtin; refine wpList_append_lies _ rfl _ _ 32 rfl 0 80 i0 _ 1 24 Tryd.underlying32 hi0 hz0 hz1 hz2 rfl (by omega) (.slice o cs.length c) cs.length vs rfl (HO.out _) ⟨w.heap.size, 0, none⟩ 1 1 [.slice vo l.length vc] rfl rfl HN'.out (by simp [Value.oneCell']) (by omega) HM.out HB.out (Nat.zero_le _) _ rfl ?_; intro g cap w3 hown3 hgrow hat hlt3; have HG3 : Hid (w3.heap[B]? = _) := heap_grown hgrow HR.out (alloc_row _ H3.out); have d1 := cell_of_row w3 B (0 + 1) _ _ (0, 0) HG3.out; have f1 := frozen_row (i := 0 + 1) HG3.out)
    | go_in)
  go_end0
  obtain ⟨m1, m2, _⟩ := FmAt.grown H1.out H2.out H3.out H5.out H6.out H7.out HV.out ((Below.refl _ _).alloc (Nat.le_refl _) _) hgrow hat hlt3 hown3
  exact ⟨rfl, _, m1, m2⟩

set_option maxRecDepth 100000 in
theorem turned_any (n x : Int) (w : World) (h0 : 0 ≤ x) (h1 : x ≤ 1000000) (hn : 0 ≤ n ∧ n ≤ 1000000) :
    Calls Tryd.prog 31 #[.int .i64 n, .int .i64 x] w fun e w' => e = .returned (.int .i64 (if x % 2 = 1 then -n else n)) ∧ w' = w := by
  have hl := bits_low h0 (by omega)
  have n1 : wrap64 (-n) = -n := by unfold wrap64; omega
  by_cases hm : x % 2 = 1
  · rw [if_pos hm]
    have d : (x % 2 == 1) = true := by simp [hm]
    clear h0 h1 hn hm
    go_enter Tryd.func31, Tryd.ntmps31
    go_wp2
    go_ret
    exact ⟨by rw [n1]; rfl, rfl⟩
  · rw [if_neg hm]
    have d : (x % 2 == 1) = false := by simp [hm]
    clear h0 h1 hn hm
    go_enter Tryd.func31, Tryd.ntmps31
    go_wp2
    go_ret
    exact ⟨rfl, rfl⟩
set_option maxRecDepth 100000 in
theorem variable_any (w : World) (U C N : Nat) (l : List Bool) (t u : TypeId) (hU : w.heap[U]? = some (.cells (rowI (numL l N)) t (0, 0))) (hC : w.heap[C]? = some (.cells #[.slice (some ⟨U, 0, none⟩) N N] u (0, 0))) (x : Int) (h0 : 0 ≤ x) (h1 : x < 2 * (N : Int)) (hs : N ≤ 100000) :
    Calls Tryd.prog 30 #[.int .i64 x, .pointer (some ⟨C, 0, none⟩)] w fun e w' => e = .returned (.int .i64 (sgnL l x)) ∧ w' = w := by
  obtain ⟨k, hk⟩ : ∃ k : Nat, (x / 2).toNat = k := ⟨_, rfl⟩
  have hkl : k < N := by omega
  have hg := numL_get l hkl
  have hr := numA_range l k
  have c0 : w.cell? ⟨U, k, none⟩ = some (.int .i64 (numA l k)) := by rw [cell_of_row w U _ _ t (0, 0) hU]; exact rowI_get hg
  have c1 : w.cell? ⟨C, 0, none⟩ = some (.slice (some ⟨U, 0, none⟩) N N) := by rw [cell_of_row w C _ _ u (0, 0) hC]; rfl
  have n1 : wrap64 (x.tdiv 2) = (k : Int) := by rw [Int.tdiv_eq_ediv_of_nonneg h0]; unfold wrap64; omega
  have d1 : (0 : Int) ≤ (k : Int) := by omega
  have d2 : (k : Int) < (N : Int) := by omega
  have HT : Hid (Calls Tryd.prog 31 #[.int .i64 (numA l k), .int .i64 x] w fun e w' => e = .returned (.int .i64 (if x % 2 = 1 then - numA l k else numA l k)) ∧ w' = w) := turned_any _ _ w h0 (by omega) ⟨hr.1, by omega⟩
  have E : sgnL l x = if x % 2 = 1 then - numA l k else numA l k := by unfold sgnL; rw [hk]
  rw [← E] at HT
  clear E hg hU hC hs hk h0 h1 hr
  go_enter Tryd.func30, Tryd.ntmps30
  go_wp2_with (go_at_call 31; refine HT.out.mono ?_; rintro e w' ⟨rfl, hw⟩; have hw2 := hw.symm; subst hw2)
  go_ret
  exact ⟨rfl, rfl⟩
end Go.Proofs.YtlclbidjdhlklaaDoor
