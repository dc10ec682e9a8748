/-
  THE DOCUMENT's MODEL OF A GRAPH IN MEMORY; its Has, Turn, Input BY CONTRACT.
-/
import Derived.Test.YtlclbidjdhlklaaDoorGrG
import Derived.OwnWalk
namespace Go.Proofs.YtlclbidjdhlklaaDoor
open Go.RowKit Go.Maps

def mcells (gs : List (Int × Int)) : List Value := gs.flatMap fun p => [.int .i64 p.1, .int .i64 p.2, .bool (inpB p)]
theorem mcells_app (gs : List (Int × Int)) (p : Int × Int) : mcells (gs ++ [p]) = mcells gs ++ [.int .i64 p.1, .int .i64 p.2, .bool (inpB p)] := by simp [mcells]
theorem mcells_at : ∀ (gs : List (Int × Int)) (i : Nat) (p : Int × Int), gs[i]? = some p → (mcells gs)[3 * i]? = some (.int .i64 p.1) ∧ (mcells gs)[3 * i + 1]? = some (.int .i64 p.2) ∧ (mcells gs)[3 * i + 2]? = some (.bool (inpB p))
  | [], i, p, h => by simp at h
  | q :: r, 0, p, h => by simp at h; subst h; simp [mcells]
  | q :: r, i + 1, p, h => by
    have ih := mcells_at r i p (by simpa using h)
    have e : mcells (q :: r) = .int .i64 q.1 :: .int .i64 q.2 :: .bool (inpB q) :: mcells r := by simp [mcells]
    rw [e, show 3 * (i + 1) = 3 * i + 1 + 1 + 1 by omega, show 3 * i + 1 + 1 + 1 + 1 = (3 * i + 1) + 1 + 1 + 1 by omega, show 3 * i + 1 + 1 + 1 + 2 = (3 * i + 2) + 1 + 1 + 1 by omega]
    simpa using ih
/-- THE MODEL IN BLOCK M. -/
def MoAt (M : Nat) (gs : List (Int × Int)) (ins : Nat) (F : Nat → Prop) (w : World) : Prop :=
  F M ∧ (∀ k, F k → k < w.heap.size) ∧ ∃ t sv, w.heap[M]? = some (.cells #[sv, .int .i64 ins] t (0, 0)) ∧
    w.ownsRow 0 78 3 sv gs.length (mcells gs) ∧ (∀ k, sv.ownBlock = some k → F k ∧ k ≠ M)
theorem MoAt.keep {M : Nat} {gs : List (Int × Int)} {ins : Nat} {F F' : Nat → Prop} {w w' : World} (h : MoAt M gs ins F w) (hk : ∀ k, F k → w'.heap[k]? = w.heap[k]?) (hF : ∀ k, F k → F' k) (hF' : ∀ k, F' k → k < w'.heap.size) : MoAt M gs ins F' w' := by
  obtain ⟨h2, _, t, sv, h3, h4, h5⟩ := h
  exact ⟨hF M h2, hF', t, sv, by rw [hk M h2]; exact h3, owns_keep h4 (fun k hk' => hk k (h5 k hk').1), fun k hk' => ⟨hF k (h5 k hk').1, (h5 k hk').2⟩⟩
theorem MoAt.below {M : Nat} {gs : List (Int × Int)} {ins : Nat} {F : Nat → Prop} {w w' : World} (h : MoAt M gs ins F w) (hb : Below w.heap.size w w') : MoAt M gs ins F w' :=
  h.keep (fun k hk => hb.block k (h.2.1 k hk)) (fun _ hk => hk) (fun k hk => Nat.lt_of_lt_of_le (h.2.1 k hk) hb.size)
theorem MoAt.other {M : Nat} {gs : List (Int × Int)} {ins : Nat} {E F F' : Nat → Prop} {w w' : World} (h : MoAt M gs ins E w) (hm : Mvd F F' w w') (hd : ∀ k, E k → ¬ F k) : MoAt M gs ins E w' :=
  h.keep (fun k hk => hm.block k (h.2.1 k hk) (hd k hk)) (fun _ hk => hk) (fun k hk => Nat.lt_of_lt_of_le (h.2.1 k hk) hm.size)
theorem MoAt.cells {M : Nat} {gs : List (Int × Int)} {ins : Nat} {F : Nat → Prop} {w : World} (h : MoAt M gs ins F w) : ∃ t o c, w.heap[M]? = some (.cells #[.slice o gs.length c, .int .i64 ins] t (0, 0)) ∧
    w.cell? ⟨M, 0, none⟩ = some (.slice o gs.length c) ∧ w.cell? ⟨M, 0 + 1, none⟩ = some (.int .i64 ins) ∧
    w.ownsRow 0 78 3 (.slice o gs.length c) gs.length (mcells gs) ∧ (∀ k, (Value.slice o gs.length c).ownBlock = some k → F k ∧ k ≠ M) := by
  obtain ⟨_, _, t, sv, h3, h4, h5⟩ := h
  obtain ⟨o, c, rfl, _⟩ := owns_form h4
  exact ⟨t, o, c, h3, by rw [cell_of_row w M 0 _ t (0, 0) h3]; rfl, by rw [cell_of_row w M (0 + 1) _ t (0, 0) h3]; rfl, h4, h5⟩
theorem gate_cells {w : World} {v : Value} {gs : List (Int × Int)} (h : w.ownsRow 0 78 3 v gs.length (mcells gs)) {i : Nat} {p : Int × Int} (hi : gs[i]? = some p) : ∃ g c, v = .slice (some ⟨g, 0, none⟩) gs.length c ∧ w.cell? ⟨g, i * 3, none⟩ = some (.int .i64 p.1) ∧ w.cell? ⟨g, i * 3 + 1, none⟩ = some (.int .i64 p.2) ∧ w.cell? ⟨g, i * 3 + 2, none⟩ = some (.bool (inpB p)) := by
  have hlt : i < gs.length := (List.getElem?_eq_some_iff.1 hi).1
  obtain ⟨g, cap, rfl, _, hg⟩ := h.form (by omega)
  have hc := h.cells (g := g) rfl
  have hadd : ∀ j, (⟨g, 0, none⟩ : Addr).add j = ⟨g, j, none⟩ := fun j => by unfold Addr.add; split <;> simp_all
  have e := mcells_at gs i p hi
  refine ⟨g, cap, rfl, ?_, ?_, ?_⟩
  · have := hc _ _ e.1
    rw [hadd] at this
    rw [show i * 3 = 3 * i by omega]; exact this
  · have := hc _ _ e.2.1
    rw [hadd] at this
    rw [show i * 3 + 1 = 3 * i + 1 by omega]; exact this
  · have := hc _ _ e.2.2
    rw [hadd] at this
    rw [show i * 3 + 2 = 3 * i + 2 by omega]; exact this

set_option maxRecDepth 100000 in
theorem mhas_any {M : Nat} {gs : List (Int × Int)} {ins : Nat} {F : Nat → Prop} {w : World} (h : MoAt M gs ins F w) (hl : gs.length ≤ 100000) (a : Int) :
    Calls Tryd.prog 6 #[.pointer (some ⟨M, 0, none⟩), .int .i64 a] w fun e w' => e = .returned (.bool (hasB gs a)) ∧ w' = w := by
  obtain ⟨t, o, c, h3, c0, c1, h4, h5⟩ := h.cells
  have n3 : wrap64 (2 * (gs.length : Int) + 2) = 2 * (gs.length : Int) + 2 := by unfold wrap64; omega
  have n4 : wrap64 (2 * (gs.length : Int)) = 2 * (gs.length : Int) := by unfold wrap64; omega
  have HD : Hid (∀ b, (0 ≤ a ∧ a < 2 * (gs.length : Int) + 2 ↔ b = true) → b = hasB gs a) := fun b hb => by
    rw [Bool.eq_iff_iff, ← hb, hasB_iff]
    unfold HasL
    omega
  clear h h3 h4 h5 hl c1
  by_cases h0 : 0 ≤ a
  · by_cases h1 : a < 2 * (gs.length : Int) + 2
    · have HE := HD.out true (by simp [h0, h1])
      rw [← HE]
      clear HE HD
      go_enter Tryd.func6, Tryd.ntmps6
      go_wp2
      go_ret
      exact ⟨rfl, rfl⟩
    · have HE := HD.out false (by simp [h1])
      rw [← HE]
      clear HE HD
      go_enter Tryd.func6, Tryd.ntmps6
      go_wp2
      go_ret
      exact ⟨rfl, rfl⟩
  · have HE := HD.out false (by simp [h0])
    rw [← HE]
    clear HE HD
    go_enter Tryd.func6, Tryd.ntmps6
    go_wp2
    go_ret
    exact ⟨rfl, rfl⟩
theorem tmod_two {a : Int} (h : 0 ≤ a) : a.tmod 2 = a % 2 := Int.tmod_eq_emod_of_nonneg h
theorem turn_any (a : Int) (w : World) (h0 : 0 ≤ a) (h1 : a ≤ 9000000000000000000) : Calls Tryd.prog 42 #[.int .i64 a] w fun e w' => e = .returned (.int .i64 (turnL a)) ∧ w' = w := by
  have e := (turnL_eq a).2.2
  rcases e with ⟨e, hm⟩ | ⟨e, hm⟩
  · rw [e]
    have n1 : wrap64 (a + 1) = a + 1 := by unfold wrap64; omega
    have n2 := tmod_two h0
    have N1 : Hid (wrap64 (a + 1) = a + 1) := n1
    clear e h0 h1 n1
    go_enter Tryd.func42, Tryd.ntmps42
    go_wp2
    go_ret
    exact ⟨by rw [N1.out]; rfl, rfl⟩
  · rw [e]
    have n1 : wrap64 (a - 1) = a - 1 := by unfold wrap64; omega
    have n2 := tmod_two h0
    have N1 : Hid (wrap64 (a - 1) = a - 1) := n1
    clear e h0 h1 n1
    go_enter Tryd.func42, Tryd.ntmps42
    go_wp2
    go_ret
    exact ⟨by rw [N1.out]; rfl, rfl⟩

theorem Tryd.infoGate : (Tryd.prog.info? 78).map (fun i => (i.zero, i.size, i.bytes)) = some (some (.agg #[.int .i64 0, .int .i64 0, .bool false]), 3, 24) := by kernel_rfl
/-- One gate more. -/
theorem MoAt.grown {M : Nat} {gs : List (Int × Int)} {ins : Nat} {F : Nat → Prop} {w w2 w3 : World} {p : Int × Int} {t : TypeId} {sv : Value} {g cap : Nat} (h : MoAt M gs ins F w) (h3 : w.heap[M]? = some (.cells #[sv, .int .i64 ins] t (0, 0)))
    (h5 : ∀ k, sv.ownBlock = some k → F k ∧ k ≠ M) (hb2 : Below w.heap.size w w2) (hgrow : w2.grownBy w3 sv.ownBlock) (hat : sv.ownBlock = some g ∨ g = w2.heap.size) (hlt : g < w3.heap.size)
    (hown : w3.ownsRow 0 78 3 (.slice (some ⟨g, 0, none⟩) (gs.length + 1) cap) (gs.length + 1) (mcells gs ++ [.int .i64 p.1, .int .i64 p.2, .bool (inpB p)])) :
    MoAt M (gs ++ [p]) ins (With F w w3) (w3.setCell ⟨M, 0, none⟩ (.slice (some ⟨g, 0, none⟩) (gs.length + 1) cap)) ∧ Mvd F (With F w w3) w (w3.setCell ⟨M, 0, none⟩ (.slice (some ⟨g, 0, none⟩) (gs.length + 1) cap)) ∧ w3.heap[M]? = some (.cells #[sv, .int .i64 ins] t (0, 0)) := by
  have hF := h.2.1
  have hs : w.heap.size ≤ w3.heap.size := Nat.le_trans hb2.size hgrow.size
  have hk : ∀ k, k < w.heap.size → sv.ownBlock ≠ some k → w3.heap[k]? = w.heap[k]? := fun k hk hne => by
    rw [hgrow.block k (by have := hb2.size; omega) (fun e => hne e.symm), hb2.block k hk]
  have hgG : g ≠ M := by
    rcases hat with hat | hat
    · exact (h5 g hat).2
    · have := hF M h.1; have := hb2.size; omega
  have h33 : w3.heap[M]? = some (.cells #[sv, .int .i64 ins] t (0, 0)) := by
    rw [hk M (hF M h.1) (fun e => (h5 M e).2 rfl)]; exact h3
  refine ⟨⟨.inl h.1, fun k hk => ?_, t, _, heap_setCell_at h33 _, ?_, fun k hk => ?_⟩, ⟨?_, ?_, ?_, ?_, fun k hk' hn => ?_, fun k hk => ?_⟩, h33⟩
  · rw [size_setCell]
    rcases hk with hk | hk
    · have := hF k hk; omega
    · exact hk.2
  · rw [mcells_app]
    have e : (gs ++ [p]).length = gs.length + 1 := by simp
    rw [e]
    exact owns_keep hown (fun k hk => by
      have : k = g := by simpa [Value.ownBlock] using hk.symm
      subst this
      exact Below.heap_setCell _ _ _ _ hgG)
  · have : k = g := by simpa [Value.ownBlock] using hk.symm
    subst this
    refine ⟨?_, hgG⟩
    rcases hat with hat | hat
    · exact .inl (h5 k hat).1
    · exact .inr ⟨by have := hb2.size; omega, hlt⟩
  · exact hgrow.os.trans hb2.os
  · exact hgrow.tape.trans hb2.tape
  · exact hgrow.output.trans hb2.output
  · rw [size_setCell]; exact hs
  · rw [Below.heap_setCell _ _ _ _ (fun e => hn (by rw [show k = M from e]; exact h.1)), hk k hk' (fun e => hn (h5 k e).1)]
  · rw [size_setCell]; exact hk
theorem MoAt.setIns {M : Nat} {gs : List (Int × Int)} {ins : Nat} {F : Nat → Prop} {w : World} (h : MoAt M gs ins F w) (n : Nat) : MoAt M gs n F (w.setCell ⟨M, 1, none⟩ (.int .i64 n)) ∧ Mvd F F w (w.setCell ⟨M, 1, none⟩ (.int .i64 n)) := by
  obtain ⟨k1, k2, t, sv, k3, k4, k5⟩ := h
  have hbl : ∀ k, k ≠ M → (w.setCell ⟨M, 1, none⟩ (.int .i64 n)).heap[k]? = w.heap[k]? := fun k hk => Below.heap_setCell _ _ _ _ hk
  exact ⟨⟨k1, fun k hk => by rw [size_setCell]; exact k2 k hk, t, sv, heap_setCell_at k3 _, owns_keep k4 (fun k hk => hbl k (k5 k hk).2), k5⟩, ⟨rfl, rfl, rfl, by rw [size_setCell]; exact Nat.le_refl _, fun k _ hn => hbl k (fun e => hn (by rw [e]; exact k1)), fun k hk => .inl hk⟩⟩

set_option maxRecDepth 100000 in
set_option maxHeartbeats 1000000 in
theorem minput_ok {M : Nat} {gs : List (Int × Int)} {ins : Nat} {F : Nat → Prop} {w : World} (h : MoAt M gs ins F w) (hl : gs.length < 90000) (hi : ins ≤ gs.length) :
    Calls Tryd.prog 14 #[.pointer (some ⟨M, 0, none⟩)] w fun e w' => e = .returned (.int .i64 (2 * (gs.length : Int) + 2)) ∧ ∃ F', MoAt M (gs ++ [(0, 0)]) (ins + 1) F' w' ∧ Mvd F F' w w' := by
  obtain ⟨t, o, c, h3, c0, c1, h4, h5⟩ := h.cells
  obtain ⟨i0, hi0, hz0, hz1, hz2⟩ := info_parts Tryd.infoGate
  have hM : M < w.heap.size := h.2.1 M h.1
  have HB : Hid ((gs.length + 1) * 24 ≤ 140737488355328) := by unfold Hid; omega
  have HM : Hid (gs.length + 1 ≤ maxLen) := by unfold Hid maxLen; omega
  have HO : Hid (∀ o', (w.alloc o').ownsRow 0 78 3 (.slice o gs.length c) gs.length (mcells gs)) := fun o' => h4.alloc o'
  have HN' : Hid _ := World.news_of_block (heap_alloc_new w (.cells #[.int .i64 0, .int .i64 0, .bool true] 78))
  have H0 : Hid (MoAt M gs ins F w) := h
  have H3 : Hid _ := h3
  have H5 : Hid (∀ k, _) := h5
  have HR : Hid ((Value.slice o gs.length c).ownBlock ≠ some M) := fun hk => (h5 M hk).2 rfl
  have HL : Hid (gs.length < 90000) := hl
  have HI : Hid (ins < 90000) := Nat.lt_of_le_of_lt hi hl
  clear h h3 h4 h5 hl hi
  go_enter Tryd.func14, Tryd.ntmps14
  go_wp2_with (first
    | (at_builtin; refine wpList_append_lies _ rfl _ _ 52 rfl 0 78 i0 _ 3 24 Tryd.underlying52 hi0 hz0 hz1 hz2 rfl (by omega) (.slice o gs.length c) gs.length (mcells gs) rfl (HO.out _) ⟨w.heap.size, 0, none⟩ 1 1 [.int .i64 0, .int .i64 0, .bool true] rfl rfl HN'.out (by simp [Value.oneCell']) (by omega) HM.out HB.out (Nat.zero_le _) _ rfl ?_; intro g cap w3 hown3 hgrow hat hlt3; have HG3 : Hid (w3.heap[M]? = _) := heap_grown hgrow HR.out (alloc_row _ H3.out); have d0 := cell_of_row w3 M 0 _ _ (0, 0) HG3.out; have d1 := cell_of_row w3 M (0 + 1) _ _ (0, 0) HG3.out; have f0 := frozen_row (i := 0) HG3.out; have f1 := frozen_row (i := 0 + 1) HG3.out)
    | go_in)
  go_ret
  obtain ⟨m1, m2, _⟩ := MoAt.grown (p := (0, 0)) H0.out H3.out H5.out ((Below.refl _ _).alloc (Nat.le_refl _) _) hgrow hat hlt3 hown3
  obtain ⟨m3, m4⟩ := m1.setIns (ins + 1)
  have hwr : wrap64 (2 * ((gs.length : Int) + 1)) = 2 * (gs.length : Int) + 2 := by have := HL.out; unfold wrap64; omega
  have hwi : wrap64 ((ins : Int) + 1) = ((ins + 1 : Nat) : Int) := by have := HI.out; unfold wrap64; omega
  rw [hwi]
  exact ⟨by rw [← hwr]; rfl, _, m3, m2.trans m4⟩
end Go.Proofs.YtlclbidjdhlklaaDoor
