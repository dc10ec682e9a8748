/-
  package types: Result BY CONTRACT: the type of what an operator makes of parts of such types, or an error.
-/
import Derived.Test.YtmmfodiagcnjeaaDoorSgD
import Derived.Laws.EntriesVeiled
import Derived.Deep.DeepCutAuto
namespace Go.Proofs.YtmmfodiagcnjeaaDoor
open Go.RowKit Go.Maps

/-- No type of the language. -/
def noKind (k : Int) : Bool := k != 1 && k != 2
set_option maxRecDepth 100000 in
theorem result1_any (k : Int) (w : World) : Calls Tryd.prog 70 #[.int .i64 k] w fun e w' => e = .returned (.bool (noKind k)) ∧ w' = w := by
  by_cases h1 : k = 1
  · subst h1
    go_enter Tryd.func70, Tryd.ntmps70
    go_wp2
    go_ret
    exact ⟨rfl, rfl⟩
  · have d1 : (k == 1) = false := beq_eq_false_iff_ne.2 h1
    have d1' : (k != 1) = true := by simp [h1]
    have E : Hid (noKind k = (k != 2)) := by unfold Hid noKind; rw [d1']; rfl
    clear h1
    go_enter Tryd.func70, Tryd.ntmps70
    go_wp2
    go_ret
    exact ⟨by rw [E.out]; rfl, rfl⟩
set_option maxRecDepth 100000 in
set_option maxHeartbeats 1000000 in
theorem index_any (w : World) (o : Option Addr) (n c : Nat) (ps : List Int) (hp : IntsAt w (.slice o n c) ps) (hn : n = ps.length) (hl : n ≤ 100) :
    Calls Tryd.prog 112 #[.slice o n c, .func (.func 70) #[] #[]] w fun e w' => (∃ i : Int, e = .returned (.int .i64 i) ∧ (decide (0 ≤ i) = ps.any noKind)) ∧ w' = w := by
  have HP : Hid (IntsAt w (.slice o n c) ps) := hp
  have HN : Hid (n = ps.length) := hn
  have HL : Hid (n ≤ 100) := hl
  clear hp hn hl
  go_enter Tryd.func112, Tryd.ntmps112
  go_wp2
  go_loop [8] (fun t => ∃ j : Nat, j ≤ n ∧ t = .int .i64 j ∧ ∀ k x, k < j → ps[k]? = some x → noKind x = false) (fun t => n - (intOf t).toNat)
  case atStart => exact ⟨0, Nat.zero_le _, rfl, fun k x hk => by omega⟩
  case round =>
    obtain ⟨j, hj, rfl, hall⟩ := hrel
    have HALL : Hid (∀ k x, k < j → ps[k]? = some x → noKind x = false) := hall
    by_cases hjl : j < n
    · obtain ⟨x, hx⟩ : ∃ x, ps[j]? = some x := ⟨_, List.getElem?_eq_getElem (by have := HN.out; omega)⟩
      obtain ⟨b, off, rfl, hcx⟩ := HP.out.get hx
      have i0' : (0 : Int) ≤ (j : Int) := by omega
      have i1' : (j : Int) < (n : Int) := by omega
      have N4 : Hid (wrap64 ((j : Int) + 1) = (j : Int) + 1) := by have := HL.out; unfold Hid wrap64; omega
      have HJ : Hid (j < n) := hjl
      have HX : Hid (ps[j]? = some x) := hx
      clear hall hj hjl hx
      cases hb : noKind x
      · go_wp2_with (go_at_call 70; refine (result1_any _ _).mono ?_; rw [hb]; rintro e w' ⟨rfl, hw⟩; have hw2 := hw.symm; subst hw2)
        refine ⟨⟨j + 1, HJ.out, by rw [N4.out]; rfl, fun k y hk hy => ?_⟩, by rw [N4.out]; have := HJ.out; simp [intOf]; omega⟩
        rcases Nat.lt_or_ge k j with h1 | h1
        · exact HALL.out k y h1 hy
        · obtain rfl : k = j := by omega
          rw [HX.out] at hy
          cases hy
          exact hb
      · go_wp2_with (go_at_call 70; refine (result1_any _ _).mono ?_; rw [hb]; rintro e w' ⟨rfl, hw⟩; have hw2 := hw.symm; subst hw2)
        go_ret
        refine ⟨⟨_, rfl, ?_⟩, rfl⟩
        have : ps.any noKind = true := List.any_eq_true.2 ⟨x, List.mem_of_getElem? HX.out, hb⟩
        rw [this]; simp
    · obtain rfl : j = n := by omega
      clear hall hj hjl
      go_wp2
      go_ret
      refine ⟨⟨_, rfl, ?_⟩, rfl⟩
      have : ps.any noKind = false := by
        rw [List.any_eq_false]
        intro x hx
        obtain ⟨k, hk, rfl⟩ := List.getElem_of_mem hx
        rw [HALL.out k _ (by have := HN.out; omega) (List.getElem?_eq_getElem hk)]
        simp
      rw [this]; simp
set_option maxRecDepth 100000 in
theorem contains_any (w : World) (o : Option Addr) (n c : Nat) (ps : List Int) (hp : IntsAt w (.slice o n c) ps) (hn : n = ps.length) (hl : n ≤ 100) :
    Calls Tryd.prog 69 #[.slice o n c, .func (.func 70) #[] #[]] w fun e w' => e = .returned (.bool (ps.any noKind)) ∧ w' = w := by
  have HC : Hid (∀ w', IntsAt w' (.slice o n c) ps → Calls Tryd.prog 112 #[.slice o n c, .func (.func 70) #[] #[]] w' fun e w'' => (∃ i : Int, e = .returned (.int .i64 i) ∧ (decide (0 ≤ i) = ps.any noKind)) ∧ w'' = w') := fun w' h => index_any w' o n c ps h hn hl
  have HP : Hid (IntsAt w (.slice o n c) ps) := hp
  clear hp hn hl
  go_enter Tryd.func69, Tryd.ntmps69
  go_wp2_with (go_at_call 112; refine (HC.out _ HP.out).mono ?_; rintro e w' ⟨⟨i, rfl, hi⟩, rfl⟩)
  go_ret
  exact ⟨by rw [← hi]; rfl, rfl⟩
set_option maxRecDepth 100000 in
set_option maxHeartbeats 1000000 in
theorem result2_any (w : World) (b0 b1 b2 : Nat) (o1 o2 op : Option Addr) (c1 c2 cp : Nat) (tk gv ps : List Int) (k0 : Value) (q0 : w.heap[b0]? = some (.cells #[.slice o1 tk.length c1, .slice o2 gv.length c2] 118 (0, 0))) (q1 : w.heap[b1]? = some (.cells #[.slice op tk.length cp] 22 (0, 0))) (q2 : w.heap[b2]? = some (.cells #[k0] 3 (0, 0)))
    (h1 : IntsAt w (.slice o1 tk.length c1) tk) (h2 : IntsAt w (.slice o2 gv.length c2) gv) (hp : IntsAt w (.slice op tk.length cp) ps) (hlen : ps.length = tk.length) (hs1 : tk.length ≤ 10) (hs2 : gv.length = 1) :
    Calls Tryd.prog 72 #[.pointer (some ⟨b0, 0, none⟩), .pointer (some ⟨b1, 0, none⟩), .pointer (some ⟨b2, 0, none⟩)] w fun e w' => (∃ f w1, fitK tk ps 0 = some f ∧ e = .returned (.tuple #[]) ∧ Below w.heap.size w w1 ∧ w' = w1.setCell ⟨b2, 0, none⟩ (.int .i64 ((giveK gv f).headD 0))) ∨ (fitK tk ps 0 = none ∧ ThrewT e ∧ Below w.heap.size w w') := by
  have z0 : w.cell? ⟨b0, 0, none⟩ = some (.slice o1 tk.length c1) := by rw [cell_of_row w _ 0 _ _ (0, 0) q0]; rfl
  have z1 : w.cell? ⟨b0, 0 + 1, none⟩ = some (.slice o2 gv.length c2) := by rw [cell_of_row w _ (0 + 1) _ _ (0, 0) q0]; rfl
  have z2 : w.cell? ⟨b1, 0, none⟩ = some (.slice op tk.length cp) := by rw [cell_of_row w _ 0 _ _ (0, 0) q1]; rfl
  have Q2 : Hid (w.heap[b2]? = some (.cells #[k0] 3 (0, 0))) := q2
  have HA : Hid (Calls Tryd.prog 73 #[.agg #[.slice o1 tk.length c1, .slice o2 gv.length c2], .slice op tk.length cp] w fun e w' => Below w.heap.size w w' ∧ ((∃ f V, fitK tk ps 0 = some f ∧ e = .returned (.slice (some ⟨V, 0, none⟩) gv.length gv.length) ∧ w'.heap[V]? = some (.cells (rowI (giveK gv f)) 3 (0, 0))) ∨ (fitK tk ps 0 = none ∧ ThrewT e))) := apply_any w o1 o2 op c1 c2 cp tk gv ps h1 h2 hp hlen hs1 (by omega)
  have HS2 : Hid (gv.length = 1) := hs2
  clear q0 q1 q2 h1 h2 hp hlen hs1 hs2
  go_enter Tryd.func72, Tryd.ntmps72
  go_wp2_with fail
  refine HA.out.mono ?_
  rintro e w1 ⟨hb1, ⟨f, V, hf, rfl, hV⟩ | ⟨hf, ht⟩⟩
  · have e1 : giveK gv f = [(giveK gv f).headD 0] := by
      have : (giveK gv f).length = 1 := by unfold giveK; simp [HS2.out]
      match hg : giveK gv f, this with
      | [x], _ => rfl
    have v0 : w1.cell? ⟨V, 0, none⟩ = some (.int .i64 ((giveK gv f).headD 0)) := by
      rw [cell_of_row w1 V 0 _ _ (0, 0) hV]
      refine rowI_get ?_
      rw [e1]; rfl
    have hr2 := row_keep hb1 Q2.out
    have v1 : w1.cell? ⟨b2, 0, none⟩ = some k0 := by rw [cell_of_row w1 b2 0 _ _ (0, 0) hr2]; rfl
    have v2 : w1.frozen? ⟨b2, 0, none⟩ = false := frozen_row hr2
    have HB1 : Hid (Below w.heap.size w w1) := hb1
    have HF : Hid (fitK tk ps 0 = some f) := hf
    obtain ⟨g, hg⟩ : ∃ g, g = (giveK gv f).headD 0 := ⟨_, rfl⟩
    rw [← hg] at v0
    have HG : Hid (g = (giveK gv f).headD 0) := hg
    have hlen1 : gv.length = 1 := HS2.out
    rw [hlen1]
    clear hb1 hf hV e1 hr2 hg hlen1
    go_wp2
    go_end0
    exact Or.inl ⟨f, w1, HF.out, rfl, HB1.out, by rw [HG.out]⟩
  · unfold ThrewT at ht
    subst ht
    have HB1 : Hid (Below w.heap.size w w1) := hb1
    have HF : Hid (fitK tk ps 0 = none) := hf
    clear hb1 hf
    go_wp2
    exact ⟨rfl, Or.inr ⟨HF.out, rfl, HB1.out⟩⟩
end Go.Proofs.YtmmfodiagcnjeaaDoor
