/-
  flow's OPERATORS not, neg, if; a division by 0.
-/
import Derived.Test.YtgcaohpaopemnaaDoorP06
namespace Go.Proofs.YtgcaohpaopemnaaDoor
open Go.RowKit Go.Maps

set_option maxRecDepth 100000 in
theorem op_not (a : Int) (ha : a = 0 ∨ a = 1) (v : Value) (w : World) (hv : KindsAt w v [a]) :
    Calls Tryd.prog 26 #[v] w fun e w' => e = .returned (.tuple #[.int .i64 (truthI (a == 0)), .bool false]) ∧ Below w.heap.size w w' := by
  obtain ⟨hl, o, c, rfl, hc⟩ := hv
  obtain ⟨b0, off, rfl, x0⟩ := hc 0 a rfl
  clear hc hl
  simp only [Nat.add_zero] at x0
  rcases ha with rfl | rfl
  · go_enter Tryd.func26, Tryd.ntmps26
    go_wp2
    go_ret2
    exact ⟨rfl, Below.refl _ _⟩
  · go_enter Tryd.func26, Tryd.ntmps26
    go_wp2
    go_ret2
    exact ⟨rfl, Below.refl _ _⟩
theorem aroundI_neg (a : Int) : aroundI (-a) = aroundI (256 - a) := by unfold aroundI; omega
set_option maxRecDepth 100000 in
theorem op_neg (a : Int) (ha : Sm a) (v : Value) (w : World) (hv : KindsAt w v [a]) :
    Calls Tryd.prog 27 #[v] w fun e w' => e = .returned (.tuple #[.int .i64 (aroundI (256 - a)), .bool false]) ∧ Below w.heap.size w w' := by
  obtain ⟨hl, o, c, rfl, hc⟩ := hv
  obtain ⟨b0, off, rfl, x0⟩ := hc 0 a rfl
  clear hc hl
  simp only [Nat.add_zero] at x0
  rw [← aroundI_neg]
  have HR : Hid (-100000 < -a ∧ -a < 100000) := by unfold Hid; unfold Sm at ha; omega
  have h1 : wrap64 (-a) = -a := by unfold Sm at ha; unfold wrap64; omega
  clear ha
  go_enter Tryd.func27, Tryd.ntmps27
  go_wp2_with (go_at_call 28; refine (faround_any _ HR.out _).mono ?_; rintro e w' ⟨rfl, hw⟩; have hw2 := hw.symm; subst hw2)
  go_ret2
  exact ⟨rfl, Below.refl _ _⟩
set_option maxRecDepth 100000 in
theorem op_if (a b d : Int) (ha : a = 0 ∨ a = 1) (v : Value) (w : World) (hv : KindsAt w v [a, b, d]) :
    Calls Tryd.prog 29 #[v] w fun e w' => e = .returned (.tuple #[.int .i64 (bif a == 1 then b else d), .bool false]) ∧ Below w.heap.size w w' := by
  obtain ⟨hl, o, c, rfl, hc⟩ := hv
  obtain ⟨b0, off, rfl, x0⟩ := hc 0 a rfl
  obtain ⟨b1, of1, e1, x1⟩ := hc 1 b rfl
  obtain ⟨rfl, rfl⟩ : b0 = b1 ∧ off = of1 := by simpa using e1
  obtain ⟨b1, of1, e2, x2⟩ := hc 2 d rfl
  obtain ⟨rfl, rfl⟩ : b0 = b1 ∧ off = of1 := by simpa using e2
  clear hc hl e1 e2
  simp only [Nat.add_zero] at x0
  rcases ha with rfl | rfl
  · go_enter Tryd.func29, Tryd.ntmps29
    go_wp2
    go_ret2
    exact ⟨rfl, Below.refl _ _⟩
  · go_enter Tryd.func29, Tryd.ntmps29
    go_wp2
    go_ret2
    exact ⟨rfl, Below.refl _ _⟩
set_option maxRecDepth 100000 in
theorem op_div0 (p : Nat) (a : Int) (v : Value) (w : World) (hv : KindsAt w v [a, 0]) :
    Calls Tryd.prog 33 #[v, .pointer (some ⟨p, 0, none⟩)] w fun e w' => e = .returned (.tuple #[.int .i64 0, .bool true]) ∧ Below w.heap.size w w' := by
  obtain ⟨hl, o, c, rfl, hc⟩ := hv
  obtain ⟨b0, off, rfl, x0⟩ := hc 0 a rfl
  obtain ⟨b1, of1, e1, x1⟩ := hc 1 0 rfl
  obtain ⟨rfl, rfl⟩ : b0 = b1 ∧ off = of1 := by simpa using e1
  clear hc hl e1
  simp only [Nat.add_zero] at x0
  go_enter Tryd.func33, Tryd.ntmps33
  go_wp2
  go_ret2
  exact ⟨rfl, Below.refl _ _⟩
end Go.Proofs.YtgcaohpaopemnaaDoor

/-
  flow.isInt, flow.isNone BY CONTRACT.
-/
namespace Go.Proofs.YtgcaohpaopemnaaDoor
open Go.RowKit Go.Maps

set_option maxRecDepth 100000 in
theorem faround_all (n : Int) (w : World) : Calls Tryd.prog 28 #[.int .i64 n] w fun e w' => e = .returned (.int .i64 (aroundI n)) ∧ w' = w := by
  obtain ⟨m, hm⟩ : ∃ m, m = wrap64 (n + 128) := ⟨_, rfl⟩
  have hb := bits_low8 m
  have h1 : wrap64 (n + 128) = m := hm.symm
  have E : Hid (m % 256 = (n + 128) % 256) := by unfold Hid; unfold wrap64 at hm; omega
  have h2 : wrap64 (m % 256 - 128) = m % 256 - 128 := by unfold wrap64; omega
  clear hm
  go_enter Tryd.func28, Tryd.ntmps28
  go_wp2
  go_ret
  refine ⟨?_, rfl⟩
  show Ending.returned (Value.int .i64 (m % 256 - 128)) = _
  rw [E.out]
  rfl
theorem aroundI_self (n : Int) : (n == aroundI n) = (decide (-129 < n) && decide (n < 128)) := by
  rw [Bool.eq_iff_iff]
  simp only [beq_iff_eq, Bool.and_eq_true, decide_eq_true_eq]
  unfold aroundI
  omega
set_option maxRecDepth 100000 in
theorem fisInt_any (n : Int) (w : World) : Calls Tryd.prog 44 #[.int .i64 n] w fun e w' => e = .returned (.bool (n == aroundI n)) ∧ Below w.heap.size w w' := by
  go_enter Tryd.func44, Tryd.ntmps44
  go_wp2_with (go_at_call 28; refine (faround_all _ _).mono ?_; rintro e w' ⟨rfl, hw⟩; have hw2 := hw.symm; subst hw2)
  go_ret
  exact ⟨rfl, by first | exact Below.refl _ _ | exact Below.drew (Below.refl _ _)⟩
set_option maxRecDepth 100000 in
theorem isNone_any (k n : Int) (w : World) : Calls Tryd.prog 14 #[.agg #[.int .i64 k, .int .i64 n]] w fun e w' => e = .returned (.bool (!rightB k n k)) ∧ Below w.heap.size w w' := by
  by_cases h1 : k = 1
  · subst h1
    by_cases h2 : n = 0
    · subst h2
      go_enter Tryd.func14, Tryd.ntmps14
      go_wp2
      go_ret
      refine ⟨by first | rfl | decide, ?_⟩
      go_grown
    · have d2 : (n == 0) = false := beq_eq_false_iff_ne.2 h2
      have d3 : (n != 0) = true := by simp [h2]
      by_cases h3 : n = 1
      · subst h3
        go_enter Tryd.func14, Tryd.ntmps14
        go_wp2
        go_ret
        refine ⟨by first | rfl | decide, ?_⟩
        go_grown
      · have d4 : (n == 1) = false := beq_eq_false_iff_ne.2 h3
        have d5 : (n != 1) = true := by simp [h3]
        have E : Hid (rightB 1 n 1 = false) := by unfold Hid rightB; simp [h2, h3]
        clear h2 h3
        go_enter Tryd.func14, Tryd.ntmps14
        go_wp2
        go_ret
        refine ⟨by rw [E.out]; rfl, ?_⟩
        go_grown
  · have d1 : (k == 1) = false := beq_eq_false_iff_ne.2 h1
    by_cases h2 : k = 2
    · subst h2
      have E : Hid (rightB 2 n 2 = (n == aroundI n)) := by unfold Hid; rw [aroundI_self]; unfold rightB; simp
      obtain ⟨q, hq⟩ : ∃ q, q = (n == aroundI n) := ⟨_, rfl⟩
      have HQ : Hid (q = (n == aroundI n)) := hq
      clear hq d1 h1
      go_enter Tryd.func14, Tryd.ntmps14
      go_wp2_with (go_at_call 44; refine (fisInt_any _ _).mono ?_; rintro e w' ⟨rfl, hb⟩; have HB : Hid (Below _ _ w') := hb; clear hb)
      go_ret
      refine ⟨by rw [E.out]; rfl, ?_⟩
      exact ((Below.refl _ _).alloc (Nat.le_refl _) _).trans (HB.out.mono (by simp))
    · have d2 : (k == 2) = false := beq_eq_false_iff_ne.2 h2
      have E : Hid (rightB k n k = false) := by unfold Hid rightB; simp [h1, h2]
      clear h1 h2
      go_enter Tryd.func14, Tryd.ntmps14
      go_wp2
      go_ret
      refine ⟨by rw [E.out]; rfl, ?_⟩
      go_grown
end Go.Proofs.YtgcaohpaopemnaaDoor
