/-
  flow's OPERATORS, ONE BY ONE, BY CONTRACT.
-/
import Derived.Test.YtgcaohpaopemnaaDoorP04
import Derived.Test.YtgcaohpaopemnaaDoorP05
namespace Go.Proofs.YtgcaohpaopemnaaDoor
open Go.RowKit Go.Maps

theorem bits_low8 (a : Int) : bits .and .i64 a 255 = a % 256 := by
  have h1 : ((BitVec.ofInt 64 a).toNat : Int) = a % 18446744073709551616 := by simp [BitVec.toNat_ofInt]; omega
  show IntKind.i64.wrap ((BitVec.ofInt 64 a &&& BitVec.ofInt 64 255).toNat : Int) = _
  have h3 : (BitVec.ofInt 64 (255 : Int)).toNat = 2 ^ 8 - 1 := by decide
  rw [BitVec.toNat_and, h3, Nat.and_two_pow_sub_one_eq_mod, IntKind.wrap_i64]
  omega
set_option maxRecDepth 100000 in
theorem faround_any (n : Int) (hn : -100000 < n ∧ n < 100000) (w : World) : Calls Tryd.prog 28 #[.int .i64 n] w fun e w' => e = .returned (.int .i64 (aroundI n)) ∧ w' = w := by
  have hb := bits_low8 (n + 128)
  have h1 : wrap64 (n + 128) = n + 128 := by unfold wrap64; omega
  have h2 : wrap64 ((n + 128) % 256 - 128) = (n + 128) % 256 - 128 := by unfold wrap64; omega
  clear hn
  go_enter Tryd.func28, Tryd.ntmps28
  go_wp2
  go_ret
  exact ⟨rfl, rfl⟩
set_option maxRecDepth 100000 in
theorem ftruth_any (b : Bool) (w : World) : Calls Tryd.prog 36 #[.bool b] w fun e w' => e = .returned (.int .i64 (truthI b)) ∧ w' = w := by
  cases b
  · go_enter Tryd.func36, Tryd.ntmps36
    go_wp2
    go_ret
    exact ⟨rfl, rfl⟩
  · go_enter Tryd.func36, Tryd.ntmps36
    go_wp2
    go_ret
    exact ⟨rfl, rfl⟩
/-- A reckoning, a division: what it comes to. -/
def IntIs (i : FuncId) (a b r : Int) : Prop := ∀ w, Calls Tryd.prog i #[.int .i64 a, .int .i64 b] w fun e w' => e = .returned (.int .i64 r) ∧ w' = w
def BoolIs (i : FuncId) (a b : Int) (r : Bool) : Prop := ∀ w, Calls Tryd.prog i #[.int .i64 a, .int .i64 b] w fun e w' => e = .returned (.bool r) ∧ w' = w
set_option maxRecDepth 100000 in
theorem reckonings_1 (a b : Int) (ha : Sm a) (hb : Sm b) : IntIs 59 a b (a + b) := by
  intro w
  unfold Sm at ha hb
  have h1 : wrap64 (a + b) = a + b := by unfold wrap64; omega
  clear ha hb
  go_enter Tryd.func59, Tryd.ntmps59
  go_wp2
  go_ret
  exact ⟨by show Ending.returned (Value.int .i64 (wrap64 (a + b))) = _; rw [h1], rfl⟩
set_option maxRecDepth 100000 in
theorem reckonings_2 (a b : Int) (ha : Sm a) (hb : Sm b) : IntIs 60 a b (a - b) := by
  intro w
  unfold Sm at ha hb
  have h1 : wrap64 (a - b) = a - b := by unfold wrap64; omega
  clear ha hb
  go_enter Tryd.func60, Tryd.ntmps60
  go_wp2
  go_ret
  exact ⟨by show Ending.returned (Value.int .i64 (wrap64 (a - b))) = _; rw [h1], rfl⟩
set_option maxRecDepth 100000 in
theorem reckonings_3 (a b : Int) (ha : Sm a) (hb : Sm b) : IntIs 61 a b (a * b) := by
  intro w
  unfold Sm at ha hb
  have hm := mul_small ha hb
  have h1 : wrap64 (a * b) = a * b := by unfold wrap64; omega
  clear hm
  clear ha hb
  go_enter Tryd.func61, Tryd.ntmps61
  go_wp2
  go_ret
  exact ⟨by show Ending.returned (Value.int .i64 (wrap64 (a * b))) = _; rw [h1], rfl⟩
set_option maxRecDepth 100000 in
theorem divisions_1 (a b : Int) (ha : Sm a) (h0 : b ≠ 0) : IntIs 62 a b (a.tdiv b) := by
  intro w
  have d0 : (b == 0) = false := beq_eq_false_iff_ne.2 h0
  unfold Sm at ha
  have hq := Int.natAbs_tdiv_le_natAbs a b
  have h1 : wrap64 (a.tdiv b) = a.tdiv b := by unfold wrap64; omega
  clear ha hq
  go_enter Tryd.func62, Tryd.ntmps62
  go_wp2
  go_ret
  exact ⟨by show Ending.returned (Value.int .i64 (wrap64 (a.tdiv b))) = _; rw [h1], rfl⟩
set_option maxRecDepth 100000 in
theorem divisions_2 (a b : Int) (h0 : b ≠ 0) : IntIs 63 a b (a - a.tdiv b * b) := by
  intro w
  have d0 : (b == 0) = false := beq_eq_false_iff_ne.2 h0
  have e1 : a.tmod b = a - a.tdiv b * b := by rw [Int.tmod_def, Int.mul_comm]
  go_enter Tryd.func63, Tryd.ntmps63
  go_wp2
  go_ret
  exact ⟨rfl, rfl⟩
set_option maxRecDepth 100000 in
theorem truths_1 (a b : Int) (ha : a = 0 ∨ a = 1) (hb : b = 0 ∨ b = 1) : BoolIs 64 a b (a + b == 2) := by
  intro w
  rcases ha with rfl | rfl <;> rcases hb with rfl | rfl
  · go_enter Tryd.func64, Tryd.ntmps64
    go_wp2
    go_ret
    exact ⟨rfl, rfl⟩
  · go_enter Tryd.func64, Tryd.ntmps64
    go_wp2
    go_ret
    exact ⟨rfl, rfl⟩
  · go_enter Tryd.func64, Tryd.ntmps64
    go_wp2
    go_ret
    exact ⟨rfl, rfl⟩
  · go_enter Tryd.func64, Tryd.ntmps64
    go_wp2
    go_ret
    exact ⟨rfl, rfl⟩
set_option maxRecDepth 100000 in
theorem truths_2 (a b : Int) (ha : a = 0 ∨ a = 1) (hb : b = 0 ∨ b = 1) : BoolIs 65 a b (decide (0 < a + b)) := by
  intro w
  rcases ha with rfl | rfl <;> rcases hb with rfl | rfl
  · go_enter Tryd.func65, Tryd.ntmps65
    go_wp2
    go_ret
    exact ⟨rfl, rfl⟩
  · go_enter Tryd.func65, Tryd.ntmps65
    go_wp2
    go_ret
    exact ⟨rfl, rfl⟩
  · go_enter Tryd.func65, Tryd.ntmps65
    go_wp2
    go_ret
    exact ⟨rfl, rfl⟩
  · go_enter Tryd.func65, Tryd.ntmps65
    go_wp2
    go_ret
    exact ⟨rfl, rfl⟩
set_option maxRecDepth 100000 in
theorem truths_3 (a b : Int) (ha : a = 0 ∨ a = 1) (hb : b = 0 ∨ b = 1) : BoolIs 66 a b (a + b == 1) := by
  intro w
  rcases ha with rfl | rfl <;> rcases hb with rfl | rfl
  · go_enter Tryd.func66, Tryd.ntmps66
    go_wp2
    go_ret
    exact ⟨rfl, rfl⟩
  · go_enter Tryd.func66, Tryd.ntmps66
    go_wp2
    go_ret
    exact ⟨rfl, rfl⟩
  · go_enter Tryd.func66, Tryd.ntmps66
    go_wp2
    go_ret
    exact ⟨rfl, rfl⟩
  · go_enter Tryd.func66, Tryd.ntmps66
    go_wp2
    go_ret
    exact ⟨rfl, rfl⟩
set_option maxRecDepth 100000 in
theorem truths_4 (a b : Int) (ha : a = 0 ∨ a = 1) (hb : b = 0 ∨ b = 1) : BoolIs 67 a b (decide (a ≤ b)) := by
  intro w
  rcases ha with rfl | rfl <;> rcases hb with rfl | rfl
  · go_enter Tryd.func67, Tryd.ntmps67
    go_wp2
    go_ret
    exact ⟨rfl, rfl⟩
  · go_enter Tryd.func67, Tryd.ntmps67
    go_wp2
    go_ret
    exact ⟨rfl, rfl⟩
  · go_enter Tryd.func67, Tryd.ntmps67
    go_wp2
    go_ret
    exact ⟨rfl, rfl⟩
  · go_enter Tryd.func67, Tryd.ntmps67
    go_wp2
    go_ret
    exact ⟨rfl, rfl⟩
set_option maxRecDepth 100000 in
theorem truths_5 (a b : Int)  : BoolIs 68 a b (a == b) := by
  intro w
  go_enter Tryd.func68, Tryd.ntmps68
  go_wp2
  go_ret
  exact ⟨rfl, rfl⟩
set_option maxRecDepth 100000 in
theorem truths_6 (a b : Int)  : BoolIs 69 a b (a != b) := by
  intro w
  go_enter Tryd.func69, Tryd.ntmps69
  go_wp2
  go_ret
  exact ⟨rfl, rfl⟩
set_option maxRecDepth 100000 in
theorem truths_7 (a b : Int)  : BoolIs 70 a b (decide (a < b)) := by
  intro w
  go_enter Tryd.func70, Tryd.ntmps70
  go_wp2
  go_ret
  exact ⟨rfl, rfl⟩
set_option maxRecDepth 100000 in
theorem truths_8 (a b : Int)  : BoolIs 71 a b (decide (a ≤ b)) := by
  intro w
  go_enter Tryd.func71, Tryd.ntmps71
  go_wp2
  go_ret
  exact ⟨rfl, rfl⟩
set_option maxRecDepth 100000 in
theorem truths_9 (a b : Int)  : BoolIs 72 a b (decide (b < a)) := by
  intro w
  go_enter Tryd.func72, Tryd.ntmps72
  go_wp2
  go_ret
  exact ⟨rfl, rfl⟩
set_option maxRecDepth 100000 in
theorem truths_10 (a b : Int)  : BoolIs 73 a b (decide (b ≤ a)) := by
  intro w
  go_enter Tryd.func73, Tryd.ntmps73
  go_wp2
  go_ret
  exact ⟨rfl, rfl⟩
set_option maxRecDepth 100000 in
theorem op_reckonings_1 (p : Nat) (a b : Int) (v : Value) (w : World) (hv : KindsAt w v [a, b]) (hp : w.cell? ⟨p, 0, none⟩ = some (.func (.func 59) #[] #[])) (ha : Sm a) (hb : Sm b) :
    Calls Tryd.prog 31 #[v, .pointer (some ⟨p, 0, none⟩)] w fun e w' => e = .returned (.tuple #[.int .i64 (aroundI (a + b)), .bool false]) ∧ Below w.heap.size w w' := by
  obtain ⟨hl, o, c, rfl, hc⟩ := hv
  obtain ⟨b0, off, rfl, x0⟩ := hc 0 a rfl
  obtain ⟨b1, of1, e1, x1⟩ := hc 1 b rfl
  obtain ⟨rfl, rfl⟩ : b0 = b1 ∧ off = of1 := by simpa using e1
  clear hc hl e1
  simp only [Nat.add_zero] at x0
  have HS : Hid (Sm a ∧ Sm b) := ⟨ha, hb⟩
  have HR : Hid (-100000 < a + b ∧ a + b < 100000) := by unfold Hid; unfold Sm at ha hb; omega
  clear ha hb
  go_enter Tryd.func31, Tryd.ntmps31
  go_wp2
  go_quiet ((first | (go_at_call 28; exact Calls.quiet_of_same (faround_any _ HR.out _)) | (go_at_call 59; exact Calls.quiet_of_same (reckonings_1 a b HS.out.1 HS.out.2 _))))
  go_wp2
  go_ret2
  exact ⟨rfl, below_drewO (Below.refl _ _) _⟩
set_option maxRecDepth 100000 in
theorem op_reckonings_2 (p : Nat) (a b : Int) (v : Value) (w : World) (hv : KindsAt w v [a, b]) (hp : w.cell? ⟨p, 0, none⟩ = some (.func (.func 60) #[] #[])) (ha : Sm a) (hb : Sm b) :
    Calls Tryd.prog 31 #[v, .pointer (some ⟨p, 0, none⟩)] w fun e w' => e = .returned (.tuple #[.int .i64 (aroundI (a - b)), .bool false]) ∧ Below w.heap.size w w' := by
  obtain ⟨hl, o, c, rfl, hc⟩ := hv
  obtain ⟨b0, off, rfl, x0⟩ := hc 0 a rfl
  obtain ⟨b1, of1, e1, x1⟩ := hc 1 b rfl
  obtain ⟨rfl, rfl⟩ : b0 = b1 ∧ off = of1 := by simpa using e1
  clear hc hl e1
  simp only [Nat.add_zero] at x0
  have HS : Hid (Sm a ∧ Sm b) := ⟨ha, hb⟩
  have HR : Hid (-100000 < a - b ∧ a - b < 100000) := by unfold Hid; unfold Sm at ha hb; omega
  clear ha hb
  go_enter Tryd.func31, Tryd.ntmps31
  go_wp2
  go_quiet ((first | (go_at_call 28; exact Calls.quiet_of_same (faround_any _ HR.out _)) | (go_at_call 60; exact Calls.quiet_of_same (reckonings_2 a b HS.out.1 HS.out.2 _))))
  go_wp2
  go_ret2
  exact ⟨rfl, below_drewO (Below.refl _ _) _⟩
set_option maxRecDepth 100000 in
theorem op_reckonings_3 (p : Nat) (a b : Int) (v : Value) (w : World) (hv : KindsAt w v [a, b]) (hp : w.cell? ⟨p, 0, none⟩ = some (.func (.func 61) #[] #[])) (ha : Sm a) (hb : Sm b) :
    Calls Tryd.prog 31 #[v, .pointer (some ⟨p, 0, none⟩)] w fun e w' => e = .returned (.tuple #[.int .i64 (aroundI (a * b)), .bool false]) ∧ Below w.heap.size w w' := by
  obtain ⟨hl, o, c, rfl, hc⟩ := hv
  obtain ⟨b0, off, rfl, x0⟩ := hc 0 a rfl
  obtain ⟨b1, of1, e1, x1⟩ := hc 1 b rfl
  obtain ⟨rfl, rfl⟩ : b0 = b1 ∧ off = of1 := by simpa using e1
  clear hc hl e1
  simp only [Nat.add_zero] at x0
  have HS : Hid (Sm a ∧ Sm b) := ⟨ha, hb⟩
  have hm := mul_small ha hb
  have HR : Hid (-100000 < a * b ∧ a * b < 100000) := by unfold Hid; unfold Sm at ha hb; omega
  clear ha hb hm
  go_enter Tryd.func31, Tryd.ntmps31
  go_wp2
  go_quiet ((first | (go_at_call 28; exact Calls.quiet_of_same (faround_any _ HR.out _)) | (go_at_call 61; exact Calls.quiet_of_same (reckonings_3 a b HS.out.1 HS.out.2 _))))
  go_wp2
  go_ret2
  exact ⟨rfl, below_drewO (Below.refl _ _) _⟩
set_option maxRecDepth 100000 in
theorem op_divisions_1 (p : Nat) (a b : Int) (v : Value) (w : World) (hv : KindsAt w v [a, b]) (hp : w.cell? ⟨p, 0, none⟩ = some (.func (.func 62) #[] #[])) (ha : Sm a) (h0 : b ≠ 0) :
    Calls Tryd.prog 33 #[v, .pointer (some ⟨p, 0, none⟩)] w fun e w' => e = .returned (.tuple #[.int .i64 (aroundI (a.tdiv b)), .bool false]) ∧ Below w.heap.size w w' := by
  obtain ⟨hl, o, c, rfl, hc⟩ := hv
  obtain ⟨b0, off, rfl, x0⟩ := hc 0 a rfl
  obtain ⟨b1, of1, e1, x1⟩ := hc 1 b rfl
  obtain ⟨rfl, rfl⟩ : b0 = b1 ∧ off = of1 := by simpa using e1
  clear hc hl e1
  simp only [Nat.add_zero] at x0
  have HS : Hid (Sm a) := ha
  have H0 : Hid (b ≠ 0) := h0
  have d0 : (b == 0) = false := beq_eq_false_iff_ne.2 h0
  have hq := Int.natAbs_tdiv_le_natAbs a b
  have HR : Hid (-100000 < a.tdiv b ∧ a.tdiv b < 100000) := by unfold Hid; unfold Sm at ha; omega
  clear ha h0 hq
  go_enter Tryd.func33, Tryd.ntmps33
  go_wp2
  go_quiet ((first | (go_at_call 28; exact Calls.quiet_of_same (faround_any _ HR.out _)) | (go_at_call 62; exact Calls.quiet_of_same (divisions_1 a b HS.out H0.out _))))
  go_wp2
  go_ret2
  exact ⟨rfl, below_drewO (Below.refl _ _) _⟩
set_option maxRecDepth 100000 in
theorem op_divisions_2 (p : Nat) (a b : Int) (v : Value) (w : World) (hv : KindsAt w v [a, b]) (hp : w.cell? ⟨p, 0, none⟩ = some (.func (.func 63) #[] #[])) (ha : Sm a) (hb : Sm b) (h0 : b ≠ 0) :
    Calls Tryd.prog 33 #[v, .pointer (some ⟨p, 0, none⟩)] w fun e w' => e = .returned (.tuple #[.int .i64 (aroundI (a - a.tdiv b * b)), .bool false]) ∧ Below w.heap.size w w' := by
  obtain ⟨hl, o, c, rfl, hc⟩ := hv
  obtain ⟨b0, off, rfl, x0⟩ := hc 0 a rfl
  obtain ⟨b1, of1, e1, x1⟩ := hc 1 b rfl
  obtain ⟨rfl, rfl⟩ : b0 = b1 ∧ off = of1 := by simpa using e1
  clear hc hl e1
  simp only [Nat.add_zero] at x0
  have HS : Hid (Sm a) := ha
  have H0 : Hid (b ≠ 0) := h0
  have d0 : (b == 0) = false := beq_eq_false_iff_ne.2 h0
  have hq := Int.natAbs_tdiv_le_natAbs a b
  have hm := mul_small (x := a.tdiv b) (y := b) (by unfold Sm at ha; omega) hb
  have HR : Hid (-100000 < a - a.tdiv b * b ∧ a - a.tdiv b * b < 100000) := by unfold Hid; unfold Sm at ha hb; omega
  clear ha h0 hq hb hm
  go_enter Tryd.func33, Tryd.ntmps33
  go_wp2
  go_quiet ((first | (go_at_call 28; exact Calls.quiet_of_same (faround_any _ HR.out _)) | (go_at_call 63; exact Calls.quiet_of_same (divisions_2 a b H0.out _))))
  go_wp2
  go_ret2
  exact ⟨rfl, below_drewO (Below.refl _ _) _⟩
set_option maxRecDepth 100000 in
theorem op_truths_1 (p : Nat) (a b : Int) (v : Value) (w : World) (hv : KindsAt w v [a, b]) (hp : w.cell? ⟨p, 0, none⟩ = some (.func (.func 64) #[] #[])) (ha : a = 0 ∨ a = 1) (hb : b = 0 ∨ b = 1) :
    Calls Tryd.prog 35 #[v, .pointer (some ⟨p, 0, none⟩)] w fun e w' => e = .returned (.tuple #[.int .i64 (truthI (a + b == 2)), .bool false]) ∧ Below w.heap.size w w' := by
  obtain ⟨hl, o, c, rfl, hc⟩ := hv
  obtain ⟨b0, off, rfl, x0⟩ := hc 0 a rfl
  obtain ⟨b1, of1, e1, x1⟩ := hc 1 b rfl
  obtain ⟨rfl, rfl⟩ : b0 = b1 ∧ off = of1 := by simpa using e1
  clear hc hl e1
  simp only [Nat.add_zero] at x0
  have HS : Hid ((a = 0 ∨ a = 1) ∧ (b = 0 ∨ b = 1)) := ⟨ha, hb⟩
  clear ha hb
  go_enter Tryd.func35, Tryd.ntmps35
  go_wp2
  go_quiet ((first | (go_at_call 36; exact Calls.quiet_of_same (ftruth_any _ _)) | (go_at_call 64; exact Calls.quiet_of_same (truths_1 a b HS.out.1 HS.out.2 _))))
  go_wp2
  go_ret2
  exact ⟨rfl, below_drewO (Below.refl _ _) _⟩
set_option maxRecDepth 100000 in
theorem op_truths_2 (p : Nat) (a b : Int) (v : Value) (w : World) (hv : KindsAt w v [a, b]) (hp : w.cell? ⟨p, 0, none⟩ = some (.func (.func 65) #[] #[])) (ha : a = 0 ∨ a = 1) (hb : b = 0 ∨ b = 1) :
    Calls Tryd.prog 35 #[v, .pointer (some ⟨p, 0, none⟩)] w fun e w' => e = .returned (.tuple #[.int .i64 (truthI (decide (0 < a + b))), .bool false]) ∧ Below w.heap.size w w' := by
  obtain ⟨hl, o, c, rfl, hc⟩ := hv
  obtain ⟨b0, off, rfl, x0⟩ := hc 0 a rfl
  obtain ⟨b1, of1, e1, x1⟩ := hc 1 b rfl
  obtain ⟨rfl, rfl⟩ : b0 = b1 ∧ off = of1 := by simpa using e1
  clear hc hl e1
  simp only [Nat.add_zero] at x0
  have HS : Hid ((a = 0 ∨ a = 1) ∧ (b = 0 ∨ b = 1)) := ⟨ha, hb⟩
  clear ha hb
  go_enter Tryd.func35, Tryd.ntmps35
  go_wp2
  go_quiet ((first | (go_at_call 36; exact Calls.quiet_of_same (ftruth_any _ _)) | (go_at_call 65; exact Calls.quiet_of_same (truths_2 a b HS.out.1 HS.out.2 _))))
  go_wp2
  go_ret2
  exact ⟨rfl, below_drewO (Below.refl _ _) _⟩
set_option maxRecDepth 100000 in
theorem op_truths_3 (p : Nat) (a b : Int) (v : Value) (w : World) (hv : KindsAt w v [a, b]) (hp : w.cell? ⟨p, 0, none⟩ = some (.func (.func 66) #[] #[])) (ha : a = 0 ∨ a = 1) (hb : b = 0 ∨ b = 1) :
    Calls Tryd.prog 35 #[v, .pointer (some ⟨p, 0, none⟩)] w fun e w' => e = .returned (.tuple #[.int .i64 (truthI (a + b == 1)), .bool false]) ∧ Below w.heap.size w w' := by
  obtain ⟨hl, o, c, rfl, hc⟩ := hv
  obtain ⟨b0, off, rfl, x0⟩ := hc 0 a rfl
  obtain ⟨b1, of1, e1, x1⟩ := hc 1 b rfl
  obtain ⟨rfl, rfl⟩ : b0 = b1 ∧ off = of1 := by simpa using e1
  clear hc hl e1
  simp only [Nat.add_zero] at x0
  have HS : Hid ((a = 0 ∨ a = 1) ∧ (b = 0 ∨ b = 1)) := ⟨ha, hb⟩
  clear ha hb
  go_enter Tryd.func35, Tryd.ntmps35
  go_wp2
  go_quiet ((first | (go_at_call 36; exact Calls.quiet_of_same (ftruth_any _ _)) | (go_at_call 66; exact Calls.quiet_of_same (truths_3 a b HS.out.1 HS.out.2 _))))
  go_wp2
  go_ret2
  exact ⟨rfl, below_drewO (Below.refl _ _) _⟩
set_option maxRecDepth 100000 in
theorem op_truths_4 (p : Nat) (a b : Int) (v : Value) (w : World) (hv : KindsAt w v [a, b]) (hp : w.cell? ⟨p, 0, none⟩ = some (.func (.func 67) #[] #[])) (ha : a = 0 ∨ a = 1) (hb : b = 0 ∨ b = 1) :
    Calls Tryd.prog 35 #[v, .pointer (some ⟨p, 0, none⟩)] w fun e w' => e = .returned (.tuple #[.int .i64 (truthI (decide (a ≤ b))), .bool false]) ∧ Below w.heap.size w w' := by
  obtain ⟨hl, o, c, rfl, hc⟩ := hv
  obtain ⟨b0, off, rfl, x0⟩ := hc 0 a rfl
  obtain ⟨b1, of1, e1, x1⟩ := hc 1 b rfl
  obtain ⟨rfl, rfl⟩ : b0 = b1 ∧ off = of1 := by simpa using e1
  clear hc hl e1
  simp only [Nat.add_zero] at x0
  have HS : Hid ((a = 0 ∨ a = 1) ∧ (b = 0 ∨ b = 1)) := ⟨ha, hb⟩
  clear ha hb
  go_enter Tryd.func35, Tryd.ntmps35
  go_wp2
  go_quiet ((first | (go_at_call 36; exact Calls.quiet_of_same (ftruth_any _ _)) | (go_at_call 67; exact Calls.quiet_of_same (truths_4 a b HS.out.1 HS.out.2 _))))
  go_wp2
  go_ret2
  exact ⟨rfl, below_drewO (Below.refl _ _) _⟩
set_option maxRecDepth 100000 in
theorem op_truths_5 (p : Nat) (a b : Int) (v : Value) (w : World) (hv : KindsAt w v [a, b]) (hp : w.cell? ⟨p, 0, none⟩ = some (.func (.func 68) #[] #[]))  :
    Calls Tryd.prog 35 #[v, .pointer (some ⟨p, 0, none⟩)] w fun e w' => e = .returned (.tuple #[.int .i64 (truthI (a == b)), .bool false]) ∧ Below w.heap.size w w' := by
  obtain ⟨hl, o, c, rfl, hc⟩ := hv
  obtain ⟨b0, off, rfl, x0⟩ := hc 0 a rfl
  obtain ⟨b1, of1, e1, x1⟩ := hc 1 b rfl
  obtain ⟨rfl, rfl⟩ : b0 = b1 ∧ off = of1 := by simpa using e1
  clear hc hl e1
  simp only [Nat.add_zero] at x0
  go_enter Tryd.func35, Tryd.ntmps35
  go_wp2
  go_quiet ((first | (go_at_call 36; exact Calls.quiet_of_same (ftruth_any _ _)) | (go_at_call 68; exact Calls.quiet_of_same (truths_5 a b _))))
  go_wp2
  go_ret2
  exact ⟨rfl, below_drewO (Below.refl _ _) _⟩
set_option maxRecDepth 100000 in
theorem op_truths_6 (p : Nat) (a b : Int) (v : Value) (w : World) (hv : KindsAt w v [a, b]) (hp : w.cell? ⟨p, 0, none⟩ = some (.func (.func 69) #[] #[]))  :
    Calls Tryd.prog 35 #[v, .pointer (some ⟨p, 0, none⟩)] w fun e w' => e = .returned (.tuple #[.int .i64 (truthI (a != b)), .bool false]) ∧ Below w.heap.size w w' := by
  obtain ⟨hl, o, c, rfl, hc⟩ := hv
  obtain ⟨b0, off, rfl, x0⟩ := hc 0 a rfl
  obtain ⟨b1, of1, e1, x1⟩ := hc 1 b rfl
  obtain ⟨rfl, rfl⟩ : b0 = b1 ∧ off = of1 := by simpa using e1
  clear hc hl e1
  simp only [Nat.add_zero] at x0
  go_enter Tryd.func35, Tryd.ntmps35
  go_wp2
  go_quiet ((first | (go_at_call 36; exact Calls.quiet_of_same (ftruth_any _ _)) | (go_at_call 69; exact Calls.quiet_of_same (truths_6 a b _))))
  go_wp2
  go_ret2
  exact ⟨rfl, below_drewO (Below.refl _ _) _⟩
set_option maxRecDepth 100000 in
theorem op_truths_7 (p : Nat) (a b : Int) (v : Value) (w : World) (hv : KindsAt w v [a, b]) (hp : w.cell? ⟨p, 0, none⟩ = some (.func (.func 70) #[] #[]))  :
    Calls Tryd.prog 35 #[v, .pointer (some ⟨p, 0, none⟩)] w fun e w' => e = .returned (.tuple #[.int .i64 (truthI (decide (a < b))), .bool false]) ∧ Below w.heap.size w w' := by
  obtain ⟨hl, o, c, rfl, hc⟩ := hv
  obtain ⟨b0, off, rfl, x0⟩ := hc 0 a rfl
  obtain ⟨b1, of1, e1, x1⟩ := hc 1 b rfl
  obtain ⟨rfl, rfl⟩ : b0 = b1 ∧ off = of1 := by simpa using e1
  clear hc hl e1
  simp only [Nat.add_zero] at x0
  go_enter Tryd.func35, Tryd.ntmps35
  go_wp2
  go_quiet ((first | (go_at_call 36; exact Calls.quiet_of_same (ftruth_any _ _)) | (go_at_call 70; exact Calls.quiet_of_same (truths_7 a b _))))
  go_wp2
  go_ret2
  exact ⟨rfl, below_drewO (Below.refl _ _) _⟩
set_option maxRecDepth 100000 in
theorem op_truths_8 (p : Nat) (a b : Int) (v : Value) (w : World) (hv : KindsAt w v [a, b]) (hp : w.cell? ⟨p, 0, none⟩ = some (.func (.func 71) #[] #[]))  :
    Calls Tryd.prog 35 #[v, .pointer (some ⟨p, 0, none⟩)] w fun e w' => e = .returned (.tuple #[.int .i64 (truthI (decide (a ≤ b))), .bool false]) ∧ Below w.heap.size w w' := by
  obtain ⟨hl, o, c, rfl, hc⟩ := hv
  obtain ⟨b0, off, rfl, x0⟩ := hc 0 a rfl
  obtain ⟨b1, of1, e1, x1⟩ := hc 1 b rfl
  obtain ⟨rfl, rfl⟩ : b0 = b1 ∧ off = of1 := by simpa using e1
  clear hc hl e1
  simp only [Nat.add_zero] at x0
  go_enter Tryd.func35, Tryd.ntmps35
  go_wp2
  go_quiet ((first | (go_at_call 36; exact Calls.quiet_of_same (ftruth_any _ _)) | (go_at_call 71; exact Calls.quiet_of_same (truths_8 a b _))))
  go_wp2
  go_ret2
  exact ⟨rfl, below_drewO (Below.refl _ _) _⟩
set_option maxRecDepth 100000 in
theorem op_truths_9 (p : Nat) (a b : Int) (v : Value) (w : World) (hv : KindsAt w v [a, b]) (hp : w.cell? ⟨p, 0, none⟩ = some (.func (.func 72) #[] #[]))  :
    Calls Tryd.prog 35 #[v, .pointer (some ⟨p, 0, none⟩)] w fun e w' => e = .returned (.tuple #[.int .i64 (truthI (decide (b < a))), .bool false]) ∧ Below w.heap.size w w' := by
  obtain ⟨hl, o, c, rfl, hc⟩ := hv
  obtain ⟨b0, off, rfl, x0⟩ := hc 0 a rfl
  obtain ⟨b1, of1, e1, x1⟩ := hc 1 b rfl
  obtain ⟨rfl, rfl⟩ : b0 = b1 ∧ off = of1 := by simpa using e1
  clear hc hl e1
  simp only [Nat.add_zero] at x0
  go_enter Tryd.func35, Tryd.ntmps35
  go_wp2
  go_quiet ((first | (go_at_call 36; exact Calls.quiet_of_same (ftruth_any _ _)) | (go_at_call 72; exact Calls.quiet_of_same (truths_9 a b _))))
  go_wp2
  go_ret2
  exact ⟨rfl, below_drewO (Below.refl _ _) _⟩
set_option maxRecDepth 100000 in
theorem op_truths_10 (p : Nat) (a b : Int) (v : Value) (w : World) (hv : KindsAt w v [a, b]) (hp : w.cell? ⟨p, 0, none⟩ = some (.func (.func 73) #[] #[]))  :
    Calls Tryd.prog 35 #[v, .pointer (some ⟨p, 0, none⟩)] w fun e w' => e = .returned (.tuple #[.int .i64 (truthI (decide (b ≤ a))), .bool false]) ∧ Below w.heap.size w w' := by
  obtain ⟨hl, o, c, rfl, hc⟩ := hv
  obtain ⟨b0, off, rfl, x0⟩ := hc 0 a rfl
  obtain ⟨b1, of1, e1, x1⟩ := hc 1 b rfl
  obtain ⟨rfl, rfl⟩ : b0 = b1 ∧ off = of1 := by simpa using e1
  clear hc hl e1
  simp only [Nat.add_zero] at x0
  go_enter Tryd.func35, Tryd.ntmps35
  go_wp2
  go_quiet ((first | (go_at_call 36; exact Calls.quiet_of_same (ftruth_any _ _)) | (go_at_call 73; exact Calls.quiet_of_same (truths_10 a b _))))
  go_wp2
  go_ret2
  exact ⟨rfl, below_drewO (Below.refl _ _) _⟩
end Go.Proofs.YtgcaohpaopemnaaDoor
