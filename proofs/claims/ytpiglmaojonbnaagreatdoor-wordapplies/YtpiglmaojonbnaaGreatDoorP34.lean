/-
  THE DOCUMENT's OPERATORS: ApplyOf BY CONTRACT, operator by operator.
-/
import Derived.Test.YtpiglmaojonbnaaGreatDoorP12
namespace Go.Proofs.YtpiglmaojonbnaaGreatDoor
open Go.RowKit

/-- A value's number is small. -/
def Sm (n : Int) : Prop := -129 < n ∧ n < 129
theorem mul_small {x y : Int} (hx : -129 < x ∧ x < 129) (hy : -129 < y ∧ y < 129) : -16641 < x * y ∧ x * y < 16641 := by
  have h1 : x.natAbs * y.natAbs ≤ 128 * 128 := Nat.mul_le_mul (by omega) (by omega)
  have h2 : (x * y).natAbs = x.natAbs * y.natAbs := Int.natAbs_mul x y
  omega
set_option maxRecDepth 100000 in
set_option maxHeartbeats 1000000 in
theorem apply_and (op : ByteArray) (w : World) (ht : op.toList = [97, 110, 100]) (v : Value) (a b : Int × Int) (hv : ValsAt w v [a, b]) (ha : Sm a.2) (hb : Sm b.2) :
    Calls Tryz.prog 12 #[.string op, v] w fun e w' => e = .returned (.tuple #[.agg #[.int .i64 1, .int .i64 (truthI (a.2 + b.2 == 2))], .bool false]) ∧ Below w.heap.size w w' := by
  obtain ⟨hl, o, c, rfl, hc⟩ := hv
  obtain ⟨b0, off, rfl, x0, x1⟩ := hc 0 a rfl
  obtain ⟨b0', off', e', z0, z1⟩ := hc 1 b rfl
  obtain ⟨rfl, rfl⟩ : b0 = b0' ∧ off = off' := by simpa using e'
  obtain ⟨ak, an⟩ := a
  obtain ⟨bk, bn⟩ := b
  unfold Sm at ha hb
  simp only [Nat.zero_mul, Nat.add_zero, Nat.one_mul] at x0 x1 z0 z1
  have hb0 : b0 < w.heap.size := cell_lt x0
  clear hc hl e'
  go_enter Tryz.func12, Tryz.ntmps12
  go_wp2_with (go_at_call 28; refine (truth_any _ _).mono ?_; rintro e w' ⟨rfl, rfl⟩)
  go_returns
  refine ⟨by first | rfl | simp [*], ?_⟩
  go_grown
set_option maxRecDepth 100000 in
set_option maxHeartbeats 1000000 in
theorem apply_or (op : ByteArray) (w : World) (ht : op.toList = [111, 114]) (v : Value) (a b : Int × Int) (hv : ValsAt w v [a, b]) (ha : Sm a.2) (hb : Sm b.2) :
    Calls Tryz.prog 12 #[.string op, v] w fun e w' => e = .returned (.tuple #[.agg #[.int .i64 1, .int .i64 (truthI (decide (0 < a.2 + b.2)))], .bool false]) ∧ Below w.heap.size w w' := by
  obtain ⟨hl, o, c, rfl, hc⟩ := hv
  obtain ⟨b0, off, rfl, x0, x1⟩ := hc 0 a rfl
  obtain ⟨b0', off', e', z0, z1⟩ := hc 1 b rfl
  obtain ⟨rfl, rfl⟩ : b0 = b0' ∧ off = off' := by simpa using e'
  obtain ⟨ak, an⟩ := a
  obtain ⟨bk, bn⟩ := b
  unfold Sm at ha hb
  simp only [Nat.zero_mul, Nat.add_zero, Nat.one_mul] at x0 x1 z0 z1
  have hb0 : b0 < w.heap.size := cell_lt x0
  clear hc hl e'
  go_enter Tryz.func12, Tryz.ntmps12
  go_wp2_with (go_at_call 28; refine (truth_any _ _).mono ?_; rintro e w' ⟨rfl, rfl⟩)
  go_returns
  refine ⟨by first | rfl | simp [*], ?_⟩
  go_grown
set_option maxRecDepth 100000 in
set_option maxHeartbeats 1000000 in
theorem apply_xor (op : ByteArray) (w : World) (ht : op.toList = [120, 111, 114]) (v : Value) (a b : Int × Int) (hv : ValsAt w v [a, b]) (ha : Sm a.2) (hb : Sm b.2) :
    Calls Tryz.prog 12 #[.string op, v] w fun e w' => e = .returned (.tuple #[.agg #[.int .i64 1, .int .i64 (truthI (a.2 + b.2 == 1))], .bool false]) ∧ Below w.heap.size w w' := by
  obtain ⟨hl, o, c, rfl, hc⟩ := hv
  obtain ⟨b0, off, rfl, x0, x1⟩ := hc 0 a rfl
  obtain ⟨b0', off', e', z0, z1⟩ := hc 1 b rfl
  obtain ⟨rfl, rfl⟩ : b0 = b0' ∧ off = off' := by simpa using e'
  obtain ⟨ak, an⟩ := a
  obtain ⟨bk, bn⟩ := b
  unfold Sm at ha hb
  simp only [Nat.zero_mul, Nat.add_zero, Nat.one_mul] at x0 x1 z0 z1
  have hb0 : b0 < w.heap.size := cell_lt x0
  clear hc hl e'
  go_enter Tryz.func12, Tryz.ntmps12
  go_wp2_with (go_at_call 28; refine (truth_any _ _).mono ?_; rintro e w' ⟨rfl, rfl⟩)
  go_returns
  refine ⟨by first | rfl | simp [*], ?_⟩
  go_grown
set_option maxRecDepth 100000 in
set_option maxHeartbeats 1000000 in
theorem apply_imp (op : ByteArray) (w : World) (ht : op.toList = [61, 62]) (v : Value) (a b : Int × Int) (hv : ValsAt w v [a, b]) (ha : Sm a.2) (hb : Sm b.2) :
    Calls Tryz.prog 12 #[.string op, v] w fun e w' => e = .returned (.tuple #[.agg #[.int .i64 1, .int .i64 (truthI (decide (a.2 ≤ b.2)))], .bool false]) ∧ Below w.heap.size w w' := by
  obtain ⟨hl, o, c, rfl, hc⟩ := hv
  obtain ⟨b0, off, rfl, x0, x1⟩ := hc 0 a rfl
  obtain ⟨b0', off', e', z0, z1⟩ := hc 1 b rfl
  obtain ⟨rfl, rfl⟩ : b0 = b0' ∧ off = off' := by simpa using e'
  obtain ⟨ak, an⟩ := a
  obtain ⟨bk, bn⟩ := b
  unfold Sm at ha hb
  simp only [Nat.zero_mul, Nat.add_zero, Nat.one_mul] at x0 x1 z0 z1
  have hb0 : b0 < w.heap.size := cell_lt x0
  clear hc hl e'
  go_enter Tryz.func12, Tryz.ntmps12
  go_wp2_with (go_at_call 28; refine (truth_any _ _).mono ?_; rintro e w' ⟨rfl, rfl⟩)
  go_returns
  refine ⟨by first | rfl | simp [*], ?_⟩
  go_grown
set_option maxRecDepth 100000 in
set_option maxHeartbeats 1000000 in
theorem apply_eq (op : ByteArray) (w : World) (ht : op.toList = [61]) (v : Value) (a b : Int × Int) (hv : ValsAt w v [a, b]) (ha : Sm a.2) (hb : Sm b.2) :
    Calls Tryz.prog 12 #[.string op, v] w fun e w' => e = .returned (.tuple #[.agg #[.int .i64 1, .int .i64 (truthI (a.2 == b.2))], .bool false]) ∧ Below w.heap.size w w' := by
  obtain ⟨hl, o, c, rfl, hc⟩ := hv
  obtain ⟨b0, off, rfl, x0, x1⟩ := hc 0 a rfl
  obtain ⟨b0', off', e', z0, z1⟩ := hc 1 b rfl
  obtain ⟨rfl, rfl⟩ : b0 = b0' ∧ off = off' := by simpa using e'
  obtain ⟨ak, an⟩ := a
  obtain ⟨bk, bn⟩ := b
  unfold Sm at ha hb
  simp only [Nat.zero_mul, Nat.add_zero, Nat.one_mul] at x0 x1 z0 z1
  have hb0 : b0 < w.heap.size := cell_lt x0
  clear hc hl e'
  go_enter Tryz.func12, Tryz.ntmps12
  go_wp2_with (go_at_call 28; refine (truth_any _ _).mono ?_; rintro e w' ⟨rfl, rfl⟩)
  go_returns
  refine ⟨by first | rfl | simp [*], ?_⟩
  go_grown
set_option maxRecDepth 100000 in
set_option maxHeartbeats 1000000 in
theorem apply_ne (op : ByteArray) (w : World) (ht : op.toList = [60, 62]) (v : Value) (a b : Int × Int) (hv : ValsAt w v [a, b]) (ha : Sm a.2) (hb : Sm b.2) :
    Calls Tryz.prog 12 #[.string op, v] w fun e w' => e = .returned (.tuple #[.agg #[.int .i64 1, .int .i64 (truthI (a.2 != b.2))], .bool false]) ∧ Below w.heap.size w w' := by
  obtain ⟨hl, o, c, rfl, hc⟩ := hv
  obtain ⟨b0, off, rfl, x0, x1⟩ := hc 0 a rfl
  obtain ⟨b0', off', e', z0, z1⟩ := hc 1 b rfl
  obtain ⟨rfl, rfl⟩ : b0 = b0' ∧ off = off' := by simpa using e'
  obtain ⟨ak, an⟩ := a
  obtain ⟨bk, bn⟩ := b
  unfold Sm at ha hb
  simp only [Nat.zero_mul, Nat.add_zero, Nat.one_mul] at x0 x1 z0 z1
  have hb0 : b0 < w.heap.size := cell_lt x0
  clear hc hl e'
  go_enter Tryz.func12, Tryz.ntmps12
  go_wp2_with (go_at_call 28; refine (truth_any _ _).mono ?_; rintro e w' ⟨rfl, rfl⟩)
  go_returns
  refine ⟨by first | rfl | simp [*], ?_⟩
  go_grown
set_option maxRecDepth 100000 in
set_option maxHeartbeats 1000000 in
theorem apply_lt (op : ByteArray) (w : World) (ht : op.toList = [60]) (v : Value) (a b : Int × Int) (hv : ValsAt w v [a, b]) (ha : Sm a.2) (hb : Sm b.2) :
    Calls Tryz.prog 12 #[.string op, v] w fun e w' => e = .returned (.tuple #[.agg #[.int .i64 1, .int .i64 (truthI (decide (a.2 < b.2)))], .bool false]) ∧ Below w.heap.size w w' := by
  obtain ⟨hl, o, c, rfl, hc⟩ := hv
  obtain ⟨b0, off, rfl, x0, x1⟩ := hc 0 a rfl
  obtain ⟨b0', off', e', z0, z1⟩ := hc 1 b rfl
  obtain ⟨rfl, rfl⟩ : b0 = b0' ∧ off = off' := by simpa using e'
  obtain ⟨ak, an⟩ := a
  obtain ⟨bk, bn⟩ := b
  unfold Sm at ha hb
  simp only [Nat.zero_mul, Nat.add_zero, Nat.one_mul] at x0 x1 z0 z1
  have hb0 : b0 < w.heap.size := cell_lt x0
  clear hc hl e'
  go_enter Tryz.func12, Tryz.ntmps12
  go_wp2_with (go_at_call 28; refine (truth_any _ _).mono ?_; rintro e w' ⟨rfl, rfl⟩)
  go_returns
  refine ⟨by first | rfl | simp [*], ?_⟩
  go_grown
set_option maxRecDepth 100000 in
set_option maxHeartbeats 1000000 in
theorem apply_le (op : ByteArray) (w : World) (ht : op.toList = [60, 61]) (v : Value) (a b : Int × Int) (hv : ValsAt w v [a, b]) (ha : Sm a.2) (hb : Sm b.2) :
    Calls Tryz.prog 12 #[.string op, v] w fun e w' => e = .returned (.tuple #[.agg #[.int .i64 1, .int .i64 (truthI (decide (a.2 ≤ b.2)))], .bool false]) ∧ Below w.heap.size w w' := by
  obtain ⟨hl, o, c, rfl, hc⟩ := hv
  obtain ⟨b0, off, rfl, x0, x1⟩ := hc 0 a rfl
  obtain ⟨b0', off', e', z0, z1⟩ := hc 1 b rfl
  obtain ⟨rfl, rfl⟩ : b0 = b0' ∧ off = off' := by simpa using e'
  obtain ⟨ak, an⟩ := a
  obtain ⟨bk, bn⟩ := b
  unfold Sm at ha hb
  simp only [Nat.zero_mul, Nat.add_zero, Nat.one_mul] at x0 x1 z0 z1
  have hb0 : b0 < w.heap.size := cell_lt x0
  clear hc hl e'
  go_enter Tryz.func12, Tryz.ntmps12
  go_wp2_with (go_at_call 28; refine (truth_any _ _).mono ?_; rintro e w' ⟨rfl, rfl⟩)
  go_returns
  refine ⟨by first | rfl | simp [*], ?_⟩
  go_grown
set_option maxRecDepth 100000 in
set_option maxHeartbeats 1000000 in
theorem apply_gt (op : ByteArray) (w : World) (ht : op.toList = [62]) (v : Value) (a b : Int × Int) (hv : ValsAt w v [a, b]) (ha : Sm a.2) (hb : Sm b.2) :
    Calls Tryz.prog 12 #[.string op, v] w fun e w' => e = .returned (.tuple #[.agg #[.int .i64 1, .int .i64 (truthI (decide (b.2 < a.2)))], .bool false]) ∧ Below w.heap.size w w' := by
  obtain ⟨hl, o, c, rfl, hc⟩ := hv
  obtain ⟨b0, off, rfl, x0, x1⟩ := hc 0 a rfl
  obtain ⟨b0', off', e', z0, z1⟩ := hc 1 b rfl
  obtain ⟨rfl, rfl⟩ : b0 = b0' ∧ off = off' := by simpa using e'
  obtain ⟨ak, an⟩ := a
  obtain ⟨bk, bn⟩ := b
  unfold Sm at ha hb
  simp only [Nat.zero_mul, Nat.add_zero, Nat.one_mul] at x0 x1 z0 z1
  have hb0 : b0 < w.heap.size := cell_lt x0
  clear hc hl e'
  go_enter Tryz.func12, Tryz.ntmps12
  go_wp2_with (go_at_call 28; refine (truth_any _ _).mono ?_; rintro e w' ⟨rfl, rfl⟩)
  go_returns
  refine ⟨by first | rfl | simp [*], ?_⟩
  go_grown
set_option maxRecDepth 100000 in
set_option maxHeartbeats 1000000 in
theorem apply_ge (op : ByteArray) (w : World) (ht : op.toList = [62, 61]) (v : Value) (a b : Int × Int) (hv : ValsAt w v [a, b]) (ha : Sm a.2) (hb : Sm b.2) :
    Calls Tryz.prog 12 #[.string op, v] w fun e w' => e = .returned (.tuple #[.agg #[.int .i64 1, .int .i64 (truthI (decide (b.2 ≤ a.2)))], .bool false]) ∧ Below w.heap.size w w' := by
  obtain ⟨hl, o, c, rfl, hc⟩ := hv
  obtain ⟨b0, off, rfl, x0, x1⟩ := hc 0 a rfl
  obtain ⟨b0', off', e', z0, z1⟩ := hc 1 b rfl
  obtain ⟨rfl, rfl⟩ : b0 = b0' ∧ off = off' := by simpa using e'
  obtain ⟨ak, an⟩ := a
  obtain ⟨bk, bn⟩ := b
  unfold Sm at ha hb
  simp only [Nat.zero_mul, Nat.add_zero, Nat.one_mul] at x0 x1 z0 z1
  have hb0 : b0 < w.heap.size := cell_lt x0
  clear hc hl e'
  go_enter Tryz.func12, Tryz.ntmps12
  go_wp2_with (go_at_call 28; refine (truth_any _ _).mono ?_; rintro e w' ⟨rfl, rfl⟩)
  go_returns
  refine ⟨by first | rfl | simp [*], ?_⟩
  go_grown
set_option maxRecDepth 100000 in
set_option maxHeartbeats 1000000 in
theorem apply_add (op : ByteArray) (w : World) (ht : op.toList = [43]) (v : Value) (a b : Int × Int) (hv : ValsAt w v [a, b]) (ha : Sm a.2) (hb : Sm b.2) :
    Calls Tryz.prog 12 #[.string op, v] w fun e w' => e = .returned (.tuple #[.agg #[.int .i64 2, .int .i64 (aroundI (a.2 + b.2))], .bool false]) ∧ Below w.heap.size w w' := by
  obtain ⟨hl, o, c, rfl, hc⟩ := hv
  obtain ⟨b0, off, rfl, x0, x1⟩ := hc 0 a rfl
  obtain ⟨b0', off', e', z0, z1⟩ := hc 1 b rfl
  obtain ⟨rfl, rfl⟩ : b0 = b0' ∧ off = off' := by simpa using e'
  obtain ⟨ak, an⟩ := a
  obtain ⟨bk, bn⟩ := b
  unfold Sm at ha hb
  simp only [Nat.zero_mul, Nat.add_zero, Nat.one_mul] at x0 x1 z0 z1
  have hb0 : b0 < w.heap.size := cell_lt x0
  clear hc hl e'
  go_enter Tryz.func12, Tryz.ntmps12
  go_wp2_with (go_at_call 29; refine (around_any _ _).mono ?_; rintro e w' ⟨rfl, rfl⟩)
  go_returns
  refine ⟨by first | rfl | simp [*], ?_⟩
  go_grown
set_option maxRecDepth 100000 in
set_option maxHeartbeats 1000000 in
theorem apply_sub (op : ByteArray) (w : World) (ht : op.toList = [45]) (v : Value) (a b : Int × Int) (hv : ValsAt w v [a, b]) (ha : Sm a.2) (hb : Sm b.2) :
    Calls Tryz.prog 12 #[.string op, v] w fun e w' => e = .returned (.tuple #[.agg #[.int .i64 2, .int .i64 (aroundI (a.2 - b.2))], .bool false]) ∧ Below w.heap.size w w' := by
  obtain ⟨hl, o, c, rfl, hc⟩ := hv
  obtain ⟨b0, off, rfl, x0, x1⟩ := hc 0 a rfl
  obtain ⟨b0', off', e', z0, z1⟩ := hc 1 b rfl
  obtain ⟨rfl, rfl⟩ : b0 = b0' ∧ off = off' := by simpa using e'
  obtain ⟨ak, an⟩ := a
  obtain ⟨bk, bn⟩ := b
  unfold Sm at ha hb
  simp only [Nat.zero_mul, Nat.add_zero, Nat.one_mul] at x0 x1 z0 z1
  have hb0 : b0 < w.heap.size := cell_lt x0
  clear hc hl e'
  go_enter Tryz.func12, Tryz.ntmps12
  go_wp2_with (go_at_call 29; refine (around_any _ _).mono ?_; rintro e w' ⟨rfl, rfl⟩)
  go_returns
  refine ⟨by first | rfl | simp [*], ?_⟩
  go_grown
set_option maxRecDepth 100000 in
set_option maxHeartbeats 1000000 in
theorem apply_mul (op : ByteArray) (w : World) (ht : op.toList = [42]) (v : Value) (a b : Int × Int) (hv : ValsAt w v [a, b]) (ha : Sm a.2) (hb : Sm b.2) :
    Calls Tryz.prog 12 #[.string op, v] w fun e w' => e = .returned (.tuple #[.agg #[.int .i64 2, .int .i64 (aroundI (a.2 * b.2))], .bool false]) ∧ Below w.heap.size w w' := by
  obtain ⟨hl, o, c, rfl, hc⟩ := hv
  obtain ⟨b0, off, rfl, x0, x1⟩ := hc 0 a rfl
  obtain ⟨b0', off', e', z0, z1⟩ := hc 1 b rfl
  obtain ⟨rfl, rfl⟩ : b0 = b0' ∧ off = off' := by simpa using e'
  obtain ⟨ak, an⟩ := a
  obtain ⟨bk, bn⟩ := b
  unfold Sm at ha hb
  simp only [Nat.zero_mul, Nat.add_zero, Nat.one_mul] at x0 x1 z0 z1
  have hb0 : b0 < w.heap.size := cell_lt x0
  clear hc hl e'
  have hm := mul_small ha hb
  simp only at hm
  go_enter Tryz.func12, Tryz.ntmps12
  go_wp2_with (go_at_call 29; refine (around_any _ _).mono ?_; rintro e w' ⟨rfl, rfl⟩)
  go_returns
  refine ⟨by first | rfl | simp [*], ?_⟩
  go_grown
set_option maxRecDepth 100000 in
set_option maxHeartbeats 1000000 in
theorem apply_not (op : ByteArray) (w : World) (ht : op.toList = [110, 111, 116]) (v : Value) (a : Int × Int) (hv : ValsAt w v [a]) (ha : Sm a.2) :
    Calls Tryz.prog 12 #[.string op, v] w fun e w' => e = .returned (.tuple #[.agg #[.int .i64 1, .int .i64 (truthI (a.2 == 0))], .bool false]) ∧ Below w.heap.size w w' := by
  obtain ⟨hl, o, c, rfl, hc⟩ := hv
  obtain ⟨b0, off, rfl, x0, x1⟩ := hc 0 a rfl
  obtain ⟨ak, an⟩ := a
  unfold Sm at ha
  simp only [Nat.zero_mul, Nat.add_zero] at x0 x1
  have hb0 : b0 < w.heap.size := cell_lt x0
  clear hc hl
  go_enter Tryz.func12, Tryz.ntmps12
  go_wp2_with (go_at_call 28; refine (truth_any _ _).mono ?_; rintro e w' ⟨rfl, rfl⟩)
  go_returns
  refine ⟨by first | rfl | simp [*], ?_⟩
  go_grown
set_option maxRecDepth 100000 in
set_option maxHeartbeats 1000000 in
theorem apply_neg (op : ByteArray) (w : World) (ht : op.toList = [110, 101, 103]) (v : Value) (a : Int × Int) (hv : ValsAt w v [a]) (ha : Sm a.2) :
    Calls Tryz.prog 12 #[.string op, v] w fun e w' => e = .returned (.tuple #[.agg #[.int .i64 2, .int .i64 (aroundI (256 - a.2))], .bool false]) ∧ Below w.heap.size w w' := by
  obtain ⟨hl, o, c, rfl, hc⟩ := hv
  obtain ⟨b0, off, rfl, x0, x1⟩ := hc 0 a rfl
  obtain ⟨ak, an⟩ := a
  unfold Sm at ha
  simp only [Nat.zero_mul, Nat.add_zero] at x0 x1
  have hb0 : b0 < w.heap.size := cell_lt x0
  clear hc hl
  go_enter Tryz.func12, Tryz.ntmps12
  go_wp2_with (go_at_call 29; refine (around_any _ _).mono ?_; rintro e w' ⟨rfl, rfl⟩)
  go_returns
  refine ⟨by first | rfl | simp [*], ?_⟩
  go_grown
set_option maxRecDepth 100000 in
set_option maxHeartbeats 1000000 in
theorem apply_if (op : ByteArray) (w : World) (ht : op.toList = [105, 102]) (v : Value) (a b d : Int × Int) (hv : ValsAt w v [a, b, d]) :
    Calls Tryz.prog 12 #[.string op, v] w fun e w' => e = .returned (.tuple #[if a.2 = 1 then .agg #[.int .i64 b.1, .int .i64 b.2] else .agg #[.int .i64 d.1, .int .i64 d.2], .bool false]) ∧ Below w.heap.size w w' := by
  obtain ⟨hl, o, c, rfl, hc⟩ := hv
  obtain ⟨b0, off, rfl, x0, x1⟩ := hc 0 a rfl
  obtain ⟨b0', off', e', y0, y1⟩ := hc 1 b rfl
  obtain ⟨rfl, rfl⟩ : b0 = b0' ∧ off = off' := by simpa using e'
  obtain ⟨b0', off', e'', z0, z1⟩ := hc 2 d rfl
  obtain ⟨rfl, rfl⟩ : b0 = b0' ∧ off = off' := by simpa using e''
  obtain ⟨ak, an⟩ := a
  obtain ⟨bk, bn⟩ := b
  obtain ⟨dk, dn⟩ := d
  simp only [Nat.zero_mul, Nat.add_zero, Nat.one_mul, Nat.reduceMul] at x0 x1 y0 y1 z0 z1
  have hb0 : b0 < w.heap.size := cell_lt x0
  have hb1 : b0 < w.heap.size + 1 := by omega
  have hb2 : b0 < w.heap.size + 1 + 1 := by omega
  clear hc hl e' e''
  by_cases ha : an = 1
  · subst ha
    go_enter Tryz.func12, Tryz.ntmps12
    go_wp2
    go_returns
    refine ⟨by simp, ?_⟩
    go_grown
  · have d1 : (an == 1) = false := beq_eq_false_iff_ne.2 ha
    have E : Hid ((if an = 1 then Value.agg #[.int .i64 bk, .int .i64 bn] else .agg #[.int .i64 dk, .int .i64 dn]) = .agg #[.int .i64 dk, .int .i64 dn]) := if_neg ha
    go_enter Tryz.func12, Tryz.ntmps12
    go_wp2
    go_returns
    refine ⟨by first | rfl | rw [E.out], ?_⟩
    go_grown
set_option maxRecDepth 100000 in
set_option maxHeartbeats 1000000 in
theorem apply_div (op : ByteArray) (w : World) (ht : op.toList = [47]) (v : Value) (a b : Int × Int) (hv : ValsAt w v [a, b]) (ha : Sm a.2) (hb : Sm b.2) (h0 : b.2 ≠ 0) :
    Calls Tryz.prog 12 #[.string op, v] w fun e w' => e = .returned (.tuple #[.agg #[.int .i64 2, .int .i64 (aroundI (a.2.tdiv b.2))], .bool false]) ∧ Below w.heap.size w w' := by
  obtain ⟨hl, o, c, rfl, hc⟩ := hv
  obtain ⟨b0, off, rfl, x0, x1⟩ := hc 0 a rfl
  obtain ⟨b0', off', e', z0, z1⟩ := hc 1 b rfl
  obtain ⟨rfl, rfl⟩ : b0 = b0' ∧ off = off' := by simpa using e'
  obtain ⟨ak, an⟩ := a
  obtain ⟨bk, bn⟩ := b
  unfold Sm at ha hb
  simp only [Nat.zero_mul, Nat.add_zero, Nat.one_mul] at x0 x1 z0 z1
  have hb0 : b0 < w.heap.size := cell_lt x0
  clear hc hl e'
  have d0 : (bn == 0) = false := beq_eq_false_iff_ne.2 h0
  have hq : -129 < an.tdiv bn ∧ an.tdiv bn < 129 := by
    have h1 := Int.natAbs_tdiv_le_natAbs an bn
    omega
  have hm := mul_small (x := an.tdiv bn) (y := bn) hq hb
  have e1 : wrap64 (an.tdiv bn) = an.tdiv bn := by unfold wrap64; omega
  have e2 : wrap64 (an.tdiv bn * bn) = an.tdiv bn * bn := by unfold wrap64; omega
  have e3 : wrap64 (an - an.tdiv bn * bn) = an - an.tdiv bn * bn := by unfold wrap64; omega
  simp only at h0
  go_enter Tryz.func12, Tryz.ntmps12
  go_wp2_with (go_at_call 29; refine (around_any _ _).mono ?_; rintro e w' ⟨rfl, rfl⟩)
  go_returns
  refine ⟨by first | rfl | simp [*], ?_⟩
  go_grown
set_option maxRecDepth 100000 in
set_option maxHeartbeats 1000000 in
theorem apply_div0 (op : ByteArray) (w : World) (ht : op.toList = [47]) (v : Value) (a b : Int × Int) (hv : ValsAt w v [a, b]) (ha : Sm a.2) (hb : Sm b.2) (h0 : b.2 = 0) :
    Calls Tryz.prog 12 #[.string op, v] w fun e w' => e = .returned (.tuple #[.agg #[.int .i64 0, .int .i64 0], .bool true]) ∧ Below w.heap.size w w' := by
  obtain ⟨hl, o, c, rfl, hc⟩ := hv
  obtain ⟨b0, off, rfl, x0, x1⟩ := hc 0 a rfl
  obtain ⟨b0', off', e', z0, z1⟩ := hc 1 b rfl
  obtain ⟨rfl, rfl⟩ : b0 = b0' ∧ off = off' := by simpa using e'
  obtain ⟨ak, an⟩ := a
  obtain ⟨bk, bn⟩ := b
  unfold Sm at ha hb
  simp only [Nat.zero_mul, Nat.add_zero, Nat.one_mul] at x0 x1 z0 z1
  have hb0 : b0 < w.heap.size := cell_lt x0
  clear hc hl e'
  simp only at h0
  subst h0
  go_enter Tryz.func12, Tryz.ntmps12
  go_wp2
  go_returns
  refine ⟨by first | rfl | simp [*], ?_⟩
  go_grown
set_option maxRecDepth 100000 in
set_option maxHeartbeats 1000000 in
theorem apply_mod0 (op : ByteArray) (w : World) (ht : op.toList = [109, 111, 100]) (v : Value) (a b : Int × Int) (hv : ValsAt w v [a, b]) (ha : Sm a.2) (hb : Sm b.2) (h0 : b.2 = 0) :
    Calls Tryz.prog 12 #[.string op, v] w fun e w' => e = .returned (.tuple #[.agg #[.int .i64 0, .int .i64 0], .bool true]) ∧ Below w.heap.size w w' := by
  obtain ⟨hl, o, c, rfl, hc⟩ := hv
  obtain ⟨b0, off, rfl, x0, x1⟩ := hc 0 a rfl
  obtain ⟨b0', off', e', z0, z1⟩ := hc 1 b rfl
  obtain ⟨rfl, rfl⟩ : b0 = b0' ∧ off = off' := by simpa using e'
  obtain ⟨ak, an⟩ := a
  obtain ⟨bk, bn⟩ := b
  unfold Sm at ha hb
  simp only [Nat.zero_mul, Nat.add_zero, Nat.one_mul] at x0 x1 z0 z1
  have hb0 : b0 < w.heap.size := cell_lt x0
  clear hc hl e'
  simp only at h0
  subst h0
  go_enter Tryz.func12, Tryz.ntmps12
  go_wp2
  go_returns
  refine ⟨by first | rfl | simp [*], ?_⟩
  go_grown
end Go.Proofs.YtpiglmaojonbnaaGreatDoor
