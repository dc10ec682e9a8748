/-
  THE DOCUMENT's OPERATORS: ApplyOf BY CONTRACT, operator by operator.
-/
import Derived.Test.YtiejfopholdbnaaGreatDoorQ01
import Derived.Deep.RegionHeld
import Derived.Test.YtiejfopholdbnaaGreatDoorProg
namespace Go.Proofs.YtiejfopholdbnaaGreatDoor
open Go.RowKit
set_option maxRecDepth 100000
set_option maxHeartbeats 1000000

def Sm (n : Int) : Prop := -129 < n ∧ n < 129
theorem mul_small {x y : Int} (hx : -129 < x ∧ x < 129) (hy : -129 < y ∧ y < 129) : -16641 < x * y ∧ x * y < 16641 := by
 have h1 : x.natAbs * y.natAbs ≤ 128 * 128 := Nat.mul_le_mul (by omega) (by omega)
 have h2 : (x * y).natAbs = x.natAbs * y.natAbs := Int.natAbs_mul x y
 omega
theorem apply_and (op : ByteArray) (w : World) (ht : op.toList = [97, 110, 100]) (v : Value) (a b : Int × Int) (hv : ValsAt w v [a, b]) (ha : Sm a.2) (hb : Sm b.2) :
  Calls Tryz.prog 30 #[.string op, v] w fun e w' => e = .returned (.tuple #[.agg #[.int .i64 1, .int .i64 (truthI (a.2 + b.2 == 2))], .bool false]) ∧ Below w.heap.size w w' := by
 obtain ⟨hl, o, c, rfl, hc⟩ := hv
 obtain ⟨b0, off, rfl, x0, x1⟩ := hc 0 a rfl
 obtain ⟨b0', off', e', z0, z1⟩ := hc 1 b rfl
 obtain ⟨rfl, rfl⟩ : b0 = b0' ∧ off = off' := by simpa using e'
 obtain ⟨ak, an⟩ := a
 obtain ⟨bk, bn⟩ := b
 unfold Sm at ha hb
 simp only [Nat.zero_mul, Nat.add_zero, Nat.one_mul] at x0 x1 z0 z1
 have hb0 : b0 < w.heap.size := cell_lt x0
 clear hc hl e'
 go_enter Tryz.func30, Tryz.ntmps30
 go_wp2_with (go_at_call 71; refine (truth_any _ _).mono ?_; rintro e w' ⟨rfl, rfl⟩)
 go_returns
 refine ⟨by first | rfl | simp [*], ?_⟩
 go_grown
theorem apply_or (op : ByteArray) (w : World) (ht : op.toList = [111, 114]) (v : Value) (a b : Int × Int) (hv : ValsAt w v [a, b]) (ha : Sm a.2) (hb : Sm b.2) :
  Calls Tryz.prog 30 #[.string op, v] w fun e w' => e = .returned (.tuple #[.agg #[.int .i64 1, .int .i64 (truthI (decide (0 < a.2 + b.2)))], .bool false]) ∧ Below w.heap.size w w' := by
 obtain ⟨hl, o, c, rfl, hc⟩ := hv
 obtain ⟨b0, off, rfl, x0, x1⟩ := hc 0 a rfl
 obtain ⟨b0', off', e', z0, z1⟩ := hc 1 b rfl
 obtain ⟨rfl, rfl⟩ : b0 = b0' ∧ off = off' := by simpa using e'
 obtain ⟨ak, an⟩ := a
 obtain ⟨bk, bn⟩ := b
 unfold Sm at ha hb
 simp only [Nat.zero_mul, Nat.add_zero, Nat.one_mul] at x0 x1 z0 z1
 have hb0 : b0 < w.heap.size := cell_lt x0
 clear hc hl e'
 go_enter Tryz.func30, Tryz.ntmps30
 go_wp2_with (go_at_call 71; refine (truth_any _ _).mono ?_; rintro e w' ⟨rfl, rfl⟩)
 go_returns
 refine ⟨by first | rfl | simp [*], ?_⟩
 go_grown
theorem apply_xor (op : ByteArray) (w : World) (ht : op.toList = [120, 111, 114]) (v : Value) (a b : Int × Int) (hv : ValsAt w v [a, b]) (ha : Sm a.2) (hb : Sm b.2) :
  Calls Tryz.prog 30 #[.string op, v] w fun e w' => e = .returned (.tuple #[.agg #[.int .i64 1, .int .i64 (truthI (a.2 + b.2 == 1))], .bool false]) ∧ Below w.heap.size w w' := by
 obtain ⟨hl, o, c, rfl, hc⟩ := hv
 obtain ⟨b0, off, rfl, x0, x1⟩ := hc 0 a rfl
 obtain ⟨b0', off', e', z0, z1⟩ := hc 1 b rfl
 obtain ⟨rfl, rfl⟩ : b0 = b0' ∧ off = off' := by simpa using e'
 obtain ⟨ak, an⟩ := a
 obtain ⟨bk, bn⟩ := b
 unfold Sm at ha hb
 simp only [Nat.zero_mul, Nat.add_zero, Nat.one_mul] at x0 x1 z0 z1
 have hb0 : b0 < w.heap.size := cell_lt x0
 clear hc hl e'
 go_enter Tryz.func30, Tryz.ntmps30
 go_wp2_with (go_at_call 71; refine (truth_any _ _).mono ?_; rintro e w' ⟨rfl, rfl⟩)
 go_returns
 refine ⟨by first | rfl | simp [*], ?_⟩
 go_grown
theorem apply_imp (op : ByteArray) (w : World) (ht : op.toList = [61, 62]) (v : Value) (a b : Int × Int) (hv : ValsAt w v [a, b]) (ha : Sm a.2) (hb : Sm b.2) :
  Calls Tryz.prog 30 #[.string op, v] w fun e w' => e = .returned (.tuple #[.agg #[.int .i64 1, .int .i64 (truthI (decide (a.2 ≤ b.2)))], .bool false]) ∧ Below w.heap.size w w' := by
 obtain ⟨hl, o, c, rfl, hc⟩ := hv
 obtain ⟨b0, off, rfl, x0, x1⟩ := hc 0 a rfl
 obtain ⟨b0', off', e', z0, z1⟩ := hc 1 b rfl
 obtain ⟨rfl, rfl⟩ : b0 = b0' ∧ off = off' := by simpa using e'
 obtain ⟨ak, an⟩ := a
 obtain ⟨bk, bn⟩ := b
 unfold Sm at ha hb
 simp only [Nat.zero_mul, Nat.add_zero, Nat.one_mul] at x0 x1 z0 z1
 have hb0 : b0 < w.heap.size := cell_lt x0
 clear hc hl e'
 go_enter Tryz.func30, Tryz.ntmps30
 go_wp2_with (go_at_call 71; refine (truth_any _ _).mono ?_; rintro e w' ⟨rfl, rfl⟩)
 go_returns
 refine ⟨by first | rfl | simp [*], ?_⟩
 go_grown
theorem apply_eq (op : ByteArray) (w : World) (ht : op.toList = [61]) (v : Value) (a b : Int × Int) (hv : ValsAt w v [a, b]) (ha : Sm a.2) (hb : Sm b.2) :
  Calls Tryz.prog 30 #[.string op, v] w fun e w' => e = .returned (.tuple #[.agg #[.int .i64 1, .int .i64 (truthI (a.2 == b.2))], .bool false]) ∧ Below w.heap.size w w' := by
 obtain ⟨hl, o, c, rfl, hc⟩ := hv
 obtain ⟨b0, off, rfl, x0, x1⟩ := hc 0 a rfl
 obtain ⟨b0', off', e', z0, z1⟩ := hc 1 b rfl
 obtain ⟨rfl, rfl⟩ : b0 = b0' ∧ off = off' := by simpa using e'
 obtain ⟨ak, an⟩ := a
 obtain ⟨bk, bn⟩ := b
 unfold Sm at ha hb
 simp only [Nat.zero_mul, Nat.add_zero, Nat.one_mul] at x0 x1 z0 z1
 have hb0 : b0 < w.heap.size := cell_lt x0
 clear hc hl e'
 go_enter Tryz.func30, Tryz.ntmps30
 go_wp2_with (go_at_call 71; refine (truth_any _ _).mono ?_; rintro e w' ⟨rfl, rfl⟩)
 go_returns
 refine ⟨by first | rfl | simp [*], ?_⟩
 go_grown
theorem apply_ne (op : ByteArray) (w : World) (ht : op.toList = [60, 62]) (v : Value) (a b : Int × Int) (hv : ValsAt w v [a, b]) (ha : Sm a.2) (hb : Sm b.2) :
  Calls Tryz.prog 30 #[.string op, v] w fun e w' => e = .returned (.tuple #[.agg #[.int .i64 1, .int .i64 (truthI (a.2 != b.2))], .bool false]) ∧ Below w.heap.size w w' := by
 obtain ⟨hl, o, c, rfl, hc⟩ := hv
 obtain ⟨b0, off, rfl, x0, x1⟩ := hc 0 a rfl
 obtain ⟨b0', off', e', z0, z1⟩ := hc 1 b rfl
 obtain ⟨rfl, rfl⟩ : b0 = b0' ∧ off = off' := by simpa using e'
 obtain ⟨ak, an⟩ := a
 obtain ⟨bk, bn⟩ := b
 unfold Sm at ha hb
 simp only [Nat.zero_mul, Nat.add_zero, Nat.one_mul] at x0 x1 z0 z1
 have hb0 : b0 < w.heap.size := cell_lt x0
 clear hc hl e'
 go_enter Tryz.func30, Tryz.ntmps30
 go_wp2_with (go_at_call 71; refine (truth_any _ _).mono ?_; rintro e w' ⟨rfl, rfl⟩)
 go_returns
 refine ⟨by first | rfl | simp [*], ?_⟩
 go_grown
theorem apply_lt (op : ByteArray) (w : World) (ht : op.toList = [60]) (v : Value) (a b : Int × Int) (hv : ValsAt w v [a, b]) (ha : Sm a.2) (hb : Sm b.2) :
  Calls Tryz.prog 30 #[.string op, v] w fun e w' => e = .returned (.tuple #[.agg #[.int .i64 1, .int .i64 (truthI (decide (a.2 < b.2)))], .bool false]) ∧ Below w.heap.size w w' := by
 obtain ⟨hl, o, c, rfl, hc⟩ := hv
 obtain ⟨b0, off, rfl, x0, x1⟩ := hc 0 a rfl
 obtain ⟨b0', off', e', z0, z1⟩ := hc 1 b rfl
 obtain ⟨rfl, rfl⟩ : b0 = b0' ∧ off = off' := by simpa using e'
 obtain ⟨ak, an⟩ := a
 obtain ⟨bk, bn⟩ := b
 unfold Sm at ha hb
 simp only [Nat.zero_mul, Nat.add_zero, Nat.one_mul] at x0 x1 z0 z1
 have hb0 : b0 < w.heap.size := cell_lt x0
 clear hc hl e'
 go_enter Tryz.func30, Tryz.ntmps30
 go_wp2_with (go_at_call 71; refine (truth_any _ _).mono ?_; rintro e w' ⟨rfl, rfl⟩)
 go_returns
 refine ⟨by first | rfl | simp [*], ?_⟩
 go_grown
theorem apply_le (op : ByteArray) (w : World) (ht : op.toList = [60, 61]) (v : Value) (a b : Int × Int) (hv : ValsAt w v [a, b]) (ha : Sm a.2) (hb : Sm b.2) :
  Calls Tryz.prog 30 #[.string op, v] w fun e w' => e = .returned (.tuple #[.agg #[.int .i64 1, .int .i64 (truthI (decide (a.2 ≤ b.2)))], .bool false]) ∧ Below w.heap.size w w' := by
 obtain ⟨hl, o, c, rfl, hc⟩ := hv
 obtain ⟨b0, off, rfl, x0, x1⟩ := hc 0 a rfl
 obtain ⟨b0', off', e', z0, z1⟩ := hc 1 b rfl
 obtain ⟨rfl, rfl⟩ : b0 = b0' ∧ off = off' := by simpa using e'
 obtain ⟨ak, an⟩ := a
 obtain ⟨bk, bn⟩ := b
 unfold Sm at ha hb
 simp only [Nat.zero_mul, Nat.add_zero, Nat.one_mul] at x0 x1 z0 z1
 have hb0 : b0 < w.heap.size := cell_lt x0
 clear hc hl e'
 go_enter Tryz.func30, Tryz.ntmps30
 go_wp2_with (go_at_call 71; refine (truth_any _ _).mono ?_; rintro e w' ⟨rfl, rfl⟩)
 go_returns
 refine ⟨by first | rfl | simp [*], ?_⟩
 go_grown
theorem apply_gt (op : ByteArray) (w : World) (ht : op.toList = [62]) (v : Value) (a b : Int × Int) (hv : ValsAt w v [a, b]) (ha : Sm a.2) (hb : Sm b.2) :
  Calls Tryz.prog 30 #[.string op, v] w fun e w' => e = .returned (.tuple #[.agg #[.int .i64 1, .int .i64 (truthI (decide (b.2 < a.2)))], .bool false]) ∧ Below w.heap.size w w' := by
 obtain ⟨hl, o, c, rfl, hc⟩ := hv
 obtain ⟨b0, off, rfl, x0, x1⟩ := hc 0 a rfl
 obtain ⟨b0', off', e', z0, z1⟩ := hc 1 b rfl
 obtain ⟨rfl, rfl⟩ : b0 = b0' ∧ off = off' := by simpa using e'
 obtain ⟨ak, an⟩ := a
 obtain ⟨bk, bn⟩ := b
 unfold Sm at ha hb
 simp only [Nat.zero_mul, Nat.add_zero, Nat.one_mul] at x0 x1 z0 z1
 have hb0 : b0 < w.heap.size := cell_lt x0
 clear hc hl e'
 go_enter Tryz.func30, Tryz.ntmps30
 go_wp2_with (go_at_call 71; refine (truth_any _ _).mono ?_; rintro e w' ⟨rfl, rfl⟩)
 go_returns
 refine ⟨by first | rfl | simp [*], ?_⟩
 go_grown
theorem apply_ge (op : ByteArray) (w : World) (ht : op.toList = [62, 61]) (v : Value) (a b : Int × Int) (hv : ValsAt w v [a, b]) (ha : Sm a.2) (hb : Sm b.2) :
  Calls Tryz.prog 30 #[.string op, v] w fun e w' => e = .returned (.tuple #[.agg #[.int .i64 1, .int .i64 (truthI (decide (b.2 ≤ a.2)))], .bool false]) ∧ Below w.heap.size w w' := by
 obtain ⟨hl, o, c, rfl, hc⟩ := hv
 obtain ⟨b0, off, rfl, x0, x1⟩ := hc 0 a rfl
 obtain ⟨b0', off', e', z0, z1⟩ := hc 1 b rfl
 obtain ⟨rfl, rfl⟩ : b0 = b0' ∧ off = off' := by simpa using e'
 obtain ⟨ak, an⟩ := a
 obtain ⟨bk, bn⟩ := b
 unfold Sm at ha hb
 simp only [Nat.zero_mul, Nat.add_zero, Nat.one_mul] at x0 x1 z0 z1
 have hb0 : b0 < w.heap.size := cell_lt x0
 clear hc hl e'
 go_enter Tryz.func30, Tryz.ntmps30
 go_wp2_with (go_at_call 71; refine (truth_any _ _).mono ?_; rintro e w' ⟨rfl, rfl⟩)
 go_returns
 refine ⟨by first | rfl | simp [*], ?_⟩
 go_grown
theorem apply_add (op : ByteArray) (w : World) (ht : op.toList = [43]) (v : Value) (a b : Int × Int) (hv : ValsAt w v [a, b]) (ha : Sm a.2) (hb : Sm b.2) :
  Calls Tryz.prog 30 #[.string op, v] w fun e w' => e = .returned (.tuple #[.agg #[.int .i64 2, .int .i64 (aroundI (a.2 + b.2))], .bool false]) ∧ Below w.heap.size w w' := by
 obtain ⟨hl, o, c, rfl, hc⟩ := hv
 obtain ⟨b0, off, rfl, x0, x1⟩ := hc 0 a rfl
 obtain ⟨b0', off', e', z0, z1⟩ := hc 1 b rfl
 obtain ⟨rfl, rfl⟩ : b0 = b0' ∧ off = off' := by simpa using e'
 obtain ⟨ak, an⟩ := a
 obtain ⟨bk, bn⟩ := b
 unfold Sm at ha hb
 simp only [Nat.zero_mul, Nat.add_zero, Nat.one_mul] at x0 x1 z0 z1
 have hb0 : b0 < w.heap.size := cell_lt x0
 clear hc hl e'
 go_enter Tryz.func30, Tryz.ntmps30
 go_wp2_with (go_at_call 72; refine (around_any _ _).mono ?_; rintro e w' ⟨rfl, rfl⟩)
 go_returns
 refine ⟨by first | rfl | simp [*], ?_⟩
 go_grown
theorem apply_sub (op : ByteArray) (w : World) (ht : op.toList = [45]) (v : Value) (a b : Int × Int) (hv : ValsAt w v [a, b]) (ha : Sm a.2) (hb : Sm b.2) :
  Calls Tryz.prog 30 #[.string op, v] w fun e w' => e = .returned (.tuple #[.agg #[.int .i64 2, .int .i64 (aroundI (a.2 - b.2))], .bool false]) ∧ Below w.heap.size w w' := by
 obtain ⟨hl, o, c, rfl, hc⟩ := hv
 obtain ⟨b0, off, rfl, x0, x1⟩ := hc 0 a rfl
 obtain ⟨b0', off', e', z0, z1⟩ := hc 1 b rfl
 obtain ⟨rfl, rfl⟩ : b0 = b0' ∧ off = off' := by simpa using e'
 obtain ⟨ak, an⟩ := a
 obtain ⟨bk, bn⟩ := b
 unfold Sm at ha hb
 simp only [Nat.zero_mul, Nat.add_zero, Nat.one_mul] at x0 x1 z0 z1
 have hb0 : b0 < w.heap.size := cell_lt x0
 clear hc hl e'
 go_enter Tryz.func30, Tryz.ntmps30
 go_wp2_with (go_at_call 72; refine (around_any _ _).mono ?_; rintro e w' ⟨rfl, rfl⟩)
 go_returns
 refine ⟨by first | rfl | simp [*], ?_⟩
 go_grown
theorem apply_mul (op : ByteArray) (w : World) (ht : op.toList = [42]) (v : Value) (a b : Int × Int) (hv : ValsAt w v [a, b]) (ha : Sm a.2) (hb : Sm b.2) :
  Calls Tryz.prog 30 #[.string op, v] w fun e w' => e = .returned (.tuple #[.agg #[.int .i64 2, .int .i64 (aroundI (a.2 * b.2))], .bool false]) ∧ Below w.heap.size w w' := by
 obtain ⟨hl, o, c, rfl, hc⟩ := hv
 obtain ⟨b0, off, rfl, x0, x1⟩ := hc 0 a rfl
 obtain ⟨b0', off', e', z0, z1⟩ := hc 1 b rfl
 obtain ⟨rfl, rfl⟩ : b0 = b0' ∧ off = off' := by simpa using e'
 obtain ⟨ak, an⟩ := a
 obtain ⟨bk, bn⟩ := b
 unfold Sm at ha hb
 simp only [Nat.zero_mul, Nat.add_zero, Nat.one_mul] at x0 x1 z0 z1
 have hb0 : b0 < w.heap.size := cell_lt x0
 clear hc hl e'
 have hm := mul_small ha hb
 simp only at hm
 go_enter Tryz.func30, Tryz.ntmps30
 go_wp2_with (go_at_call 72; refine (around_any _ _).mono ?_; rintro e w' ⟨rfl, rfl⟩)
 go_returns
 refine ⟨by first | rfl | simp [*], ?_⟩
 go_grown
theorem apply_not (op : ByteArray) (w : World) (ht : op.toList = [110, 111, 116]) (v : Value) (a : Int × Int) (hv : ValsAt w v [a]) (ha : Sm a.2) :
  Calls Tryz.prog 30 #[.string op, v] w fun e w' => e = .returned (.tuple #[.agg #[.int .i64 1, .int .i64 (truthI (a.2 == 0))], .bool false]) ∧ Below w.heap.size w w' := by
 obtain ⟨hl, o, c, rfl, hc⟩ := hv
 obtain ⟨b0, off, rfl, x0, x1⟩ := hc 0 a rfl
 obtain ⟨ak, an⟩ := a
 unfold Sm at ha
 simp only [Nat.zero_mul, Nat.add_zero] at x0 x1
 have hb0 : b0 < w.heap.size := cell_lt x0
 clear hc hl
 go_enter Tryz.func30, Tryz.ntmps30
 go_wp2_with (go_at_call 71; refine (truth_any _ _).mono ?_; rintro e w' ⟨rfl, rfl⟩)
 go_returns
 refine ⟨by first | rfl | simp [*], ?_⟩
 go_grown
theorem apply_neg (op : ByteArray) (w : World) (ht : op.toList = [110, 101, 103]) (v : Value) (a : Int × Int) (hv : ValsAt w v [a]) (ha : Sm a.2) :
  Calls Tryz.prog 30 #[.string op, v] w fun e w' => e = .returned (.tuple #[.agg #[.int .i64 2, .int .i64 (aroundI (256 - a.2))], .bool false]) ∧ Below w.heap.size w w' := by
 obtain ⟨hl, o, c, rfl, hc⟩ := hv
 obtain ⟨b0, off, rfl, x0, x1⟩ := hc 0 a rfl
 obtain ⟨ak, an⟩ := a
 unfold Sm at ha
 simp only [Nat.zero_mul, Nat.add_zero] at x0 x1
 have hb0 : b0 < w.heap.size := cell_lt x0
 clear hc hl
 go_enter Tryz.func30, Tryz.ntmps30
 go_wp2_with (go_at_call 72; refine (around_any _ _).mono ?_; rintro e w' ⟨rfl, rfl⟩)
 go_returns
 refine ⟨by first | rfl | simp [*], ?_⟩
 go_grown
theorem apply_if (op : ByteArray) (w : World) (ht : op.toList = [105, 102]) (v : Value) (a b d : Int × Int) (hv : ValsAt w v [a, b, d]) :
  Calls Tryz.prog 30 #[.string op, v] w fun e w' => e = .returned (.tuple #[if a.2 = 1 then .agg #[.int .i64 b.1, .int .i64 b.2] else .agg #[.int .i64 d.1, .int .i64 d.2], .bool false]) ∧ Below w.heap.size w w' := by
 obtain ⟨hl, o, c, rfl, hc⟩ := hv
 obtain ⟨b0, off, rfl, x0, x1⟩ := hc 0 a rfl
 obtain ⟨b0', off', e', y0, y1⟩ := hc 1 b rfl
 obtain ⟨rfl, rfl⟩ : b0 = b0' ∧ off = off' := by simpa using e'
 obtain ⟨b0', off', e'', z0, z1⟩ := hc 2 d rfl
 obtain ⟨rfl, rfl⟩ : b0 = b0' ∧ off = off' := by simpa using e''
 obtain ⟨ak, an⟩ := a
 obtain ⟨bk, bn⟩ := b
 obtain ⟨dk, dn⟩ := d
 simp only [Nat.zero_mul, Nat.add_zero, Nat.one_mul, Nat.reduceMul] at x0 x1 y0 y1 z0 z1
 have hb0 : b0 < w.heap.size := cell_lt x0
 have hb1 : b0 < w.heap.size + 1 := by omega
 have hb2 : b0 < w.heap.size + 1 + 1 := by omega
 clear hc hl e' e''
 by_cases ha : an = 1
 ·subst ha
  go_enter Tryz.func30, Tryz.ntmps30
  go_wp2
  go_returns
  refine ⟨by simp, ?_⟩
  go_grown
 ·have d1 : (an == 1) = false := beq_eq_false_iff_ne.2 ha
  have E : Hid ((if an = 1 then Value.agg #[.int .i64 bk, .int .i64 bn] else .agg #[.int .i64 dk, .int .i64 dn]) = .agg #[.int .i64 dk, .int .i64 dn]) := if_neg ha
  go_enter Tryz.func30, Tryz.ntmps30
  go_wp2
  go_returns
  refine ⟨by first | rfl | rw [E.out], ?_⟩
  go_grown
theorem apply_div (op : ByteArray) (w : World) (ht : op.toList = [47]) (v : Value) (a b : Int × Int) (hv : ValsAt w v [a, b]) (ha : Sm a.2) (hb : Sm b.2) (h0 : b.2 ≠ 0) :
  Calls Tryz.prog 30 #[.string op, v] w fun e w' => e = .returned (.tuple #[.agg #[.int .i64 2, .int .i64 (aroundI (a.2.tdiv b.2))], .bool false]) ∧ Below w.heap.size w w' := by
 obtain ⟨hl, o, c, rfl, hc⟩ := hv
 obtain ⟨b0, off, rfl, x0, x1⟩ := hc 0 a rfl
 obtain ⟨b0', off', e', z0, z1⟩ := hc 1 b rfl
 obtain ⟨rfl, rfl⟩ : b0 = b0' ∧ off = off' := by simpa using e'
 obtain ⟨ak, an⟩ := a
 obtain ⟨bk, bn⟩ := b
 unfold Sm at ha hb
 simp only [Nat.zero_mul, Nat.add_zero, Nat.one_mul] at x0 x1 z0 z1
 have hb0 : b0 < w.heap.size := cell_lt x0
 clear hc hl e'
 have d0 : (bn == 0) = false := beq_eq_false_iff_ne.2 h0
 have hq : -129 < an.tdiv bn ∧ an.tdiv bn < 129 := by
  have h1 := Int.natAbs_tdiv_le_natAbs an bn
  omega
 have hm := mul_small (x := an.tdiv bn) (y := bn) hq hb
 have e1 : wrap64 (an.tdiv bn) = an.tdiv bn := by unfold wrap64; omega
 have e2 : wrap64 (an.tdiv bn * bn) = an.tdiv bn * bn := by unfold wrap64; omega
 have e3 : wrap64 (an - an.tdiv bn * bn) = an - an.tdiv bn * bn := by unfold wrap64; omega
 simp only at h0
 go_enter Tryz.func30, Tryz.ntmps30
 go_wp2_with (go_at_call 72; refine (around_any _ _).mono ?_; rintro e w' ⟨rfl, rfl⟩)
 go_returns
 refine ⟨by first | rfl | simp [*], ?_⟩
 go_grown
theorem apply_div0 (op : ByteArray) (w : World) (ht : op.toList = [47]) (v : Value) (a b : Int × Int) (hv : ValsAt w v [a, b]) (ha : Sm a.2) (hb : Sm b.2) (h0 : b.2 = 0) :
  Calls Tryz.prog 30 #[.string op, v] w fun e w' => e = .returned (.tuple #[.agg #[.int .i64 0, .int .i64 0], .bool true]) ∧ Below w.heap.size w w' := by
 obtain ⟨hl, o, c, rfl, hc⟩ := hv
 obtain ⟨b0, off, rfl, x0, x1⟩ := hc 0 a rfl
 obtain ⟨b0', off', e', z0, z1⟩ := hc 1 b rfl
 obtain ⟨rfl, rfl⟩ : b0 = b0' ∧ off = off' := by simpa using e'
 obtain ⟨ak, an⟩ := a
 obtain ⟨bk, bn⟩ := b
 unfold Sm at ha hb
 simp only [Nat.zero_mul, Nat.add_zero, Nat.one_mul] at x0 x1 z0 z1
 have hb0 : b0 < w.heap.size := cell_lt x0
 clear hc hl e'
 simp only at h0
 subst h0
 go_enter Tryz.func30, Tryz.ntmps30
 go_wp2
 go_returns
 refine ⟨by first | rfl | simp [*], ?_⟩
 go_grown
theorem apply_mod0 (op : ByteArray) (w : World) (ht : op.toList = [109, 111, 100]) (v : Value) (a b : Int × Int) (hv : ValsAt w v [a, b]) (ha : Sm a.2) (hb : Sm b.2) (h0 : b.2 = 0) :
  Calls Tryz.prog 30 #[.string op, v] w fun e w' => e = .returned (.tuple #[.agg #[.int .i64 0, .int .i64 0], .bool true]) ∧ Below w.heap.size w w' := by
 obtain ⟨hl, o, c, rfl, hc⟩ := hv
 obtain ⟨b0, off, rfl, x0, x1⟩ := hc 0 a rfl
 obtain ⟨b0', off', e', z0, z1⟩ := hc 1 b rfl
 obtain ⟨rfl, rfl⟩ : b0 = b0' ∧ off = off' := by simpa using e'
 obtain ⟨ak, an⟩ := a
 obtain ⟨bk, bn⟩ := b
 unfold Sm at ha hb
 simp only [Nat.zero_mul, Nat.add_zero, Nat.one_mul] at x0 x1 z0 z1
 have hb0 : b0 < w.heap.size := cell_lt x0
 clear hc hl e'
 simp only at h0
 subst h0
 go_enter Tryz.func30, Tryz.ntmps30
 go_wp2
 go_returns
 refine ⟨by first | rfl | simp [*], ?_⟩
 go_grown
set_option maxRecDepth 100000
set_option maxHeartbeats 1000000

theorem orow {w : World} (o : Obj) {k : Nat} {x : Obj} (h : w.heap[k]? = some x) : (w.alloc o).heap[k]? = some x := by
 rw [Below.heap_alloc w o k (Array.getElem?_eq_some_iff.1 h).1]; exact h
theorem cell_far2 (w : World) (p q a : Addr) (u v : Value) (h : p.block ≠ a.block) (h' : q.block ≠ a.block) : ((w.setCell p u).setCell q v).drew.cell? a = w.cell? a := by
 have e : ((w.setCell p u).setCell q v).drew.cell? a = ((w.setCell p u).setCell q v).cell? a := by simp
 rw [e, World.cell?_setCell_far _ _ _ _ h', World.cell?_setCell_far _ _ _ _ h]
theorem apply_mod (op : ByteArray) (w : World) (ht : op.toList = [109, 111, 100]) (v : Value) (a b : Int × Int) (hv : ValsAt w v [a, b]) (ha : Sm a.2) (hb : Sm b.2) (h0 : b.2 ≠ 0) :
  Calls Tryz.prog 30 #[.string op, v] w fun e w' => e = .returned (.tuple #[.agg #[.int .i64 2, .int .i64 (aroundI (a.2 - a.2.tdiv b.2 * b.2))], .bool false]) ∧ Below w.heap.size w w' := by
 obtain ⟨hl, o, c, rfl, hc⟩ := hv
 obtain ⟨b0, off, rfl, x0, x1⟩ := hc 0 a rfl
 obtain ⟨b0', off', e', z0, z1⟩ := hc 1 b rfl
 obtain ⟨rfl, rfl⟩ : b0 = b0' ∧ off = off' := by simpa using e'
 obtain ⟨ak, an⟩ := a
 obtain ⟨bk, bn⟩ := b
 unfold Sm at ha hb
 simp only [Nat.zero_mul, Nat.add_zero, Nat.one_mul] at x0 x1 z0 z1
 have hb0 : b0 < w.heap.size := cell_lt x0
 clear hc hl e'
 have d0 : (bn == 0) = false := beq_eq_false_iff_ne.2 h0
 have hq : -129 < an.tdiv bn ∧ an.tdiv bn < 129 := by
  have h1 := Int.natAbs_tdiv_le_natAbs an bn
  omega
 have hm := mul_small (x := an.tdiv bn) (y := bn) hq hb
 have e1 : wrap64 (an.tdiv bn) = an.tdiv bn := by unfold wrap64; omega
 have e2 : wrap64 (an.tdiv bn * bn) = an.tdiv bn * bn := by unfold wrap64; omega
 have e3 : wrap64 (an - an.tdiv bn * bn) = an - an.tdiv bn * bn := by unfold wrap64; omega
 simp only at h0
 go_enter Tryz.func30, Tryz.ntmps30
 obtain ⟨w3, hw3⟩ : ∃ w3, w3 = ((w.alloc (.cells #[.int .i64 0, .int .i64 0] 66)).alloc (.cells #[.int .i64 ak, .int .i64 an] 66)).alloc (.cells #[.int .i64 bk, .int .i64 bn] 66) := ⟨_, rfl⟩
 have hb3 : Below w.heap.size w w3 := by rw [hw3]; exact ((bal).alloc (by simp) _).alloc (by simp; omega) _
 have rR : w3.heap[w.heap.size]? = some (.cells #[.int .i64 0, .int .i64 0] 66 (0, 0)) := by rw [hw3]; exact orow _ (orow _ (heap_alloc_new _ _))
 have rA : w3.heap[w.heap.size + 1]? = some (.cells #[.int .i64 ak, .int .i64 an] 66 (0, 0)) := by
  rw [hw3]
  have := heap_alloc_new (w.alloc (.cells #[.int .i64 0, .int .i64 0] 66)) (.cells #[.int .i64 ak, .int .i64 an] 66)
  rw [World.size_alloc] at this
  exact orow _ this
 have rB : w3.heap[w.heap.size + 1 + 1]? = some (.cells #[.int .i64 bk, .int .i64 bn] 66 (0, 0)) := by
  rw [hw3]
  have := heap_alloc_new ((w.alloc (.cells #[.int .i64 0, .int .i64 0] 66)).alloc (.cells #[.int .i64 ak, .int .i64 an] 66)) (.cells #[.int .i64 bk, .int .i64 bn] 66)
  rw [World.size_alloc, World.size_alloc] at this
  exact this
 have s1 := cell_of_row w3 (w.heap.size + 1) (0 + 1) _ _ (0, 0) rA
 have s2 := cell_of_row w3 (w.heap.size + 1 + 1) (0 + 1) _ _ (0, 0) rB
 have s3 := cell_of_row w3 w.heap.size 0 _ _ (0, 0) rR
 have s4 := cell_of_row w3 w.heap.size (0 + 1) _ _ (0, 0) rR
 have f3 : w3.frozen? ⟨w.heap.size, 0, none⟩ = false := by simp [World.frozen?, rR]
 have f4 : w3.frozen? ⟨w.heap.size, 0 + 1, none⟩ = false := by simp [World.frozen?, rR]
 have t1 : w3.cell? ⟨w.heap.size + 1, 0 + 1, none⟩ = some (.int .i64 an) := s1
 have t2 : w3.cell? ⟨w.heap.size + 1 + 1, 0 + 1, none⟩ = some (.int .i64 bn) := s2
 have n1 : w.heap.size ≠ w.heap.size + 1 := by omega
 have n2 : w.heap.size ≠ w.heap.size + 1 + 1 := by omega
 have HW3 : Hid (w3 = _) := hw3
 have RR : Hid (w3.heap[w.heap.size]? = _) := rR
 have HB3 := hidP hb3
 clear hw3 rR rA rB hb3
 go_wp2
 rw [← HW3.out]
 clear HW3 x0 x1 z0 z1 hb0
 go_region_held (fun w' => w'.cell? ⟨w.heap.size + 1, 0 + 1, none⟩ = some (.int .i64 an) ∧ w'.cell? ⟨w.heap.size + 1 + 1, 0 + 1, none⟩ = some (.int .i64 bn)) ((first | go_keep | exact ⟨(cell_far2 w3 _ _ _ _ _ n1 n1).trans t1, (cell_far2 w3 _ _ _ _ _ n2 n2).trans t2⟩))
  (first | (go_at_call 72; refine (around_any _ _).mono ?_; rintro e w' ⟨rfl, rfl⟩))
 have ew : IntKind.i64.wrap (an - IntKind.i64.wrap (IntKind.i64.wrap (an.tdiv bn) * bn)) = an - an.tdiv bn * bn := by
  have k1 : IntKind.i64.wrap (an.tdiv bn) = an.tdiv bn := (by rw [IntKind.wrap_i64]; have := e1; unfold wrap64 at this; omega)
  have k2 : IntKind.i64.wrap (an.tdiv bn * bn) = an.tdiv bn * bn := (by rw [IntKind.wrap_i64]; have := e2; unfold wrap64 at this; omega)
  rw [k1, k2, IntKind.wrap_i64]; have := e3; unfold wrap64 at this; omega
 rw [ew]
 have hB4 : Below w.heap.size w ((w3.setCell ⟨w.heap.size, 0, none⟩ (.int .i64 2)).setCell ⟨w.heap.size, 1, none⟩ (.int .i64 (aroundI (an - an.tdiv bn * bn)))).drew := ((HB3.out.setCell (Nat.le_refl _) _).setCell (Nat.le_refl _) _).drew
 have HB4 := hidP hB4
 clear hB4
 obtain ⟨v0, hv0⟩ : ∃ v0, v0 = aroundI (an - an.tdiv bn * bn) := ⟨_, rfl⟩
 rw [← hv0] at HB4 ⊢
 have u3 : w3.cell? ⟨w.heap.size, 0, none⟩ = some (.int .i64 0) := s3
 have u4 : w3.cell? ⟨w.heap.size, 1, none⟩ = some (.int .i64 0) := s4
 obtain ⟨w4, hw4⟩ : ∃ w4, w4 = ((w3.setCell ⟨w.heap.size, 0, none⟩ (.int .i64 2)).setCell ⟨w.heap.size, 1, none⟩ (.int .i64 v0)).drew := ⟨_, rfl⟩
 rw [← hw4] at HB4 ⊢
 have p0 : w4.cell? ⟨w.heap.size, 0, none⟩ = some (.int .i64 2) := by
  rw [hw4]; exact (World.cell?_setCell_other _ _ _ _ (by simp)).trans (World.cell?_setCell_same _ _ _ u3)
 have p1 : w4.cell? ⟨w.heap.size, 1, none⟩ = some (.int .i64 v0) := by
  rw [hw4]
  exact World.cell?_setCell_same _ _ _ ((World.cell?_setCell_other _ _ _ _ (by simp)).trans u4)
 clear hw4 s1 s2 s3 s4 f3 f4 t1 t2 u3 u4 RR HB3
 go_wp2
 refine bodyPost_ret (by simp [results, Tryz.results30, go_sem, p0, p1]; try rfl) rfl ?_
 refine ⟨by rw [hv0], ?_⟩
 exact HB4.out
end Go.Proofs.YtiejfopholdbnaaGreatDoor
namespace Go.Proofs.YtiejfopholdbnaaGreatDoor
def ndA (nd : List (List Nat)) (i : Nat) : List Nat := nd[i]?.getD []
def Fre (nd : List (List Nat)) (d : List Nat) (i : Nat) : Prop := i < nd.length ∧ i ∉ d ∧ ∀ k ∈ ndA nd i, k ∈ d
inductive Grd (nd : List (List Nat)) : List Nat → Prop
 | nil : Grd nd []
 | snoc (d : List Nat) (i : Nat) : Grd nd d → Fre nd d i → (∀ j, j < i → ¬ Fre nd d j) → Grd nd (d ++ [i])
inductive Rch (nd : List (List Nat)) : Nat → Nat → Prop
 | one (i k : Nat) : k ∈ ndA nd i → Rch nd i k
 | more (i k j : Nat) : k ∈ ndA nd i → Rch nd k j → Rch nd i j
theorem Rch.snoc {nd : List (List Nat)} {i k j : Nat} (h : Rch nd i k) (hj : j ∈ ndA nd k) : Rch nd i j := by
 induction h with
 | one i k hk => exact .more i k j hk (.one k j hj)
 | more i k m hk _ ih => exact .more i k j hk (ih hj)
theorem Rch.trans {nd : List (List Nat)} {i k j : Nat} (h : Rch nd i k) (hj : Rch nd k j) : Rch nd i j := by
 induction h with
 | one i k hk => exact .more i k j hk hj
 | more i k m hk _ ih => exact .more i k j hk (ih hj)
theorem nodup_len : ∀ (l m : List Nat), l.Nodup → (∀ x ∈ l, x ∈ m) → l.length ≤ m.length
 | [], m, _, _ => Nat.zero_le _
 | x :: l, m, hn, hs => by
  have hx := hs x (List.mem_cons_self ..)
  have hn' := List.nodup_cons.1 hn
  have := nodup_len l (m.erase x) hn'.2 (fun y hy => (List.mem_erase_of_ne (fun e : y = x => hn'.1 (e ▸ hy))).2 (hs y (List.mem_cons_of_mem _ hy)))
  rw [List.length_erase_of_mem hx] at this
  have : 0 < m.length := List.length_pos_of_mem hx
  simp only [List.length_cons]
  omega
theorem Grd.lt {nd : List (List Nat)} {d : List Nat} (h : Grd nd d) : ∀ i ∈ d, i < nd.length := by
 induction h with
 | nil => intro i hi; simp at hi
 | snoc d i _ hf _ ih =>
  intro j hj
  rcases List.mem_append.1 hj with hj | hj
  ·exact ih j hj
  ·rw [List.mem_singleton.1 hj]; exact hf.1
theorem Grd.nodup {nd : List (List Nat)} {d : List Nat} (h : Grd nd d) : d.Nodup := by
 induction h with
 | nil => exact List.nodup_nil
 | snoc d i _ hf _ ih =>
  refine List.nodup_append.2 ⟨ih, by simp, fun a ha b hb => ?_⟩
  rw [List.mem_singleton.1 hb]
  intro e
  exact hf.2.1 (e ▸ ha)
theorem Grd.len {nd : List (List Nat)} {d : List Nat} (h : Grd nd d) : d.length ≤ nd.length := by
 have := nodup_len d (List.range nd.length) h.nodup (fun x hx => List.mem_range.2 (h.lt x hx))
 rwa [List.length_range] at this
theorem Grd.all {nd : List (List Nat)} {d : List Nat} (h : Grd nd d) (hl : d.length = nd.length) {i : Nat} (hi : i < nd.length) : i ∈ d := by
 refine Decidable.byContradiction fun hn => ?_
 have := nodup_len (i :: d) (List.range nd.length) (List.nodup_cons.2 ⟨hn, h.nodup⟩) (fun x hx => by
  rcases List.mem_cons.1 hx with rfl | hx
  ·exact List.mem_range.2 hi
  ·exact List.mem_range.2 (h.lt x hx))
 rw [List.length_range, List.length_cons] at this
 omega
theorem Grd.closed {nd : List (List Nat)} {d : List Nat} (h : Grd nd d) : ∀ i ∈ d, (∀ k ∈ ndA nd i, k ∈ d) ∧ ¬ Rch nd i i ∧ ∀ j, Rch nd i j → j ∈ d := by
 induction h with
 | nil => intro i hi; simp at hi
 | snoc d i _ hf _ ih =>
  have hi : ∀ j, Rch nd i j → j ∈ d := fun j hj => by
   cases hj with
   | one _ _ hk => exact hf.2.2 j hk
   | more _ k _ hk hr => exact (ih k (hf.2.2 k hk)).2.2 j hr
  intro j hj
  rcases List.mem_append.1 hj with hj | hj
  ·obtain ⟨h1, h2, h3⟩ := ih j hj
   exact ⟨fun k hk => List.mem_append_left _ (h1 k hk), h2, fun k hk => List.mem_append_left _ (h3 k hk)⟩
  ·obtain rfl := List.mem_singleton.1 hj
   exact ⟨fun k hk => List.mem_append_left _ (hf.2.2 k hk), fun hr => hf.2.1 (hi j hr), fun k hk => List.mem_append_left _ (hi k hk)⟩
theorem Grd.acyclic {nd : List (List Nat)} {d : List Nat} (h : Grd nd d) (hl : d.length = nd.length) (i : Nat) : ¬ Rch nd i i := by
 intro hr
 by_cases hi : i < nd.length
 ·exact (h.closed i (h.all hl hi)).2.1 hr
 ·have hn : ndA nd i = [] := by unfold ndA; rw [List.getElem?_eq_none (by omega)]; rfl
  cases hr with
  | one _ _ hk => rw [hn] at hk; simp at hk
  | more _ k _ hk _ => rw [hn] at hk; simp at hk
theorem pigeon (n : Nat) (f : Nat → Nat) (hf : ∀ i, i ≤ n → f i < n) : ∃ i j, i < j ∧ j ≤ n ∧ f i = f j := by
 refine Classical.byContradiction fun hc => ?_
 have hne : ∀ i j, i < j → j ≤ n → f i ≠ f j := fun i j hij hj e => hc ⟨i, j, hij, hj, e⟩
 have hnd : ((List.range (n + 1)).map f).Nodup := by
  rw [List.nodup_iff_pairwise_ne, List.pairwise_map, List.pairwise_iff_getElem]
  intro i j hi hj hij
  simp only [List.length_range] at hi hj
  simp only [List.getElem_range]
  exact hne i j hij (by omega)
 have := nodup_len _ (List.range n) hnd (fun x hx => by
  obtain ⟨i, hi, rfl⟩ := List.mem_map.1 hx
  exact List.mem_range.2 (hf i (by have := List.mem_range.1 hi; omega)))
 simp at this
 omega
def iter (g : Nat → Nat) : Nat → Nat → Nat
 | 0, x => x
 | k + 1, x => g (iter g k x)
theorem iter_rch {nd : List (List Nat)} {g : Nat → Nat} {x : Nat} (h : ∀ k, g (iter g k x) ∈ ndA nd (iter g k x)) : ∀ (a b : Nat), a < b → Rch nd (iter g a x) (iter g b x)
 | a, 0, hb => by omega
 | a, b + 1, hb => by
  by_cases e : a = b
  ·subst e
   exact .one _ _ (h a)
  ·exact (iter_rch h a b (by omega)).snoc (h b)
theorem Grd.cycle {nd : List (List Nat)} {d : List Nat} (hs : ∀ i, ¬ Fre nd d i) (hl : d.length < nd.length) (hk : ∀ i, ∀ k ∈ ndA nd i, k < nd.length) : ∃ i, i < nd.length ∧ Rch nd i i := by
 obtain ⟨x, hx, hxd⟩ : ∃ x, x < nd.length ∧ x ∉ d := by
  refine Classical.byContradiction fun hc => ?_
  have hall : ∀ x ∈ List.range nd.length, x ∈ d := fun x hx => Decidable.byContradiction fun hn => hc ⟨x, List.mem_range.1 hx, hn⟩
  have := nodup_len (List.range nd.length) d List.nodup_range hall
  rw [List.length_range] at this
  omega
 have hex : ∀ i, ∃ k, i < nd.length → i ∉ d → k ∈ ndA nd i ∧ k ∉ d := fun i => by
  by_cases hi : i < nd.length ∧ i ∉ d
  ·refine Classical.byContradiction fun hc => hs i ⟨hi.1, hi.2, fun k hk => Decidable.byContradiction fun hn => hc ⟨k, fun _ _ => ⟨hk, hn⟩⟩⟩
  ·exact ⟨0, fun h1 h2 => absurd ⟨h1, h2⟩ hi⟩
 obtain ⟨g, hg⟩ := Classical.axiomOfChoice hex
 have hin : ∀ k, iter g k x < nd.length ∧ iter g k x ∉ d := fun k => by
  induction k with
  | zero => exact ⟨hx, hxd⟩
  | succ k ih =>
   have := hg _ ih.1 ih.2
   exact ⟨hk _ _ this.1, this.2⟩
 obtain ⟨a, b, hab, _, e⟩ := pigeon nd.length (fun k => iter g k x) (fun k _ => (hin k).1)
 have := iter_rch (nd := nd) (fun k => (hg _ (hin k).1 (hin k).2).1) a b hab
 rw [← e] at this
 exact ⟨_, (hin a).1, this⟩
def wt (nd : List (List Nat)) (d : List Nat) (i : Nat) : Int := if i ∈ d then -1 else (((ndA nd i).countP fun k => !d.contains k : Nat) : Int)
theorem wt_fre {nd : List (List Nat)} {d : List Nat} {i : Nat} (hi : i < nd.length) : wt nd d i = 0 ↔ Fre nd d i := by
 unfold wt Fre
 by_cases h : i ∈ d
 ·rw [if_pos h]
  exact ⟨fun h => by omega, fun hf => absurd h hf.2.1⟩
 ·rw [if_neg h]
  constructor
  ·intro h0
   have h1 : (ndA nd i).countP (fun k => !d.contains k) = 0 := by omega
   rw [List.countP_eq_zero] at h1
   exact ⟨hi, h, fun k hk => by have := h1 k hk; simpa using this⟩
  ·intro hf
   have h1 : (ndA nd i).countP (fun k => !d.contains k) = 0 := by
    rw [List.countP_eq_zero]
    intro k hk
    have := hf.2.2 k hk
    simpa using this
   omega
theorem countP_less (d : List Nat) (x : Nat) (hx : x ∉ d) : ∀ l : List Nat, l.countP (fun k => !(d ++ [x]).contains k) + l.count x = l.countP (fun k => !d.contains k)
 | [] => rfl
 | y :: l => by
  have ih := countP_less d x hx l
  rw [List.countP_cons, List.countP_cons, List.count_cons]
  by_cases e : y = x
  ·subst e
   have h1 : (d ++ [y]).contains y = true := by simp
   have h2 : d.contains y = false := by simpa using hx
   rw [h1, h2]
   simp only [BEq.rfl, Bool.not_true, Bool.not_false, if_true, Bool.false_eq_true, if_false]
   omega
  ·have h1 : (d ++ [x]).contains y = d.contains y := by
    simp [e]
   rw [h1]
   have h3 : (y == x) = false := beq_eq_false_iff_ne.2 e
   simp only [h3, Bool.false_eq_true, if_false]
   omega
theorem wt_next {nd : List (List Nat)} {d : List Nat} {x : Nat} (hg : Grd nd d) (hx : Fre nd d x) (u : Nat) : (if u = x then -1 else wt nd d u) - ((ndA nd u).count x : Nat) = wt nd (d ++ [x]) u := by
 have hz : ∀ u, (∀ k ∈ ndA nd u, k ∈ d) → (ndA nd u).count x = 0 := fun u hu => List.count_eq_zero.2 fun hm => hx.2.1 (hu x hm)
 unfold wt
 by_cases e : u = x
 ·subst e
  rw [if_pos rfl, if_pos (by simp), hz u hx.2.2]
  rfl
 ·rw [if_neg e]
  by_cases hd : u ∈ d
  ·rw [if_pos hd, if_pos (List.mem_append_left _ hd), hz u (hg.closed u hd).1]
   rfl
  ·rw [if_neg hd, if_neg (by simp [hd, e])]
   have := countP_less d x hx.2.1 (ndA nd u)
   omega
end Go.Proofs.YtiejfopholdbnaaGreatDoor
