/-
  THE DOCUMENT's OPERATORS: ApplyOf BY CONTRACT, operator by operator.
-/
import Derived.Test.YtpiglmaojonbnaaDoorP22
import Derived.Deep.RegionHeld
namespace Go.Proofs.YtpiglmaojonbnaaDoor
open Go.RowKit

/-- A value's number is small. -/
def Sm (n : Int) : Prop := -129 < n ∧ n < 129
theorem mul_small {x y : Int} (hx : -129 < x ∧ x < 129) (hy : -129 < y ∧ y < 129) : -16641 < x * y ∧ x * y < 16641 := by
  have h1 : x.natAbs * y.natAbs ≤ 128 * 128 := Nat.mul_le_mul (by omega) (by omega)
  have h2 : (x * y).natAbs = x.natAbs * y.natAbs := Int.natAbs_mul x y
  omega
end Go.Proofs.YtpiglmaojonbnaaDoor

/-
  THE DOCUMENT's OPERATORS: ApplyOf BY CONTRACT, mod.
-/
namespace Go.Proofs.YtpiglmaojonbnaaDoor
open Go.RowKit

theorem orow {w : World} (o : Obj) {k : Nat} {x : Obj} (h : w.heap[k]? = some x) : (w.alloc o).heap[k]? = some x := by
  rw [Below.heap_alloc w o k (Array.getElem?_eq_some_iff.1 h).1]; exact h
theorem cell_far2 (w : World) (p q a : Addr) (u v : Value) (h : p.block ≠ a.block) (h' : q.block ≠ a.block) : ((w.setCell p u).setCell q v).drew.cell? a = w.cell? a := by
  have e : ((w.setCell p u).setCell q v).drew.cell? a = ((w.setCell p u).setCell q v).cell? a := by simp
  rw [e, World.cell?_setCell_far _ _ _ _ h', World.cell?_setCell_far _ _ _ _ h]
end Go.Proofs.YtpiglmaojonbnaaDoor

/-
  THE DOCUMENT's OPERATORS: Arity BY CONTRACT.
-/
namespace Go.Proofs.YtpiglmaojonbnaaDoor
open Go.RowKit

/-- The operators, how many parts they have (-1: any). -/
def opL : List (List UInt8 × Int) := [([105, 110, 116], 0), ([116, 114, 117, 101], 0), ([102, 97, 108, 115, 101], 0), ([110, 97, 109, 101], 0), ([105, 102], 3), ([45, 62], 2), ([102, 98, 121], 2), ([111, 114], 2), ([120, 111, 114], 2), ([97, 110, 100], 2), ([110, 111, 116], 1), ([61], 2), ([60, 62], 2), ([60], 2), ([60, 61], 2), ([62], 2), ([62, 61], 2), ([61, 62], 2), ([43], 2), ([45], 2), ([42], 2), ([47], 2), ([109, 111, 100], 2), ([110, 101, 103], 1), ([112, 114, 101], 1), ([99, 97, 108, 108], -1)]
set_option maxRecDepth 100000 in
theorem oarity_1 (op : ByteArray) (w : World) (ht : op.toList = [105, 110, 116]) : Calls Tryd.prog 13 #[.string op] w fun e w' => e = .returned (.tuple #[.int .i64 (0), .bool true]) ∧ w' = w := by
  go_enter Tryd.func13, Tryd.ntmps13
  go_wp2
  go_ret2
  exact ⟨rfl, rfl⟩
set_option maxRecDepth 100000 in
theorem oarity_2 (op : ByteArray) (w : World) (ht : op.toList = [116, 114, 117, 101]) : Calls Tryd.prog 13 #[.string op] w fun e w' => e = .returned (.tuple #[.int .i64 (0), .bool true]) ∧ w' = w := by
  go_enter Tryd.func13, Tryd.ntmps13
  go_wp2
  go_ret2
  exact ⟨rfl, rfl⟩
set_option maxRecDepth 100000 in
theorem oarity_3 (op : ByteArray) (w : World) (ht : op.toList = [102, 97, 108, 115, 101]) : Calls Tryd.prog 13 #[.string op] w fun e w' => e = .returned (.tuple #[.int .i64 (0), .bool true]) ∧ w' = w := by
  go_enter Tryd.func13, Tryd.ntmps13
  go_wp2
  go_ret2
  exact ⟨rfl, rfl⟩
set_option maxRecDepth 100000 in
theorem oarity_4 (op : ByteArray) (w : World) (ht : op.toList = [110, 97, 109, 101]) : Calls Tryd.prog 13 #[.string op] w fun e w' => e = .returned (.tuple #[.int .i64 (0), .bool true]) ∧ w' = w := by
  go_enter Tryd.func13, Tryd.ntmps13
  go_wp2
  go_ret2
  exact ⟨rfl, rfl⟩
set_option maxRecDepth 100000 in
theorem oarity_5 (op : ByteArray) (w : World) (ht : op.toList = [105, 102]) : Calls Tryd.prog 13 #[.string op] w fun e w' => e = .returned (.tuple #[.int .i64 (3), .bool true]) ∧ w' = w := by
  go_enter Tryd.func13, Tryd.ntmps13
  go_wp2
  go_ret2
  exact ⟨rfl, rfl⟩
set_option maxRecDepth 100000 in
theorem oarity_6 (op : ByteArray) (w : World) (ht : op.toList = [45, 62]) : Calls Tryd.prog 13 #[.string op] w fun e w' => e = .returned (.tuple #[.int .i64 (2), .bool true]) ∧ w' = w := by
  go_enter Tryd.func13, Tryd.ntmps13
  go_wp2
  go_ret2
  exact ⟨rfl, rfl⟩
set_option maxRecDepth 100000 in
theorem oarity_7 (op : ByteArray) (w : World) (ht : op.toList = [102, 98, 121]) : Calls Tryd.prog 13 #[.string op] w fun e w' => e = .returned (.tuple #[.int .i64 (2), .bool true]) ∧ w' = w := by
  go_enter Tryd.func13, Tryd.ntmps13
  go_wp2
  go_ret2
  exact ⟨rfl, rfl⟩
set_option maxRecDepth 100000 in
theorem oarity_8 (op : ByteArray) (w : World) (ht : op.toList = [111, 114]) : Calls Tryd.prog 13 #[.string op] w fun e w' => e = .returned (.tuple #[.int .i64 (2), .bool true]) ∧ w' = w := by
  go_enter Tryd.func13, Tryd.ntmps13
  go_wp2
  go_ret2
  exact ⟨rfl, rfl⟩
set_option maxRecDepth 100000 in
theorem oarity_9 (op : ByteArray) (w : World) (ht : op.toList = [120, 111, 114]) : Calls Tryd.prog 13 #[.string op] w fun e w' => e = .returned (.tuple #[.int .i64 (2), .bool true]) ∧ w' = w := by
  go_enter Tryd.func13, Tryd.ntmps13
  go_wp2
  go_ret2
  exact ⟨rfl, rfl⟩
set_option maxRecDepth 100000 in
theorem oarity_10 (op : ByteArray) (w : World) (ht : op.toList = [97, 110, 100]) : Calls Tryd.prog 13 #[.string op] w fun e w' => e = .returned (.tuple #[.int .i64 (2), .bool true]) ∧ w' = w := by
  go_enter Tryd.func13, Tryd.ntmps13
  go_wp2
  go_ret2
  exact ⟨rfl, rfl⟩
set_option maxRecDepth 100000 in
theorem oarity_11 (op : ByteArray) (w : World) (ht : op.toList = [110, 111, 116]) : Calls Tryd.prog 13 #[.string op] w fun e w' => e = .returned (.tuple #[.int .i64 (1), .bool true]) ∧ w' = w := by
  go_enter Tryd.func13, Tryd.ntmps13
  go_wp2
  go_ret2
  exact ⟨rfl, rfl⟩
set_option maxRecDepth 100000 in
theorem oarity_12 (op : ByteArray) (w : World) (ht : op.toList = [61]) : Calls Tryd.prog 13 #[.string op] w fun e w' => e = .returned (.tuple #[.int .i64 (2), .bool true]) ∧ w' = w := by
  go_enter Tryd.func13, Tryd.ntmps13
  go_wp2
  go_ret2
  exact ⟨rfl, rfl⟩
set_option maxRecDepth 100000 in
theorem oarity_13 (op : ByteArray) (w : World) (ht : op.toList = [60, 62]) : Calls Tryd.prog 13 #[.string op] w fun e w' => e = .returned (.tuple #[.int .i64 (2), .bool true]) ∧ w' = w := by
  go_enter Tryd.func13, Tryd.ntmps13
  go_wp2
  go_ret2
  exact ⟨rfl, rfl⟩
set_option maxRecDepth 100000 in
theorem oarity_14 (op : ByteArray) (w : World) (ht : op.toList = [60]) : Calls Tryd.prog 13 #[.string op] w fun e w' => e = .returned (.tuple #[.int .i64 (2), .bool true]) ∧ w' = w := by
  go_enter Tryd.func13, Tryd.ntmps13
  go_wp2
  go_ret2
  exact ⟨rfl, rfl⟩
set_option maxRecDepth 100000 in
theorem oarity_15 (op : ByteArray) (w : World) (ht : op.toList = [60, 61]) : Calls Tryd.prog 13 #[.string op] w fun e w' => e = .returned (.tuple #[.int .i64 (2), .bool true]) ∧ w' = w := by
  go_enter Tryd.func13, Tryd.ntmps13
  go_wp2
  go_ret2
  exact ⟨rfl, rfl⟩
set_option maxRecDepth 100000 in
theorem oarity_16 (op : ByteArray) (w : World) (ht : op.toList = [62]) : Calls Tryd.prog 13 #[.string op] w fun e w' => e = .returned (.tuple #[.int .i64 (2), .bool true]) ∧ w' = w := by
  go_enter Tryd.func13, Tryd.ntmps13
  go_wp2
  go_ret2
  exact ⟨rfl, rfl⟩
set_option maxRecDepth 100000 in
theorem oarity_17 (op : ByteArray) (w : World) (ht : op.toList = [62, 61]) : Calls Tryd.prog 13 #[.string op] w fun e w' => e = .returned (.tuple #[.int .i64 (2), .bool true]) ∧ w' = w := by
  go_enter Tryd.func13, Tryd.ntmps13
  go_wp2
  go_ret2
  exact ⟨rfl, rfl⟩
set_option maxRecDepth 100000 in
theorem oarity_18 (op : ByteArray) (w : World) (ht : op.toList = [61, 62]) : Calls Tryd.prog 13 #[.string op] w fun e w' => e = .returned (.tuple #[.int .i64 (2), .bool true]) ∧ w' = w := by
  go_enter Tryd.func13, Tryd.ntmps13
  go_wp2
  go_ret2
  exact ⟨rfl, rfl⟩
set_option maxRecDepth 100000 in
theorem oarity_19 (op : ByteArray) (w : World) (ht : op.toList = [43]) : Calls Tryd.prog 13 #[.string op] w fun e w' => e = .returned (.tuple #[.int .i64 (2), .bool true]) ∧ w' = w := by
  go_enter Tryd.func13, Tryd.ntmps13
  go_wp2
  go_ret2
  exact ⟨rfl, rfl⟩
set_option maxRecDepth 100000 in
theorem oarity_20 (op : ByteArray) (w : World) (ht : op.toList = [45]) : Calls Tryd.prog 13 #[.string op] w fun e w' => e = .returned (.tuple #[.int .i64 (2), .bool true]) ∧ w' = w := by
  go_enter Tryd.func13, Tryd.ntmps13
  go_wp2
  go_ret2
  exact ⟨rfl, rfl⟩
set_option maxRecDepth 100000 in
theorem oarity_21 (op : ByteArray) (w : World) (ht : op.toList = [42]) : Calls Tryd.prog 13 #[.string op] w fun e w' => e = .returned (.tuple #[.int .i64 (2), .bool true]) ∧ w' = w := by
  go_enter Tryd.func13, Tryd.ntmps13
  go_wp2
  go_ret2
  exact ⟨rfl, rfl⟩
set_option maxRecDepth 100000 in
theorem oarity_22 (op : ByteArray) (w : World) (ht : op.toList = [47]) : Calls Tryd.prog 13 #[.string op] w fun e w' => e = .returned (.tuple #[.int .i64 (2), .bool true]) ∧ w' = w := by
  go_enter Tryd.func13, Tryd.ntmps13
  go_wp2
  go_ret2
  exact ⟨rfl, rfl⟩
set_option maxRecDepth 100000 in
theorem oarity_23 (op : ByteArray) (w : World) (ht : op.toList = [109, 111, 100]) : Calls Tryd.prog 13 #[.string op] w fun e w' => e = .returned (.tuple #[.int .i64 (2), .bool true]) ∧ w' = w := by
  go_enter Tryd.func13, Tryd.ntmps13
  go_wp2
  go_ret2
  exact ⟨rfl, rfl⟩
set_option maxRecDepth 100000 in
theorem oarity_24 (op : ByteArray) (w : World) (ht : op.toList = [110, 101, 103]) : Calls Tryd.prog 13 #[.string op] w fun e w' => e = .returned (.tuple #[.int .i64 (1), .bool true]) ∧ w' = w := by
  go_enter Tryd.func13, Tryd.ntmps13
  go_wp2
  go_ret2
  exact ⟨rfl, rfl⟩
set_option maxRecDepth 100000 in
theorem oarity_25 (op : ByteArray) (w : World) (ht : op.toList = [112, 114, 101]) : Calls Tryd.prog 13 #[.string op] w fun e w' => e = .returned (.tuple #[.int .i64 (1), .bool true]) ∧ w' = w := by
  go_enter Tryd.func13, Tryd.ntmps13
  go_wp2
  go_ret2
  exact ⟨rfl, rfl⟩
set_option maxRecDepth 100000 in
theorem oarity_26 (op : ByteArray) (w : World) (ht : op.toList = [99, 97, 108, 108]) : Calls Tryd.prog 13 #[.string op] w fun e w' => e = .returned (.tuple #[.int .i64 (-1), .bool true]) ∧ w' = w := by
  go_enter Tryd.func13, Tryd.ntmps13
  go_wp2
  go_ret2
  exact ⟨rfl, rfl⟩
set_option maxRecDepth 100000 in
theorem oarity_none (op : ByteArray) (w : World) (h1 : (op.toList == [105, 110, 116]) = false) (h2 : (op.toList == [116, 114, 117, 101]) = false) (h3 : (op.toList == [102, 97, 108, 115, 101]) = false) (h4 : (op.toList == [110, 97, 109, 101]) = false) (h5 : (op.toList == [105, 102]) = false) (h6 : (op.toList == [45, 62]) = false) (h7 : (op.toList == [102, 98, 121]) = false) (h8 : (op.toList == [111, 114]) = false) (h9 : (op.toList == [120, 111, 114]) = false) (h10 : (op.toList == [97, 110, 100]) = false) (h11 : (op.toList == [110, 111, 116]) = false) (h12 : (op.toList == [61]) = false) (h13 : (op.toList == [60, 62]) = false) (h14 : (op.toList == [60]) = false) (h15 : (op.toList == [60, 61]) = false) (h16 : (op.toList == [62]) = false) (h17 : (op.toList == [62, 61]) = false) (h18 : (op.toList == [61, 62]) = false) (h19 : (op.toList == [43]) = false) (h20 : (op.toList == [45]) = false) (h21 : (op.toList == [42]) = false) (h22 : (op.toList == [47]) = false) (h23 : (op.toList == [109, 111, 100]) = false) (h24 : (op.toList == [110, 101, 103]) = false) (h25 : (op.toList == [112, 114, 101]) = false) (h26 : (op.toList == [99, 97, 108, 108]) = false) : Calls Tryd.prog 13 #[.string op] w fun e w' => e = .returned (.tuple #[.int .i64 0, .bool false]) ∧ w' = w := by
  go_enter Tryd.func13, Tryd.ntmps13
  go_wp2
  go_ret2
  exact ⟨rfl, rfl⟩
theorem oarity_in (op : ByteArray) (w : World) (t : List UInt8 × Int) (h : t ∈ opL) (ht : op.toList = t.1) : Calls Tryd.prog 13 #[.string op] w fun e w' => e = .returned (.tuple #[.int .i64 t.2, .bool true]) ∧ w' = w := by
  simp only [opL, List.mem_cons, List.not_mem_nil, or_false] at h
  rcases h with rfl | rfl | rfl | rfl | rfl | rfl | rfl | rfl | rfl | rfl | rfl | rfl | rfl | rfl | rfl | rfl | rfl | rfl | rfl | rfl | rfl | rfl | rfl | rfl | rfl | rfl
  · exact oarity_1 op w ht
  · exact oarity_2 op w ht
  · exact oarity_3 op w ht
  · exact oarity_4 op w ht
  · exact oarity_5 op w ht
  · exact oarity_6 op w ht
  · exact oarity_7 op w ht
  · exact oarity_8 op w ht
  · exact oarity_9 op w ht
  · exact oarity_10 op w ht
  · exact oarity_11 op w ht
  · exact oarity_12 op w ht
  · exact oarity_13 op w ht
  · exact oarity_14 op w ht
  · exact oarity_15 op w ht
  · exact oarity_16 op w ht
  · exact oarity_17 op w ht
  · exact oarity_18 op w ht
  · exact oarity_19 op w ht
  · exact oarity_20 op w ht
  · exact oarity_21 op w ht
  · exact oarity_22 op w ht
  · exact oarity_23 op w ht
  · exact oarity_24 op w ht
  · exact oarity_25 op w ht
  · exact oarity_26 op w ht
theorem oarity_out (op : ByteArray) (w : World) (h : ∀ t ∈ opL, op.toList ≠ t.1) : Calls Tryd.prog 13 #[.string op] w fun e w' => e = .returned (.tuple #[.int .i64 0, .bool false]) ∧ w' = w :=
  have g : ∀ y c, (y, c) ∈ opL → (op.toList == y) = false := fun y c hm => beq_eq_false_iff_ne.2 (h _ hm)
  oarity_none op w (g _ 0 (by decide)) (g _ 0 (by decide)) (g _ 0 (by decide)) (g _ 0 (by decide)) (g _ 3 (by decide)) (g _ 2 (by decide)) (g _ 2 (by decide)) (g _ 2 (by decide)) (g _ 2 (by decide)) (g _ 2 (by decide)) (g _ 1 (by decide)) (g _ 2 (by decide)) (g _ 2 (by decide)) (g _ 2 (by decide)) (g _ 2 (by decide)) (g _ 2 (by decide)) (g _ 2 (by decide)) (g _ 2 (by decide)) (g _ 2 (by decide)) (g _ 2 (by decide)) (g _ 2 (by decide)) (g _ 2 (by decide)) (g _ 2 (by decide)) (g _ 1 (by decide)) (g _ 1 (by decide)) (g _ (-1) (by decide))
end Go.Proofs.YtpiglmaojonbnaaDoor
