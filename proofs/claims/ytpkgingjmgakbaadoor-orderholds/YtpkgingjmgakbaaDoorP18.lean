/-
  tree.shapeOf BY ITS CONTRACT.
-/
import Derived.Test.YtpkgingjmgakbaaDoorP02
import Derived.Test.YtpkgingjmgakbaaDoorP10
import Derived.Deep.DrawnRows
namespace Go.Proofs.YtpkgingjmgakbaaDoor
open Go.RowKit
attribute [local go_sem ↓] Go.wp_at_zero Go.wp_at_succ

def intCells (l : List Nat) : List Value := l.map fun (n : Nat) => .int .i64 (n : Int)
/-- The levels of parts, in a block of their own. -/
def PartsAt (w : World) (base : Nat) (o : Option Addr) (c : Nat) (ps : List Nat) : Prop := (ps = [] ∧ o = none ∧ c = 0) ∨ ∃ q, base ≤ q ∧ o = some ⟨q, 0, none⟩ ∧ c = ps.length ∧ w.heap[q]? = some (.cells (intCells ps).toArray 3 (0, 0))
/-- What shapeOf tells of an operator that there is. -/
def ShapeIs (lv : Nat) (ps : List Nat) (w : World) (e : Ending) (w' : World) : Prop := Below w.heap.size w w' ∧ ∃ o c, e = .returned (.tuple #[.agg #[.int .i64 lv, .slice o ps.length c], .bool true]) ∧ PartsAt w' w.heap.size o c ps
set_option maxRecDepth 100000 in
set_option maxHeartbeats 1000000 in
theorem shapeOf_1 (op : ByteArray) (w : World) (ht : op.toList = [105, 110, 116]) : Calls Tryd.prog 58 #[.string op] w (ShapeIs 8 [] w) := by
  go_enter Tryd.func58, Tryd.ntmps58
  go_wp2
  exact bodyPost_ret (v := .tuple #[.agg #[.int .i64 8, .slice none 0 0], .bool true]) (by simp [results, Tryd.results58, go_sem]) rfl ⟨(Below.refl _ _).alloc (Nat.le_refl _) _, none, 0, rfl, Or.inl ⟨rfl, rfl, rfl⟩⟩
set_option maxRecDepth 100000 in
set_option maxHeartbeats 1000000 in
theorem shapeOf_2 (op : ByteArray) (w : World) (ht : op.toList = [116, 114, 117, 101]) : Calls Tryd.prog 58 #[.string op] w (ShapeIs 8 [] w) := by
  go_enter Tryd.func58, Tryd.ntmps58
  go_wp2
  exact bodyPost_ret (v := .tuple #[.agg #[.int .i64 8, .slice none 0 0], .bool true]) (by simp [results, Tryd.results58, go_sem]) rfl ⟨(Below.refl _ _).alloc (Nat.le_refl _) _, none, 0, rfl, Or.inl ⟨rfl, rfl, rfl⟩⟩
set_option maxRecDepth 100000 in
set_option maxHeartbeats 1000000 in
theorem shapeOf_3 (op : ByteArray) (w : World) (ht : op.toList = [102, 97, 108, 115, 101]) : Calls Tryd.prog 58 #[.string op] w (ShapeIs 8 [] w) := by
  go_enter Tryd.func58, Tryd.ntmps58
  go_wp2
  exact bodyPost_ret (v := .tuple #[.agg #[.int .i64 8, .slice none 0 0], .bool true]) (by simp [results, Tryd.results58, go_sem]) rfl ⟨(Below.refl _ _).alloc (Nat.le_refl _) _, none, 0, rfl, Or.inl ⟨rfl, rfl, rfl⟩⟩
set_option maxRecDepth 100000 in
set_option maxHeartbeats 1000000 in
theorem shapeOf_4 (op : ByteArray) (w : World) (ht : op.toList = [110, 97, 109, 101]) : Calls Tryd.prog 58 #[.string op] w (ShapeIs 8 [] w) := by
  go_enter Tryd.func58, Tryd.ntmps58
  go_wp2
  exact bodyPost_ret (v := .tuple #[.agg #[.int .i64 8, .slice none 0 0], .bool true]) (by simp [results, Tryd.results58, go_sem]) rfl ⟨(Below.refl _ _).alloc (Nat.le_refl _) _, none, 0, rfl, Or.inl ⟨rfl, rfl, rfl⟩⟩
set_option maxRecDepth 100000 in
set_option maxHeartbeats 1000000 in
theorem shapeOf_5 (op : ByteArray) (w : World) (ht : op.toList = [105, 102]) : Calls Tryd.prog 58 #[.string op] w (ShapeIs 0 [0, 0, 0] w) := by
  go_enter Tryd.func58, Tryd.ntmps58
  go_wp2
  refine bodyPost_ret (v := .tuple #[.agg #[.int .i64 0, .slice (some ⟨w.heap.size + 1, 0, none⟩) 3 3], .bool true]) (by simp [results, Tryd.results58, go_sem]) rfl ⟨((Below.refl _ _).alloc (Nat.le_refl _) _).alloc (by simp) _, some ⟨w.heap.size + 1, 0, none⟩, 3, rfl, Or.inr ⟨w.heap.size + 1, by omega, rfl, rfl, two_new w _ _⟩⟩
set_option maxRecDepth 100000 in
set_option maxHeartbeats 1000000 in
theorem shapeOf_6 (op : ByteArray) (w : World) (ht : op.toList = [45, 62]) : Calls Tryd.prog 58 #[.string op] w (ShapeIs 0 [1, 0] w) := by
  go_enter Tryd.func58, Tryd.ntmps58
  go_wp2
  refine bodyPost_ret (v := .tuple #[.agg #[.int .i64 0, .slice (some ⟨w.heap.size + 1, 0, none⟩) 2 2], .bool true]) (by simp [results, Tryd.results58, go_sem]) rfl ⟨((Below.refl _ _).alloc (Nat.le_refl _) _).alloc (by simp) _, some ⟨w.heap.size + 1, 0, none⟩, 2, rfl, Or.inr ⟨w.heap.size + 1, by omega, rfl, rfl, two_new w _ _⟩⟩
set_option maxRecDepth 100000 in
set_option maxHeartbeats 1000000 in
theorem shapeOf_7 (op : ByteArray) (w : World) (ht : op.toList = [102, 98, 121]) : Calls Tryd.prog 58 #[.string op] w (ShapeIs 0 [1, 0] w) := by
  go_enter Tryd.func58, Tryd.ntmps58
  go_wp2
  refine bodyPost_ret (v := .tuple #[.agg #[.int .i64 0, .slice (some ⟨w.heap.size + 1, 0, none⟩) 2 2], .bool true]) (by simp [results, Tryd.results58, go_sem]) rfl ⟨((Below.refl _ _).alloc (Nat.le_refl _) _).alloc (by simp) _, some ⟨w.heap.size + 1, 0, none⟩, 2, rfl, Or.inr ⟨w.heap.size + 1, by omega, rfl, rfl, two_new w _ _⟩⟩
set_option maxRecDepth 100000 in
set_option maxHeartbeats 1000000 in
theorem shapeOf_8 (op : ByteArray) (w : World) (ht : op.toList = [111, 114]) : Calls Tryd.prog 58 #[.string op] w (ShapeIs 1 [1, 2] w) := by
  go_enter Tryd.func58, Tryd.ntmps58
  go_wp2
  refine bodyPost_ret (v := .tuple #[.agg #[.int .i64 1, .slice (some ⟨w.heap.size + 1, 0, none⟩) 2 2], .bool true]) (by simp [results, Tryd.results58, go_sem]) rfl ⟨((Below.refl _ _).alloc (Nat.le_refl _) _).alloc (by simp) _, some ⟨w.heap.size + 1, 0, none⟩, 2, rfl, Or.inr ⟨w.heap.size + 1, by omega, rfl, rfl, two_new w _ _⟩⟩
set_option maxRecDepth 100000 in
set_option maxHeartbeats 1000000 in
theorem shapeOf_9 (op : ByteArray) (w : World) (ht : op.toList = [120, 111, 114]) : Calls Tryd.prog 58 #[.string op] w (ShapeIs 1 [1, 2] w) := by
  go_enter Tryd.func58, Tryd.ntmps58
  go_wp2
  refine bodyPost_ret (v := .tuple #[.agg #[.int .i64 1, .slice (some ⟨w.heap.size + 1, 0, none⟩) 2 2], .bool true]) (by simp [results, Tryd.results58, go_sem]) rfl ⟨((Below.refl _ _).alloc (Nat.le_refl _) _).alloc (by simp) _, some ⟨w.heap.size + 1, 0, none⟩, 2, rfl, Or.inr ⟨w.heap.size + 1, by omega, rfl, rfl, two_new w _ _⟩⟩
set_option maxRecDepth 100000 in
set_option maxHeartbeats 1000000 in
theorem shapeOf_10 (op : ByteArray) (w : World) (ht : op.toList = [97, 110, 100]) : Calls Tryd.prog 58 #[.string op] w (ShapeIs 2 [2, 3] w) := by
  go_enter Tryd.func58, Tryd.ntmps58
  go_wp2
  refine bodyPost_ret (v := .tuple #[.agg #[.int .i64 2, .slice (some ⟨w.heap.size + 1, 0, none⟩) 2 2], .bool true]) (by simp [results, Tryd.results58, go_sem]) rfl ⟨((Below.refl _ _).alloc (Nat.le_refl _) _).alloc (by simp) _, some ⟨w.heap.size + 1, 0, none⟩, 2, rfl, Or.inr ⟨w.heap.size + 1, by omega, rfl, rfl, two_new w _ _⟩⟩
set_option maxRecDepth 100000 in
set_option maxHeartbeats 1000000 in
theorem shapeOf_11 (op : ByteArray) (w : World) (ht : op.toList = [110, 111, 116]) : Calls Tryd.prog 58 #[.string op] w (ShapeIs 3 [3] w) := by
  go_enter Tryd.func58, Tryd.ntmps58
  go_wp2
  refine bodyPost_ret (v := .tuple #[.agg #[.int .i64 3, .slice (some ⟨w.heap.size + 1, 0, none⟩) 1 1], .bool true]) (by simp [results, Tryd.results58, go_sem]) rfl ⟨((Below.refl _ _).alloc (Nat.le_refl _) _).alloc (by simp) _, some ⟨w.heap.size + 1, 0, none⟩, 1, rfl, Or.inr ⟨w.heap.size + 1, by omega, rfl, rfl, two_new w _ _⟩⟩
set_option maxRecDepth 100000 in
set_option maxHeartbeats 1000000 in
theorem shapeOf_12 (op : ByteArray) (w : World) (ht : op.toList = [61]) : Calls Tryd.prog 58 #[.string op] w (ShapeIs 4 [5, 5] w) := by
  go_enter Tryd.func58, Tryd.ntmps58
  go_wp2
  refine bodyPost_ret (v := .tuple #[.agg #[.int .i64 4, .slice (some ⟨w.heap.size + 1, 0, none⟩) 2 2], .bool true]) (by simp [results, Tryd.results58, go_sem]) rfl ⟨((Below.refl _ _).alloc (Nat.le_refl _) _).alloc (by simp) _, some ⟨w.heap.size + 1, 0, none⟩, 2, rfl, Or.inr ⟨w.heap.size + 1, by omega, rfl, rfl, two_new w _ _⟩⟩
set_option maxRecDepth 100000 in
set_option maxHeartbeats 1000000 in
theorem shapeOf_13 (op : ByteArray) (w : World) (ht : op.toList = [60, 62]) : Calls Tryd.prog 58 #[.string op] w (ShapeIs 4 [5, 5] w) := by
  go_enter Tryd.func58, Tryd.ntmps58
  go_wp2
  refine bodyPost_ret (v := .tuple #[.agg #[.int .i64 4, .slice (some ⟨w.heap.size + 1, 0, none⟩) 2 2], .bool true]) (by simp [results, Tryd.results58, go_sem]) rfl ⟨((Below.refl _ _).alloc (Nat.le_refl _) _).alloc (by simp) _, some ⟨w.heap.size + 1, 0, none⟩, 2, rfl, Or.inr ⟨w.heap.size + 1, by omega, rfl, rfl, two_new w _ _⟩⟩
set_option maxRecDepth 100000 in
set_option maxHeartbeats 1000000 in
theorem shapeOf_14 (op : ByteArray) (w : World) (ht : op.toList = [60]) : Calls Tryd.prog 58 #[.string op] w (ShapeIs 4 [5, 5] w) := by
  go_enter Tryd.func58, Tryd.ntmps58
  go_wp2
  refine bodyPost_ret (v := .tuple #[.agg #[.int .i64 4, .slice (some ⟨w.heap.size + 1, 0, none⟩) 2 2], .bool true]) (by simp [results, Tryd.results58, go_sem]) rfl ⟨((Below.refl _ _).alloc (Nat.le_refl _) _).alloc (by simp) _, some ⟨w.heap.size + 1, 0, none⟩, 2, rfl, Or.inr ⟨w.heap.size + 1, by omega, rfl, rfl, two_new w _ _⟩⟩
set_option maxRecDepth 100000 in
set_option maxHeartbeats 1000000 in
theorem shapeOf_15 (op : ByteArray) (w : World) (ht : op.toList = [60, 61]) : Calls Tryd.prog 58 #[.string op] w (ShapeIs 4 [5, 5] w) := by
  go_enter Tryd.func58, Tryd.ntmps58
  go_wp2
  refine bodyPost_ret (v := .tuple #[.agg #[.int .i64 4, .slice (some ⟨w.heap.size + 1, 0, none⟩) 2 2], .bool true]) (by simp [results, Tryd.results58, go_sem]) rfl ⟨((Below.refl _ _).alloc (Nat.le_refl _) _).alloc (by simp) _, some ⟨w.heap.size + 1, 0, none⟩, 2, rfl, Or.inr ⟨w.heap.size + 1, by omega, rfl, rfl, two_new w _ _⟩⟩
set_option maxRecDepth 100000 in
set_option maxHeartbeats 1000000 in
theorem shapeOf_16 (op : ByteArray) (w : World) (ht : op.toList = [62]) : Calls Tryd.prog 58 #[.string op] w (ShapeIs 4 [5, 5] w) := by
  go_enter Tryd.func58, Tryd.ntmps58
  go_wp2
  refine bodyPost_ret (v := .tuple #[.agg #[.int .i64 4, .slice (some ⟨w.heap.size + 1, 0, none⟩) 2 2], .bool true]) (by simp [results, Tryd.results58, go_sem]) rfl ⟨((Below.refl _ _).alloc (Nat.le_refl _) _).alloc (by simp) _, some ⟨w.heap.size + 1, 0, none⟩, 2, rfl, Or.inr ⟨w.heap.size + 1, by omega, rfl, rfl, two_new w _ _⟩⟩
set_option maxRecDepth 100000 in
set_option maxHeartbeats 1000000 in
theorem shapeOf_17 (op : ByteArray) (w : World) (ht : op.toList = [62, 61]) : Calls Tryd.prog 58 #[.string op] w (ShapeIs 4 [5, 5] w) := by
  go_enter Tryd.func58, Tryd.ntmps58
  go_wp2
  refine bodyPost_ret (v := .tuple #[.agg #[.int .i64 4, .slice (some ⟨w.heap.size + 1, 0, none⟩) 2 2], .bool true]) (by simp [results, Tryd.results58, go_sem]) rfl ⟨((Below.refl _ _).alloc (Nat.le_refl _) _).alloc (by simp) _, some ⟨w.heap.size + 1, 0, none⟩, 2, rfl, Or.inr ⟨w.heap.size + 1, by omega, rfl, rfl, two_new w _ _⟩⟩
set_option maxRecDepth 100000 in
set_option maxHeartbeats 1000000 in
theorem shapeOf_18 (op : ByteArray) (w : World) (ht : op.toList = [61, 62]) : Calls Tryd.prog 58 #[.string op] w (ShapeIs 4 [5, 5] w) := by
  go_enter Tryd.func58, Tryd.ntmps58
  go_wp2
  refine bodyPost_ret (v := .tuple #[.agg #[.int .i64 4, .slice (some ⟨w.heap.size + 1, 0, none⟩) 2 2], .bool true]) (by simp [results, Tryd.results58, go_sem]) rfl ⟨((Below.refl _ _).alloc (Nat.le_refl _) _).alloc (by simp) _, some ⟨w.heap.size + 1, 0, none⟩, 2, rfl, Or.inr ⟨w.heap.size + 1, by omega, rfl, rfl, two_new w _ _⟩⟩
set_option maxRecDepth 100000 in
set_option maxHeartbeats 1000000 in
theorem shapeOf_19 (op : ByteArray) (w : World) (ht : op.toList = [43]) : Calls Tryd.prog 58 #[.string op] w (ShapeIs 5 [5, 6] w) := by
  go_enter Tryd.func58, Tryd.ntmps58
  go_wp2
  refine bodyPost_ret (v := .tuple #[.agg #[.int .i64 5, .slice (some ⟨w.heap.size + 1, 0, none⟩) 2 2], .bool true]) (by simp [results, Tryd.results58, go_sem]) rfl ⟨((Below.refl _ _).alloc (Nat.le_refl _) _).alloc (by simp) _, some ⟨w.heap.size + 1, 0, none⟩, 2, rfl, Or.inr ⟨w.heap.size + 1, by omega, rfl, rfl, two_new w _ _⟩⟩
set_option maxRecDepth 100000 in
set_option maxHeartbeats 1000000 in
theorem shapeOf_20 (op : ByteArray) (w : World) (ht : op.toList = [45]) : Calls Tryd.prog 58 #[.string op] w (ShapeIs 5 [5, 6] w) := by
  go_enter Tryd.func58, Tryd.ntmps58
  go_wp2
  refine bodyPost_ret (v := .tuple #[.agg #[.int .i64 5, .slice (some ⟨w.heap.size + 1, 0, none⟩) 2 2], .bool true]) (by simp [results, Tryd.results58, go_sem]) rfl ⟨((Below.refl _ _).alloc (Nat.le_refl _) _).alloc (by simp) _, some ⟨w.heap.size + 1, 0, none⟩, 2, rfl, Or.inr ⟨w.heap.size + 1, by omega, rfl, rfl, two_new w _ _⟩⟩
set_option maxRecDepth 100000 in
set_option maxHeartbeats 1000000 in
theorem shapeOf_21 (op : ByteArray) (w : World) (ht : op.toList = [42]) : Calls Tryd.prog 58 #[.string op] w (ShapeIs 6 [6, 7] w) := by
  go_enter Tryd.func58, Tryd.ntmps58
  go_wp2
  refine bodyPost_ret (v := .tuple #[.agg #[.int .i64 6, .slice (some ⟨w.heap.size + 1, 0, none⟩) 2 2], .bool true]) (by simp [results, Tryd.results58, go_sem]) rfl ⟨((Below.refl _ _).alloc (Nat.le_refl _) _).alloc (by simp) _, some ⟨w.heap.size + 1, 0, none⟩, 2, rfl, Or.inr ⟨w.heap.size + 1, by omega, rfl, rfl, two_new w _ _⟩⟩
set_option maxRecDepth 100000 in
set_option maxHeartbeats 1000000 in
theorem shapeOf_22 (op : ByteArray) (w : World) (ht : op.toList = [47]) : Calls Tryd.prog 58 #[.string op] w (ShapeIs 6 [6, 7] w) := by
  go_enter Tryd.func58, Tryd.ntmps58
  go_wp2
  refine bodyPost_ret (v := .tuple #[.agg #[.int .i64 6, .slice (some ⟨w.heap.size + 1, 0, none⟩) 2 2], .bool true]) (by simp [results, Tryd.results58, go_sem]) rfl ⟨((Below.refl _ _).alloc (Nat.le_refl _) _).alloc (by simp) _, some ⟨w.heap.size + 1, 0, none⟩, 2, rfl, Or.inr ⟨w.heap.size + 1, by omega, rfl, rfl, two_new w _ _⟩⟩
set_option maxRecDepth 100000 in
set_option maxHeartbeats 1000000 in
theorem shapeOf_23 (op : ByteArray) (w : World) (ht : op.toList = [109, 111, 100]) : Calls Tryd.prog 58 #[.string op] w (ShapeIs 6 [6, 7] w) := by
  go_enter Tryd.func58, Tryd.ntmps58
  go_wp2
  refine bodyPost_ret (v := .tuple #[.agg #[.int .i64 6, .slice (some ⟨w.heap.size + 1, 0, none⟩) 2 2], .bool true]) (by simp [results, Tryd.results58, go_sem]) rfl ⟨((Below.refl _ _).alloc (Nat.le_refl _) _).alloc (by simp) _, some ⟨w.heap.size + 1, 0, none⟩, 2, rfl, Or.inr ⟨w.heap.size + 1, by omega, rfl, rfl, two_new w _ _⟩⟩
set_option maxRecDepth 100000 in
set_option maxHeartbeats 1000000 in
theorem shapeOf_24 (op : ByteArray) (w : World) (ht : op.toList = [110, 101, 103]) : Calls Tryd.prog 58 #[.string op] w (ShapeIs 7 [7] w) := by
  go_enter Tryd.func58, Tryd.ntmps58
  go_wp2
  refine bodyPost_ret (v := .tuple #[.agg #[.int .i64 7, .slice (some ⟨w.heap.size + 1, 0, none⟩) 1 1], .bool true]) (by simp [results, Tryd.results58, go_sem]) rfl ⟨((Below.refl _ _).alloc (Nat.le_refl _) _).alloc (by simp) _, some ⟨w.heap.size + 1, 0, none⟩, 1, rfl, Or.inr ⟨w.heap.size + 1, by omega, rfl, rfl, two_new w _ _⟩⟩
set_option maxRecDepth 100000 in
set_option maxHeartbeats 1000000 in
theorem shapeOf_25 (op : ByteArray) (w : World) (ht : op.toList = [112, 114, 101]) : Calls Tryd.prog 58 #[.string op] w (ShapeIs 7 [7] w) := by
  go_enter Tryd.func58, Tryd.ntmps58
  go_wp2
  refine bodyPost_ret (v := .tuple #[.agg #[.int .i64 7, .slice (some ⟨w.heap.size + 1, 0, none⟩) 1 1], .bool true]) (by simp [results, Tryd.results58, go_sem]) rfl ⟨((Below.refl _ _).alloc (Nat.le_refl _) _).alloc (by simp) _, some ⟨w.heap.size + 1, 0, none⟩, 1, rfl, Or.inr ⟨w.heap.size + 1, by omega, rfl, rfl, two_new w _ _⟩⟩
/-- The operators, their levels, those of their parts. -/
def shapeL : List (List UInt8 × Nat × List Nat) := [([105, 110, 116], 8, []), ([116, 114, 117, 101], 8, []), ([102, 97, 108, 115, 101], 8, []), ([110, 97, 109, 101], 8, []), ([105, 102], 0, [0, 0, 0]), ([45, 62], 0, [1, 0]), ([102, 98, 121], 0, [1, 0]), ([111, 114], 1, [1, 2]), ([120, 111, 114], 1, [1, 2]), ([97, 110, 100], 2, [2, 3]), ([110, 111, 116], 3, [3]), ([61], 4, [5, 5]), ([60, 62], 4, [5, 5]), ([60], 4, [5, 5]), ([60, 61], 4, [5, 5]), ([62], 4, [5, 5]), ([62, 61], 4, [5, 5]), ([61, 62], 4, [5, 5]), ([43], 5, [5, 6]), ([45], 5, [5, 6]), ([42], 6, [6, 7]), ([47], 6, [6, 7]), ([109, 111, 100], 6, [6, 7]), ([110, 101, 103], 7, [7]), ([112, 114, 101], 7, [7])]
theorem shapeOf_in (op : ByteArray) (w : World) (t : List UInt8 × Nat × List Nat) (h : t ∈ shapeL) (ht : op.toList = t.1) : Calls Tryd.prog 58 #[.string op] w (ShapeIs t.2.1 t.2.2 w) := by
  simp only [shapeL, List.mem_cons, List.not_mem_nil, or_false] at h
  rcases h with rfl | rfl | rfl | rfl | rfl | rfl | rfl | rfl | rfl | rfl | rfl | rfl | rfl | rfl | rfl | rfl | rfl | rfl | rfl | rfl | rfl | rfl | rfl | rfl | rfl
  · exact shapeOf_1 op w ht
  · exact shapeOf_2 op w ht
  · exact shapeOf_3 op w ht
  · exact shapeOf_4 op w ht
  · exact shapeOf_5 op w ht
  · exact shapeOf_6 op w ht
  · exact shapeOf_7 op w ht
  · exact shapeOf_8 op w ht
  · exact shapeOf_9 op w ht
  · exact shapeOf_10 op w ht
  · exact shapeOf_11 op w ht
  · exact shapeOf_12 op w ht
  · exact shapeOf_13 op w ht
  · exact shapeOf_14 op w ht
  · exact shapeOf_15 op w ht
  · exact shapeOf_16 op w ht
  · exact shapeOf_17 op w ht
  · exact shapeOf_18 op w ht
  · exact shapeOf_19 op w ht
  · exact shapeOf_20 op w ht
  · exact shapeOf_21 op w ht
  · exact shapeOf_22 op w ht
  · exact shapeOf_23 op w ht
  · exact shapeOf_24 op w ht
  · exact shapeOf_25 op w ht
set_option maxRecDepth 100000 in
set_option maxHeartbeats 1000000 in
theorem shapeOf_out (op : ByteArray) (w : World) (h : ∀ t ∈ shapeL, (op.toList == t.1) = false) : Calls Tryd.prog 58 #[.string op] w fun e w' => e = .returned (.tuple #[.agg #[.int .i64 0, .slice none 0 0], .bool false]) ∧ Below w.heap.size w w' := by
  have h0 := h ([105, 110, 116], 8, []) (by decide)
  have h1 := h ([116, 114, 117, 101], 8, []) (by decide)
  have h2 := h ([102, 97, 108, 115, 101], 8, []) (by decide)
  have h3 := h ([110, 97, 109, 101], 8, []) (by decide)
  have h4 := h ([105, 102], 0, [0, 0, 0]) (by decide)
  have h5 := h ([45, 62], 0, [1, 0]) (by decide)
  have h6 := h ([102, 98, 121], 0, [1, 0]) (by decide)
  have h7 := h ([111, 114], 1, [1, 2]) (by decide)
  have h8 := h ([120, 111, 114], 1, [1, 2]) (by decide)
  have h9 := h ([97, 110, 100], 2, [2, 3]) (by decide)
  have h10 := h ([110, 111, 116], 3, [3]) (by decide)
  have h11 := h ([61], 4, [5, 5]) (by decide)
  have h12 := h ([60, 62], 4, [5, 5]) (by decide)
  have h13 := h ([60], 4, [5, 5]) (by decide)
  have h14 := h ([60, 61], 4, [5, 5]) (by decide)
  have h15 := h ([62], 4, [5, 5]) (by decide)
  have h16 := h ([62, 61], 4, [5, 5]) (by decide)
  have h17 := h ([61, 62], 4, [5, 5]) (by decide)
  have h18 := h ([43], 5, [5, 6]) (by decide)
  have h19 := h ([45], 5, [5, 6]) (by decide)
  have h20 := h ([42], 6, [6, 7]) (by decide)
  have h21 := h ([47], 6, [6, 7]) (by decide)
  have h22 := h ([109, 111, 100], 6, [6, 7]) (by decide)
  have h23 := h ([110, 101, 103], 7, [7]) (by decide)
  have h24 := h ([112, 114, 101], 7, [7]) (by decide)
  dsimp only at h0 h1 h2 h3 h4 h5 h6 h7 h8 h9 h10 h11 h12 h13 h14 h15 h16 h17 h18 h19 h20 h21 h22 h23 h24
  clear h
  go_enter Tryd.func58, Tryd.ntmps58
  go_wp2
  exact bodyPost_ret (v := .tuple #[.agg #[.int .i64 0, .slice none 0 0], .bool false]) (by simp [results, Tryd.results58, go_sem]) rfl ⟨rfl, (Below.refl _ _).alloc (Nat.le_refl _) _⟩
end Go.Proofs.YtpkgingjmgakbaaDoor
