/-
  lustrumref1's WRITER: closeOf, Arity, Formed BY THEIR CONTRACTS.
-/
import Derived.Test.YtgbpccipdcajgaaGreatDoorQ08
namespace Go.Proofs.YtgbpccipdcajgaaGreatDoor
open Go.RowKit
attribute [local go_sem ↓] Go.wp_at_zero Go.wp_at_succ
def arL : List (List UInt8 × Int × Nat) := [([105, 110, 116], 0, 9), ([116, 114, 117, 101], 0, 9), ([102, 97, 108, 115, 101], 0, 9), ([110, 97, 109, 101], 0, 9), ([105, 102], 3, 0), ([45, 62], 2, 1), ([102, 98, 121], 2, 1), ([111, 114], 2, 2), ([120, 111, 114], 2, 2), ([97, 110, 100], 2, 3), ([110, 111, 116], 1, 4), ([61], 2, 5), ([60, 62], 2, 5), ([60], 2, 5), ([60, 61], 2, 5), ([62], 2, 5), ([62, 61], 2, 5), ([61, 62], 2, 5), ([43], 2, 6), ([45], 2, 6), ([42], 2, 7), ([47], 2, 7), ([109, 111, 100], 2, 7), ([110, 101, 103], 1, 8), ([112, 114, 101], 1, 8), ([99, 97, 108, 108], -1, 9)]
set_option maxRecDepth 100000 in
set_option maxHeartbeats 1000000 in
theorem closeOf_1 (op : ByteArray) (w : World) (ht : op.toList = [105, 110, 116]) : Calls Tryz.prog 89 #[.string op] w fun e w' => e = .returned (.int .i64 9) ∧ w' = w := by
 go_enter Tryz.func89, Tryz.ntmps89
 go_wp2
 go_ret
 exact ⟨rfl, rfl⟩
set_option maxRecDepth 100000 in
set_option maxHeartbeats 1000000 in
theorem arity_1 (op : ByteArray) (w : World) (ht : op.toList = [105, 110, 116]) : Calls Tryz.prog 124 #[.string op] w fun e w' => e = .returned (.tuple #[.int .i64 (0), .bool true]) ∧ w' = w := by
 go_enter Tryz.func124, Tryz.ntmps124
 go_wp2
 go_ret2
 exact ⟨rfl, rfl⟩
set_option maxRecDepth 100000 in
set_option maxHeartbeats 1000000 in
theorem closeOf_2 (op : ByteArray) (w : World) (ht : op.toList = [116, 114, 117, 101]) : Calls Tryz.prog 89 #[.string op] w fun e w' => e = .returned (.int .i64 9) ∧ w' = w := by
 go_enter Tryz.func89, Tryz.ntmps89
 go_wp2
 go_ret
 exact ⟨rfl, rfl⟩
set_option maxRecDepth 100000 in
set_option maxHeartbeats 1000000 in
theorem arity_2 (op : ByteArray) (w : World) (ht : op.toList = [116, 114, 117, 101]) : Calls Tryz.prog 124 #[.string op] w fun e w' => e = .returned (.tuple #[.int .i64 (0), .bool true]) ∧ w' = w := by
 go_enter Tryz.func124, Tryz.ntmps124
 go_wp2
 go_ret2
 exact ⟨rfl, rfl⟩
set_option maxRecDepth 100000 in
set_option maxHeartbeats 1000000 in
theorem closeOf_3 (op : ByteArray) (w : World) (ht : op.toList = [102, 97, 108, 115, 101]) : Calls Tryz.prog 89 #[.string op] w fun e w' => e = .returned (.int .i64 9) ∧ w' = w := by
 go_enter Tryz.func89, Tryz.ntmps89
 go_wp2
 go_ret
 exact ⟨rfl, rfl⟩
set_option maxRecDepth 100000 in
set_option maxHeartbeats 1000000 in
theorem arity_3 (op : ByteArray) (w : World) (ht : op.toList = [102, 97, 108, 115, 101]) : Calls Tryz.prog 124 #[.string op] w fun e w' => e = .returned (.tuple #[.int .i64 (0), .bool true]) ∧ w' = w := by
 go_enter Tryz.func124, Tryz.ntmps124
 go_wp2
 go_ret2
 exact ⟨rfl, rfl⟩
set_option maxRecDepth 100000 in
set_option maxHeartbeats 1000000 in
theorem closeOf_4 (op : ByteArray) (w : World) (ht : op.toList = [110, 97, 109, 101]) : Calls Tryz.prog 89 #[.string op] w fun e w' => e = .returned (.int .i64 9) ∧ w' = w := by
 go_enter Tryz.func89, Tryz.ntmps89
 go_wp2
 go_ret
 exact ⟨rfl, rfl⟩
set_option maxRecDepth 100000 in
set_option maxHeartbeats 1000000 in
theorem arity_4 (op : ByteArray) (w : World) (ht : op.toList = [110, 97, 109, 101]) : Calls Tryz.prog 124 #[.string op] w fun e w' => e = .returned (.tuple #[.int .i64 (0), .bool true]) ∧ w' = w := by
 go_enter Tryz.func124, Tryz.ntmps124
 go_wp2
 go_ret2
 exact ⟨rfl, rfl⟩
set_option maxRecDepth 100000 in
set_option maxHeartbeats 1000000 in
theorem closeOf_5 (op : ByteArray) (w : World) (ht : op.toList = [105, 102]) : Calls Tryz.prog 89 #[.string op] w fun e w' => e = .returned (.int .i64 0) ∧ w' = w := by
 go_enter Tryz.func89, Tryz.ntmps89
 go_wp2
 go_ret
 exact ⟨rfl, rfl⟩
set_option maxRecDepth 100000 in
set_option maxHeartbeats 1000000 in
theorem arity_5 (op : ByteArray) (w : World) (ht : op.toList = [105, 102]) : Calls Tryz.prog 124 #[.string op] w fun e w' => e = .returned (.tuple #[.int .i64 (3), .bool true]) ∧ w' = w := by
 go_enter Tryz.func124, Tryz.ntmps124
 go_wp2
 go_ret2
 exact ⟨rfl, rfl⟩
set_option maxRecDepth 100000 in
set_option maxHeartbeats 1000000 in
theorem closeOf_6 (op : ByteArray) (w : World) (ht : op.toList = [45, 62]) : Calls Tryz.prog 89 #[.string op] w fun e w' => e = .returned (.int .i64 1) ∧ w' = w := by
 go_enter Tryz.func89, Tryz.ntmps89
 go_wp2
 go_ret
 exact ⟨rfl, rfl⟩
set_option maxRecDepth 100000 in
set_option maxHeartbeats 1000000 in
theorem arity_6 (op : ByteArray) (w : World) (ht : op.toList = [45, 62]) : Calls Tryz.prog 124 #[.string op] w fun e w' => e = .returned (.tuple #[.int .i64 (2), .bool true]) ∧ w' = w := by
 go_enter Tryz.func124, Tryz.ntmps124
 go_wp2
 go_ret2
 exact ⟨rfl, rfl⟩
set_option maxRecDepth 100000 in
set_option maxHeartbeats 1000000 in
theorem closeOf_7 (op : ByteArray) (w : World) (ht : op.toList = [102, 98, 121]) : Calls Tryz.prog 89 #[.string op] w fun e w' => e = .returned (.int .i64 1) ∧ w' = w := by
 go_enter Tryz.func89, Tryz.ntmps89
 go_wp2
 go_ret
 exact ⟨rfl, rfl⟩
set_option maxRecDepth 100000 in
set_option maxHeartbeats 1000000 in
theorem arity_7 (op : ByteArray) (w : World) (ht : op.toList = [102, 98, 121]) : Calls Tryz.prog 124 #[.string op] w fun e w' => e = .returned (.tuple #[.int .i64 (2), .bool true]) ∧ w' = w := by
 go_enter Tryz.func124, Tryz.ntmps124
 go_wp2
 go_ret2
 exact ⟨rfl, rfl⟩
set_option maxRecDepth 100000 in
set_option maxHeartbeats 1000000 in
theorem closeOf_8 (op : ByteArray) (w : World) (ht : op.toList = [111, 114]) : Calls Tryz.prog 89 #[.string op] w fun e w' => e = .returned (.int .i64 2) ∧ w' = w := by
 go_enter Tryz.func89, Tryz.ntmps89
 go_wp2
 go_ret
 exact ⟨rfl, rfl⟩
set_option maxRecDepth 100000 in
set_option maxHeartbeats 1000000 in
theorem arity_8 (op : ByteArray) (w : World) (ht : op.toList = [111, 114]) : Calls Tryz.prog 124 #[.string op] w fun e w' => e = .returned (.tuple #[.int .i64 (2), .bool true]) ∧ w' = w := by
 go_enter Tryz.func124, Tryz.ntmps124
 go_wp2
 go_ret2
 exact ⟨rfl, rfl⟩
set_option maxRecDepth 100000 in
set_option maxHeartbeats 1000000 in
theorem closeOf_9 (op : ByteArray) (w : World) (ht : op.toList = [120, 111, 114]) : Calls Tryz.prog 89 #[.string op] w fun e w' => e = .returned (.int .i64 2) ∧ w' = w := by
 go_enter Tryz.func89, Tryz.ntmps89
 go_wp2
 go_ret
 exact ⟨rfl, rfl⟩
set_option maxRecDepth 100000 in
set_option maxHeartbeats 1000000 in
theorem arity_9 (op : ByteArray) (w : World) (ht : op.toList = [120, 111, 114]) : Calls Tryz.prog 124 #[.string op] w fun e w' => e = .returned (.tuple #[.int .i64 (2), .bool true]) ∧ w' = w := by
 go_enter Tryz.func124, Tryz.ntmps124
 go_wp2
 go_ret2
 exact ⟨rfl, rfl⟩
set_option maxRecDepth 100000 in
set_option maxHeartbeats 1000000 in
theorem closeOf_10 (op : ByteArray) (w : World) (ht : op.toList = [97, 110, 100]) : Calls Tryz.prog 89 #[.string op] w fun e w' => e = .returned (.int .i64 3) ∧ w' = w := by
 go_enter Tryz.func89, Tryz.ntmps89
 go_wp2
 go_ret
 exact ⟨rfl, rfl⟩
set_option maxRecDepth 100000 in
set_option maxHeartbeats 1000000 in
theorem arity_10 (op : ByteArray) (w : World) (ht : op.toList = [97, 110, 100]) : Calls Tryz.prog 124 #[.string op] w fun e w' => e = .returned (.tuple #[.int .i64 (2), .bool true]) ∧ w' = w := by
 go_enter Tryz.func124, Tryz.ntmps124
 go_wp2
 go_ret2
 exact ⟨rfl, rfl⟩
set_option maxRecDepth 100000 in
set_option maxHeartbeats 1000000 in
theorem closeOf_11 (op : ByteArray) (w : World) (ht : op.toList = [110, 111, 116]) : Calls Tryz.prog 89 #[.string op] w fun e w' => e = .returned (.int .i64 4) ∧ w' = w := by
 go_enter Tryz.func89, Tryz.ntmps89
 go_wp2
 go_ret
 exact ⟨rfl, rfl⟩
set_option maxRecDepth 100000 in
set_option maxHeartbeats 1000000 in
theorem arity_11 (op : ByteArray) (w : World) (ht : op.toList = [110, 111, 116]) : Calls Tryz.prog 124 #[.string op] w fun e w' => e = .returned (.tuple #[.int .i64 (1), .bool true]) ∧ w' = w := by
 go_enter Tryz.func124, Tryz.ntmps124
 go_wp2
 go_ret2
 exact ⟨rfl, rfl⟩
set_option maxRecDepth 100000 in
set_option maxHeartbeats 1000000 in
theorem closeOf_12 (op : ByteArray) (w : World) (ht : op.toList = [61]) : Calls Tryz.prog 89 #[.string op] w fun e w' => e = .returned (.int .i64 5) ∧ w' = w := by
 go_enter Tryz.func89, Tryz.ntmps89
 go_wp2
 go_ret
 exact ⟨rfl, rfl⟩
set_option maxRecDepth 100000 in
set_option maxHeartbeats 1000000 in
theorem arity_12 (op : ByteArray) (w : World) (ht : op.toList = [61]) : Calls Tryz.prog 124 #[.string op] w fun e w' => e = .returned (.tuple #[.int .i64 (2), .bool true]) ∧ w' = w := by
 go_enter Tryz.func124, Tryz.ntmps124
 go_wp2
 go_ret2
 exact ⟨rfl, rfl⟩
set_option maxRecDepth 100000 in
set_option maxHeartbeats 1000000 in
theorem closeOf_13 (op : ByteArray) (w : World) (ht : op.toList = [60, 62]) : Calls Tryz.prog 89 #[.string op] w fun e w' => e = .returned (.int .i64 5) ∧ w' = w := by
 go_enter Tryz.func89, Tryz.ntmps89
 go_wp2
 go_ret
 exact ⟨rfl, rfl⟩
set_option maxRecDepth 100000 in
set_option maxHeartbeats 1000000 in
theorem arity_13 (op : ByteArray) (w : World) (ht : op.toList = [60, 62]) : Calls Tryz.prog 124 #[.string op] w fun e w' => e = .returned (.tuple #[.int .i64 (2), .bool true]) ∧ w' = w := by
 go_enter Tryz.func124, Tryz.ntmps124
 go_wp2
 go_ret2
 exact ⟨rfl, rfl⟩
set_option maxRecDepth 100000 in
set_option maxHeartbeats 1000000 in
theorem closeOf_14 (op : ByteArray) (w : World) (ht : op.toList = [60]) : Calls Tryz.prog 89 #[.string op] w fun e w' => e = .returned (.int .i64 5) ∧ w' = w := by
 go_enter Tryz.func89, Tryz.ntmps89
 go_wp2
 go_ret
 exact ⟨rfl, rfl⟩
set_option maxRecDepth 100000 in
set_option maxHeartbeats 1000000 in
theorem arity_14 (op : ByteArray) (w : World) (ht : op.toList = [60]) : Calls Tryz.prog 124 #[.string op] w fun e w' => e = .returned (.tuple #[.int .i64 (2), .bool true]) ∧ w' = w := by
 go_enter Tryz.func124, Tryz.ntmps124
 go_wp2
 go_ret2
 exact ⟨rfl, rfl⟩
set_option maxRecDepth 100000 in
set_option maxHeartbeats 1000000 in
theorem closeOf_15 (op : ByteArray) (w : World) (ht : op.toList = [60, 61]) : Calls Tryz.prog 89 #[.string op] w fun e w' => e = .returned (.int .i64 5) ∧ w' = w := by
 go_enter Tryz.func89, Tryz.ntmps89
 go_wp2
 go_ret
 exact ⟨rfl, rfl⟩
set_option maxRecDepth 100000 in
set_option maxHeartbeats 1000000 in
theorem arity_15 (op : ByteArray) (w : World) (ht : op.toList = [60, 61]) : Calls Tryz.prog 124 #[.string op] w fun e w' => e = .returned (.tuple #[.int .i64 (2), .bool true]) ∧ w' = w := by
 go_enter Tryz.func124, Tryz.ntmps124
 go_wp2
 go_ret2
 exact ⟨rfl, rfl⟩
set_option maxRecDepth 100000 in
set_option maxHeartbeats 1000000 in
theorem closeOf_16 (op : ByteArray) (w : World) (ht : op.toList = [62]) : Calls Tryz.prog 89 #[.string op] w fun e w' => e = .returned (.int .i64 5) ∧ w' = w := by
 go_enter Tryz.func89, Tryz.ntmps89
 go_wp2
 go_ret
 exact ⟨rfl, rfl⟩
set_option maxRecDepth 100000 in
set_option maxHeartbeats 1000000 in
theorem arity_16 (op : ByteArray) (w : World) (ht : op.toList = [62]) : Calls Tryz.prog 124 #[.string op] w fun e w' => e = .returned (.tuple #[.int .i64 (2), .bool true]) ∧ w' = w := by
 go_enter Tryz.func124, Tryz.ntmps124
 go_wp2
 go_ret2
 exact ⟨rfl, rfl⟩
set_option maxRecDepth 100000 in
set_option maxHeartbeats 1000000 in
theorem closeOf_17 (op : ByteArray) (w : World) (ht : op.toList = [62, 61]) : Calls Tryz.prog 89 #[.string op] w fun e w' => e = .returned (.int .i64 5) ∧ w' = w := by
 go_enter Tryz.func89, Tryz.ntmps89
 go_wp2
 go_ret
 exact ⟨rfl, rfl⟩
set_option maxRecDepth 100000 in
set_option maxHeartbeats 1000000 in
theorem arity_17 (op : ByteArray) (w : World) (ht : op.toList = [62, 61]) : Calls Tryz.prog 124 #[.string op] w fun e w' => e = .returned (.tuple #[.int .i64 (2), .bool true]) ∧ w' = w := by
 go_enter Tryz.func124, Tryz.ntmps124
 go_wp2
 go_ret2
 exact ⟨rfl, rfl⟩
set_option maxRecDepth 100000 in
set_option maxHeartbeats 1000000 in
theorem closeOf_18 (op : ByteArray) (w : World) (ht : op.toList = [61, 62]) : Calls Tryz.prog 89 #[.string op] w fun e w' => e = .returned (.int .i64 5) ∧ w' = w := by
 go_enter Tryz.func89, Tryz.ntmps89
 go_wp2
 go_ret
 exact ⟨rfl, rfl⟩
set_option maxRecDepth 100000 in
set_option maxHeartbeats 1000000 in
theorem arity_18 (op : ByteArray) (w : World) (ht : op.toList = [61, 62]) : Calls Tryz.prog 124 #[.string op] w fun e w' => e = .returned (.tuple #[.int .i64 (2), .bool true]) ∧ w' = w := by
 go_enter Tryz.func124, Tryz.ntmps124
 go_wp2
 go_ret2
 exact ⟨rfl, rfl⟩
set_option maxRecDepth 100000 in
set_option maxHeartbeats 1000000 in
theorem closeOf_19 (op : ByteArray) (w : World) (ht : op.toList = [43]) : Calls Tryz.prog 89 #[.string op] w fun e w' => e = .returned (.int .i64 6) ∧ w' = w := by
 go_enter Tryz.func89, Tryz.ntmps89
 go_wp2
 go_ret
 exact ⟨rfl, rfl⟩
set_option maxRecDepth 100000 in
set_option maxHeartbeats 1000000 in
theorem arity_19 (op : ByteArray) (w : World) (ht : op.toList = [43]) : Calls Tryz.prog 124 #[.string op] w fun e w' => e = .returned (.tuple #[.int .i64 (2), .bool true]) ∧ w' = w := by
 go_enter Tryz.func124, Tryz.ntmps124
 go_wp2
 go_ret2
 exact ⟨rfl, rfl⟩
set_option maxRecDepth 100000 in
set_option maxHeartbeats 1000000 in
theorem closeOf_20 (op : ByteArray) (w : World) (ht : op.toList = [45]) : Calls Tryz.prog 89 #[.string op] w fun e w' => e = .returned (.int .i64 6) ∧ w' = w := by
 go_enter Tryz.func89, Tryz.ntmps89
 go_wp2
 go_ret
 exact ⟨rfl, rfl⟩
set_option maxRecDepth 100000 in
set_option maxHeartbeats 1000000 in
theorem arity_20 (op : ByteArray) (w : World) (ht : op.toList = [45]) : Calls Tryz.prog 124 #[.string op] w fun e w' => e = .returned (.tuple #[.int .i64 (2), .bool true]) ∧ w' = w := by
 go_enter Tryz.func124, Tryz.ntmps124
 go_wp2
 go_ret2
 exact ⟨rfl, rfl⟩
set_option maxRecDepth 100000 in
set_option maxHeartbeats 1000000 in
theorem closeOf_21 (op : ByteArray) (w : World) (ht : op.toList = [42]) : Calls Tryz.prog 89 #[.string op] w fun e w' => e = .returned (.int .i64 7) ∧ w' = w := by
 go_enter Tryz.func89, Tryz.ntmps89
 go_wp2
 go_ret
 exact ⟨rfl, rfl⟩
set_option maxRecDepth 100000 in
set_option maxHeartbeats 1000000 in
theorem arity_21 (op : ByteArray) (w : World) (ht : op.toList = [42]) : Calls Tryz.prog 124 #[.string op] w fun e w' => e = .returned (.tuple #[.int .i64 (2), .bool true]) ∧ w' = w := by
 go_enter Tryz.func124, Tryz.ntmps124
 go_wp2
 go_ret2
 exact ⟨rfl, rfl⟩
set_option maxRecDepth 100000 in
set_option maxHeartbeats 1000000 in
theorem closeOf_22 (op : ByteArray) (w : World) (ht : op.toList = [47]) : Calls Tryz.prog 89 #[.string op] w fun e w' => e = .returned (.int .i64 7) ∧ w' = w := by
 go_enter Tryz.func89, Tryz.ntmps89
 go_wp2
 go_ret
 exact ⟨rfl, rfl⟩
set_option maxRecDepth 100000 in
set_option maxHeartbeats 1000000 in
theorem arity_22 (op : ByteArray) (w : World) (ht : op.toList = [47]) : Calls Tryz.prog 124 #[.string op] w fun e w' => e = .returned (.tuple #[.int .i64 (2), .bool true]) ∧ w' = w := by
 go_enter Tryz.func124, Tryz.ntmps124
 go_wp2
 go_ret2
 exact ⟨rfl, rfl⟩
set_option maxRecDepth 100000 in
set_option maxHeartbeats 1000000 in
theorem closeOf_23 (op : ByteArray) (w : World) (ht : op.toList = [109, 111, 100]) : Calls Tryz.prog 89 #[.string op] w fun e w' => e = .returned (.int .i64 7) ∧ w' = w := by
 go_enter Tryz.func89, Tryz.ntmps89
 go_wp2
 go_ret
 exact ⟨rfl, rfl⟩
set_option maxRecDepth 100000 in
set_option maxHeartbeats 1000000 in
theorem arity_23 (op : ByteArray) (w : World) (ht : op.toList = [109, 111, 100]) : Calls Tryz.prog 124 #[.string op] w fun e w' => e = .returned (.tuple #[.int .i64 (2), .bool true]) ∧ w' = w := by
 go_enter Tryz.func124, Tryz.ntmps124
 go_wp2
 go_ret2
 exact ⟨rfl, rfl⟩
set_option maxRecDepth 100000 in
set_option maxHeartbeats 1000000 in
theorem closeOf_24 (op : ByteArray) (w : World) (ht : op.toList = [110, 101, 103]) : Calls Tryz.prog 89 #[.string op] w fun e w' => e = .returned (.int .i64 8) ∧ w' = w := by
 go_enter Tryz.func89, Tryz.ntmps89
 go_wp2
 go_ret
 exact ⟨rfl, rfl⟩
set_option maxRecDepth 100000 in
set_option maxHeartbeats 1000000 in
theorem arity_24 (op : ByteArray) (w : World) (ht : op.toList = [110, 101, 103]) : Calls Tryz.prog 124 #[.string op] w fun e w' => e = .returned (.tuple #[.int .i64 (1), .bool true]) ∧ w' = w := by
 go_enter Tryz.func124, Tryz.ntmps124
 go_wp2
 go_ret2
 exact ⟨rfl, rfl⟩
set_option maxRecDepth 100000 in
set_option maxHeartbeats 1000000 in
theorem closeOf_25 (op : ByteArray) (w : World) (ht : op.toList = [112, 114, 101]) : Calls Tryz.prog 89 #[.string op] w fun e w' => e = .returned (.int .i64 8) ∧ w' = w := by
 go_enter Tryz.func89, Tryz.ntmps89
 go_wp2
 go_ret
 exact ⟨rfl, rfl⟩
set_option maxRecDepth 100000 in
set_option maxHeartbeats 1000000 in
theorem arity_25 (op : ByteArray) (w : World) (ht : op.toList = [112, 114, 101]) : Calls Tryz.prog 124 #[.string op] w fun e w' => e = .returned (.tuple #[.int .i64 (1), .bool true]) ∧ w' = w := by
 go_enter Tryz.func124, Tryz.ntmps124
 go_wp2
 go_ret2
 exact ⟨rfl, rfl⟩
set_option maxRecDepth 100000 in
set_option maxHeartbeats 1000000 in
theorem closeOf_26 (op : ByteArray) (w : World) (ht : op.toList = [99, 97, 108, 108]) : Calls Tryz.prog 89 #[.string op] w fun e w' => e = .returned (.int .i64 9) ∧ w' = w := by
 go_enter Tryz.func89, Tryz.ntmps89
 go_wp2
 go_ret
 exact ⟨rfl, rfl⟩
set_option maxRecDepth 100000 in
set_option maxHeartbeats 1000000 in
theorem arity_26 (op : ByteArray) (w : World) (ht : op.toList = [99, 97, 108, 108]) : Calls Tryz.prog 124 #[.string op] w fun e w' => e = .returned (.tuple #[.int .i64 (-1), .bool true]) ∧ w' = w := by
 go_enter Tryz.func124, Tryz.ntmps124
 go_wp2
 go_ret2
 exact ⟨rfl, rfl⟩
set_option maxRecDepth 100000 in
set_option maxHeartbeats 1000000 in
theorem arity_none (op : ByteArray) (w : World) (h1 : (op.toList == [105, 110, 116]) = false) (h2 : (op.toList == [116, 114, 117, 101]) = false) (h3 : (op.toList == [102, 97, 108, 115, 101]) = false) (h4 : (op.toList == [110, 97, 109, 101]) = false) (h5 : (op.toList == [105, 102]) = false) (h6 : (op.toList == [45, 62]) = false) (h7 : (op.toList == [102, 98, 121]) = false) (h8 : (op.toList == [111, 114]) = false) (h9 : (op.toList == [120, 111, 114]) = false) (h10 : (op.toList == [97, 110, 100]) = false) (h11 : (op.toList == [110, 111, 116]) = false) (h12 : (op.toList == [61]) = false) (h13 : (op.toList == [60, 62]) = false) (h14 : (op.toList == [60]) = false) (h15 : (op.toList == [60, 61]) = false) (h16 : (op.toList == [62]) = false) (h17 : (op.toList == [62, 61]) = false) (h18 : (op.toList == [61, 62]) = false) (h19 : (op.toList == [43]) = false) (h20 : (op.toList == [45]) = false) (h21 : (op.toList == [42]) = false) (h22 : (op.toList == [47]) = false) (h23 : (op.toList == [109, 111, 100]) = false) (h24 : (op.toList == [110, 101, 103]) = false) (h25 : (op.toList == [112, 114, 101]) = false) (h26 : (op.toList == [99, 97, 108, 108]) = false) : Calls Tryz.prog 124 #[.string op] w fun e w' => e = .returned (.tuple #[.int .i64 0, .bool false]) ∧ w' = w := by
 go_enter Tryz.func124, Tryz.ntmps124
 go_wp2
 go_ret2
 exact ⟨rfl, rfl⟩
theorem closeOf_in (op : ByteArray) (w : World) (t : List UInt8 × Int × Nat) (h : t ∈ arL) (ht : op.toList = t.1) : Calls Tryz.prog 89 #[.string op] w fun e w' => e = .returned (.int .i64 (t.2.2 : Nat)) ∧ w' = w := by
 simp only [arL, List.mem_cons, List.not_mem_nil, or_false] at h
 rcases h with rfl | rfl | rfl | rfl | rfl | rfl | rfl | rfl | rfl | rfl | rfl | rfl | rfl | rfl | rfl | rfl | rfl | rfl | rfl | rfl | rfl | rfl | rfl | rfl | rfl | rfl
 ·exact closeOf_1 op w ht
 ·exact closeOf_2 op w ht
 ·exact closeOf_3 op w ht
 ·exact closeOf_4 op w ht
 ·exact closeOf_5 op w ht
 ·exact closeOf_6 op w ht
 ·exact closeOf_7 op w ht
 ·exact closeOf_8 op w ht
 ·exact closeOf_9 op w ht
 ·exact closeOf_10 op w ht
 ·exact closeOf_11 op w ht
 ·exact closeOf_12 op w ht
 ·exact closeOf_13 op w ht
 ·exact closeOf_14 op w ht
 ·exact closeOf_15 op w ht
 ·exact closeOf_16 op w ht
 ·exact closeOf_17 op w ht
 ·exact closeOf_18 op w ht
 ·exact closeOf_19 op w ht
 ·exact closeOf_20 op w ht
 ·exact closeOf_21 op w ht
 ·exact closeOf_22 op w ht
 ·exact closeOf_23 op w ht
 ·exact closeOf_24 op w ht
 ·exact closeOf_25 op w ht
 ·exact closeOf_26 op w ht
theorem arity_in (op : ByteArray) (w : World) (t : List UInt8 × Int × Nat) (h : t ∈ arL) (ht : op.toList = t.1) : Calls Tryz.prog 124 #[.string op] w fun e w' => e = .returned (.tuple #[.int .i64 t.2.1, .bool true]) ∧ w' = w := by
 simp only [arL, List.mem_cons, List.not_mem_nil, or_false] at h
 rcases h with rfl | rfl | rfl | rfl | rfl | rfl | rfl | rfl | rfl | rfl | rfl | rfl | rfl | rfl | rfl | rfl | rfl | rfl | rfl | rfl | rfl | rfl | rfl | rfl | rfl | rfl
 ·exact arity_1 op w ht
 ·exact arity_2 op w ht
 ·exact arity_3 op w ht
 ·exact arity_4 op w ht
 ·exact arity_5 op w ht
 ·exact arity_6 op w ht
 ·exact arity_7 op w ht
 ·exact arity_8 op w ht
 ·exact arity_9 op w ht
 ·exact arity_10 op w ht
 ·exact arity_11 op w ht
 ·exact arity_12 op w ht
 ·exact arity_13 op w ht
 ·exact arity_14 op w ht
 ·exact arity_15 op w ht
 ·exact arity_16 op w ht
 ·exact arity_17 op w ht
 ·exact arity_18 op w ht
 ·exact arity_19 op w ht
 ·exact arity_20 op w ht
 ·exact arity_21 op w ht
 ·exact arity_22 op w ht
 ·exact arity_23 op w ht
 ·exact arity_24 op w ht
 ·exact arity_25 op w ht
 ·exact arity_26 op w ht
theorem arity_out (op : ByteArray) (w : World) (h : ∀ t ∈ arL, op.toList ≠ t.1) : Calls Tryz.prog 124 #[.string op] w fun e w' => e = .returned (.tuple #[.int .i64 0, .bool false]) ∧ w' = w :=
 have g : ∀ y c k, (y, c, k) ∈ arL → (op.toList == y) = false := fun y c k hm => beq_eq_false_iff_ne.2 (h _ hm)
 arity_none op w (g _ 0 9 (by decide)) (g _ 0 9 (by decide)) (g _ 0 9 (by decide)) (g _ 0 9 (by decide)) (g _ 3 0 (by decide)) (g _ 2 1 (by decide)) (g _ 2 1 (by decide)) (g _ 2 2 (by decide)) (g _ 2 2 (by decide)) (g _ 2 3 (by decide)) (g _ 1 4 (by decide)) (g _ 2 5 (by decide)) (g _ 2 5 (by decide)) (g _ 2 5 (by decide)) (g _ 2 5 (by decide)) (g _ 2 5 (by decide)) (g _ 2 5 (by decide)) (g _ 2 5 (by decide)) (g _ 2 6 (by decide)) (g _ 2 6 (by decide)) (g _ 2 7 (by decide)) (g _ 2 7 (by decide)) (g _ 2 7 (by decide)) (g _ 1 8 (by decide)) (g _ 1 8 (by decide)) (g _ (-1) 9 (by decide))
set_option maxRecDepth 100000 in
set_option maxHeartbeats 1000000 in
theorem must_any (b : Nat) (n : Int) (bad free ok : Bool) (w : World) (h : w.heap[b]? = some (.cells #[.int .i64 n, .bool bad, .bool free] 123 (0, 0))) :
  Calls Tryz.prog 52 #[.pointer (some ⟨b, 0, none⟩), .bool ok] w fun e w' => e = .returned (.tuple #[]) ∧ w' = (if ok then w else w.setCell ⟨b, 1, none⟩ (.bool true)) := by
 have hb : b < w.heap.size := (Array.getElem?_eq_some_iff.1 h).1
 have c1 : w.cell? ⟨b, 1, none⟩ = some (.bool bad) := by simp [World.cell?, h]
 have f1 : w.frozen? ⟨b, 1, none⟩ = false := by simp [World.frozen?, h]
 cases ok with
 | true =>
  go_enter Tryz.func52, Tryz.ntmps52
  go_wp2
  go_end0
  exact ⟨rfl, rfl⟩
 | false =>
  go_enter Tryz.func52, Tryz.ntmps52
  go_wp2
  go_end0
  exact ⟨rfl, rfl⟩
theorem kindText_any (k : Int) (w : World) : Calls Tryz.prog 87 #[.int .i64 k] w fun e w' => e = .returned (.string (if k = 2 then ⟨#[105, 110, 116]⟩ else ⟨#[98, 111, 111, 108]⟩)) ∧ w' = w := by
 by_cases hk : k = 2
 ·subst hk
  go_enter Tryz.func87, Tryz.ntmps87
  go_wp2
  go_ret
  exact ⟨rfl, rfl⟩
 ·have hk' : (k == 2) = false := by simpa using hk
  rw [if_neg hk]
  go_enter Tryz.func87, Tryz.ntmps87
  go_wp2
  go_ret
  exact ⟨rfl, rfl⟩
def refB (op : List UInt8) (n : Int) (s : List UInt8) (m : Nat) : Bool := match arL.find? fun t => t.1 == op with
 | none => false
 | some t => !(decide (0 ≤ t.2.1) && !(t.2.1 == (m : Int))) && (!((!(n == 0) && !(op == [105, 110, 116])) || decide (n < 0) || decide (127 < n)) && (s.isEmpty || op == [110, 97, 109, 101] || op == [99, 97, 108, 108]))
set_option maxRecDepth 100000 in
set_option maxHeartbeats 2000000 in
theorem refFormed_in (op : ByteArray) (n : Int) (s : ByteArray) (o : Option Addr) (m c : Nat) (w : World) (t : List UInt8 × Int × Nat) (h : t ∈ arL) (ht : op.toList = t.1) :
  Calls Tryz.prog 88 #[.agg #[.string op, .int .i64 n, .string s, .slice o m c]] w fun e w' => e = .returned (.bool (!(decide (0 ≤ t.2.1) && !(t.2.1 == (m : Int))) && (!((!(n == 0) && !(op.toList == [105, 110, 116])) || decide (n < 0) || decide (127 < n)) && (s.toList.isEmpty || op.toList == [110, 97, 109, 101] || op.toList == [99, 97, 108, 108])))) ∧ Below w.heap.size w w' := by
 have hbA : Below w.heap.size w (w.alloc (.cells #[.string op, .int .i64 n, .string s, .slice o m c] 94)) := (Below.refl _ _).alloc (Nat.le_refl _) _
 have HA : Hid (∀ w, Calls Tryz.prog 124 #[.string op] w fun e w' => e = .returned (.tuple #[.int .i64 t.2.1, .bool true]) ∧ w' = w) := fun w => arity_in op w t h ht
 generalize t.2.1 = a at HA ⊢
 clear h ht
 go_enter Tryz.func88, Tryz.ntmps88
 go_wp2_with fail
 refine (HA.out _).mono ?_
 rintro e w1 ⟨rfl, rfl⟩
 by_cases h1 : 0 ≤ a ∧ a ≠ (m : Int)
 ·have e1 : (decide (0 ≤ a) && !(a == (m : Int))) = true := by simp [h1.1, h1.2]
  go_wp2
  go_ret
  exact ⟨by rw [e1]; rfl, hbA⟩
 ·have h2 : a < 0 ∨ a = (m : Int) := by omega
  have e1 : (decide (0 ≤ a) && !(a == (m : Int))) = false := by
   rcases h2 with h2 | h2
   ·have : ¬ 0 ≤ a := by omega
    simp [this]
   ·simp [h2]
  have HE1 : Hid ((decide (0 ≤ a) && !(a == (m : Int))) = false) := e1
  clear h1 e1
  have hN : n = 0 ∨ (n ≠ 0 ∧ (op.toList == [105, 110, 116]) = false) ∨ (n ≠ 0 ∧ (op.toList == [105, 110, 116]) = true ∧ n < 0) ∨ (n ≠ 0 ∧ (op.toList == [105, 110, 116]) = true ∧ ¬ n < 0 ∧ 127 < n) ∨ (n ≠ 0 ∧ (op.toList == [105, 110, 116]) = true ∧ ¬ n < 0 ∧ ¬ 127 < n) := by
   by_cases a1 : n = 0
   ·exact Or.inl a1
   ·cases a2 : (op.toList == [105, 110, 116])
    ·exact Or.inr (Or.inl ⟨a1, rfl⟩)
    ·by_cases a3 : n < 0
     ·exact Or.inr (Or.inr (Or.inl ⟨a1, rfl, a3⟩))
     ·by_cases a4 : 127 < n
      ·exact Or.inr (Or.inr (Or.inr (Or.inl ⟨a1, rfl, a3, a4⟩)))
      ·exact Or.inr (Or.inr (Or.inr (Or.inr ⟨a1, rfl, a3, a4⟩)))
  have hS : s.toList = [] ∨ (s.toList ≠ [] ∧ (op.toList == [110, 97, 109, 101]) = true) ∨ (s.toList ≠ [] ∧ (op.toList == [110, 97, 109, 101]) = false ∧ (op.toList == [99, 97, 108, 108]) = true) ∨ (s.toList ≠ [] ∧ (op.toList == [110, 97, 109, 101]) = false ∧ (op.toList == [99, 97, 108, 108]) = false) := by
   by_cases a1 : s.toList = []
   ·exact Or.inl a1
   ·cases a2 : (op.toList == [110, 97, 109, 101])
    ·cases a3 : (op.toList == [99, 97, 108, 108])
     ·exact Or.inr (Or.inr (Or.inr ⟨a1, rfl, rfl⟩))
     ·exact Or.inr (Or.inr (Or.inl ⟨a1, rfl, rfl⟩))
    ·exact Or.inr (Or.inl ⟨a1, rfl⟩)
  have hs0 : s.toList ≠ [] → (s.toList == []) = false := fun h => beq_eq_false_iff_ne.2 h
  have h2' : ¬ 0 ≤ a ∨ a = (m : Int) := h2.imp (fun h => by omega) id
  clear h2
  rcases h2' with h2 | h2 <;> rcases hN with rfl | ⟨n1, n2⟩ | ⟨n1, n2, n3⟩ | ⟨n1, n2, n3, n4⟩ | ⟨n1, n2, n3, n4⟩
  all_goals
   rcases hS with hs | ⟨hs, k1⟩ | ⟨hs, k1, k2⟩ | ⟨hs, k1, k2⟩
  all_goals
   first
    | (go_wp2; go_ret; refine ⟨?_, hbA⟩; have e1 := HE1.out; simp_all; done)
    | (go_wp2; go_ret; refine ⟨?_, hbA⟩; have e1 := HE1.out; simp_all; omega)
    | trace_state
end Go.Proofs.YtgbpccipdcajgaaGreatDoor
