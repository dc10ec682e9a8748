/-
  THE DOCUMENT's OPERATORS: ApplyOf BY CONTRACT, mod.
-/
import Derived.Test.YtpiglmaojonbnaaGreatDoorP34
import Derived.Deep.RegionHeld
import Derived.Test.YtpiglmaojonbnaaGreatDoorP12
namespace Go.Proofs.YtpiglmaojonbnaaGreatDoor
open Go.RowKit

theorem orow {w : World} (o : Obj) {k : Nat} {x : Obj} (h : w.heap[k]? = some x) : (w.alloc o).heap[k]? = some x := by
  rw [Below.heap_alloc w o k (Array.getElem?_eq_some_iff.1 h).1]; exact h
theorem cell_far2 (w : World) (p q a : Addr) (u v : Value) (h : p.block ≠ a.block) (h' : q.block ≠ a.block) : ((w.setCell p u).setCell q v).drew.cell? a = w.cell? a := by
  have e : ((w.setCell p u).setCell q v).drew.cell? a = ((w.setCell p u).setCell q v).cell? a := by simp
  rw [e, World.cell?_setCell_far _ _ _ _ h', World.cell?_setCell_far _ _ _ _ h]
set_option maxRecDepth 100000 in
set_option maxHeartbeats 1000000 in
theorem apply_mod (op : ByteArray) (w : World) (ht : op.toList = [109, 111, 100]) (v : Value) (a b : Int × Int) (hv : ValsAt w v [a, b]) (ha : Sm a.2) (hb : Sm b.2) (h0 : b.2 ≠ 0) :
    Calls Tryz.prog 12 #[.string op, v] w fun e w' => e = .returned (.tuple #[.agg #[.int .i64 2, .int .i64 (aroundI (a.2 - a.2.tdiv b.2 * b.2))], .bool false]) ∧ Below w.heap.size w w' := by
  obtain ⟨hl, o, c, rfl, hc⟩ := hv
  obtain ⟨b0, off, rfl, x0, x1⟩ := hc 0 a rfl
  obtain ⟨b0', off', e', z0, z1⟩ := hc 1 b rfl
  obtain ⟨rfl, rfl⟩ : b0 = b0' ∧ off = off' := by simpa using e'
  obtain ⟨ak, an⟩ := a
  obtain ⟨bk, bn⟩ := b
  unfold Sm at ha hb
  simp only [Nat.zero_mul, Nat.add_zero, Nat.one_mul] at x0 x1 z0 z1
  have hb0 : b0 < w.heap.size := cell_lt x0
  clear hc hl e'
  have d0 : (bn == 0) = false := beq_eq_false_iff_ne.2 h0
  have hq : -129 < an.tdiv bn ∧ an.tdiv bn < 129 := by
    have h1 := Int.natAbs_tdiv_le_natAbs an bn
    omega
  have hm := mul_small (x := an.tdiv bn) (y := bn) hq hb
  have e1 : wrap64 (an.tdiv bn) = an.tdiv bn := by unfold wrap64; omega
  have e2 : wrap64 (an.tdiv bn * bn) = an.tdiv bn * bn := by unfold wrap64; omega
  have e3 : wrap64 (an - an.tdiv bn * bn) = an - an.tdiv bn * bn := by unfold wrap64; omega
  simp only at h0
  go_enter Tryz.func12, Tryz.ntmps12
  obtain ⟨w3, hw3⟩ : ∃ w3, w3 = ((w.alloc (.cells #[.int .i64 0, .int .i64 0] 26)).alloc (.cells #[.int .i64 ak, .int .i64 an] 26)).alloc (.cells #[.int .i64 bk, .int .i64 bn] 26) := ⟨_, rfl⟩
  have hb3 : Below w.heap.size w w3 := by rw [hw3]; exact (((Below.refl _ _).alloc (Nat.le_refl _) _).alloc (by simp) _).alloc (by simp; omega) _
  have rR : w3.heap[w.heap.size]? = some (.cells #[.int .i64 0, .int .i64 0] 26 (0, 0)) := by rw [hw3]; exact orow _ (orow _ (heap_alloc_new _ _))
  have rA : w3.heap[w.heap.size + 1]? = some (.cells #[.int .i64 ak, .int .i64 an] 26 (0, 0)) := by
    rw [hw3]
    have := heap_alloc_new (w.alloc (.cells #[.int .i64 0, .int .i64 0] 26)) (.cells #[.int .i64 ak, .int .i64 an] 26)
    rw [World.size_alloc] at this
    exact orow _ this
  have rB : w3.heap[w.heap.size + 1 + 1]? = some (.cells #[.int .i64 bk, .int .i64 bn] 26 (0, 0)) := by
    rw [hw3]
    have := heap_alloc_new ((w.alloc (.cells #[.int .i64 0, .int .i64 0] 26)).alloc (.cells #[.int .i64 ak, .int .i64 an] 26)) (.cells #[.int .i64 bk, .int .i64 bn] 26)
    rw [World.size_alloc, World.size_alloc] at this
    exact this
  have s1 := cell_of_row w3 (w.heap.size + 1) (0 + 1) _ _ (0, 0) rA
  have s2 := cell_of_row w3 (w.heap.size + 1 + 1) (0 + 1) _ _ (0, 0) rB
  have s3 := cell_of_row w3 w.heap.size 0 _ _ (0, 0) rR
  have s4 := cell_of_row w3 w.heap.size (0 + 1) _ _ (0, 0) rR
  have f3 : w3.frozen? ⟨w.heap.size, 0, none⟩ = false := by simp [World.frozen?, rR]
  have f4 : w3.frozen? ⟨w.heap.size, 0 + 1, none⟩ = false := by simp [World.frozen?, rR]
  have t1 : w3.cell? ⟨w.heap.size + 1, 0 + 1, none⟩ = some (.int .i64 an) := s1
  have t2 : w3.cell? ⟨w.heap.size + 1 + 1, 0 + 1, none⟩ = some (.int .i64 bn) := s2
  have n1 : w.heap.size ≠ w.heap.size + 1 := by omega
  have n2 : w.heap.size ≠ w.heap.size + 1 + 1 := by omega
  have HW3 : Hid (w3 = _) := hw3
  have RR : Hid (w3.heap[w.heap.size]? = _) := rR
  have HB3 : Hid (Below w.heap.size w w3) := hb3
  clear hw3 rR rA rB hb3
  go_wp2
  rw [← HW3.out]
  clear HW3 x0 x1 z0 z1 hb0
  go_region_held (fun w' => w'.cell? ⟨w.heap.size + 1, 0 + 1, none⟩ = some (.int .i64 an) ∧ w'.cell? ⟨w.heap.size + 1 + 1, 0 + 1, none⟩ = some (.int .i64 bn)) ((first | go_keep | exact ⟨(cell_far2 w3 _ _ _ _ _ n1 n1).trans t1, (cell_far2 w3 _ _ _ _ _ n2 n2).trans t2⟩))
    (first | (go_at_call 29; refine (around_any _ _).mono ?_; rintro e w' ⟨rfl, rfl⟩))
  have ew : IntKind.i64.wrap (an - IntKind.i64.wrap (IntKind.i64.wrap (an.tdiv bn) * bn)) = an - an.tdiv bn * bn := by
    have k1 : IntKind.i64.wrap (an.tdiv bn) = an.tdiv bn := (by rw [IntKind.wrap_i64]; have := e1; unfold wrap64 at this; omega)
    have k2 : IntKind.i64.wrap (an.tdiv bn * bn) = an.tdiv bn * bn := (by rw [IntKind.wrap_i64]; have := e2; unfold wrap64 at this; omega)
    rw [k1, k2, IntKind.wrap_i64]; have := e3; unfold wrap64 at this; omega
  rw [ew]
  have hB4 : Below w.heap.size w ((w3.setCell ⟨w.heap.size, 0, none⟩ (.int .i64 2)).setCell ⟨w.heap.size, 1, none⟩ (.int .i64 (aroundI (an - an.tdiv bn * bn)))).drew := ((HB3.out.setCell (Nat.le_refl _) _).setCell (Nat.le_refl _) _).drew
  have HB4 : Hid (Below w.heap.size w ((w3.setCell ⟨w.heap.size, 0, none⟩ (.int .i64 2)).setCell ⟨w.heap.size, 1, none⟩ (.int .i64 (aroundI (an - an.tdiv bn * bn)))).drew) := hB4
  clear hB4
  obtain ⟨v0, hv0⟩ : ∃ v0, v0 = aroundI (an - an.tdiv bn * bn) := ⟨_, rfl⟩
  rw [← hv0] at HB4 ⊢
  have u3 : w3.cell? ⟨w.heap.size, 0, none⟩ = some (.int .i64 0) := s3
  have u4 : w3.cell? ⟨w.heap.size, 1, none⟩ = some (.int .i64 0) := s4
  obtain ⟨w4, hw4⟩ : ∃ w4, w4 = ((w3.setCell ⟨w.heap.size, 0, none⟩ (.int .i64 2)).setCell ⟨w.heap.size, 1, none⟩ (.int .i64 v0)).drew := ⟨_, rfl⟩
  rw [← hw4] at HB4 ⊢
  have p0 : w4.cell? ⟨w.heap.size, 0, none⟩ = some (.int .i64 2) := by
    rw [hw4]; exact (World.cell?_setCell_other _ _ _ _ (by simp)).trans (World.cell?_setCell_same _ _ _ u3)
  have p1 : w4.cell? ⟨w.heap.size, 1, none⟩ = some (.int .i64 v0) := by
    rw [hw4]
    exact World.cell?_setCell_same _ _ _ ((World.cell?_setCell_other _ _ _ _ (by simp)).trans u4)
  clear hw4 s1 s2 s3 s4 f3 f4 t1 t2 u3 u4 RR HB3
  go_wp2
  refine bodyPost_ret (by simp [results, Tryz.results12, go_sem, p0, p1]; try rfl) rfl ?_
  refine ⟨by rw [hv0], ?_⟩
  exact HB4.out
end Go.Proofs.YtpiglmaojonbnaaGreatDoor

/-
  THE DOCUMENT's OPERATORS: Arity BY CONTRACT.
-/
namespace Go.Proofs.YtpiglmaojonbnaaGreatDoor
open Go.RowKit

/-- The operators, how many parts they have (-1: any). -/
def opL : List (List UInt8 × Int) := [([105, 110, 116], 0), ([116, 114, 117, 101], 0), ([102, 97, 108, 115, 101], 0), ([110, 97, 109, 101], 0), ([105, 102], 3), ([45, 62], 2), ([102, 98, 121], 2), ([111, 114], 2), ([120, 111, 114], 2), ([97, 110, 100], 2), ([110, 111, 116], 1), ([61], 2), ([60, 62], 2), ([60], 2), ([60, 61], 2), ([62], 2), ([62, 61], 2), ([61, 62], 2), ([43], 2), ([45], 2), ([42], 2), ([47], 2), ([109, 111, 100], 2), ([110, 101, 103], 1), ([112, 114, 101], 1), ([99, 97, 108, 108], -1)]
set_option maxRecDepth 100000 in
theorem oarity_1 (op : ByteArray) (w : World) (ht : op.toList = [105, 110, 116]) : Calls Tryz.prog 22 #[.string op] w fun e w' => e = .returned (.tuple #[.int .i64 (0), .bool true]) ∧ w' = w := by
  go_enter Tryz.func22, Tryz.ntmps22
  go_wp2
  go_ret2
  exact ⟨rfl, rfl⟩
set_option maxRecDepth 100000 in
theorem oarity_2 (op : ByteArray) (w : World) (ht : op.toList = [116, 114, 117, 101]) : Calls Tryz.prog 22 #[.string op] w fun e w' => e = .returned (.tuple #[.int .i64 (0), .bool true]) ∧ w' = w := by
  go_enter Tryz.func22, Tryz.ntmps22
  go_wp2
  go_ret2
  exact ⟨rfl, rfl⟩
set_option maxRecDepth 100000 in
theorem oarity_3 (op : ByteArray) (w : World) (ht : op.toList = [102, 97, 108, 115, 101]) : Calls Tryz.prog 22 #[.string op] w fun e w' => e = .returned (.tuple #[.int .i64 (0), .bool true]) ∧ w' = w := by
  go_enter Tryz.func22, Tryz.ntmps22
  go_wp2
  go_ret2
  exact ⟨rfl, rfl⟩
set_option maxRecDepth 100000 in
theorem oarity_4 (op : ByteArray) (w : World) (ht : op.toList = [110, 97, 109, 101]) : Calls Tryz.prog 22 #[.string op] w fun e w' => e = .returned (.tuple #[.int .i64 (0), .bool true]) ∧ w' = w := by
  go_enter Tryz.func22, Tryz.ntmps22
  go_wp2
  go_ret2
  exact ⟨rfl, rfl⟩
set_option maxRecDepth 100000 in
theorem oarity_5 (op : ByteArray) (w : World) (ht : op.toList = [105, 102]) : Calls Tryz.prog 22 #[.string op] w fun e w' => e = .returned (.tuple #[.int .i64 (3), .bool true]) ∧ w' = w := by
  go_enter Tryz.func22, Tryz.ntmps22
  go_wp2
  go_ret2
  exact ⟨rfl, rfl⟩
set_option maxRecDepth 100000 in
theorem oarity_6 (op : ByteArray) (w : World) (ht : op.toList = [45, 62]) : Calls Tryz.prog 22 #[.string op] w fun e w' => e = .returned (.tuple #[.int .i64 (2), .bool true]) ∧ w' = w := by
  go_enter Tryz.func22, Tryz.ntmps22
  go_wp2
  go_ret2
  exact ⟨rfl, rfl⟩
set_option maxRecDepth 100000 in
theorem oarity_7 (op : ByteArray) (w : World) (ht : op.toList = [102, 98, 121]) : Calls Tryz.prog 22 #[.string op] w fun e w' => e = .returned (.tuple #[.int .i64 (2), .bool true]) ∧ w' = w := by
  go_enter Tryz.func22, Tryz.ntmps22
  go_wp2
  go_ret2
  exact ⟨rfl, rfl⟩
set_option maxRecDepth 100000 in
theorem oarity_8 (op : ByteArray) (w : World) (ht : op.toList = [111, 114]) : Calls Tryz.prog 22 #[.string op] w fun e w' => e = .returned (.tuple #[.int .i64 (2), .bool true]) ∧ w' = w := by
  go_enter Tryz.func22, Tryz.ntmps22
  go_wp2
  go_ret2
  exact ⟨rfl, rfl⟩
set_option maxRecDepth 100000 in
theorem oarity_9 (op : ByteArray) (w : World) (ht : op.toList = [120, 111, 114]) : Calls Tryz.prog 22 #[.string op] w fun e w' => e = .returned (.tuple #[.int .i64 (2), .bool true]) ∧ w' = w := by
  go_enter Tryz.func22, Tryz.ntmps22
  go_wp2
  go_ret2
  exact ⟨rfl, rfl⟩
set_option maxRecDepth 100000 in
theorem oarity_10 (op : ByteArray) (w : World) (ht : op.toList = [97, 110, 100]) : Calls Tryz.prog 22 #[.string op] w fun e w' => e = .returned (.tuple #[.int .i64 (2), .bool true]) ∧ w' = w := by
  go_enter Tryz.func22, Tryz.ntmps22
  go_wp2
  go_ret2
  exact ⟨rfl, rfl⟩
set_option maxRecDepth 100000 in
theorem oarity_11 (op : ByteArray) (w : World) (ht : op.toList = [110, 111, 116]) : Calls Tryz.prog 22 #[.string op] w fun e w' => e = .returned (.tuple #[.int .i64 (1), .bool true]) ∧ w' = w := by
  go_enter Tryz.func22, Tryz.ntmps22
  go_wp2
  go_ret2
  exact ⟨rfl, rfl⟩
set_option maxRecDepth 100000 in
theorem oarity_12 (op : ByteArray) (w : World) (ht : op.toList = [61]) : Calls Tryz.prog 22 #[.string op] w fun e w' => e = .returned (.tuple #[.int .i64 (2), .bool true]) ∧ w' = w := by
  go_enter Tryz.func22, Tryz.ntmps22
  go_wp2
  go_ret2
  exact ⟨rfl, rfl⟩
set_option maxRecDepth 100000 in
theorem oarity_13 (op : ByteArray) (w : World) (ht : op.toList = [60, 62]) : Calls Tryz.prog 22 #[.string op] w fun e w' => e = .returned (.tuple #[.int .i64 (2), .bool true]) ∧ w' = w := by
  go_enter Tryz.func22, Tryz.ntmps22
  go_wp2
  go_ret2
  exact ⟨rfl, rfl⟩
set_option maxRecDepth 100000 in
theorem oarity_14 (op : ByteArray) (w : World) (ht : op.toList = [60]) : Calls Tryz.prog 22 #[.string op] w fun e w' => e = .returned (.tuple #[.int .i64 (2), .bool true]) ∧ w' = w := by
  go_enter Tryz.func22, Tryz.ntmps22
  go_wp2
  go_ret2
  exact ⟨rfl, rfl⟩
set_option maxRecDepth 100000 in
theorem oarity_15 (op : ByteArray) (w : World) (ht : op.toList = [60, 61]) : Calls Tryz.prog 22 #[.string op] w fun e w' => e = .returned (.tuple #[.int .i64 (2), .bool true]) ∧ w' = w := by
  go_enter Tryz.func22, Tryz.ntmps22
  go_wp2
  go_ret2
  exact ⟨rfl, rfl⟩
set_option maxRecDepth 100000 in
theorem oarity_16 (op : ByteArray) (w : World) (ht : op.toList = [62]) : Calls Tryz.prog 22 #[.string op] w fun e w' => e = .returned (.tuple #[.int .i64 (2), .bool true]) ∧ w' = w := by
  go_enter Tryz.func22, Tryz.ntmps22
  go_wp2
  go_ret2
  exact ⟨rfl, rfl⟩
set_option maxRecDepth 100000 in
theorem oarity_17 (op : ByteArray) (w : World) (ht : op.toList = [62, 61]) : Calls Tryz.prog 22 #[.string op] w fun e w' => e = .returned (.tuple #[.int .i64 (2), .bool true]) ∧ w' = w := by
  go_enter Tryz.func22, Tryz.ntmps22
  go_wp2
  go_ret2
  exact ⟨rfl, rfl⟩
set_option maxRecDepth 100000 in
theorem oarity_18 (op : ByteArray) (w : World) (ht : op.toList = [61, 62]) : Calls Tryz.prog 22 #[.string op] w fun e w' => e = .returned (.tuple #[.int .i64 (2), .bool true]) ∧ w' = w := by
  go_enter Tryz.func22, Tryz.ntmps22
  go_wp2
  go_ret2
  exact ⟨rfl, rfl⟩
set_option maxRecDepth 100000 in
theorem oarity_19 (op : ByteArray) (w : World) (ht : op.toList = [43]) : Calls Tryz.prog 22 #[.string op] w fun e w' => e = .returned (.tuple #[.int .i64 (2), .bool true]) ∧ w' = w := by
  go_enter Tryz.func22, Tryz.ntmps22
  go_wp2
  go_ret2
  exact ⟨rfl, rfl⟩
set_option maxRecDepth 100000 in
theorem oarity_20 (op : ByteArray) (w : World) (ht : op.toList = [45]) : Calls Tryz.prog 22 #[.string op] w fun e w' => e = .returned (.tuple #[.int .i64 (2), .bool true]) ∧ w' = w := by
  go_enter Tryz.func22, Tryz.ntmps22
  go_wp2
  go_ret2
  exact ⟨rfl, rfl⟩
set_option maxRecDepth 100000 in
theorem oarity_21 (op : ByteArray) (w : World) (ht : op.toList = [42]) : Calls Tryz.prog 22 #[.string op] w fun e w' => e = .returned (.tuple #[.int .i64 (2), .bool true]) ∧ w' = w := by
  go_enter Tryz.func22, Tryz.ntmps22
  go_wp2
  go_ret2
  exact ⟨rfl, rfl⟩
set_option maxRecDepth 100000 in
theorem oarity_22 (op : ByteArray) (w : World) (ht : op.toList = [47]) : Calls Tryz.prog 22 #[.string op] w fun e w' => e = .returned (.tuple #[.int .i64 (2), .bool true]) ∧ w' = w := by
  go_enter Tryz.func22, Tryz.ntmps22
  go_wp2
  go_ret2
  exact ⟨rfl, rfl⟩
set_option maxRecDepth 100000 in
theorem oarity_23 (op : ByteArray) (w : World) (ht : op.toList = [109, 111, 100]) : Calls Tryz.prog 22 #[.string op] w fun e w' => e = .returned (.tuple #[.int .i64 (2), .bool true]) ∧ w' = w := by
  go_enter Tryz.func22, Tryz.ntmps22
  go_wp2
  go_ret2
  exact ⟨rfl, rfl⟩
set_option maxRecDepth 100000 in
theorem oarity_24 (op : ByteArray) (w : World) (ht : op.toList = [110, 101, 103]) : Calls Tryz.prog 22 #[.string op] w fun e w' => e = .returned (.tuple #[.int .i64 (1), .bool true]) ∧ w' = w := by
  go_enter Tryz.func22, Tryz.ntmps22
  go_wp2
  go_ret2
  exact ⟨rfl, rfl⟩
set_option maxRecDepth 100000 in
theorem oarity_25 (op : ByteArray) (w : World) (ht : op.toList = [112, 114, 101]) : Calls Tryz.prog 22 #[.string op] w fun e w' => e = .returned (.tuple #[.int .i64 (1), .bool true]) ∧ w' = w := by
  go_enter Tryz.func22, Tryz.ntmps22
  go_wp2
  go_ret2
  exact ⟨rfl, rfl⟩
set_option maxRecDepth 100000 in
theorem oarity_26 (op : ByteArray) (w : World) (ht : op.toList = [99, 97, 108, 108]) : Calls Tryz.prog 22 #[.string op] w fun e w' => e = .returned (.tuple #[.int .i64 (-1), .bool true]) ∧ w' = w := by
  go_enter Tryz.func22, Tryz.ntmps22
  go_wp2
  go_ret2
  exact ⟨rfl, rfl⟩
set_option maxRecDepth 100000 in
theorem oarity_none (op : ByteArray) (w : World) (h1 : (op.toList == [105, 110, 116]) = false) (h2 : (op.toList == [116, 114, 117, 101]) = false) (h3 : (op.toList == [102, 97, 108, 115, 101]) = false) (h4 : (op.toList == [110, 97, 109, 101]) = false) (h5 : (op.toList == [105, 102]) = false) (h6 : (op.toList == [45, 62]) = false) (h7 : (op.toList == [102, 98, 121]) = false) (h8 : (op.toList == [111, 114]) = false) (h9 : (op.toList == [120, 111, 114]) = false) (h10 : (op.toList == [97, 110, 100]) = false) (h11 : (op.toList == [110, 111, 116]) = false) (h12 : (op.toList == [61]) = false) (h13 : (op.toList == [60, 62]) = false) (h14 : (op.toList == [60]) = false) (h15 : (op.toList == [60, 61]) = false) (h16 : (op.toList == [62]) = false) (h17 : (op.toList == [62, 61]) = false) (h18 : (op.toList == [61, 62]) = false) (h19 : (op.toList == [43]) = false) (h20 : (op.toList == [45]) = false) (h21 : (op.toList == [42]) = false) (h22 : (op.toList == [47]) = false) (h23 : (op.toList == [109, 111, 100]) = false) (h24 : (op.toList == [110, 101, 103]) = false) (h25 : (op.toList == [112, 114, 101]) = false) (h26 : (op.toList == [99, 97, 108, 108]) = false) : Calls Tryz.prog 22 #[.string op] w fun e w' => e = .returned (.tuple #[.int .i64 0, .bool false]) ∧ w' = w := by
  go_enter Tryz.func22, Tryz.ntmps22
  go_wp2
  go_ret2
  exact ⟨rfl, rfl⟩
theorem oarity_in (op : ByteArray) (w : World) (t : List UInt8 × Int) (h : t ∈ opL) (ht : op.toList = t.1) : Calls Tryz.prog 22 #[.string op] w fun e w' => e = .returned (.tuple #[.int .i64 t.2, .bool true]) ∧ w' = w := by
  simp only [opL, List.mem_cons, List.not_mem_nil, or_false] at h
  rcases h with rfl | rfl | rfl | rfl | rfl | rfl | rfl | rfl | rfl | rfl | rfl | rfl | rfl | rfl | rfl | rfl | rfl | rfl | rfl | rfl | rfl | rfl | rfl | rfl | rfl | rfl
  · exact oarity_1 op w ht
  · exact oarity_2 op w ht
  · exact oarity_3 op w ht
  · exact oarity_4 op w ht
  · exact oarity_5 op w ht
  · exact oarity_6 op w ht
  · exact oarity_7 op w ht
  · exact oarity_8 op w ht
  · exact oarity_9 op w ht
  · exact oarity_10 op w ht
  · exact oarity_11 op w ht
  · exact oarity_12 op w ht
  · exact oarity_13 op w ht
  · exact oarity_14 op w ht
  · exact oarity_15 op w ht
  · exact oarity_16 op w ht
  · exact oarity_17 op w ht
  · exact oarity_18 op w ht
  · exact oarity_19 op w ht
  · exact oarity_20 op w ht
  · exact oarity_21 op w ht
  · exact oarity_22 op w ht
  · exact oarity_23 op w ht
  · exact oarity_24 op w ht
  · exact oarity_25 op w ht
  · exact oarity_26 op w ht
theorem oarity_out (op : ByteArray) (w : World) (h : ∀ t ∈ opL, op.toList ≠ t.1) : Calls Tryz.prog 22 #[.string op] w fun e w' => e = .returned (.tuple #[.int .i64 0, .bool false]) ∧ w' = w :=
  have g : ∀ y c, (y, c) ∈ opL → (op.toList == y) = false := fun y c hm => beq_eq_false_iff_ne.2 (h _ hm)
  oarity_none op w (g _ 0 (by decide)) (g _ 0 (by decide)) (g _ 0 (by decide)) (g _ 0 (by decide)) (g _ 3 (by decide)) (g _ 2 (by decide)) (g _ 2 (by decide)) (g _ 2 (by decide)) (g _ 2 (by decide)) (g _ 2 (by decide)) (g _ 1 (by decide)) (g _ 2 (by decide)) (g _ 2 (by decide)) (g _ 2 (by decide)) (g _ 2 (by decide)) (g _ 2 (by decide)) (g _ 2 (by decide)) (g _ 2 (by decide)) (g _ 2 (by decide)) (g _ 2 (by decide)) (g _ 2 (by decide)) (g _ 2 (by decide)) (g _ 2 (by decide)) (g _ 1 (by decide)) (g _ 1 (by decide)) (g _ (-1) (by decide))
end Go.Proofs.YtpiglmaojonbnaaGreatDoor
