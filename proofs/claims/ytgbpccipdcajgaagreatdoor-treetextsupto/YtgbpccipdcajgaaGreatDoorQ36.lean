/-
  lustrumref1's WRITER: term with two parts: those that hold as close as 2.
-/
import Derived.Test.YtgbpccipdcajgaaGreatDoorQ34
namespace Go.Proofs.YtgbpccipdcajgaaGreatDoor
open Go.RowKit
attribute [local go_sem ↓] Go.wp_at_zero Go.wp_at_succ
set_option maxRecDepth 100000 in
set_option maxHeartbeats 2000000 in
theorem rwTerm_pair2 (B b : Nat) (hB : B ≤ b) (op : ByteArray) (n : Int) (s : ByteArray) (least L : Nat) (hLv : LevOk least L) (t : List UInt8 × Int × Nat) (ht : t ∈ arL) (ho : op.toList = t.1) (hlo : ¬ t.2.2 < least) (t0 : (op.toList == [105, 110, 116]) = false) (t1 : (op.toList == [116, 114, 117, 101]) = false) (t2 : (op.toList == [102, 97, 108, 115, 101]) = false) (t3 : (op.toList == [110, 97, 109, 101]) = false) (t4 : (op.toList == [99, 97, 108, 108]) = false) (t5 : (op.toList == [110, 101, 103]) = false) (t6 : (op.toList == [112, 114, 101]) = false) (t7 : (op.toList == [110, 111, 116]) = false) (t8 : (op.toList == [105, 102]) = false) (t9 : (op.toList == [45, 62]) = false) (t10 : (op.toList == [102, 98, 121]) = false) (hTwo : TwoIs op.toList 1 2 0) (h5 : t.2.2 = 2) (a b' : Ex) (mm : Nat) (hmm : SizeOf.sizeOf [a, b'] < mm + 1) (hz0 : NzT a) (hz1 : NzT b') (IH : RwAll B b mm) (hf : formedB op.toList n s.toList 2 = true) (w : World) (d : Nat) (o : Option Addr) (c : Nat) (ys : List Value) (m : Nat) (hb : w.heap[b]? = some (rwObj m false false)) (h1 : RowAt w (fun k => k < B) 4 (.slice o 2 c) 2 ys) (h2 : ExIn w (fun k => k < B) [a, b'] ys) (hd : d ≤ 20) (hm : m + 1 ≤ 6000) :
  Calls Tryz.prog 55 #[.pointer (some ⟨b, 0, none⟩), .agg #[.string op, .int .i64 n, .string s, .slice o 2 c], .int .i64 least, .int .i64 d] w (RwEnd B b L (.mk op n s [a, b']) d m false w) := by
 have hlt : b < w.heap.size := size_of_row hb
 have c0 : w.cell? ⟨b, 0, none⟩ = some (.int .i64 m) := by simp [World.cell?, hb]
 have f0 : w.frozen? ⟨b, 0, none⟩ = false := by simp [World.frozen?, hb]
 have R1 : Hid _ := rw_row (k' := ((m + 1 : Nat) : Int)) hb (reObj op n s (.slice o 2 c))
 have K1 : Hid (RwK B b w ((w.setCell ⟨b, 0, none⟩ (.int .i64 ((m + 1 : Nat) : Int))).alloc (reObj op n s (.slice o 2 c)))) := ((RwK.refl _ _ _).set hB 0 _).alloc (by simp; omega) _
 have E1 : Hid (((w.setCell ⟨b, 0, none⟩ (.int .i64 ((m + 1 : Nat) : Int))).alloc (reObj op n s (.slice o 2 c))).heap[w.heap.size]? = some (reObj op n s (.slice o 2 c))) := heap_alloc_new' (by simp) _
 have hwr : wrap64 ((m : Int) + 1) = ((m + 1 : Nat) : Int) := by unfold wrap64; omega
 have h6 : ((m + 1 : Nat) : Int) ≤ 6000 := by omega
 have hlo' : ¬ ((t.2.2 : Nat) : Int) < (least : Int) := by omega
 have HC : Hid (∀ w, Calls Tryz.prog 89 #[.string op] w fun e w' => e = .returned (.int .i64 (t.2.2 : Nat)) ∧ w' = w) := fun w => closeOf_in op w t ht ho
 have HL : Hid (¬ lvOf op.toList < L) := by
  have := mt (hLv.iff ht).2 hlo
  rw [← ho] at this
  exact this
 have HROW : Hid (RowAt w (fun k => k < B) 4 (.slice o 2 c) 2 ys ∧ ExIn w (fun k => k < B) [a, b'] ys) := ⟨h1, h2⟩
 have HF : Hid (formedB op.toList n s.toList 2 = true) := hf
 clear hb h1 h2 hf
 clear ho
 obtain ⟨p, f, c9, hv, hpB, _, g⟩ := HROW.out.1.at (by have := HROW.out.1.1; omega)
 obtain rfl : o = some ⟨p, f, none⟩ := by injection hv
 clear hv
 obtain ⟨op0, n0, s0, es0, oo0, cc0, zs0, e0, g0, g1, g2, g3, u1, u2⟩ := HROW.out.2.at (i := 0) (by simp)
 obtain rfl : a = .mk op0 n0 s0 es0 := e0
 have HX0 : Hid (∀ w', Below B w w' → w'.cell? ⟨p, f, none⟩ = some (.string op0) ∧ w'.cell? ⟨p, f + 1, none⟩ = some (.int .i64 n0) ∧ w'.cell? ⟨p, f + 2, none⟩ = some (.string s0) ∧ w'.cell? ⟨p, f + 3, none⟩ = some (.slice oo0 es0.length cc0)) := fun w' hw => ⟨below_cell hw hpB (g _ _ g0), below_cell hw hpB (g _ _ g1), below_cell hw hpB (g _ _ g2), below_cell hw hpB (g _ _ g3)⟩
 have HT0 : Hid (RowAt w (fun k => k < B) 4 (.slice oo0 es0.length cc0) es0.length zs0 ∧ ExIn w (fun k => k < B) es0 zs0) := ⟨u1, u2⟩
 clear g0 g1 g2 g3 u1 u2
 obtain ⟨op1, n1, s1, es1, oo1, cc1, zs1, e1, g0, g1, g2, g3, u1, u2⟩ := HROW.out.2.at (i := 1) (by simp)
 obtain rfl : b' = .mk op1 n1 s1 es1 := e1
 have HX1 : Hid (∀ w', Below B w w' → w'.cell? ⟨p, f + 4, none⟩ = some (.string op1) ∧ w'.cell? ⟨p, f + 5, none⟩ = some (.int .i64 n1) ∧ w'.cell? ⟨p, f + 6, none⟩ = some (.string s1) ∧ w'.cell? ⟨p, f + 7, none⟩ = some (.slice oo1 es1.length cc1)) := fun w' hw => ⟨below_cell hw hpB (g _ _ g0), below_cell hw hpB (g _ _ g1), below_cell hw hpB (g _ _ g2), below_cell hw hpB (g _ _ g3)⟩
 have HT1 : Hid (RowAt w (fun k => k < B) 4 (.slice oo1 es1.length cc1) es1.length zs1 ∧ ExIn w (fun k => k < B) es1 zs1) := ⟨u1, u2⟩
 clear g0 g1 g2 g3 u1 u2
 have hsz0 : SizeOf.sizeOf es0 < mm := by have := size_part (l := [.mk op0 n0 s0 es0, .mk op1 n1 s1 es1]) (i := 0) (by simp) rfl; omega
 have hsz1 : SizeOf.sizeOf es1 < mm := by have := size_part (l := [.mk op0 n0 s0 es0, .mk op1 n1 s1 es1]) (i := 1) (by simp) rfl; omega
 have IH0 : Hid (RwTerm B b op0 n0 s0 es0 2 1) := IH op0 n0 s0 es0 hsz0 hz0 _ _ (Or.inr ⟨rfl, by omega, by omega⟩)
 have IH1 : Hid (RwTerm B b op1 n1 s1 es1 3 2) := IH op1 n1 s1 es1 hsz1 hz1 _ _ (Or.inr ⟨by omega, by omega, by omega⟩)
 clear g IH
 have hq1 : wrap64 ((t.2.2 : Nat) + 1 : Int) = 3 := by unfold wrap64; omega
 go_enter Tryz.func55, Tryz.ntmps55
 go_wp2_with fail
 refine (refFormed_any op n s _ 2 c _).mono ?_
 rw [HF.out]
 rintro e w2 ⟨rfl, hw2⟩
 have R2 : Hid _ := row_keep hw2 R1.out
 have K2 : Hid (RwK B b w w2) := K1.out.trans (RwK.of hw2 (by simp; omega))
 have E2 : Hid _ := row_keep hw2 E1.out
 clear hw2 R1 K1 E1
 go_wp2_with fail
 refine (must_k B b _ false true _ R2.out hB).mono ?_
 rintro e w3 ⟨rfl, k3, r3⟩
 have c1 := (rw_bad r3).1
 have E3 := k3.re (by omega) E2.out
 obtain ⟨x0, x1, x2, x3, _⟩ := blk4 E3
 have K3 : Hid (RwK B b w w3) := K2.out.trans k3
 clear k3 R2 K2 E2
 go_wp2_with fail
 refine (HC.out _).mono ?_
 rintro e w4 ⟨rfl, rfl⟩
 obtain ⟨q0, q1, q2, q3⟩ := HX0.out _ K3.out.1
 have R3 : Hid _ := r3
 clear r3 c1
 go_wp2_with fail
 refine (IH0.out _ d oo0 cc0 zs0 _ _ R3.out (below_row HT0.out.1 K3.out.1) (below_ex HT0.out.2 K3.out.1) (fun _ => ⟨hd, m + 1, rfl, hm⟩)).mono ?_
 rintro e w5 ⟨ta, m5, bad5, rfl, k5, r5, hres⟩
 have hza := hres.size (fun _ => ⟨m + 1, rfl, hm⟩)
 have HRA : Hid (RwRes 1 (.mk op0 n0 s0 es0) d ((m + 1 : Nat) : Int) false ta m5 bad5) := hres
 have E5 := k5.re (by omega) E3
 have K5 : Hid (RwK B b w w5) := K3.out.trans k5
 clear hres k5 x0 x1 x2 x3 q0 q1 q2 q3 E3 K3 R3
 have r6 := r5
 have E6 := E5
 have K6 := K5
 obtain ⟨y0, y1, y2, y3, _⟩ := blk4 E6
 obtain ⟨z0, z1, z2, z3⟩ := HX1.out _ K6.out.1
 have R6 : Hid _ := r6
 clear r6
 have ho3 : op.size ≤ 3 := by have := hTwo.len; rwa [bytes_len] at this
 have ha1 : ∀ W : World, (Op.stringOp .add ta ⟨#[32]⟩).run Tryz.prog W = .ok (.string (ta ++ ⟨#[32]⟩)) W := fun W => run_string_add_sum W _ _ (by show ta.size + 1 ≤ _; omega)
 have ha2 : ∀ W : World, (Op.stringOp .add (ta ++ ⟨#[32]⟩) op).run Tryz.prog W = .ok (.string (ta ++ ⟨#[32]⟩ ++ op)) W := fun W => run_string_add_sum W _ _ (by rw [ByteArray.size_append]; show ta.size + 1 + op.size ≤ _; omega)
 have ha3 : ∀ W : World, (Op.stringOp .add (ta ++ ⟨#[32]⟩ ++ op) ⟨#[32]⟩).run Tryz.prog W = .ok (.string (ta ++ ⟨#[32]⟩ ++ op ++ ⟨#[32]⟩)) W := fun W => run_string_add_sum W _ _ (by rw [ByteArray.size_append, ByteArray.size_append]; show ta.size + 1 + op.size + 1 ≤ _; omega)
 go_wp2
 go_region_law (refine step_call rfl 55 #[.pointer (some ⟨b, 0, none⟩), .agg #[.string op1, .int .i64 n1, .string s1, .slice oo1 es1.length cc1], .int .i64 (3 : Nat), .int .i64 d] (by kernel_rfl) ?_; refine (IH1.out w5.drew d oo1 cc1 zs1 _ _ R6.out (below_row HT1.out.1 (Below.drew K6.out.1)) (below_ex HT1.out.2 (Below.drew K6.out.1)) (fun hbb => ⟨by omega, HRA.out.next hm hbb⟩)).mono ?_; rintro e w7 ⟨tb, m7, bad7, rfl, k7, r7, hres7⟩; have E7 := k7.re (by omega) E6; obtain ⟨v0, v1, v2, v3, _⟩ := blk4 E7; have hzb := hres7.size (fun hbb => HRA.out.next hm hbb); have ha4 : ∀ W : World, (Op.stringOp .add (ta ++ ⟨#[32]⟩ ++ op ++ ⟨#[32]⟩) tb).run Tryz.prog W = .ok (.string (ta ++ ⟨#[32]⟩ ++ op ++ ⟨#[32]⟩ ++ tb)) W := fun W => run_string_add_sum W _ _ (by rw [ByteArray.size_append, ByteArray.size_append, ByteArray.size_append]; show ta.size + 1 + op.size + 1 + tb.size ≤ _; omega); dsimp only)
 all_goals
  go_wp2
  go_ret
  exact ⟨_, m7, bad7, rfl, RwK.trans ⟨Below.drew K6.out.1, K6.out.2⟩ k7, r7, RwRes.two hTwo HF.out HL.out hm HRA.out (by simp; omega) hres7⟩
end Go.Proofs.YtgbpccipdcajgaaGreatDoor
