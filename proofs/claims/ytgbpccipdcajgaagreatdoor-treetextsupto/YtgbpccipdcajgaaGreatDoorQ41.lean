/-
  lustrumref1's WRITER: term: a condition.
-/
import Derived.Test.YtgbpccipdcajgaaGreatDoorQ34
namespace Go.Proofs.YtgbpccipdcajgaaGreatDoor
open Go.RowKit
attribute [local go_sem ↓] Go.wp_at_zero Go.wp_at_succ
theorem RwRes.cond {L : Nat} {op : ByteArray} {n : Int} {s : ByteArray} {a b x : Ex} {d m : Nat} {bad1 bad2 bad3 bad' : Bool} {ta tb tx : ByteArray} {n1 n2 n' : Int} (ho : op.toList = [105, 102]) (hf : formedB op.toList n s.toList 3 = true) (hl : ¬ lvOf op.toList < L) (hm : m + 1 ≤ 6000) (h1 : bad1 = !decide (d < 20)) (ha : RwRes 0 a (d + 1) ((m + 1 : Nat) : Int) bad1 ta n1 bad2) (hb : RwRes 0 b (d + 1) n1 bad2 tb n2 bad3) (hx : RwRes 0 x (d + 1) n2 bad3 tx n' bad') : RwRes L (.mk op n s [a, b, x]) d (m : Int) false (⟨#[105, 102, 32]⟩ ++ ta ++ ⟨#[32, 116, 104, 101, 110, 32]⟩ ++ tb ++ ⟨#[32, 101, 108, 115, 101, 32]⟩ ++ tx) n' bad' := by
 refine ⟨fun h => (by cases h), fun _ m' hm' _ => ?_⟩
 obtain rfl : m = m' := by omega
 have hz : (⟨#[105, 102, 32]⟩ ++ ta ++ ⟨#[32, 116, 104, 101, 110, 32]⟩ ++ tb ++ ⟨#[32, 101, 108, 115, 101, 32]⟩ ++ tx : ByteArray).size = ta.size + tb.size + tx.size + 15 := by
  rw [ByteArray.size_append, ByteArray.size_append, ByteArray.size_append, ByteArray.size_append, ByteArray.size_append]
  show 3 + ta.size + 6 + tb.size + 6 + tx.size = _
  omega
 have z0 : (b0 : ByteArray).size = 0 := rfl
 by_cases h20 : d < 20
 ·have hb1 : bad1 = false := by rw [h1]; simp [h20]
  rcases ha.2 hb1 (m + 1) rfl hm with ⟨e1, k, hk, hw⟩ | ⟨e1, hn, hs⟩
  ·have hr := hw.room
   have hlen := hw.len
   rw [bytes_len] at hlen
   rcases hb.2 e1 (m + 1 + k) hk hr with ⟨e2, k2, hk2, hw2⟩ | ⟨e2, hn2, hs2⟩
   ·have hr2 := hw2.room
    have hlen2 := hw2.len
    rw [bytes_len] at hlen2
    rcases hx.2 e2 (m + 1 + k + k2) hk2 hr2 with ⟨e3, k3, hk3, hw3⟩ | ⟨e3, hn3, hs3⟩
    ·refine Or.inl ⟨e3, 1 + k + k2 + k3, by rw [hk3]; congr 1; omega, ?_⟩
     have := if_went ho hf hl hw hw2 hw3
     rw [list_app, list_app, list_app, list_app, list_app, show (⟨#[105, 102, 32]⟩ : ByteArray).toList = [105, 102, 32] from by rw [ByteArray.toList_eq], show (⟨#[32, 116, 104, 101, 110, 32]⟩ : ByteArray).toList = [32, 116, 104, 101, 110, 32] from by rw [ByteArray.toList_eq], show (⟨#[32, 101, 108, 115, 101, 32]⟩ : ByteArray).toList = [32, 101, 108, 115, 101, 32] from by rw [ByteArray.toList_eq]]
     exact this
    ·exact Or.inr ⟨e3, if_no ho hf hl (Or.inr (Or.inr (Or.inr ⟨_, _, _, _, hw, hw2, hn3⟩))), by omega⟩
   ·obtain ⟨e3, rfl⟩ := hx.1 e2
    exact Or.inr ⟨e3, if_no ho hf hl (Or.inr (Or.inr (Or.inl ⟨_, _, hw, hn2⟩))), by omega⟩
  ·obtain ⟨e2, rfl⟩ := hb.1 e1
   obtain ⟨e3, rfl⟩ := hx.1 e2
   exact Or.inr ⟨e3, if_no ho hf hl (Or.inr (Or.inl hn)), by omega⟩
 ·have hb1 : bad1 = true := by rw [h1]; simp [h20]
  obtain ⟨e1, rfl⟩ := ha.1 hb1
  obtain ⟨e2, rfl⟩ := hb.1 e1
  obtain ⟨e3, rfl⟩ := hx.1 e2
  exact Or.inr ⟨e3, if_no ho hf hl (Or.inl (by omega)), by omega⟩
theorem RwRes.more {L : Nat} {t : Ex} {d : Nat} {c : Int} {bad : Bool} {text : ByteArray} {n' : Int} {bad' : Bool} (h : RwRes L t d c bad text n' bad') (hc : bad = false → ∃ m : Nat, c = m ∧ m ≤ 6000) (hb : bad' = false) : bad = false ∧ ∃ m' : Nat, n' = m' ∧ m' ≤ 6000 := by
 cases e : bad with
 | true => rw [(h.1 e).1] at hb; cases hb
 | false =>
  obtain ⟨m, hm, h6⟩ := hc e
  rcases h.2 e m hm h6 with ⟨_, k, hk, hw⟩ | ⟨e2, _⟩
  ·exact ⟨rfl, m + k, hk, hw.room⟩
  ·rw [hb] at e2; cases e2
set_option maxRecDepth 100000 in
set_option maxHeartbeats 2000000 in
theorem rwTerm_if (B b : Nat) (hB : B ≤ b) (op : ByteArray) (n : Int) (s : ByteArray) (least L : Nat) (hLv : LevOk least L) (t : List UInt8 × Int × Nat) (ht : t ∈ arL) (ho : op.toList = t.1) (hlo : ¬ t.2.2 < least) (tt : op.toList = [105, 102]) (a b' x : Ex) (mm : Nat) (hmm : SizeOf.sizeOf [a, b', x] < mm + 1) (hz0 : NzT a) (hz1 : NzT b') (hz2 : NzT x) (IH : RwAll B b mm) (hf : formedB op.toList n s.toList 3 = true) (w : World) (d : Nat) (o : Option Addr) (c : Nat) (ys : List Value) (m : Nat) (hb : w.heap[b]? = some (rwObj m false false)) (h1 : RowAt w (fun k => k < B) 4 (.slice o 3 c) 3 ys) (h2 : ExIn w (fun k => k < B) [a, b', x] ys) (hd : d ≤ 20) (hm : m + 1 ≤ 6000) :
  Calls Tryz.prog 55 #[.pointer (some ⟨b, 0, none⟩), .agg #[.string op, .int .i64 n, .string s, .slice o 3 c], .int .i64 least, .int .i64 d] w (RwEnd B b L (.mk op n s [a, b', x]) d m false w) := by
 have hlt : b < w.heap.size := size_of_row hb
 have c0 : w.cell? ⟨b, 0, none⟩ = some (.int .i64 m) := by simp [World.cell?, hb]
 have f0 : w.frozen? ⟨b, 0, none⟩ = false := by simp [World.frozen?, hb]
 have R1 : Hid _ := rw_row (k' := ((m + 1 : Nat) : Int)) hb (reObj op n s (.slice o 3 c))
 have K1 : Hid (RwK B b w ((w.setCell ⟨b, 0, none⟩ (.int .i64 ((m + 1 : Nat) : Int))).alloc (reObj op n s (.slice o 3 c)))) := ((RwK.refl _ _ _).set hB 0 _).alloc (by simp; omega) _
 have E1 : Hid (((w.setCell ⟨b, 0, none⟩ (.int .i64 ((m + 1 : Nat) : Int))).alloc (reObj op n s (.slice o 3 c))).heap[w.heap.size]? = some (reObj op n s (.slice o 3 c))) := heap_alloc_new' (by simp) _
 have hwr : wrap64 ((m : Int) + 1) = ((m + 1 : Nat) : Int) := by unfold wrap64; omega
 have h6 : ((m + 1 : Nat) : Int) ≤ 6000 := by omega
 have hlo' : ¬ ((t.2.2 : Nat) : Int) < (least : Int) := by omega
 have HC : Hid (∀ w, Calls Tryz.prog 89 #[.string op] w fun e w' => e = .returned (.int .i64 (t.2.2 : Nat)) ∧ w' = w) := fun w => closeOf_in op w t ht ho
 have HL : Hid (¬ lvOf op.toList < L) := by
  have := mt (hLv.iff ht).2 hlo
  rw [← ho] at this
  exact this
 have HROW : Hid (RowAt w (fun k => k < B) 4 (.slice o 3 c) 3 ys ∧ ExIn w (fun k => k < B) [a, b', x] ys) := ⟨h1, h2⟩
 have HF : Hid (formedB op.toList n s.toList 3 = true) := hf
 clear hb h1 h2 hf
 clear ho
 obtain ⟨p, f, c9, hv, hpB, _, g⟩ := HROW.out.1.at (by have := HROW.out.1.1; omega)
 obtain rfl : o = some ⟨p, f, none⟩ := by injection hv
 clear hv
 obtain ⟨op0, n0, s0, es0, oo0, cc0, zs0, e0, g0, g1, g2, g3, u1, u2⟩ := HROW.out.2.at (i := 0) (by simp)
 obtain rfl : a = .mk op0 n0 s0 es0 := e0
 have HX0 : Hid (∀ w', Below B w w' → w'.cell? ⟨p, f, none⟩ = some (.string op0) ∧ w'.cell? ⟨p, f + 1, none⟩ = some (.int .i64 n0) ∧ w'.cell? ⟨p, f + 2, none⟩ = some (.string s0) ∧ w'.cell? ⟨p, f + 3, none⟩ = some (.slice oo0 es0.length cc0)) := fun w' hw => ⟨below_cell hw hpB (g _ _ g0), below_cell hw hpB (g _ _ g1), below_cell hw hpB (g _ _ g2), below_cell hw hpB (g _ _ g3)⟩
 have HT0 : Hid (RowAt w (fun k => k < B) 4 (.slice oo0 es0.length cc0) es0.length zs0 ∧ ExIn w (fun k => k < B) es0 zs0) := ⟨u1, u2⟩
 clear g0 g1 g2 g3 u1 u2
 obtain ⟨op1, n1, s1, es1, oo1, cc1, zs1, e1, g0, g1, g2, g3, u1, u2⟩ := HROW.out.2.at (i := 1) (by simp)
 obtain rfl : b' = .mk op1 n1 s1 es1 := e1
 have HX1 : Hid (∀ w', Below B w w' → w'.cell? ⟨p, f + 4, none⟩ = some (.string op1) ∧ w'.cell? ⟨p, f + 5, none⟩ = some (.int .i64 n1) ∧ w'.cell? ⟨p, f + 6, none⟩ = some (.string s1) ∧ w'.cell? ⟨p, f + 7, none⟩ = some (.slice oo1 es1.length cc1)) := fun w' hw => ⟨below_cell hw hpB (g _ _ g0), below_cell hw hpB (g _ _ g1), below_cell hw hpB (g _ _ g2), below_cell hw hpB (g _ _ g3)⟩
 have HT1 : Hid (RowAt w (fun k => k < B) 4 (.slice oo1 es1.length cc1) es1.length zs1 ∧ ExIn w (fun k => k < B) es1 zs1) := ⟨u1, u2⟩
 clear g0 g1 g2 g3 u1 u2
 obtain ⟨op2, n2, s2, es2, oo2, cc2, zs2, e2, g0, g1, g2, g3, u1, u2⟩ := HROW.out.2.at (i := 2) (by simp)
 obtain rfl : x = .mk op2 n2 s2 es2 := e2
 have HX2 : Hid (∀ w', Below B w w' → w'.cell? ⟨p, f + 8, none⟩ = some (.string op2) ∧ w'.cell? ⟨p, f + 9, none⟩ = some (.int .i64 n2) ∧ w'.cell? ⟨p, f + 10, none⟩ = some (.string s2) ∧ w'.cell? ⟨p, f + 11, none⟩ = some (.slice oo2 es2.length cc2)) := fun w' hw => ⟨below_cell hw hpB (g _ _ g0), below_cell hw hpB (g _ _ g1), below_cell hw hpB (g _ _ g2), below_cell hw hpB (g _ _ g3)⟩
 have HT2 : Hid (RowAt w (fun k => k < B) 4 (.slice oo2 es2.length cc2) es2.length zs2 ∧ ExIn w (fun k => k < B) es2 zs2) := ⟨u1, u2⟩
 clear g0 g1 g2 g3 u1 u2
 have hsz0 : SizeOf.sizeOf es0 < mm := by have := size_part (l := [.mk op0 n0 s0 es0, .mk op1 n1 s1 es1, .mk op2 n2 s2 es2]) (i := 0) (by simp) rfl; omega
 have IH0 : Hid (RwTerm B b op0 n0 s0 es0 0 0) := IH op0 n0 s0 es0 hsz0 hz0 _ _ (Or.inl ⟨rfl, rfl⟩)
 have hsz1 : SizeOf.sizeOf es1 < mm := by have := size_part (l := [.mk op0 n0 s0 es0, .mk op1 n1 s1 es1, .mk op2 n2 s2 es2]) (i := 1) (by simp) rfl; omega
 have IH1 : Hid (RwTerm B b op1 n1 s1 es1 0 0) := IH op1 n1 s1 es1 hsz1 hz1 _ _ (Or.inl ⟨rfl, rfl⟩)
 have hsz2 : SizeOf.sizeOf es2 < mm := by have := size_part (l := [.mk op0 n0 s0 es0, .mk op1 n1 s1 es1, .mk op2 n2 s2 es2]) (i := 2) (by simp) rfl; omega
 have IH2 : Hid (RwTerm B b op2 n2 s2 es2 0 0) := IH op2 n2 s2 es2 hsz2 hz2 _ _ (Or.inl ⟨rfl, rfl⟩)
 clear g IH
 go_enter Tryz.func55, Tryz.ntmps55
 go_wp2_with fail
 refine (refFormed_any op n s _ 3 c _).mono ?_
 rw [HF.out]
 rintro e w2 ⟨rfl, hw2⟩
 have R2 : Hid _ := row_keep hw2 R1.out
 have K2 : Hid (RwK B b w w2) := K1.out.trans (RwK.of hw2 (by simp; omega))
 have E2 : Hid _ := row_keep hw2 E1.out
 clear hw2 R1 K1 E1
 go_wp2_with fail
 refine (must_k B b _ false true _ R2.out hB).mono ?_
 rintro e w3 ⟨rfl, k3, r3⟩
 have c1 := (rw_bad r3).1
 have E3 := k3.re (by omega) E2.out
 obtain ⟨x0, x1, x2, x3, _⟩ := blk4 E3
 have K3 : Hid (RwK B b w w3) := K2.out.trans k3
 clear k3 R2 K2 E2
 go_wp2_with fail
 refine (HC.out _).mono ?_
 rintro e w4 ⟨rfl, rfl⟩
 go_wp2_with fail
 refine (down_k B b _ false d hd _ r3 hB).mono ?_
 rintro e w5 ⟨rfl, k5, r5⟩
 have E5 := k5.re (by omega) E3
 obtain ⟨y0, y1, y2, y3, _⟩ := blk4 E5
 have K5 : Hid (RwK B b w w5) := K3.out.trans k5
 have R5 : Hid _ := r5
 clear k5 r3 r5 c1 x0 x1 x2 x3 E3 K3
 obtain ⟨q0, q1, q2, q3⟩ := HX0.out _ K5.out.1
 have hc1 : (false || !decide (d < 20)) = false → d + 1 ≤ 20 := fun h => by simp at h; omega
 generalize hbad1 : (false || !decide (d < 20)) = bad1 at R5 hc1
 have HB1 : Hid (bad1 = !decide (d < 20)) := (show bad1 = !decide (d < 20) from by rw [← hbad1]; simp)
 have HC1 : Hid (bad1 = false → d + 1 ≤ 20) := hc1
 clear hc1 hbad1
 go_wp2_with fail
 refine (IH0.out _ (d + 1) oo0 cc0 zs0 _ _ R5.out (below_row HT0.out.1 K5.out.1) (below_ex HT0.out.2 K5.out.1) (fun hbb => ⟨HC1.out hbb, m + 1, rfl, hm⟩)).mono ?_
 rintro e w6 ⟨ta, m6, bad6, rfl, k6, r6, hres⟩
 have hza := hres.size (fun _ => ⟨m + 1, rfl, hm⟩)
 have hca := hres.more (fun _ => ⟨m + 1, rfl, hm⟩)
 have HCA : Hid (bad6 = false → bad1 = false ∧ ∃ m' : Nat, m6 = m' ∧ m' ≤ 6000) := hca
 have HRA : Hid (RwRes 0 (.mk op0 n0 s0 es0) (d + 1) ((m + 1 : Nat) : Int) bad1 ta m6 bad6) := hres
 have E6 := k6.re (by omega) E5
 have K6 : Hid (RwK B b w w6) := K5.out.trans k6
 have R6 : Hid _ := r6
 clear hres hca k6 r6 y0 y1 y2 y3 q0 q1 q2 q3 E5 K5 R5
 obtain ⟨y0, y1, y2, y3, _⟩ := blk4 E6
 obtain ⟨q0, q1, q2, q3⟩ := HX1.out _ K6.out.1
 go_wp2_with fail
 refine (IH1.out _ (d + 1) oo1 cc1 zs1 _ _ R6.out (below_row HT1.out.1 K6.out.1) (below_ex HT1.out.2 K6.out.1) (fun hbb => ⟨HC1.out (HCA.out hbb).1, (HCA.out hbb).2⟩)).mono ?_
 rintro e w7 ⟨tb, m7, bad7, rfl, k7, r7, hres⟩
 have hzb := hres.size (fun hbb => (HCA.out hbb).2)
 have hcb := hres.more (fun hbb => (HCA.out hbb).2)
 have HCB : Hid (bad7 = false → bad6 = false ∧ ∃ m' : Nat, m7 = m' ∧ m' ≤ 6000) := hcb
 have HRB : Hid (RwRes 0 (.mk op1 n1 s1 es1) (d + 1) m6 bad6 tb m7 bad7) := hres
 have E7 := k7.re (by omega) E6
 have K7 : Hid (RwK B b w w7) := K6.out.trans k7
 have R7 : Hid _ := r7
 clear hres hcb k7 r7 y0 y1 y2 y3 q0 q1 q2 q3 E6 K6 R6
 obtain ⟨y0, y1, y2, y3, _⟩ := blk4 E7
 obtain ⟨q0, q1, q2, q3⟩ := HX2.out _ K7.out.1
 have ha1 : ∀ W : World, (Op.stringOp .add (⟨#[105, 102, 32]⟩) ta).run Tryz.prog W = .ok (.string (⟨#[105, 102, 32]⟩ ++ ta)) W := fun W => run_string_add_sum W _ _ (by show 3 + ta.size ≤ _; omega)
 have ha2 : ∀ W : World, (Op.stringOp .add (⟨#[105, 102, 32]⟩ ++ ta) ⟨#[32, 116, 104, 101, 110, 32]⟩).run Tryz.prog W = .ok (.string (⟨#[105, 102, 32]⟩ ++ ta ++ ⟨#[32, 116, 104, 101, 110, 32]⟩)) W := fun W => run_string_add_sum W _ _ (by rw [ByteArray.size_append]; show 3 + ta.size + 6 ≤ _; omega)
 have ha3 : ∀ W : World, (Op.stringOp .add (⟨#[105, 102, 32]⟩ ++ ta ++ ⟨#[32, 116, 104, 101, 110, 32]⟩) tb).run Tryz.prog W = .ok (.string (⟨#[105, 102, 32]⟩ ++ ta ++ ⟨#[32, 116, 104, 101, 110, 32]⟩ ++ tb)) W := fun W => run_string_add_sum W _ _ (by rw [ByteArray.size_append, ByteArray.size_append]; show 3 + ta.size + 6 + tb.size ≤ _; omega)
 have ha4 : ∀ W : World, (Op.stringOp .add (⟨#[105, 102, 32]⟩ ++ ta ++ ⟨#[32, 116, 104, 101, 110, 32]⟩ ++ tb) ⟨#[32, 101, 108, 115, 101, 32]⟩).run Tryz.prog W = .ok (.string (⟨#[105, 102, 32]⟩ ++ ta ++ ⟨#[32, 116, 104, 101, 110, 32]⟩ ++ tb ++ ⟨#[32, 101, 108, 115, 101, 32]⟩)) W := fun W => run_string_add_sum W _ _ (by rw [ByteArray.size_append, ByteArray.size_append, ByteArray.size_append]; show 3 + ta.size + 6 + tb.size + 6 ≤ _; omega)
 go_wp2_with fail
 refine (IH2.out _ (d + 1) oo2 cc2 zs2 _ _ R7.out (below_row HT2.out.1 K7.out.1) (below_ex HT2.out.2 K7.out.1) (fun hbb => ⟨HC1.out (HCA.out (HCB.out hbb).1).1, (HCB.out hbb).2⟩)).mono ?_
 rintro e w8 ⟨tx, m8, bad8, rfl, k8, r8, hres8⟩
 have E8 := k8.re (by omega) E7
 have hzx := hres8.size (fun hbb => (HCB.out hbb).2)
 have HRX : Hid (RwRes 0 (.mk op2 n2 s2 es2) (d + 1) m7 bad7 tx m8 bad8) := hres8
 clear hres8
 have ha9 : ∀ W : World, (Op.stringOp .add (⟨#[105, 102, 32]⟩ ++ ta ++ ⟨#[32, 116, 104, 101, 110, 32]⟩ ++ tb ++ ⟨#[32, 101, 108, 115, 101, 32]⟩) tx).run Tryz.prog W = .ok (.string (⟨#[105, 102, 32]⟩ ++ ta ++ ⟨#[32, 116, 104, 101, 110, 32]⟩ ++ tb ++ ⟨#[32, 101, 108, 115, 101, 32]⟩ ++ tx)) W := fun W => run_string_add_sum W _ _ (by rw [ByteArray.size_append, ByteArray.size_append, ByteArray.size_append, ByteArray.size_append]; show 3 + ta.size + 6 + tb.size + 6 + tx.size ≤ _; omega)
 go_wp2
 go_ret
 exact ⟨_, m8, bad8, rfl, K7.out.trans k8, r8, RwRes.cond tt HF.out HL.out hm HB1.out HRA.out HRB.out HRX.out⟩
structure CallAt (s : ByteArray) (l : List Ex) (d m i : Nat) (text : ByteArray) (n' : Int) (bad : Bool) : Prop where
 good : bad = false → NmOk s ∧ d < 20 ∧ ∃ y K, CallSo l (d + 1) (m + 1) i y K ∧ text.toList = s.toList ++ [40] ++ y ∧ n' = ((m + 1 + K : Nat) : Int)
 no : bad = true → (¬ NmOk s ∨ 20 ≤ d ∨ ∃ i y K, CallSo l (d + 1) (m + 1) i y K ∧ ∃ hi : i < l.length, NoGoT 0 l[i] (d + 1) (m + 1 + K)) ∧ text.size + 1 ≤ 9000000 + 40 * (6001 - m)
theorem CallAt.start {s : ByteArray} {l : List Ex} {d m : Nat} {b5 : Bool} (hs : s.size ≤ 9000000) (hm : m + 1 ≤ 6000) (h5 : b5 = true ↔ NmOk s) : CallAt s l d m 0 (s ++ ⟨#[40]⟩) ((m + 1 : Nat) : Int) ((false || !b5) || !decide (d < 20)) := by
 have hz : (s ++ ⟨#[40]⟩ : ByteArray).size = s.size + 1 := by rw [ByteArray.size_append]; rfl
 refine ⟨fun h => ?_, fun h => ?_⟩
 ·simp only [Bool.false_or, Bool.or_eq_false_iff, Bool.not_eq_false', decide_eq_true_eq] at h
  refine ⟨h5.1 h.1, h.2, [], 0, CallSo.start (by omega), ?_, rfl⟩
  rw [list_app, show (⟨#[40]⟩ : ByteArray).toList = [40] from by rw [ByteArray.toList_eq]]
  simp
 ·refine ⟨?_, by rw [hz]; omega⟩
  simp only [Bool.false_or, Bool.or_eq_true, Bool.not_eq_true', decide_eq_false_iff_not] at h
  rcases h with h | h
  ·exact Or.inl fun g => by rw [h5.2 g] at h; cases h
  ·exact Or.inr (Or.inl (by omega))
theorem CallAt.size {s : ByteArray} {l : List Ex} {d m i : Nat} {text : ByteArray} {n' : Int} {bad : Bool} (h : CallAt s l d m i text n' bad) : text.size ≤ 10000000 := by
 cases e : bad with
 | true => have := (h.no e).2; omega
 | false =>
  obtain ⟨h1, _, y, K, h2, h3, _⟩ := h.good e
  have z1 := h1.len
  have z2 := h2.len
  have z3 := h2.room
  have := congrArg List.length h3
  rw [List.length_append, List.length_append, bytes_len, bytes_len] at this
  simp only [List.length_cons, List.length_nil] at this
  omega
theorem CallAt.next {s : ByteArray} {l : List Ex} {d m i : Nat} {text sep tx : ByteArray} {n1 n' : Int} {bad' : Bool} (h : CallAt s l d m i text n1 false) (hi : i < l.length) (hsep : sep.toList = if 0 < i then [44, 32] else []) (hx : RwRes 0 l[i] (d + 1) n1 false tx n' bad') : CallAt s l d m (i + 1) (text ++ sep ++ tx) n' bad' := by
 obtain ⟨h1, h2, y, K, h3, h4, h5⟩ := h.good rfl
 have hr := h3.room
 have hl := h3.len
 have hn := h1.len
 have hss : sep.size ≤ 2 := by rw [← bytes_len, hsep]; split <;> simp
 have hts : text.size = s.size + 1 + y.length := by
  rw [← bytes_len text, h4, List.length_append, List.length_append, bytes_len]
  rfl
 have hz : (text ++ sep ++ tx).size = text.size + sep.size + tx.size := by rw [ByteArray.size_append, ByteArray.size_append]
 rcases hx.2 rfl (m + 1 + K) h5 (by omega) with ⟨e, k, hk, hw⟩ | ⟨e, hn', hs'⟩
 ·refine ⟨fun _ => ⟨h1, h2, _, K + k, h3.next hi hw, ?_, by rw [hk]; congr 1; omega⟩, fun h => (by rw [e] at h; cases h)⟩
  rw [list_app, list_app, h4, hsep]
  simp
 ·exact ⟨fun h => (by rw [e] at h; cases h), fun _ => ⟨Or.inr (Or.inr ⟨i, y, K, h3, hi, hn'⟩), by omega⟩⟩
theorem CallAt.done {s : ByteArray} {op : ByteArray} {n : Int} {l : List Ex} {L d m i : Nat} {text : ByteArray} {n' : Int} {bad : Bool} (h : CallAt s l d m i text n' bad) (he : bad = true ∨ i = l.length) (ho : op.toList = [99, 97, 108, 108]) (hf : formedB op.toList n s.toList l.length = true) (hl : ¬ lvOf op.toList < L) : RwRes L (.mk op n s l) d (m : Int) false (text ++ ⟨#[41]⟩) n' bad := by
 have hz : (text ++ ⟨#[41]⟩ : ByteArray).size = text.size + 1 := by rw [ByteArray.size_append]; rfl
 cases e : bad with
 | true =>
  obtain ⟨h1, h2⟩ := h.no e
  exact RwRes.no (call_no ho hf hl h1) (by omega)
 | false =>
  obtain rfl : i = l.length := he.resolve_left (by rw [e]; simp)
  obtain ⟨h1, h2, y, K, h3, h4, h5⟩ := h.good e
  refine RwRes.went (k := K + 1) ?_ (by rw [h5]; congr 1; omega)
  rw [list_app, h4, show (⟨#[41]⟩ : ByteArray).toList = [41] from by rw [ByteArray.toList_eq]]
  exact call_went ho hf hl h1 h2 h3
set_option maxRecDepth 100000 in
set_option maxHeartbeats 2000000 in
theorem rwTerm_call (B b : Nat) (hB : B ≤ b) (op : ByteArray) (n : Int) (s : ByteArray) (l : List Ex) (least L : Nat) (hLv : LevOk least L) (t : List UInt8 × Int × Nat) (ht : t ∈ arL) (ho : op.toList = t.1) (hlo : ¬ t.2.2 < least) (tt : op.toList = [99, 97, 108, 108]) (hs : Hid (s.size ≤ 9000000)) (mm : Nat) (hmm : Hid (SizeOf.sizeOf l < mm + 1)) (hz : ∀ x ∈ l, NzT x) (IH : RwAll B b mm) (hf : formedB op.toList n s.toList l.length = true) (w : World) (d : Nat) (o : Option Addr) (c : Nat) (ys : List Value) (m : Nat) (hb : w.heap[b]? = some (rwObj m false false)) (h1 : RowAt w (fun k => k < B) 4 (.slice o l.length c) l.length ys) (h2 : ExIn w (fun k => k < B) l ys) (hd : d ≤ 20) (hm : m + 1 ≤ 6000) :
  Calls Tryz.prog 55 #[.pointer (some ⟨b, 0, none⟩), .agg #[.string op, .int .i64 n, .string s, .slice o l.length c], .int .i64 least, .int .i64 d] w (RwEnd B b L (.mk op n s l) d m false w) := by
 have hlt : b < w.heap.size := size_of_row hb
 have c0 : w.cell? ⟨b, 0, none⟩ = some (.int .i64 m) := by simp [World.cell?, hb]
 have f0 : w.frozen? ⟨b, 0, none⟩ = false := by simp [World.frozen?, hb]
 have R1 : Hid _ := rw_row (k' := ((m + 1 : Nat) : Int)) hb (reObj op n s (.slice o l.length c))
 have K1 : Hid (RwK B b w ((w.setCell ⟨b, 0, none⟩ (.int .i64 ((m + 1 : Nat) : Int))).alloc (reObj op n s (.slice o l.length c)))) := ((RwK.refl _ _ _).set hB 0 _).alloc (by simp; omega) _
 have E1 : Hid (((w.setCell ⟨b, 0, none⟩ (.int .i64 ((m + 1 : Nat) : Int))).alloc (reObj op n s (.slice o l.length c))).heap[w.heap.size]? = some (reObj op n s (.slice o l.length c))) := heap_alloc_new' (by simp) _
 have hwr : wrap64 ((m : Int) + 1) = ((m + 1 : Nat) : Int) := by unfold wrap64; omega
 have h6 : ((m + 1 : Nat) : Int) ≤ 6000 := by omega
 have hlo' : ¬ ((t.2.2 : Nat) : Int) < (least : Int) := by omega
 have HC : Hid (∀ w, Calls Tryz.prog 89 #[.string op] w fun e w' => e = .returned (.int .i64 (t.2.2 : Nat)) ∧ w' = w) := fun w => closeOf_in op w t ht ho
 have HL : Hid (¬ lvOf op.toList < L) := by
  have := mt (hLv.iff ht).2 hlo
  rw [← ho] at this
  exact this
 have HROW : Hid (RowAt w (fun k => k < B) 4 (.slice o l.length c) l.length ys ∧ ExIn w (fun k => k < B) l ys) := ⟨h1, h2⟩
 have HF : Hid (formedB op.toList n s.toList l.length = true) := hf
 clear hb h1 h2 hf
 clear ho
 have hl := HROW.out.1.len
 unfold maxLen at hl
 have HZ : Hid (∀ x ∈ l, NzT x) := hz
 have HIH : Hid (RwAll B b mm) := IH
 clear hz IH
 go_enter Tryz.func55, Tryz.ntmps55
 go_wp2_with fail
 refine (refFormed_any op n s o l.length c _).mono ?_
 rw [HF.out]
 rintro e w2 ⟨rfl, hw2⟩
 have R2 : Hid _ := row_keep hw2 R1.out
 have K2 : Hid (RwK B b w w2) := K1.out.trans (RwK.of hw2 (by simp; omega))
 have E2 : Hid _ := row_keep hw2 E1.out
 clear hw2 R1 K1 E1
 go_wp2_with fail
 refine (must_k B b _ false true _ R2.out hB).mono ?_
 rintro e w3 ⟨rfl, k3, r3⟩
 have c1 := (rw_bad r3).1
 have E3 := k3.re (by omega) E2.out
 obtain ⟨x0, x1, x2, x3, _⟩ := blk4 E3
 have K3 : Hid (RwK B b w w3) := K2.out.trans k3
 clear k3 R2 K2 E2
 go_wp2_with fail
 refine (HC.out _).mono ?_
 rintro e w4 ⟨rfl, rfl⟩
 go_wp2_with fail
 refine (refIsName_any s hs.out _).mono ?_
 rintro e w5 ⟨b5, rfl, hb5, hw5⟩
 have R5 : Hid _ := row_keep hw5 r3
 have K5 : Hid (RwK B b w w5) := K3.out.trans (RwK.of hw5 (Nat.le_trans hB (Nat.le_of_lt (size_of_row r3))))
 have E5 : Hid _ := row_keep hw5 E3
 have H5 : Hid (b5 = true ↔ NmOk s) := hb5
 clear hw5 r3 E3 x0 x1 x2 x3 c1 hb5 K3
 go_wp2_with fail
 refine (must_k B b _ false b5 _ R5.out hB).mono ?_
 rintro e w6 ⟨rfl, k6, r6⟩
 have E6 := k6.re (by omega) E5.out
 have K6 : Hid (RwK B b w w6) := K5.out.trans k6
 obtain ⟨y0, y1, y2, y3, _⟩ := blk4 E6
 clear k6 K5 R5 E5
 go_wp2_with fail
 refine (down_k B b _ _ d hd _ r6 hB).mono ?_
 rintro e w7 ⟨rfl, k7, r7⟩
 have HE7 : Hid _ := k7.re (by omega) E6
 obtain ⟨z0, z1, z2, z3, _⟩ := blk4 HE7.out
 have K7 : Hid (RwK B b w w7) := K6.out.trans k7
 have HA7 : Hid (CallAt s l d m 0 (s ++ ⟨#[40]⟩) ((m + 1 : Nat) : Int) ((false || !b5) || !decide (d < 20))) := CallAt.start hs.out hm H5.out
 have R7 : Hid _ := r7
 clear k7 K6 r6 r7 E6 y0 y1 y2 y3
 have ha1 : ∀ W : World, (Op.stringOp .add s ⟨#[40]⟩).run Tryz.prog W = .ok (.string (s ++ ⟨#[40]⟩)) W := fun W => run_string_add_sum W _ _ (show s.size + 1 ≤ _ from Nat.le_trans (Nat.add_le_add_right hs.out 1) (by decide))
 go_wp2
 go_loopw [12, 13] (fun x t wr => ∃ (i : Nat) (text : ByteArray) (n' : Int) (bad : Bool), i ≤ l.length ∧ t = .int .i64 i ∧ x = .string text ∧ Hid (RwK B b w wr) ∧ Hid (wr.heap[w.heap.size]? = some (reObj op n s (.slice o l.length c))) ∧ Hid (wr.heap[b]? = some (rwObj n' bad false)) ∧ Hid (CallAt s l d m i text n' bad)) (fun _ t _ => l.length - (intOf t).toNat)
 case atStart => exact ⟨0, _, _, _, Nat.zero_le _, rfl, rfl, K7, HE7, R7, HA7⟩
 case round =>
  obtain ⟨i, text, n1, bad, hi, rfl, rfl, KR, ER, RR, AR⟩ := hrel
  have c1 := (rw_bad RR.out).1
  obtain ⟨x0, x1, x2, x3, _⟩ := blk4 ER.out
  have hts := AR.out.size
  have ha2 : ∀ W : World, (Op.stringOp .add text ⟨#[41]⟩).run Tryz.prog W = .ok (.string (text ++ ⟨#[41]⟩)) W := fun W => run_string_add_sum W _ _ (by show text.size + 1 ≤ _; omega)
  by_cases hlt : i < l.length
  ·cases bad with
   | true =>
    go_wp2
    go_ret
    exact ⟨_, _, true, rfl, KR.out, RR.out, AR.out.done (Or.inl rfl) tt HF.out HL.out⟩
   | false =>
    obtain ⟨op', n', s', es, oo, cc, zs, e, g0, g1, g2, g3, r1, r2⟩ := HROW.out.2.at hlt
    obtain ⟨p, f, c9, hv, hpB, _, g⟩ := HROW.out.1.at (by have := HROW.out.1.1; omega)
    obtain rfl : o = some ⟨p, f, none⟩ := by injection hv
    clear hv
    have q0 := below_cell KR.out.1 hpB (g _ _ g0)
    have q1 := below_cell KR.out.1 hpB (g _ _ g1)
    have q2 := below_cell KR.out.1 hpB (g _ _ g2)
    have q3 := below_cell KR.out.1 hpB (g _ _ g3)
    rw [← Nat.add_assoc] at q1 q2 q3
    have i0 : (0 : Int) ≤ (i : Int) := by omega
    have i1 : (i : Int) < (l.length : Int) := by omega
    have hsz := size_part hlt e
    have hzi : NzT (.mk op' n' s' es) := e ▸ HZ.out _ (List.getElem_mem hlt)
    have HR1 : Hid (RowAt wr (fun k => k < B) 4 (.slice oo es.length cc) es.length zs ∧ ExIn wr (fun k => k < B) es zs) := ⟨below_row r1 KR.out.1, below_ex r2 KR.out.1⟩
    have HT : Hid (RwTerm B b op' n' s' es 0 0) := HIH.out op' n' s' es (Nat.lt_of_lt_of_le hsz (Nat.le_of_lt_succ hmm.out)) hzi _ _ (Or.inl ⟨rfl, rfl⟩)
    have HG : Hid (d + 1 ≤ 20 ∧ ∃ k : Nat, n1 = k ∧ k ≤ 6000) := by
     obtain ⟨_, h2, y, K, h3, _, h5⟩ := AR.out.good rfl
     exact ⟨h2, m + 1 + K, h5, by have := h3.room; omega⟩
    have HEI : Hid (l[i] = .mk op' n' s' es) := e
    clear g g0 g1 g2 g3 r1 r2 hsz hzi e
    by_cases hi0 : i = 0
    ·have hi0' : ¬ ((0 : Int) < (i : Int)) := by omega
     have HI0 : Hid (i = 0) := hi0
     clear hi0
     go_wp2_with fail
     refine (HT.out _ (d + 1) oo cc zs _ _ RR.out HR1.out.1 HR1.out.2 (fun _ => HG.out)).mono ?_
     rintro e w8 ⟨tx, m8, bad8, rfl, k8, r8, hres8⟩
     have hzx := hres8.size (fun _ => HG.out.2)
     have ha3 : ∀ W : World, (Op.stringOp .add text tx).run Tryz.prog W = .ok (.string (text ++ tx)) W := fun W => run_string_add_sum W _ _ (by omega)
     go_wp2
     have hnx := CallAt.next AR.out hlt (sep := b0) (by rw [if_neg (by have := HI0.out; omega), ByteArray.toList_eq]) (HEI.out ▸ hres8)
     rw [show text ++ b0 = text from by apply ByteArray.ext; simp [b0]] at hnx
     exact ⟨⟨i + 1, _, _, _, by omega, by go_num, rfl, KR.out.trans k8, k8.re (by omega) ER.out, r8, hnx⟩, by simp [intOf]; omega⟩
    ·have hi0' : (0 : Int) < (i : Int) := by omega
     have HI0 : Hid (0 < i) := (show 0 < i from by omega)
     clear hi0
     have ha0 : ∀ W : World, (Op.stringOp .add text ⟨#[44, 32]⟩).run Tryz.prog W = .ok (.string (text ++ ⟨#[44, 32]⟩)) W := fun W => run_string_add_sum W _ _ (by show text.size + 2 ≤ _; omega)
     go_wp2_with fail
     refine (HT.out _ (d + 1) oo cc zs _ _ RR.out HR1.out.1 HR1.out.2 (fun _ => HG.out)).mono ?_
     rintro e w8 ⟨tx, m8, bad8, rfl, k8, r8, hres8⟩
     have hzx := hres8.size (fun _ => HG.out.2)
     have ha3 : ∀ W : World, (Op.stringOp .add (text ++ ⟨#[44, 32]⟩) tx).run Tryz.prog W = .ok (.string (text ++ ⟨#[44, 32]⟩ ++ tx)) W := fun W => run_string_add_sum W _ _ (by rw [ByteArray.size_append]; show text.size + 2 + tx.size ≤ _; omega)
     go_wp2
     have hnx := CallAt.next AR.out hlt (sep := ⟨#[44, 32]⟩) (by rw [if_pos HI0.out, ByteArray.toList_eq]) (HEI.out ▸ hres8)
     exact ⟨⟨i + 1, _, _, _, by omega, by go_num, rfl, KR.out.trans k8, k8.re (by omega) ER.out, r8, hnx⟩, by simp [intOf]; omega⟩
  ·obtain rfl : i = l.length := by omega
   go_wp2
   go_ret
   exact ⟨_, _, bad, rfl, KR.out, RR.out, AR.out.done (Or.inr rfl) tt HF.out HL.out⟩
end Go.Proofs.YtgbpccipdcajgaaGreatDoor
