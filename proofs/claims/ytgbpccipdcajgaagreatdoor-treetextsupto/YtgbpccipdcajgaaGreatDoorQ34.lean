/-
  lustrumref1's WRITER: term with one part: neg, not, pre.
-/
import Derived.Test.YtgbpccipdcajgaaGreatDoorQ29
namespace Go.Proofs.YtgbpccipdcajgaaGreatDoor
open Go.RowKit
attribute [local go_sem ↓] Go.wp_at_zero Go.wp_at_succ
abbrev RwAll (B b m : Nat) : Prop := ∀ (op : ByteArray) (n : Int) (s : ByteArray) (l : List Ex), SizeOf.sizeOf l < m → NzT (.mk op n s l) → ∀ least L, LevOk least L → RwTerm B b op n s l least L
theorem RwRes.one {L M : Nat} {op : ByteArray} {n : Int} {s : ByteArray} {a : Ex} {pr : List UInt8} {d m : Nat} {bad1 : Bool} {text : ByteArray} {n' : Int} {bad' : Bool} (ht : OneIs op.toList a M pr) (hf : formedB op.toList n s.toList 1 = true) (hl : ¬ lvOf op.toList < L) (hm : m + 1 ≤ 6000) (hd : bad1 = !decide (d < 20)) (h : RwRes M a (d + 1) ((m + 1 : Nat) : Int) bad1 text n' bad') {p : ByteArray} (hp : p.toList = pr) : RwRes L (.mk op n s [a]) d (m : Int) false (p ++ text) n' bad' := by
 refine ⟨fun h => (by cases h), fun _ m' hm' _ => ?_⟩
 obtain rfl : m = m' := by omega
 have hz : (p ++ text).size ≤ text.size + 4 := by
  have := ht.len
  rw [← hp, bytes_len] at this
  rw [ByteArray.size_append]
  omega
 by_cases h20 : d < 20
 ·have hb1 : bad1 = false := by rw [hd]; simp [h20]
  rcases h.2 hb1 (m + 1) rfl hm with ⟨e, k, hk, hw⟩ | ⟨e, hn, hs⟩
  ·refine Or.inl ⟨e, k + 1, by rw [hk]; congr 1; omega, ?_⟩
   have := one_went ht hf hl hw
   rw [list_app, hp]
   exact this
  ·exact Or.inr ⟨e, one_no ht hf hl (Or.inr hn), by omega⟩
 ·have hb1 : bad1 = true := by rw [hd]; simp [h20]
  obtain ⟨e, ht'⟩ := h.1 hb1
  refine Or.inr ⟨e, one_no ht hf hl (Or.inl (by omega)), ?_⟩
  rw [ht'] at hz ⊢
  have : (b0 : ByteArray).size = 0 := rfl
  omega
set_option maxRecDepth 100000 in
set_option maxHeartbeats 2000000 in
theorem rwTerm_not (B b : Nat) (hB : B ≤ b) (op : ByteArray) (n : Int) (s : ByteArray) (least L : Nat) (hLv : LevOk least L) (t : List UInt8 × Int × Nat) (ht : t ∈ arL) (ho : op.toList = t.1) (hlo : ¬ t.2.2 < least) (tt : op.toList = [110, 111, 116]) (a : Ex) (mm : Nat) (hmm : SizeOf.sizeOf [a] < mm + 1) (hz : NzT a) (IH : RwAll B b mm) (hf : formedB op.toList n s.toList 1 = true) (w : World) (d : Nat) (o : Option Addr) (c : Nat) (ys : List Value) (m : Nat) (hb : w.heap[b]? = some (rwObj m false false)) (h1 : RowAt w (fun k => k < B) 4 (.slice o 1 c) 1 ys) (h2 : ExIn w (fun k => k < B) [a] ys) (hd : d ≤ 20) (hm : m + 1 ≤ 6000) :
  Calls Tryz.prog 55 #[.pointer (some ⟨b, 0, none⟩), .agg #[.string op, .int .i64 n, .string s, .slice o 1 c], .int .i64 least, .int .i64 d] w (RwEnd B b L (.mk op n s [a]) d m false w) := by
 have hlt : b < w.heap.size := size_of_row hb
 have c0 : w.cell? ⟨b, 0, none⟩ = some (.int .i64 m) := by simp [World.cell?, hb]
 have f0 : w.frozen? ⟨b, 0, none⟩ = false := by simp [World.frozen?, hb]
 have R1 : Hid _ := rw_row (k' := ((m + 1 : Nat) : Int)) hb (reObj op n s (.slice o 1 c))
 have K1 : Hid (RwK B b w ((w.setCell ⟨b, 0, none⟩ (.int .i64 ((m + 1 : Nat) : Int))).alloc (reObj op n s (.slice o 1 c)))) := ((RwK.refl _ _ _).set hB 0 _).alloc (by simp; omega) _
 have E1 : Hid (((w.setCell ⟨b, 0, none⟩ (.int .i64 ((m + 1 : Nat) : Int))).alloc (reObj op n s (.slice o 1 c))).heap[w.heap.size]? = some (reObj op n s (.slice o 1 c))) := heap_alloc_new' (by simp) _
 have hwr : wrap64 ((m : Int) + 1) = ((m + 1 : Nat) : Int) := by unfold wrap64; omega
 have h6 : ((m + 1 : Nat) : Int) ≤ 6000 := by omega
 have hlo' : ¬ ((t.2.2 : Nat) : Int) < (least : Int) := by omega
 have HC : Hid (∀ w, Calls Tryz.prog 89 #[.string op] w fun e w' => e = .returned (.int .i64 (t.2.2 : Nat)) ∧ w' = w) := fun w => closeOf_in op w t ht ho
 have HL : Hid (¬ lvOf op.toList < L) := by
  have := mt (hLv.iff ht).2 hlo
  rw [← ho] at this
  exact this
 have HROW : Hid (RowAt w (fun k => k < B) 4 (.slice o 1 c) 1 ys ∧ ExIn w (fun k => k < B) [a] ys) := ⟨h1, h2⟩
 have HF : Hid (formedB op.toList n s.toList 1 = true) := hf
 clear hb h1 h2 hf
 clear ho
 obtain ⟨op1, n1, s1, es, oo, cc, zs, e1, g0, g1, g2, g3, t1, t2⟩ := HROW.out.2.at (i := 0) (by simp)
 obtain rfl : a = .mk op1 n1 s1 es := e1
 obtain ⟨p, f, c9, hv, hpB, _, g⟩ := HROW.out.1.at (by have := HROW.out.1.1; omega)
 obtain rfl : o = some ⟨p, f, none⟩ := by injection hv
 clear hv
 have HX : Hid (∀ w', Below B w w' → w'.cell? ⟨p, f, none⟩ = some (.string op1) ∧ w'.cell? ⟨p, f + 1, none⟩ = some (.int .i64 n1) ∧ w'.cell? ⟨p, f + 2, none⟩ = some (.string s1) ∧ w'.cell? ⟨p, f + 3, none⟩ = some (.slice oo es.length cc)) := fun w' hw => ⟨below_cell hw hpB (g _ _ g0), below_cell hw hpB (g _ _ g1), below_cell hw hpB (g _ _ g2), below_cell hw hpB (g _ _ g3)⟩
 have hsz : SizeOf.sizeOf es < mm := by have := size_part (l := [.mk op1 n1 s1 es]) (i := 0) (by simp) rfl; omega
 have HT : Hid (RowAt w (fun k => k < B) 4 (.slice oo es.length cc) es.length zs ∧ ExIn w (fun k => k < B) es zs) := ⟨t1, t2⟩
 have HIH : Hid (RwTerm B b op1 n1 s1 es 4 3) := IH op1 n1 s1 es hsz hz 4 3 (Or.inr ⟨rfl, by omega, by omega⟩)
 clear g g0 g1 g2 g3 t1 t2 IH
 go_enter Tryz.func55, Tryz.ntmps55
 go_wp2_with fail
 refine (refFormed_any op n s _ 1 c _).mono ?_
 rw [HF.out]
 rintro e w2 ⟨rfl, hw2⟩
 have R2 : Hid _ := row_keep hw2 R1.out
 have K2 : Hid (RwK B b w w2) := K1.out.trans (RwK.of hw2 (by simp; omega))
 have E2 : Hid _ := row_keep hw2 E1.out
 clear hw2 R1 K1 E1
 go_wp2_with fail
 refine (must_k B b _ false true _ R2.out hB).mono ?_
 rintro e w3 ⟨rfl, k3, r3⟩
 have c1 := (rw_bad r3).1
 have E3 := k3.re (by omega) E2.out
 obtain ⟨x0, x1, x2, x3, _⟩ := blk4 E3
 have K3 : Hid (RwK B b w w3) := K2.out.trans k3
 clear k3 R2 K2 E2
 go_wp2_with fail
 refine (HC.out _).mono ?_
 rintro e w4 ⟨rfl, rfl⟩
 go_wp2_with fail
 refine (down_k B b _ false d hd _ r3 hB).mono ?_
 rintro e w5 ⟨rfl, k5, r5⟩
 have E5 := k5.re (by omega) E3
 obtain ⟨y0, y1, y2, y3, _⟩ := blk4 E5
 have K5 : Hid (RwK B b w w5) := K3.out.trans k5
 have R5 : Hid _ := r5
 clear k5 r3 r5 c1 x0 x1 x2 x3 E3
 obtain ⟨q0, q1, q2, q3⟩ := HX.out _ K5.out.1
 go_wp2_with fail
 refine (HIH.out _ (d + 1) oo cc zs _ _ R5.out (below_row HT.out.1 K5.out.1) (below_ex HT.out.2 K5.out.1) (fun hbb => ⟨by simp at hbb; omega, m + 1, rfl, hm⟩)).mono ?_
 rintro e w6 ⟨text, n', bad', rfl, k6, r6, hres⟩
 have hz := hres.size (fun _ => ⟨m + 1, rfl, hm⟩)
 have ha1 : ∀ W : World, (Op.stringOp .add ⟨#[110, 111, 116, 32]⟩ text).run Tryz.prog W = .ok (.string (⟨#[110, 111, 116, 32]⟩ ++ text)) W := fun W => run_string_add_sum W _ _ (by show 4 + text.size ≤ _; omega)
 go_wp2
 go_ret
 exact ⟨_, n', bad', rfl, K5.out.trans k6, r6, RwRes.one (tt ▸ one_not _) HF.out HL.out hm (by simp) hres (by rw [ByteArray.toList_eq])⟩
set_option maxRecDepth 100000 in
set_option maxHeartbeats 2000000 in
theorem rwTerm_pre (B b : Nat) (hB : B ≤ b) (op : ByteArray) (n : Int) (s : ByteArray) (least L : Nat) (hLv : LevOk least L) (t : List UInt8 × Int × Nat) (ht : t ∈ arL) (ho : op.toList = t.1) (hlo : ¬ t.2.2 < least) (tt : op.toList = [112, 114, 101]) (a : Ex) (mm : Nat) (hmm : SizeOf.sizeOf [a] < mm + 1) (hz : NzT a) (IH : RwAll B b mm) (hf : formedB op.toList n s.toList 1 = true) (w : World) (d : Nat) (o : Option Addr) (c : Nat) (ys : List Value) (m : Nat) (hb : w.heap[b]? = some (rwObj m false false)) (h1 : RowAt w (fun k => k < B) 4 (.slice o 1 c) 1 ys) (h2 : ExIn w (fun k => k < B) [a] ys) (hd : d ≤ 20) (hm : m + 1 ≤ 6000) :
  Calls Tryz.prog 55 #[.pointer (some ⟨b, 0, none⟩), .agg #[.string op, .int .i64 n, .string s, .slice o 1 c], .int .i64 least, .int .i64 d] w (RwEnd B b L (.mk op n s [a]) d m false w) := by
 have hlt : b < w.heap.size := size_of_row hb
 have c0 : w.cell? ⟨b, 0, none⟩ = some (.int .i64 m) := by simp [World.cell?, hb]
 have f0 : w.frozen? ⟨b, 0, none⟩ = false := by simp [World.frozen?, hb]
 have R1 : Hid _ := rw_row (k' := ((m + 1 : Nat) : Int)) hb (reObj op n s (.slice o 1 c))
 have K1 : Hid (RwK B b w ((w.setCell ⟨b, 0, none⟩ (.int .i64 ((m + 1 : Nat) : Int))).alloc (reObj op n s (.slice o 1 c)))) := ((RwK.refl _ _ _).set hB 0 _).alloc (by simp; omega) _
 have E1 : Hid (((w.setCell ⟨b, 0, none⟩ (.int .i64 ((m + 1 : Nat) : Int))).alloc (reObj op n s (.slice o 1 c))).heap[w.heap.size]? = some (reObj op n s (.slice o 1 c))) := heap_alloc_new' (by simp) _
 have hwr : wrap64 ((m : Int) + 1) = ((m + 1 : Nat) : Int) := by unfold wrap64; omega
 have h6 : ((m + 1 : Nat) : Int) ≤ 6000 := by omega
 have hlo' : ¬ ((t.2.2 : Nat) : Int) < (least : Int) := by omega
 have HC : Hid (∀ w, Calls Tryz.prog 89 #[.string op] w fun e w' => e = .returned (.int .i64 (t.2.2 : Nat)) ∧ w' = w) := fun w => closeOf_in op w t ht ho
 have HL : Hid (¬ lvOf op.toList < L) := by
  have := mt (hLv.iff ht).2 hlo
  rw [← ho] at this
  exact this
 have HROW : Hid (RowAt w (fun k => k < B) 4 (.slice o 1 c) 1 ys ∧ ExIn w (fun k => k < B) [a] ys) := ⟨h1, h2⟩
 have HF : Hid (formedB op.toList n s.toList 1 = true) := hf
 clear hb h1 h2 hf
 clear ho
 obtain ⟨op1, n1, s1, es, oo, cc, zs, e1, g0, g1, g2, g3, t1, t2⟩ := HROW.out.2.at (i := 0) (by simp)
 obtain rfl : a = .mk op1 n1 s1 es := e1
 obtain ⟨p, f, c9, hv, hpB, _, g⟩ := HROW.out.1.at (by have := HROW.out.1.1; omega)
 obtain rfl : o = some ⟨p, f, none⟩ := by injection hv
 clear hv
 have HX : Hid (∀ w', Below B w w' → w'.cell? ⟨p, f, none⟩ = some (.string op1) ∧ w'.cell? ⟨p, f + 1, none⟩ = some (.int .i64 n1) ∧ w'.cell? ⟨p, f + 2, none⟩ = some (.string s1) ∧ w'.cell? ⟨p, f + 3, none⟩ = some (.slice oo es.length cc)) := fun w' hw => ⟨below_cell hw hpB (g _ _ g0), below_cell hw hpB (g _ _ g1), below_cell hw hpB (g _ _ g2), below_cell hw hpB (g _ _ g3)⟩
 have hsz : SizeOf.sizeOf es < mm := by have := size_part (l := [.mk op1 n1 s1 es]) (i := 0) (by simp) rfl; omega
 have HT : Hid (RowAt w (fun k => k < B) 4 (.slice oo es.length cc) es.length zs ∧ ExIn w (fun k => k < B) es zs) := ⟨t1, t2⟩
 have HIH : Hid (RwTerm B b op1 n1 s1 es 8 7) := IH op1 n1 s1 es hsz hz 8 7 (Or.inr ⟨rfl, by omega, by omega⟩)
 clear g g0 g1 g2 g3 t1 t2 IH
 go_enter Tryz.func55, Tryz.ntmps55
 go_wp2_with fail
 refine (refFormed_any op n s _ 1 c _).mono ?_
 rw [HF.out]
 rintro e w2 ⟨rfl, hw2⟩
 have R2 : Hid _ := row_keep hw2 R1.out
 have K2 : Hid (RwK B b w w2) := K1.out.trans (RwK.of hw2 (by simp; omega))
 have E2 : Hid _ := row_keep hw2 E1.out
 clear hw2 R1 K1 E1
 go_wp2_with fail
 refine (must_k B b _ false true _ R2.out hB).mono ?_
 rintro e w3 ⟨rfl, k3, r3⟩
 have c1 := (rw_bad r3).1
 have E3 := k3.re (by omega) E2.out
 obtain ⟨x0, x1, x2, x3, _⟩ := blk4 E3
 have K3 : Hid (RwK B b w w3) := K2.out.trans k3
 clear k3 R2 K2 E2
 go_wp2_with fail
 refine (HC.out _).mono ?_
 rintro e w4 ⟨rfl, rfl⟩
 go_wp2_with fail
 refine (down_k B b _ false d hd _ r3 hB).mono ?_
 rintro e w5 ⟨rfl, k5, r5⟩
 have E5 := k5.re (by omega) E3
 obtain ⟨y0, y1, y2, y3, _⟩ := blk4 E5
 have K5 : Hid (RwK B b w w5) := K3.out.trans k5
 have R5 : Hid _ := r5
 clear k5 r3 r5 c1 x0 x1 x2 x3 E3
 obtain ⟨q0, q1, q2, q3⟩ := HX.out _ K5.out.1
 go_wp2_with fail
 refine (HIH.out _ (d + 1) oo cc zs _ _ R5.out (below_row HT.out.1 K5.out.1) (below_ex HT.out.2 K5.out.1) (fun hbb => ⟨by simp at hbb; omega, m + 1, rfl, hm⟩)).mono ?_
 rintro e w6 ⟨text, n', bad', rfl, k6, r6, hres⟩
 have hz := hres.size (fun _ => ⟨m + 1, rfl, hm⟩)
 have ha1 : ∀ W : World, (Op.stringOp .add ⟨#[112, 114, 101, 32]⟩ text).run Tryz.prog W = .ok (.string (⟨#[112, 114, 101, 32]⟩ ++ text)) W := fun W => run_string_add_sum W _ _ (by show 4 + text.size ≤ _; omega)
 go_wp2
 go_ret
 exact ⟨_, n', bad', rfl, K5.out.trans k6, r6, RwRes.one (tt ▸ one_pre _) HF.out HL.out hm (by simp) hres (by rw [ByteArray.toList_eq])⟩
set_option maxRecDepth 100000 in
set_option maxHeartbeats 2000000 in
theorem rwTerm_negneg (B b : Nat) (hB : B ≤ b) (op : ByteArray) (n : Int) (s : ByteArray) (least L : Nat) (hLv : LevOk least L) (t : List UInt8 × Int × Nat) (ht : t ∈ arL) (ho : op.toList = t.1) (hlo : ¬ t.2.2 < least) (tt : op.toList = [110, 101, 103]) (a : Ex) (mm : Nat) (hmm : SizeOf.sizeOf [a] < mm + 1) (hz : NzT a) (IH : RwAll B b mm) (ta : a.op.toList = [110, 101, 103]) (hf : formedB op.toList n s.toList 1 = true) (w : World) (d : Nat) (o : Option Addr) (c : Nat) (ys : List Value) (m : Nat) (hb : w.heap[b]? = some (rwObj m false false)) (h1 : RowAt w (fun k => k < B) 4 (.slice o 1 c) 1 ys) (h2 : ExIn w (fun k => k < B) [a] ys) (hd : d ≤ 20) (hm : m + 1 ≤ 6000) :
  Calls Tryz.prog 55 #[.pointer (some ⟨b, 0, none⟩), .agg #[.string op, .int .i64 n, .string s, .slice o 1 c], .int .i64 least, .int .i64 d] w (RwEnd B b L (.mk op n s [a]) d m false w) := by
 have hlt : b < w.heap.size := size_of_row hb
 have c0 : w.cell? ⟨b, 0, none⟩ = some (.int .i64 m) := by simp [World.cell?, hb]
 have f0 : w.frozen? ⟨b, 0, none⟩ = false := by simp [World.frozen?, hb]
 have R1 : Hid _ := rw_row (k' := ((m + 1 : Nat) : Int)) hb (reObj op n s (.slice o 1 c))
 have K1 : Hid (RwK B b w ((w.setCell ⟨b, 0, none⟩ (.int .i64 ((m + 1 : Nat) : Int))).alloc (reObj op n s (.slice o 1 c)))) := ((RwK.refl _ _ _).set hB 0 _).alloc (by simp; omega) _
 have E1 : Hid (((w.setCell ⟨b, 0, none⟩ (.int .i64 ((m + 1 : Nat) : Int))).alloc (reObj op n s (.slice o 1 c))).heap[w.heap.size]? = some (reObj op n s (.slice o 1 c))) := heap_alloc_new' (by simp) _
 have hwr : wrap64 ((m : Int) + 1) = ((m + 1 : Nat) : Int) := by unfold wrap64; omega
 have h6 : ((m + 1 : Nat) : Int) ≤ 6000 := by omega
 have hlo' : ¬ ((t.2.2 : Nat) : Int) < (least : Int) := by omega
 have HC : Hid (∀ w, Calls Tryz.prog 89 #[.string op] w fun e w' => e = .returned (.int .i64 (t.2.2 : Nat)) ∧ w' = w) := fun w => closeOf_in op w t ht ho
 have HL : Hid (¬ lvOf op.toList < L) := by
  have := mt (hLv.iff ht).2 hlo
  rw [← ho] at this
  exact this
 have HROW : Hid (RowAt w (fun k => k < B) 4 (.slice o 1 c) 1 ys ∧ ExIn w (fun k => k < B) [a] ys) := ⟨h1, h2⟩
 have HF : Hid (formedB op.toList n s.toList 1 = true) := hf
 clear hb h1 h2 hf
 clear ho
 obtain ⟨op1, n1, s1, es, oo, cc, zs, e1, g0, g1, g2, g3, t1, t2⟩ := HROW.out.2.at (i := 0) (by simp)
 obtain rfl : a = .mk op1 n1 s1 es := e1
 change op1.toList = [110, 101, 103] at ta
 obtain ⟨p, f, c9, hv, hpB, _, g⟩ := HROW.out.1.at (by have := HROW.out.1.1; omega)
 obtain rfl : o = some ⟨p, f, none⟩ := by injection hv
 clear hv
 have HX : Hid (∀ w', Below B w w' → w'.cell? ⟨p, f, none⟩ = some (.string op1) ∧ w'.cell? ⟨p, f + 1, none⟩ = some (.int .i64 n1) ∧ w'.cell? ⟨p, f + 2, none⟩ = some (.string s1) ∧ w'.cell? ⟨p, f + 3, none⟩ = some (.slice oo es.length cc)) := fun w' hw => ⟨below_cell hw hpB (g _ _ g0), below_cell hw hpB (g _ _ g1), below_cell hw hpB (g _ _ g2), below_cell hw hpB (g _ _ g3)⟩
 have hsz : SizeOf.sizeOf es < mm := by have := size_part (l := [.mk op1 n1 s1 es]) (i := 0) (by simp) rfl; omega
 have HT : Hid (RowAt w (fun k => k < B) 4 (.slice oo es.length cc) es.length zs ∧ ExIn w (fun k => k < B) es zs) := ⟨t1, t2⟩
 have HIH : Hid (RwTerm B b op1 n1 s1 es 9 8) := IH op1 n1 s1 es hsz hz 9 8 (Or.inr ⟨rfl, by omega, by omega⟩)
 clear g g0 g1 g2 g3 t1 t2 IH
 go_enter Tryz.func55, Tryz.ntmps55
 go_wp2_with fail
 refine (refFormed_any op n s _ 1 c _).mono ?_
 rw [HF.out]
 rintro e w2 ⟨rfl, hw2⟩
 have R2 : Hid _ := row_keep hw2 R1.out
 have K2 : Hid (RwK B b w w2) := K1.out.trans (RwK.of hw2 (by simp; omega))
 have E2 : Hid _ := row_keep hw2 E1.out
 clear hw2 R1 K1 E1
 go_wp2_with fail
 refine (must_k B b _ false true _ R2.out hB).mono ?_
 rintro e w3 ⟨rfl, k3, r3⟩
 have c1 := (rw_bad r3).1
 have E3 := k3.re (by omega) E2.out
 obtain ⟨x0, x1, x2, x3, _⟩ := blk4 E3
 have K3 : Hid (RwK B b w w3) := K2.out.trans k3
 clear k3 R2 K2 E2
 go_wp2_with fail
 refine (HC.out _).mono ?_
 rintro e w4 ⟨rfl, rfl⟩
 go_wp2_with fail
 refine (down_k B b _ false d hd _ r3 hB).mono ?_
 rintro e w5 ⟨rfl, k5, r5⟩
 have E5 := k5.re (by omega) E3
 obtain ⟨y0, y1, y2, y3, _⟩ := blk4 E5
 have K5 : Hid (RwK B b w w5) := K3.out.trans k5
 have R5 : Hid _ := r5
 clear k5 r3 r5 c1 x0 x1 x2 x3 E3
 obtain ⟨q0, q1, q2, q3⟩ := HX.out _ K5.out.1
 go_wp2_with fail
 refine (HIH.out _ (d + 1) oo cc zs _ _ R5.out (below_row HT.out.1 K5.out.1) (below_ex HT.out.2 K5.out.1) (fun hbb => ⟨by simp at hbb; omega, m + 1, rfl, hm⟩)).mono ?_
 rintro e w6 ⟨text, n', bad', rfl, k6, r6, hres⟩
 have hz := hres.size (fun _ => ⟨m + 1, rfl, hm⟩)
 have ha1 : ∀ W : World, (Op.stringOp .add ⟨#[45]⟩ text).run Tryz.prog W = .ok (.string (⟨#[45]⟩ ++ text)) W := fun W => run_string_add_sum W _ _ (by show 1 + text.size ≤ _; omega)
 go_wp2
 go_ret
 exact ⟨_, n', bad', rfl, K5.out.trans k6, r6, RwRes.one (by have h9 := one_neg (.mk op1 n1 s1 es); rw [if_pos (show (Ex.mk op1 n1 s1 es).op.toList = [110, 101, 103] from ta), ← tt] at h9; exact h9) HF.out HL.out hm (by simp) hres (by rw [ByteArray.toList_eq])⟩
set_option maxRecDepth 100000 in
set_option maxHeartbeats 2000000 in
theorem rwTerm_neg (B b : Nat) (hB : B ≤ b) (op : ByteArray) (n : Int) (s : ByteArray) (least L : Nat) (hLv : LevOk least L) (t : List UInt8 × Int × Nat) (ht : t ∈ arL) (ho : op.toList = t.1) (hlo : ¬ t.2.2 < least) (tt : op.toList = [110, 101, 103]) (a : Ex) (mm : Nat) (hmm : SizeOf.sizeOf [a] < mm + 1) (hz : NzT a) (IH : RwAll B b mm) (ta : (a.op.toList == [110, 101, 103]) = false) (hf : formedB op.toList n s.toList 1 = true) (w : World) (d : Nat) (o : Option Addr) (c : Nat) (ys : List Value) (m : Nat) (hb : w.heap[b]? = some (rwObj m false false)) (h1 : RowAt w (fun k => k < B) 4 (.slice o 1 c) 1 ys) (h2 : ExIn w (fun k => k < B) [a] ys) (hd : d ≤ 20) (hm : m + 1 ≤ 6000) :
  Calls Tryz.prog 55 #[.pointer (some ⟨b, 0, none⟩), .agg #[.string op, .int .i64 n, .string s, .slice o 1 c], .int .i64 least, .int .i64 d] w (RwEnd B b L (.mk op n s [a]) d m false w) := by
 have hlt : b < w.heap.size := size_of_row hb
 have c0 : w.cell? ⟨b, 0, none⟩ = some (.int .i64 m) := by simp [World.cell?, hb]
 have f0 : w.frozen? ⟨b, 0, none⟩ = false := by simp [World.frozen?, hb]
 have R1 : Hid _ := rw_row (k' := ((m + 1 : Nat) : Int)) hb (reObj op n s (.slice o 1 c))
 have K1 : Hid (RwK B b w ((w.setCell ⟨b, 0, none⟩ (.int .i64 ((m + 1 : Nat) : Int))).alloc (reObj op n s (.slice o 1 c)))) := ((RwK.refl _ _ _).set hB 0 _).alloc (by simp; omega) _
 have E1 : Hid (((w.setCell ⟨b, 0, none⟩ (.int .i64 ((m + 1 : Nat) : Int))).alloc (reObj op n s (.slice o 1 c))).heap[w.heap.size]? = some (reObj op n s (.slice o 1 c))) := heap_alloc_new' (by simp) _
 have hwr : wrap64 ((m : Int) + 1) = ((m + 1 : Nat) : Int) := by unfold wrap64; omega
 have h6 : ((m + 1 : Nat) : Int) ≤ 6000 := by omega
 have hlo' : ¬ ((t.2.2 : Nat) : Int) < (least : Int) := by omega
 have HC : Hid (∀ w, Calls Tryz.prog 89 #[.string op] w fun e w' => e = .returned (.int .i64 (t.2.2 : Nat)) ∧ w' = w) := fun w => closeOf_in op w t ht ho
 have HL : Hid (¬ lvOf op.toList < L) := by
  have := mt (hLv.iff ht).2 hlo
  rw [← ho] at this
  exact this
 have HROW : Hid (RowAt w (fun k => k < B) 4 (.slice o 1 c) 1 ys ∧ ExIn w (fun k => k < B) [a] ys) := ⟨h1, h2⟩
 have HF : Hid (formedB op.toList n s.toList 1 = true) := hf
 clear hb h1 h2 hf
 clear ho
 obtain ⟨op1, n1, s1, es, oo, cc, zs, e1, g0, g1, g2, g3, t1, t2⟩ := HROW.out.2.at (i := 0) (by simp)
 obtain rfl : a = .mk op1 n1 s1 es := e1
 change (op1.toList == [110, 101, 103]) = false at ta
 obtain ⟨p, f, c9, hv, hpB, _, g⟩ := HROW.out.1.at (by have := HROW.out.1.1; omega)
 obtain rfl : o = some ⟨p, f, none⟩ := by injection hv
 clear hv
 have HX : Hid (∀ w', Below B w w' → w'.cell? ⟨p, f, none⟩ = some (.string op1) ∧ w'.cell? ⟨p, f + 1, none⟩ = some (.int .i64 n1) ∧ w'.cell? ⟨p, f + 2, none⟩ = some (.string s1) ∧ w'.cell? ⟨p, f + 3, none⟩ = some (.slice oo es.length cc)) := fun w' hw => ⟨below_cell hw hpB (g _ _ g0), below_cell hw hpB (g _ _ g1), below_cell hw hpB (g _ _ g2), below_cell hw hpB (g _ _ g3)⟩
 have hsz : SizeOf.sizeOf es < mm := by have := size_part (l := [.mk op1 n1 s1 es]) (i := 0) (by simp) rfl; omega
 have HT : Hid (RowAt w (fun k => k < B) 4 (.slice oo es.length cc) es.length zs ∧ ExIn w (fun k => k < B) es zs) := ⟨t1, t2⟩
 have HIH : Hid (RwTerm B b op1 n1 s1 es 8 7) := IH op1 n1 s1 es hsz hz 8 7 (Or.inr ⟨rfl, by omega, by omega⟩)
 clear g g0 g1 g2 g3 t1 t2 IH
 go_enter Tryz.func55, Tryz.ntmps55
 go_wp2_with fail
 refine (refFormed_any op n s _ 1 c _).mono ?_
 rw [HF.out]
 rintro e w2 ⟨rfl, hw2⟩
 have R2 : Hid _ := row_keep hw2 R1.out
 have K2 : Hid (RwK B b w w2) := K1.out.trans (RwK.of hw2 (by simp; omega))
 have E2 : Hid _ := row_keep hw2 E1.out
 clear hw2 R1 K1 E1
 go_wp2_with fail
 refine (must_k B b _ false true _ R2.out hB).mono ?_
 rintro e w3 ⟨rfl, k3, r3⟩
 have c1 := (rw_bad r3).1
 have E3 := k3.re (by omega) E2.out
 obtain ⟨x0, x1, x2, x3, _⟩ := blk4 E3
 have K3 : Hid (RwK B b w w3) := K2.out.trans k3
 clear k3 R2 K2 E2
 go_wp2_with fail
 refine (HC.out _).mono ?_
 rintro e w4 ⟨rfl, rfl⟩
 go_wp2_with fail
 refine (down_k B b _ false d hd _ r3 hB).mono ?_
 rintro e w5 ⟨rfl, k5, r5⟩
 have E5 := k5.re (by omega) E3
 obtain ⟨y0, y1, y2, y3, _⟩ := blk4 E5
 have K5 : Hid (RwK B b w w5) := K3.out.trans k5
 have R5 : Hid _ := r5
 clear k5 r3 r5 c1 x0 x1 x2 x3 E3
 obtain ⟨q0, q1, q2, q3⟩ := HX.out _ K5.out.1
 go_wp2_with fail
 refine (HIH.out _ (d + 1) oo cc zs _ _ R5.out (below_row HT.out.1 K5.out.1) (below_ex HT.out.2 K5.out.1) (fun hbb => ⟨by simp at hbb; omega, m + 1, rfl, hm⟩)).mono ?_
 rintro e w6 ⟨text, n', bad', rfl, k6, r6, hres⟩
 have hz := hres.size (fun _ => ⟨m + 1, rfl, hm⟩)
 have ha1 : ∀ W : World, (Op.stringOp .add ⟨#[45]⟩ text).run Tryz.prog W = .ok (.string (⟨#[45]⟩ ++ text)) W := fun W => run_string_add_sum W _ _ (by show 1 + text.size ≤ _; omega)
 go_wp2
 go_ret
 exact ⟨_, n', bad', rfl, K5.out.trans k6, r6, RwRes.one (by have h9 := one_neg (.mk op1 n1 s1 es); rw [if_neg (show ¬ (Ex.mk op1 n1 s1 es).op.toList = [110, 101, 103] from beq_eq_false_iff_ne.1 ta), ← tt] at h9; exact h9) HF.out HL.out hm (by simp) hres (by rw [ByteArray.toList_eq])⟩
theorem RwRes.next {L : Nat} {t : Ex} {d m : Nat} {text : ByteArray} {n' : Int} {bad' : Bool} (h : RwRes L t d (m : Int) false text n' bad') (hm : m ≤ 6000) (hb : bad' = false) : ∃ m' : Nat, n' = m' ∧ m' ≤ 6000 := by
 rcases h.2 rfl m rfl hm with ⟨_, k, hk, hw⟩ | ⟨e, _⟩
 ·exact ⟨m + k, hk, hw.room⟩
 ·rw [hb] at e; cases e
theorem RwRes.two {L M1 M2 δ : Nat} {op : ByteArray} {n : Int} {s : ByteArray} {a b : Ex} {d m : Nat} {bad1 bad2 bad' : Bool} {ta tb : ByteArray} {n1 n' : Int} (ht : TwoIs op.toList M1 M2 δ) (hf : formedB op.toList n s.toList 2 = true) (hl : ¬ lvOf op.toList < L) (hm : m + 1 ≤ 6000) (ha : RwRes M1 a d ((m + 1 : Nat) : Int) false ta n1 bad1) (h2 : bad2 = true ↔ bad1 = true ∨ 20 < d + δ) (hb : RwRes M2 b (d + δ) n1 bad2 tb n' bad') : RwRes L (.mk op n s [a, b]) d (m : Int) false (ta ++ ⟨#[32]⟩ ++ op ++ ⟨#[32]⟩ ++ tb) n' bad' := by
 refine ⟨fun h => (by cases h), fun _ m' hm' _ => ?_⟩
 obtain rfl : m = m' := by omega
 have ho : op.size ≤ 3 := by have := ht.len; rwa [bytes_len] at this
 have hz : (ta ++ ⟨#[32]⟩ ++ op ++ ⟨#[32]⟩ ++ tb).size ≤ ta.size + 5 + tb.size := by
  rw [ByteArray.size_append, ByteArray.size_append, ByteArray.size_append, ByteArray.size_append]
  show ta.size + 1 + op.size + 1 + tb.size ≤ _
  omega
 rcases ha.2 rfl (m + 1) rfl hm with ⟨e1, k, hk, hw⟩ | ⟨e1, hn, hs⟩
 ·have hr := hw.room
  have hlen := hw.len
  rw [bytes_len] at hlen
  cases b2 : bad2 with
  | true =>
   obtain ⟨e2, rfl⟩ := hb.1 b2
   have h20 : 20 < d + δ := (h2.1 b2).resolve_left (by rw [e1]; simp)
   refine Or.inr ⟨e2, two_no2 ht hf hl hw (Or.inl h20), ?_⟩
   have : (b0 : ByteArray).size = 0 := rfl
   omega
  | false =>
   rcases hb.2 b2 (m + 1 + k) hk hr with ⟨e2, k2, hk2, hw2⟩ | ⟨e2, hn2, hs2⟩
   ·refine Or.inl ⟨e2, 1 + k + k2, by rw [hk2]; congr 1; omega, ?_⟩
    have := two_went ht hf hl hw hw2
    rw [list_app, list_app, list_app, list_app, show (⟨#[32]⟩ : ByteArray).toList = [32] from by rw [ByteArray.toList_eq]]
    exact this
   ·exact Or.inr ⟨e2, two_no2 ht hf hl hw (Or.inr hn2), by omega⟩
 ·obtain ⟨e2, rfl⟩ := hb.1 (h2.2 (Or.inl e1))
  refine Or.inr ⟨e2, two_no1 ht hf hl hn, ?_⟩
  have : (b0 : ByteArray).size = 0 := rfl
  omega
set_option maxRecDepth 100000 in
set_option maxHeartbeats 2000000 in
theorem rwTerm_arrow (B b : Nat) (hB : B ≤ b) (op : ByteArray) (n : Int) (s : ByteArray) (least L : Nat) (hLv : LevOk least L) (t : List UInt8 × Int × Nat) (ht : t ∈ arL) (ho : op.toList = t.1) (hlo : ¬ t.2.2 < least) (tt : op.toList = [45, 62]) (a b' : Ex) (mm : Nat) (hmm : SizeOf.sizeOf [a, b'] < mm + 1) (hz0 : NzT a) (hz1 : NzT b') (IH : RwAll B b mm) (hf : formedB op.toList n s.toList 2 = true) (w : World) (d : Nat) (o : Option Addr) (c : Nat) (ys : List Value) (m : Nat) (hb : w.heap[b]? = some (rwObj m false false)) (h1 : RowAt w (fun k => k < B) 4 (.slice o 2 c) 2 ys) (h2 : ExIn w (fun k => k < B) [a, b'] ys) (hd : d ≤ 20) (hm : m + 1 ≤ 6000) :
  Calls Tryz.prog 55 #[.pointer (some ⟨b, 0, none⟩), .agg #[.string op, .int .i64 n, .string s, .slice o 2 c], .int .i64 least, .int .i64 d] w (RwEnd B b L (.mk op n s [a, b']) d m false w) := by
 have hlt : b < w.heap.size := size_of_row hb
 have c0 : w.cell? ⟨b, 0, none⟩ = some (.int .i64 m) := by simp [World.cell?, hb]
 have f0 : w.frozen? ⟨b, 0, none⟩ = false := by simp [World.frozen?, hb]
 have R1 : Hid _ := rw_row (k' := ((m + 1 : Nat) : Int)) hb (reObj op n s (.slice o 2 c))
 have K1 : Hid (RwK B b w ((w.setCell ⟨b, 0, none⟩ (.int .i64 ((m + 1 : Nat) : Int))).alloc (reObj op n s (.slice o 2 c)))) := ((RwK.refl _ _ _).set hB 0 _).alloc (by simp; omega) _
 have E1 : Hid (((w.setCell ⟨b, 0, none⟩ (.int .i64 ((m + 1 : Nat) : Int))).alloc (reObj op n s (.slice o 2 c))).heap[w.heap.size]? = some (reObj op n s (.slice o 2 c))) := heap_alloc_new' (by simp) _
 have hwr : wrap64 ((m : Int) + 1) = ((m + 1 : Nat) : Int) := by unfold wrap64; omega
 have h6 : ((m + 1 : Nat) : Int) ≤ 6000 := by omega
 have hlo' : ¬ ((t.2.2 : Nat) : Int) < (least : Int) := by omega
 have HC : Hid (∀ w, Calls Tryz.prog 89 #[.string op] w fun e w' => e = .returned (.int .i64 (t.2.2 : Nat)) ∧ w' = w) := fun w => closeOf_in op w t ht ho
 have HL : Hid (¬ lvOf op.toList < L) := by
  have := mt (hLv.iff ht).2 hlo
  rw [← ho] at this
  exact this
 have HROW : Hid (RowAt w (fun k => k < B) 4 (.slice o 2 c) 2 ys ∧ ExIn w (fun k => k < B) [a, b'] ys) := ⟨h1, h2⟩
 have HF : Hid (formedB op.toList n s.toList 2 = true) := hf
 clear hb h1 h2 hf
 clear ho
 obtain ⟨p, f, c9, hv, hpB, _, g⟩ := HROW.out.1.at (by have := HROW.out.1.1; omega)
 obtain rfl : o = some ⟨p, f, none⟩ := by injection hv
 clear hv
 obtain ⟨op0, n0, s0, es0, oo0, cc0, zs0, e0, g0, g1, g2, g3, u1, u2⟩ := HROW.out.2.at (i := 0) (by simp)
 obtain rfl : a = .mk op0 n0 s0 es0 := e0
 have HX0 : Hid (∀ w', Below B w w' → w'.cell? ⟨p, f, none⟩ = some (.string op0) ∧ w'.cell? ⟨p, f + 1, none⟩ = some (.int .i64 n0) ∧ w'.cell? ⟨p, f + 2, none⟩ = some (.string s0) ∧ w'.cell? ⟨p, f + 3, none⟩ = some (.slice oo0 es0.length cc0)) := fun w' hw => ⟨below_cell hw hpB (g _ _ g0), below_cell hw hpB (g _ _ g1), below_cell hw hpB (g _ _ g2), below_cell hw hpB (g _ _ g3)⟩
 have HT0 : Hid (RowAt w (fun k => k < B) 4 (.slice oo0 es0.length cc0) es0.length zs0 ∧ ExIn w (fun k => k < B) es0 zs0) := ⟨u1, u2⟩
 clear g0 g1 g2 g3 u1 u2
 obtain ⟨op1, n1, s1, es1, oo1, cc1, zs1, e1, g0, g1, g2, g3, u1, u2⟩ := HROW.out.2.at (i := 1) (by simp)
 obtain rfl : b' = .mk op1 n1 s1 es1 := e1
 have HX1 : Hid (∀ w', Below B w w' → w'.cell? ⟨p, f + 4, none⟩ = some (.string op1) ∧ w'.cell? ⟨p, f + 5, none⟩ = some (.int .i64 n1) ∧ w'.cell? ⟨p, f + 6, none⟩ = some (.string s1) ∧ w'.cell? ⟨p, f + 7, none⟩ = some (.slice oo1 es1.length cc1)) := fun w' hw => ⟨below_cell hw hpB (g _ _ g0), below_cell hw hpB (g _ _ g1), below_cell hw hpB (g _ _ g2), below_cell hw hpB (g _ _ g3)⟩
 have HT1 : Hid (RowAt w (fun k => k < B) 4 (.slice oo1 es1.length cc1) es1.length zs1 ∧ ExIn w (fun k => k < B) es1 zs1) := ⟨u1, u2⟩
 clear g0 g1 g2 g3 u1 u2
 have hsz0 : SizeOf.sizeOf es0 < mm := by have := size_part (l := [.mk op0 n0 s0 es0, .mk op1 n1 s1 es1]) (i := 0) (by simp) rfl; omega
 have hsz1 : SizeOf.sizeOf es1 < mm := by have := size_part (l := [.mk op0 n0 s0 es0, .mk op1 n1 s1 es1]) (i := 1) (by simp) rfl; omega
 have IH0 : Hid (RwTerm B b op0 n0 s0 es0 2 1) := IH op0 n0 s0 es0 hsz0 hz0 _ _ (Or.inr ⟨rfl, by omega, by omega⟩)
 have IH1 : Hid (RwTerm B b op1 n1 s1 es1 0 0) := IH op1 n1 s1 es1 hsz1 hz1 _ _ (Or.inl ⟨rfl, rfl⟩)
 clear g IH
 go_enter Tryz.func55, Tryz.ntmps55
 go_wp2_with fail
 refine (refFormed_any op n s _ 2 c _).mono ?_
 rw [HF.out]
 rintro e w2 ⟨rfl, hw2⟩
 have R2 : Hid _ := row_keep hw2 R1.out
 have K2 : Hid (RwK B b w w2) := K1.out.trans (RwK.of hw2 (by simp; omega))
 have E2 : Hid _ := row_keep hw2 E1.out
 clear hw2 R1 K1 E1
 go_wp2_with fail
 refine (must_k B b _ false true _ R2.out hB).mono ?_
 rintro e w3 ⟨rfl, k3, r3⟩
 have c1 := (rw_bad r3).1
 have E3 := k3.re (by omega) E2.out
 obtain ⟨x0, x1, x2, x3, _⟩ := blk4 E3
 have K3 : Hid (RwK B b w w3) := K2.out.trans k3
 clear k3 R2 K2 E2
 go_wp2_with fail
 refine (HC.out _).mono ?_
 rintro e w4 ⟨rfl, rfl⟩
 obtain ⟨q0, q1, q2, q3⟩ := HX0.out _ K3.out.1
 have R3 : Hid _ := r3
 clear r3 c1
 go_wp2_with fail
 refine (IH0.out _ d oo0 cc0 zs0 _ _ R3.out (below_row HT0.out.1 K3.out.1) (below_ex HT0.out.2 K3.out.1) (fun _ => ⟨hd, m + 1, rfl, hm⟩)).mono ?_
 rintro e w5 ⟨ta, m5, bad5, rfl, k5, r5, hres⟩
 have hza := hres.size (fun _ => ⟨m + 1, rfl, hm⟩)
 have HRA : Hid (RwRes 1 (.mk op0 n0 s0 es0) d ((m + 1 : Nat) : Int) false ta m5 bad5) := hres
 have E5 := k5.re (by omega) E3
 have K5 : Hid (RwK B b w w5) := K3.out.trans k5
 clear hres k5 x0 x1 x2 x3 q0 q1 q2 q3 E3 K3 R3
 obtain ⟨y0, y1, y2, y3, _⟩ := blk4 E5
 go_wp2_with fail
 refine (down_k B b _ bad5 d hd _ r5 hB).mono ?_
 rintro e w6 ⟨rfl, k6, r6⟩
 have E6 := k6.re (by omega) E5
 have K6 : Hid (RwK B b w w6) := K5.out.trans k6
 clear k6 r5 y0 y1 y2 y3 E5
 obtain ⟨y0, y1, y2, y3, _⟩ := blk4 E6
 obtain ⟨z0, z1, z2, z3⟩ := HX1.out _ K6.out.1
 have R6 : Hid _ := r6
 clear r6
 have ho3 : op.size ≤ 3 := by have := (two_arr (y := op.toList) (by rw [tt]; decide)).len; rwa [bytes_len] at this
 have ha1 : ∀ W : World, (Op.stringOp .add ta ⟨#[32]⟩).run Tryz.prog W = .ok (.string (ta ++ ⟨#[32]⟩)) W := fun W => run_string_add_sum W _ _ (by show ta.size + 1 ≤ _; omega)
 have ha2 : ∀ W : World, (Op.stringOp .add (ta ++ ⟨#[32]⟩) op).run Tryz.prog W = .ok (.string (ta ++ ⟨#[32]⟩ ++ op)) W := fun W => run_string_add_sum W _ _ (by rw [ByteArray.size_append]; show ta.size + 1 + op.size ≤ _; omega)
 have ha3 : ∀ W : World, (Op.stringOp .add (ta ++ ⟨#[32]⟩ ++ op) ⟨#[32]⟩).run Tryz.prog W = .ok (.string (ta ++ ⟨#[32]⟩ ++ op ++ ⟨#[32]⟩)) W := fun W => run_string_add_sum W _ _ (by rw [ByteArray.size_append, ByteArray.size_append]; show ta.size + 1 + op.size + 1 ≤ _; omega)
 go_wp2
 go_region_law (refine step_call rfl 55 #[.pointer (some ⟨b, 0, none⟩), .agg #[.string op1, .int .i64 n1, .string s1, .slice oo1 es1.length cc1], .int .i64 0, .int .i64 (d + 1 : Nat)] (by kernel_rfl) ?_; refine (IH1.out w6.drew (d + 1) oo1 cc1 zs1 _ _ R6.out (below_row HT1.out.1 (Below.drew K6.out.1)) (below_ex HT1.out.2 (Below.drew K6.out.1)) (fun hbb => ⟨by simp at hbb; omega, HRA.out.next hm (by simp at hbb; exact hbb.1)⟩)).mono ?_; rintro e w7 ⟨tb, m7, bad7, rfl, k7, r7, hres7⟩; have E7 := k7.re (by omega) E6; obtain ⟨v0, v1, v2, v3, _⟩ := blk4 E7; have hzb := hres7.size (fun hbb => HRA.out.next hm (by simp at hbb; exact hbb.1)); have ha4 : ∀ W : World, (Op.stringOp .add (ta ++ ⟨#[32]⟩ ++ op ++ ⟨#[32]⟩) tb).run Tryz.prog W = .ok (.string (ta ++ ⟨#[32]⟩ ++ op ++ ⟨#[32]⟩ ++ tb)) W := fun W => run_string_add_sum W _ _ (by rw [ByteArray.size_append, ByteArray.size_append, ByteArray.size_append]; show ta.size + 1 + op.size + 1 + tb.size ≤ _; omega); dsimp only)
 all_goals
  go_wp2
  go_ret
  exact ⟨_, m7, bad7, rfl, RwK.trans ⟨Below.drew K6.out.1, K6.out.2⟩ k7, r7, RwRes.two (two_arr (y := op.toList) (by rw [tt]; decide)) HF.out HL.out hm HRA.out (by cases bad5 <;> simp <;> omega) hres7⟩
set_option maxRecDepth 100000 in
set_option maxHeartbeats 2000000 in
theorem rwTerm_fby (B b : Nat) (hB : B ≤ b) (op : ByteArray) (n : Int) (s : ByteArray) (least L : Nat) (hLv : LevOk least L) (t : List UInt8 × Int × Nat) (ht : t ∈ arL) (ho : op.toList = t.1) (hlo : ¬ t.2.2 < least) (tt : op.toList = [102, 98, 121]) (a b' : Ex) (mm : Nat) (hmm : SizeOf.sizeOf [a, b'] < mm + 1) (hz0 : NzT a) (hz1 : NzT b') (IH : RwAll B b mm) (hf : formedB op.toList n s.toList 2 = true) (w : World) (d : Nat) (o : Option Addr) (c : Nat) (ys : List Value) (m : Nat) (hb : w.heap[b]? = some (rwObj m false false)) (h1 : RowAt w (fun k => k < B) 4 (.slice o 2 c) 2 ys) (h2 : ExIn w (fun k => k < B) [a, b'] ys) (hd : d ≤ 20) (hm : m + 1 ≤ 6000) :
  Calls Tryz.prog 55 #[.pointer (some ⟨b, 0, none⟩), .agg #[.string op, .int .i64 n, .string s, .slice o 2 c], .int .i64 least, .int .i64 d] w (RwEnd B b L (.mk op n s [a, b']) d m false w) := by
 have hlt : b < w.heap.size := size_of_row hb
 have c0 : w.cell? ⟨b, 0, none⟩ = some (.int .i64 m) := by simp [World.cell?, hb]
 have f0 : w.frozen? ⟨b, 0, none⟩ = false := by simp [World.frozen?, hb]
 have R1 : Hid _ := rw_row (k' := ((m + 1 : Nat) : Int)) hb (reObj op n s (.slice o 2 c))
 have K1 : Hid (RwK B b w ((w.setCell ⟨b, 0, none⟩ (.int .i64 ((m + 1 : Nat) : Int))).alloc (reObj op n s (.slice o 2 c)))) := ((RwK.refl _ _ _).set hB 0 _).alloc (by simp; omega) _
 have E1 : Hid (((w.setCell ⟨b, 0, none⟩ (.int .i64 ((m + 1 : Nat) : Int))).alloc (reObj op n s (.slice o 2 c))).heap[w.heap.size]? = some (reObj op n s (.slice o 2 c))) := heap_alloc_new' (by simp) _
 have hwr : wrap64 ((m : Int) + 1) = ((m + 1 : Nat) : Int) := by unfold wrap64; omega
 have h6 : ((m + 1 : Nat) : Int) ≤ 6000 := by omega
 have hlo' : ¬ ((t.2.2 : Nat) : Int) < (least : Int) := by omega
 have HC : Hid (∀ w, Calls Tryz.prog 89 #[.string op] w fun e w' => e = .returned (.int .i64 (t.2.2 : Nat)) ∧ w' = w) := fun w => closeOf_in op w t ht ho
 have HL : Hid (¬ lvOf op.toList < L) := by
  have := mt (hLv.iff ht).2 hlo
  rw [← ho] at this
  exact this
 have HROW : Hid (RowAt w (fun k => k < B) 4 (.slice o 2 c) 2 ys ∧ ExIn w (fun k => k < B) [a, b'] ys) := ⟨h1, h2⟩
 have HF : Hid (formedB op.toList n s.toList 2 = true) := hf
 clear hb h1 h2 hf
 clear ho
 obtain ⟨p, f, c9, hv, hpB, _, g⟩ := HROW.out.1.at (by have := HROW.out.1.1; omega)
 obtain rfl : o = some ⟨p, f, none⟩ := by injection hv
 clear hv
 obtain ⟨op0, n0, s0, es0, oo0, cc0, zs0, e0, g0, g1, g2, g3, u1, u2⟩ := HROW.out.2.at (i := 0) (by simp)
 obtain rfl : a = .mk op0 n0 s0 es0 := e0
 have HX0 : Hid (∀ w', Below B w w' → w'.cell? ⟨p, f, none⟩ = some (.string op0) ∧ w'.cell? ⟨p, f + 1, none⟩ = some (.int .i64 n0) ∧ w'.cell? ⟨p, f + 2, none⟩ = some (.string s0) ∧ w'.cell? ⟨p, f + 3, none⟩ = some (.slice oo0 es0.length cc0)) := fun w' hw => ⟨below_cell hw hpB (g _ _ g0), below_cell hw hpB (g _ _ g1), below_cell hw hpB (g _ _ g2), below_cell hw hpB (g _ _ g3)⟩
 have HT0 : Hid (RowAt w (fun k => k < B) 4 (.slice oo0 es0.length cc0) es0.length zs0 ∧ ExIn w (fun k => k < B) es0 zs0) := ⟨u1, u2⟩
 clear g0 g1 g2 g3 u1 u2
 obtain ⟨op1, n1, s1, es1, oo1, cc1, zs1, e1, g0, g1, g2, g3, u1, u2⟩ := HROW.out.2.at (i := 1) (by simp)
 obtain rfl : b' = .mk op1 n1 s1 es1 := e1
 have HX1 : Hid (∀ w', Below B w w' → w'.cell? ⟨p, f + 4, none⟩ = some (.string op1) ∧ w'.cell? ⟨p, f + 5, none⟩ = some (.int .i64 n1) ∧ w'.cell? ⟨p, f + 6, none⟩ = some (.string s1) ∧ w'.cell? ⟨p, f + 7, none⟩ = some (.slice oo1 es1.length cc1)) := fun w' hw => ⟨below_cell hw hpB (g _ _ g0), below_cell hw hpB (g _ _ g1), below_cell hw hpB (g _ _ g2), below_cell hw hpB (g _ _ g3)⟩
 have HT1 : Hid (RowAt w (fun k => k < B) 4 (.slice oo1 es1.length cc1) es1.length zs1 ∧ ExIn w (fun k => k < B) es1 zs1) := ⟨u1, u2⟩
 clear g0 g1 g2 g3 u1 u2
 have hsz0 : SizeOf.sizeOf es0 < mm := by have := size_part (l := [.mk op0 n0 s0 es0, .mk op1 n1 s1 es1]) (i := 0) (by simp) rfl; omega
 have hsz1 : SizeOf.sizeOf es1 < mm := by have := size_part (l := [.mk op0 n0 s0 es0, .mk op1 n1 s1 es1]) (i := 1) (by simp) rfl; omega
 have IH0 : Hid (RwTerm B b op0 n0 s0 es0 2 1) := IH op0 n0 s0 es0 hsz0 hz0 _ _ (Or.inr ⟨rfl, by omega, by omega⟩)
 have IH1 : Hid (RwTerm B b op1 n1 s1 es1 0 0) := IH op1 n1 s1 es1 hsz1 hz1 _ _ (Or.inl ⟨rfl, rfl⟩)
 clear g IH
 go_enter Tryz.func55, Tryz.ntmps55
 go_wp2_with fail
 refine (refFormed_any op n s _ 2 c _).mono ?_
 rw [HF.out]
 rintro e w2 ⟨rfl, hw2⟩
 have R2 : Hid _ := row_keep hw2 R1.out
 have K2 : Hid (RwK B b w w2) := K1.out.trans (RwK.of hw2 (by simp; omega))
 have E2 : Hid _ := row_keep hw2 E1.out
 clear hw2 R1 K1 E1
 go_wp2_with fail
 refine (must_k B b _ false true _ R2.out hB).mono ?_
 rintro e w3 ⟨rfl, k3, r3⟩
 have c1 := (rw_bad r3).1
 have E3 := k3.re (by omega) E2.out
 obtain ⟨x0, x1, x2, x3, _⟩ := blk4 E3
 have K3 : Hid (RwK B b w w3) := K2.out.trans k3
 clear k3 R2 K2 E2
 go_wp2_with fail
 refine (HC.out _).mono ?_
 rintro e w4 ⟨rfl, rfl⟩
 obtain ⟨q0, q1, q2, q3⟩ := HX0.out _ K3.out.1
 have R3 : Hid _ := r3
 clear r3 c1
 go_wp2_with fail
 refine (IH0.out _ d oo0 cc0 zs0 _ _ R3.out (below_row HT0.out.1 K3.out.1) (below_ex HT0.out.2 K3.out.1) (fun _ => ⟨hd, m + 1, rfl, hm⟩)).mono ?_
 rintro e w5 ⟨ta, m5, bad5, rfl, k5, r5, hres⟩
 have hza := hres.size (fun _ => ⟨m + 1, rfl, hm⟩)
 have HRA : Hid (RwRes 1 (.mk op0 n0 s0 es0) d ((m + 1 : Nat) : Int) false ta m5 bad5) := hres
 have E5 := k5.re (by omega) E3
 have K5 : Hid (RwK B b w w5) := K3.out.trans k5
 clear hres k5 x0 x1 x2 x3 q0 q1 q2 q3 E3 K3 R3
 obtain ⟨y0, y1, y2, y3, _⟩ := blk4 E5
 go_wp2_with fail
 refine (down_k B b _ bad5 d hd _ r5 hB).mono ?_
 rintro e w6 ⟨rfl, k6, r6⟩
 have E6 := k6.re (by omega) E5
 have K6 : Hid (RwK B b w w6) := K5.out.trans k6
 clear k6 r5 y0 y1 y2 y3 E5
 obtain ⟨y0, y1, y2, y3, _⟩ := blk4 E6
 obtain ⟨z0, z1, z2, z3⟩ := HX1.out _ K6.out.1
 have R6 : Hid _ := r6
 clear r6
 have ho3 : op.size ≤ 3 := by have := (two_arr (y := op.toList) (by rw [tt]; decide)).len; rwa [bytes_len] at this
 have ha1 : ∀ W : World, (Op.stringOp .add ta ⟨#[32]⟩).run Tryz.prog W = .ok (.string (ta ++ ⟨#[32]⟩)) W := fun W => run_string_add_sum W _ _ (by show ta.size + 1 ≤ _; omega)
 have ha2 : ∀ W : World, (Op.stringOp .add (ta ++ ⟨#[32]⟩) op).run Tryz.prog W = .ok (.string (ta ++ ⟨#[32]⟩ ++ op)) W := fun W => run_string_add_sum W _ _ (by rw [ByteArray.size_append]; show ta.size + 1 + op.size ≤ _; omega)
 have ha3 : ∀ W : World, (Op.stringOp .add (ta ++ ⟨#[32]⟩ ++ op) ⟨#[32]⟩).run Tryz.prog W = .ok (.string (ta ++ ⟨#[32]⟩ ++ op ++ ⟨#[32]⟩)) W := fun W => run_string_add_sum W _ _ (by rw [ByteArray.size_append, ByteArray.size_append]; show ta.size + 1 + op.size + 1 ≤ _; omega)
 go_wp2
 go_region_law (refine step_call rfl 55 #[.pointer (some ⟨b, 0, none⟩), .agg #[.string op1, .int .i64 n1, .string s1, .slice oo1 es1.length cc1], .int .i64 0, .int .i64 (d + 1 : Nat)] (by kernel_rfl) ?_; refine (IH1.out w6.drew (d + 1) oo1 cc1 zs1 _ _ R6.out (below_row HT1.out.1 (Below.drew K6.out.1)) (below_ex HT1.out.2 (Below.drew K6.out.1)) (fun hbb => ⟨by simp at hbb; omega, HRA.out.next hm (by simp at hbb; exact hbb.1)⟩)).mono ?_; rintro e w7 ⟨tb, m7, bad7, rfl, k7, r7, hres7⟩; have E7 := k7.re (by omega) E6; obtain ⟨v0, v1, v2, v3, _⟩ := blk4 E7; have hzb := hres7.size (fun hbb => HRA.out.next hm (by simp at hbb; exact hbb.1)); have ha4 : ∀ W : World, (Op.stringOp .add (ta ++ ⟨#[32]⟩ ++ op ++ ⟨#[32]⟩) tb).run Tryz.prog W = .ok (.string (ta ++ ⟨#[32]⟩ ++ op ++ ⟨#[32]⟩ ++ tb)) W := fun W => run_string_add_sum W _ _ (by rw [ByteArray.size_append, ByteArray.size_append, ByteArray.size_append]; show ta.size + 1 + op.size + 1 + tb.size ≤ _; omega); dsimp only)
 all_goals
  go_wp2
  go_ret
  exact ⟨_, m7, bad7, rfl, RwK.trans ⟨Below.drew K6.out.1, K6.out.2⟩ k7, r7, RwRes.two (two_arr (y := op.toList) (by rw [tt]; decide)) HF.out HL.out hm HRA.out (by cases bad5 <;> simp <;> omega) hres7⟩
end Go.Proofs.YtgbpccipdcajgaaGreatDoor
