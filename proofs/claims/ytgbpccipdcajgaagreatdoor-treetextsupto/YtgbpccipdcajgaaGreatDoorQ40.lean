/-
  lustrumref1's WRITER: term with two parts: those that hold as close as 6.
-/
import Derived.Test.YtgbpccipdcajgaaGreatDoorQ34
import Derived.Test.YtgbpccipdcajgaaGreatDoorQ39
import Derived.Test.YtgbpccipdcajgaaGreatDoorQ29
namespace Go.Proofs.YtgbpccipdcajgaaGreatDoor
open Go.RowKit
attribute [local go_sem ↓] Go.wp_at_zero Go.wp_at_succ
set_option maxRecDepth 100000 in
set_option maxHeartbeats 2000000 in
theorem rwTerm_pair6 (B b : Nat) (hB : B ≤ b) (op : ByteArray) (n : Int) (s : ByteArray) (least L : Nat) (hLv : LevOk least L) (t : List UInt8 × Int × Nat) (ht : t ∈ arL) (ho : op.toList = t.1) (hlo : ¬ t.2.2 < least) (t0 : (op.toList == [105, 110, 116]) = false) (t1 : (op.toList == [116, 114, 117, 101]) = false) (t2 : (op.toList == [102, 97, 108, 115, 101]) = false) (t3 : (op.toList == [110, 97, 109, 101]) = false) (t4 : (op.toList == [99, 97, 108, 108]) = false) (t5 : (op.toList == [110, 101, 103]) = false) (t6 : (op.toList == [112, 114, 101]) = false) (t7 : (op.toList == [110, 111, 116]) = false) (t8 : (op.toList == [105, 102]) = false) (t9 : (op.toList == [45, 62]) = false) (t10 : (op.toList == [102, 98, 121]) = false) (hTwo : TwoIs op.toList 5 6 0) (h5 : t.2.2 = 6) (a b' : Ex) (mm : Nat) (hmm : SizeOf.sizeOf [a, b'] < mm + 1) (hz0 : NzT a) (hz1 : NzT b') (IH : RwAll B b mm) (hf : formedB op.toList n s.toList 2 = true) (w : World) (d : Nat) (o : Option Addr) (c : Nat) (ys : List Value) (m : Nat) (hb : w.heap[b]? = some (rwObj m false false)) (h1 : RowAt w (fun k => k < B) 4 (.slice o 2 c) 2 ys) (h2 : ExIn w (fun k => k < B) [a, b'] ys) (hd : d ≤ 20) (hm : m + 1 ≤ 6000) :
  Calls Tryz.prog 55 #[.pointer (some ⟨b, 0, none⟩), .agg #[.string op, .int .i64 n, .string s, .slice o 2 c], .int .i64 least, .int .i64 d] w (RwEnd B b L (.mk op n s [a, b']) d m false w) := by
 have hlt : b < w.heap.size := size_of_row hb
 have c0 : w.cell? ⟨b, 0, none⟩ = some (.int .i64 m) := by simp [World.cell?, hb]
 have f0 : w.frozen? ⟨b, 0, none⟩ = false := by simp [World.frozen?, hb]
 have R1 : Hid _ := rw_row (k' := ((m + 1 : Nat) : Int)) hb (reObj op n s (.slice o 2 c))
 have K1 : Hid (RwK B b w ((w.setCell ⟨b, 0, none⟩ (.int .i64 ((m + 1 : Nat) : Int))).alloc (reObj op n s (.slice o 2 c)))) := ((RwK.refl _ _ _).set hB 0 _).alloc (by simp; omega) _
 have E1 : Hid (((w.setCell ⟨b, 0, none⟩ (.int .i64 ((m + 1 : Nat) : Int))).alloc (reObj op n s (.slice o 2 c))).heap[w.heap.size]? = some (reObj op n s (.slice o 2 c))) := heap_alloc_new' (by simp) _
 have hwr : wrap64 ((m : Int) + 1) = ((m + 1 : Nat) : Int) := by unfold wrap64; omega
 have h6 : ((m + 1 : Nat) : Int) ≤ 6000 := by omega
 have hlo' : ¬ ((t.2.2 : Nat) : Int) < (least : Int) := by omega
 have HC : Hid (∀ w, Calls Tryz.prog 89 #[.string op] w fun e w' => e = .returned (.int .i64 (t.2.2 : Nat)) ∧ w' = w) := fun w => closeOf_in op w t ht ho
 have HL : Hid (¬ lvOf op.toList < L) := by
  have := mt (hLv.iff ht).2 hlo
  rw [← ho] at this
  exact this
 have HROW : Hid (RowAt w (fun k => k < B) 4 (.slice o 2 c) 2 ys ∧ ExIn w (fun k => k < B) [a, b'] ys) := ⟨h1, h2⟩
 have HF : Hid (formedB op.toList n s.toList 2 = true) := hf
 clear hb h1 h2 hf
 clear ho
 obtain ⟨p, f, c9, hv, hpB, _, g⟩ := HROW.out.1.at (by have := HROW.out.1.1; omega)
 obtain rfl : o = some ⟨p, f, none⟩ := by injection hv
 clear hv
 obtain ⟨op0, n0, s0, es0, oo0, cc0, zs0, e0, g0, g1, g2, g3, u1, u2⟩ := HROW.out.2.at (i := 0) (by simp)
 obtain rfl : a = .mk op0 n0 s0 es0 := e0
 have HX0 : Hid (∀ w', Below B w w' → w'.cell? ⟨p, f, none⟩ = some (.string op0) ∧ w'.cell? ⟨p, f + 1, none⟩ = some (.int .i64 n0) ∧ w'.cell? ⟨p, f + 2, none⟩ = some (.string s0) ∧ w'.cell? ⟨p, f + 3, none⟩ = some (.slice oo0 es0.length cc0)) := fun w' hw => ⟨below_cell hw hpB (g _ _ g0), below_cell hw hpB (g _ _ g1), below_cell hw hpB (g _ _ g2), below_cell hw hpB (g _ _ g3)⟩
 have HT0 : Hid (RowAt w (fun k => k < B) 4 (.slice oo0 es0.length cc0) es0.length zs0 ∧ ExIn w (fun k => k < B) es0 zs0) := ⟨u1, u2⟩
 clear g0 g1 g2 g3 u1 u2
 obtain ⟨op1, n1, s1, es1, oo1, cc1, zs1, e1, g0, g1, g2, g3, u1, u2⟩ := HROW.out.2.at (i := 1) (by simp)
 obtain rfl : b' = .mk op1 n1 s1 es1 := e1
 have HX1 : Hid (∀ w', Below B w w' → w'.cell? ⟨p, f + 4, none⟩ = some (.string op1) ∧ w'.cell? ⟨p, f + 5, none⟩ = some (.int .i64 n1) ∧ w'.cell? ⟨p, f + 6, none⟩ = some (.string s1) ∧ w'.cell? ⟨p, f + 7, none⟩ = some (.slice oo1 es1.length cc1)) := fun w' hw => ⟨below_cell hw hpB (g _ _ g0), below_cell hw hpB (g _ _ g1), below_cell hw hpB (g _ _ g2), below_cell hw hpB (g _ _ g3)⟩
 have HT1 : Hid (RowAt w (fun k => k < B) 4 (.slice oo1 es1.length cc1) es1.length zs1 ∧ ExIn w (fun k => k < B) es1 zs1) := ⟨u1, u2⟩
 clear g0 g1 g2 g3 u1 u2
 have hsz0 : SizeOf.sizeOf es0 < mm := by have := size_part (l := [.mk op0 n0 s0 es0, .mk op1 n1 s1 es1]) (i := 0) (by simp) rfl; omega
 have hsz1 : SizeOf.sizeOf es1 < mm := by have := size_part (l := [.mk op0 n0 s0 es0, .mk op1 n1 s1 es1]) (i := 1) (by simp) rfl; omega
 have IH0 : Hid (RwTerm B b op0 n0 s0 es0 6 5) := IH op0 n0 s0 es0 hsz0 hz0 _ _ (Or.inr ⟨rfl, by omega, by omega⟩)
 have IH1 : Hid (RwTerm B b op1 n1 s1 es1 7 6) := IH op1 n1 s1 es1 hsz1 hz1 _ _ (Or.inr ⟨by omega, by omega, by omega⟩)
 clear g IH
 have hq1 : wrap64 ((t.2.2 : Nat) + 1 : Int) = 7 := by unfold wrap64; omega
 go_enter Tryz.func55, Tryz.ntmps55
 go_wp2_with fail
 refine (refFormed_any op n s _ 2 c _).mono ?_
 rw [HF.out]
 rintro e w2 ⟨rfl, hw2⟩
 have R2 : Hid _ := row_keep hw2 R1.out
 have K2 : Hid (RwK B b w w2) := K1.out.trans (RwK.of hw2 (by simp; omega))
 have E2 : Hid _ := row_keep hw2 E1.out
 clear hw2 R1 K1 E1
 go_wp2_with fail
 refine (must_k B b _ false true _ R2.out hB).mono ?_
 rintro e w3 ⟨rfl, k3, r3⟩
 have c1 := (rw_bad r3).1
 have E3 := k3.re (by omega) E2.out
 obtain ⟨x0, x1, x2, x3, _⟩ := blk4 E3
 have K3 : Hid (RwK B b w w3) := K2.out.trans k3
 clear k3 R2 K2 E2
 go_wp2_with fail
 refine (HC.out _).mono ?_
 rintro e w4 ⟨rfl, rfl⟩
 obtain ⟨q0, q1, q2, q3⟩ := HX0.out _ K3.out.1
 have R3 : Hid _ := r3
 clear r3 c1
 go_wp2_with fail
 refine (IH0.out _ d oo0 cc0 zs0 _ _ R3.out (below_row HT0.out.1 K3.out.1) (below_ex HT0.out.2 K3.out.1) (fun _ => ⟨hd, m + 1, rfl, hm⟩)).mono ?_
 rintro e w5 ⟨ta, m5, bad5, rfl, k5, r5, hres⟩
 have hza := hres.size (fun _ => ⟨m + 1, rfl, hm⟩)
 have HRA : Hid (RwRes 5 (.mk op0 n0 s0 es0) d ((m + 1 : Nat) : Int) false ta m5 bad5) := hres
 have E5 := k5.re (by omega) E3
 have K5 : Hid (RwK B b w w5) := K3.out.trans k5
 clear hres k5 x0 x1 x2 x3 q0 q1 q2 q3 E3 K3 R3
 have r6 := r5
 have E6 := E5
 have K6 := K5
 obtain ⟨y0, y1, y2, y3, _⟩ := blk4 E6
 obtain ⟨z0, z1, z2, z3⟩ := HX1.out _ K6.out.1
 have R6 : Hid _ := r6
 clear r6
 have ho3 : op.size ≤ 3 := by have := hTwo.len; rwa [bytes_len] at this
 have ha1 : ∀ W : World, (Op.stringOp .add ta ⟨#[32]⟩).run Tryz.prog W = .ok (.string (ta ++ ⟨#[32]⟩)) W := fun W => run_string_add_sum W _ _ (by show ta.size + 1 ≤ _; omega)
 have ha2 : ∀ W : World, (Op.stringOp .add (ta ++ ⟨#[32]⟩) op).run Tryz.prog W = .ok (.string (ta ++ ⟨#[32]⟩ ++ op)) W := fun W => run_string_add_sum W _ _ (by rw [ByteArray.size_append]; show ta.size + 1 + op.size ≤ _; omega)
 have ha3 : ∀ W : World, (Op.stringOp .add (ta ++ ⟨#[32]⟩ ++ op) ⟨#[32]⟩).run Tryz.prog W = .ok (.string (ta ++ ⟨#[32]⟩ ++ op ++ ⟨#[32]⟩)) W := fun W => run_string_add_sum W _ _ (by rw [ByteArray.size_append, ByteArray.size_append]; show ta.size + 1 + op.size + 1 ≤ _; omega)
 go_wp2
 go_region_law (refine step_call rfl 55 #[.pointer (some ⟨b, 0, none⟩), .agg #[.string op1, .int .i64 n1, .string s1, .slice oo1 es1.length cc1], .int .i64 (7 : Nat), .int .i64 d] (by kernel_rfl) ?_; refine (IH1.out w5.drew d oo1 cc1 zs1 _ _ R6.out (below_row HT1.out.1 (Below.drew K6.out.1)) (below_ex HT1.out.2 (Below.drew K6.out.1)) (fun hbb => ⟨by omega, HRA.out.next hm hbb⟩)).mono ?_; rintro e w7 ⟨tb, m7, bad7, rfl, k7, r7, hres7⟩; have E7 := k7.re (by omega) E6; obtain ⟨v0, v1, v2, v3, _⟩ := blk4 E7; have hzb := hres7.size (fun hbb => HRA.out.next hm hbb); have ha4 : ∀ W : World, (Op.stringOp .add (ta ++ ⟨#[32]⟩ ++ op ++ ⟨#[32]⟩) tb).run Tryz.prog W = .ok (.string (ta ++ ⟨#[32]⟩ ++ op ++ ⟨#[32]⟩ ++ tb)) W := fun W => run_string_add_sum W _ _ (by rw [ByteArray.size_append, ByteArray.size_append, ByteArray.size_append]; show ta.size + 1 + op.size + 1 + tb.size ≤ _; omega); dsimp only)
 all_goals
  go_wp2
  go_ret
  exact ⟨_, m7, bad7, rfl, RwK.trans ⟨Below.drew K6.out.1, K6.out.2⟩ k7, r7, RwRes.two hTwo HF.out HL.out hm HRA.out (by simp; omega) hres7⟩
end Go.Proofs.YtgbpccipdcajgaaGreatDoor
namespace Go.Proofs.YtgbpccipdcajgaaGreatDoor
def VarsB (vs : List Ex) : Prop := (∀ v ∈ vs, v.op.size ≤ 9000000) ∧ ∀ i, (rvTxt (vs.take i)).length ≤ 1000000000000
structure EqB (kind : ByteArray) (ns : List Ex) (e : Ex) : Prop where
 kind : kind.size ≤ 9000000
 names : ∀ n ∈ ns, n.op.size ≤ 9000000
 line : ∀ j, j ≤ ns.length → (nmJ ns j).length ≤ 1000000000000
 term : NzT e
structure NodeB (name : ByteArray) (ins outs owns qs : List Ex) : Prop where
 name : name.size ≤ 9000000
 ins : VarsB ins
 outs : VarsB outs
 owns : VarsB owns
 eqs : ∀ k (hk : k < qs.length) kind ns e, qs[k] = eqOf kind ns e → EqB kind ns e
def BulkN (es : List Ex) : Prop := ∀ i (hi : i < es.length) name ins outs owns qs, es[i] = ndOf name ins outs owns qs → NodeB name ins outs owns qs
theorem VarsB.all {vs : List Ex} (h : VarsB vs) : (rvTxt vs).length ≤ 1000000000000 := by
 have := h.2 vs.length
 rwa [List.take_length] at this
def OutAt (es : List Ex) (i : Nat) (text : ByteArray) (n : Int) (bad : Bool) : Prop := (bad = false → ∃ m : Nat, n = m ∧ PrgAt es i text.toList m) ∧ (bad = true → NoRight es)
structure InAt (es : List Ex) (i : Nat) (name : ByteArray) (ins outs owns qs : List Ex) (k : Nat) (text : ByteArray) (n : Int) (bad : Bool) : Prop where
 good : bad = false → (∃ m : Nat, n = m ∧ NodAt es i name ins outs owns qs k text.toList m) ∧ text.size ≤ 4000000000000
 no : bad = true → NoRight es
 size : text.size ≤ 6000000000000
theorem OutAt.start (es : List Ex) : OutAt es 0 b0 0 (false || !decide ((es.length : Int) ≤ 12)) := by
 refine ⟨fun h => ⟨0, rfl, ?_⟩, fun h => ?_⟩
 ·have : es.length ≤ 12 := by simp at h; omega
  rw [show (b0 : ByteArray).toList = [] from by rw [ByteArray.toList_eq]]
  exact PrgAt.start this
 ·exact noRight_many (by simp at h; omega)
section
variable {es : List Ex} {i : Nat} {name : ByteArray} {ins outs owns qs : List Ex} {k : Nat} {text : ByteArray} {n : Int} {bad : Bool}
theorem OutAt.size (h : OutAt es i text n false) : text.size ≤ 6000 := by
 obtain ⟨m, _, hp⟩ := h.1 rfl
 rw [← bytes_len]
 exact hp.len
theorem OutAt.done (h : OutAt es i text n bad) (hi : bad = true ∨ i = es.length) : (bad = true → NoRight es) ∧ (bad = false → RightP es text.toList) := by
 refine ⟨h.2, fun hb => ?_⟩
 obtain ⟨m, _, hp⟩ := h.1 hb
 exact hp.done (by rcases hi with h | h <;> first | omega | (rw [hb] at h; cases h))
theorem OutAt.head (h : OutAt es i text n false) (hi : i < es.length) (he : es[i] = ndOf name ins outs owns qs) {hd : ByteArray} (hh : hd.toList = hdTx name ins outs owns) (hb : bad = false ↔ HeadOk name ins outs owns) (hz : (text ++ hd).size ≤ 4000000000000) : InAt es i name ins outs owns qs 0 (text ++ hd) n bad := by
 obtain ⟨m, hm, hp⟩ := h.1 rfl
 refine ⟨fun h0 => ⟨⟨m, hm, ?_⟩, hz⟩, fun h1 => ?_, by omega⟩
 ·rw [list_app, hh]
  exact hp.node hi he (hb.1 h0)
 ·exact noRight_head hi he fun g => by rw [hb.2 g] at h1; cases h1
theorem InAt.done (h : InAt es i name ins outs owns qs k text n bad) (hi : i < es.length) (he : es[i] = ndOf name ins outs owns qs) (hk : bad = true ∨ k = qs.length) : OutAt es (i + 1) (text ++ ⟨#[116, 101, 108, 10]⟩) n (bad || !decide ((text.size : Int) + 4 ≤ 6000)) := by
 have ht : (⟨#[116, 101, 108, 10]⟩ : ByteArray).toList = telW := by rw [ByteArray.toList_eq]; rfl
 have hz : (text.toList ++ telW).length = text.size + 4 := by rw [List.length_append, bytes_len]; rfl
 cases hb : bad with
 | true => exact ⟨fun h => by simp at h, fun _ => h.no hb⟩
 | false =>
  obtain ⟨⟨m, hm, hp⟩, _⟩ := h.good hb
  have hq : qs.length ≤ k := by rcases hk with e | e <;> first | omega | (rw [hb] at e; cases e)
  refine ⟨fun h0 => ⟨m, hm, ?_⟩, fun h1 => ?_⟩
  ·rw [list_app, ht]
   exact hp.done hi he hq (by rw [hz]; simp only [Bool.false_or, Bool.not_eq_false', decide_eq_true_eq] at h0; omega)
  ·exact hp.over hq (by rw [hz]; simp only [Bool.false_or, Bool.not_eq_true', decide_eq_false_iff_not] at h1; omega)
variable {kind : ByteArray} {ns : List Ex} {e : Ex}
theorem InAt.next (h : InAt es i name ins outs owns qs k text n false) (hi : i < es.length) (he : es[i] = ndOf name ins outs owns qs) (hk : k < qs.length) (hq : qs[k] = eqOf kind ns e) {line tx out : ByteArray} {n' : Int} {bad2 bad3 : Bool} (h2 : bad2 = false ↔ LineOk kind ns) (hl : LineOk kind ns → line.toList = lnTx kind ns) (hr : RwRes 0 e 0 n bad2 tx n' bad3) (ho : out = text ++ line ++ tx ++ ⟨#[59, 10]⟩) (hz : line.size ≤ 1100000000000) (hx : tx.size ≤ 10000000) : InAt es i name ins outs owns qs (k + 1) out n' (bad3 || !decide ((text.size : Int) + line.size + tx.size + 2 ≤ 6000)) := by
 obtain ⟨⟨m, hm, hp⟩, h4⟩ := h.good rfl
 have hs : out.size = text.size + line.size + tx.size + 2 := by rw [ho, ByteArray.size_append, ByteArray.size_append, ByteArray.size_append]; rfl
 have hz6 : out.size ≤ 6000000000000 := by omega
 cases hb2 : bad2 with
 | true =>
  have hb3 : bad3 = true := (hr.1 hb2).1
  have hn : ¬ LineOk kind ns := fun g => by rw [h2.2 g] at hb2; cases hb2
  refine ⟨fun h => by rw [hb3] at h; simp at h, fun _ => hp.wrong hi he hk hq hn, hz6⟩
 | false =>
  have hL := h2.1 hb2
  rcases hr.2 hb2 m hm hp.room with ⟨e3, K, hK, hw⟩ | ⟨e3, hno, _⟩
  ·have hnx := hp.next hk hq hL hw
   have ht : out.toList = text.toList ++ lnTx kind ns ++ tx.toList ++ [59, 10] := by
    rw [ho, list_app, list_app, list_app, hl hL, show (⟨#[59, 10]⟩ : ByteArray).toList = [59, 10] from by rw [ByteArray.toList_eq]]
   rw [← ht] at hnx
   refine ⟨fun h => ⟨⟨m + K, hK, hnx⟩, ?_⟩, fun h => ?_, hz6⟩
   ·rw [e3] at h; simp at h; omega
   ·rw [e3] at h
    exact hnx.long (by rw [bytes_len]; simp at h; omega)
  ·exact ⟨fun h => by rw [e3] at h; simp at h, fun _ => hp.no hi he hk hq hno, hz6⟩
end
theorem nmJ_list {ns : List Ex} {j : Nat} (h : j < ns.length) : sOf ([32, 32] ++ nmJ ns (j + 1)) = sOf ([32, 32] ++ nmJ ns j) ++ sOf (if 0 < j then [44, 32] else if 1 < ns.length then [40] else []) ++ ns[j].op := by
 rw [nmJ_at h]
 conv => rhs; rw [← sOf_bytes ns[j].op]
 rw [sOf_add, sOf_add]
 simp
theorem names_bad {ns : List Ex} {j : Nat} (hlt : j < ns.length) {bad1 ok : Bool} (h1 : bad1 = false ↔ ∀ v ∈ ns.take j, NmOk v.op) (h2 : ok = true ↔ NmOk ns[j].op) : (bad1 || !ok) = false ↔ ∀ v ∈ ns.take (j + 1), NmOk v.op := by
 have e : ns.take (j + 1) = ns.take j ++ [ns[j]] := by rw [List.take_add_one, List.getElem?_eq_getElem hlt]; rfl
 rw [e, Bool.or_eq_false_iff, Bool.not_eq_false', h1, h2]
 simp only [List.mem_append, List.mem_cons, List.not_mem_nil, or_false]
 exact ⟨fun h v hv => hv.elim (h.1 v) (fun e => e ▸ h.2), fun h => ⟨fun v hv => h v (Or.inl hv), h _ (Or.inr rfl)⟩⟩
theorem bytes_inj {x y : ByteArray} (h : x.toList = y.toList) : x = y := by rw [← sOf_bytes x, h, sOf_bytes]
theorem sOf_nil_add (x : ByteArray) : x ++ sOf [] = x := bytes_inj (by rw [list_app, sOf_list]; simp)
theorem hd_text {text name ti tu t9 : ByteArray} {ins outs owns : List Ex} (h9 : text ++ ⟨#[110, 111, 100, 101, 32]⟩ ++ name ++ ⟨#[40]⟩ ++ ti ++ ⟨#[41, 32, 114, 101, 116, 117, 114, 110, 115, 32, 40]⟩ ++ tu ++ ⟨#[41, 59, 10]⟩ = t9) (hi : sOf (rvTxt ins) = ti) (hu : sOf (rvTxt outs) = tu) {text2 : ByteArray} (h2 : (owns.length = 0 ∧ text2 = t9) ∨ (owns.length ≠ 0 ∧ text2 = t9 ++ ⟨#[118, 97, 114, 32]⟩ ++ sOf (rvTxt owns) ++ ⟨#[59, 10]⟩)) : ∃ hd : ByteArray, hd.toList = hdTx name ins outs owns ∧ text2 ++ ⟨#[108, 101, 116, 10]⟩ = text ++ hd := by
 refine ⟨sOf (hdTx name ins outs owns), sOf_list _, bytes_inj ?_⟩
 subst h9 hi hu
 rcases h2 with ⟨h0, rfl⟩ | ⟨h0, rfl⟩
 ·simp only [list_app, sOf_list, hdTx, if_pos h0]
  simp [ByteArray.toList_eq]
 ·simp only [list_app, sOf_list, hdTx, if_neg h0]
  simp [ByteArray.toList_eq]
theorem head_bad {name : ByteArray} {ins outs owns : List Ex} {bad2 bad4 bad5 : Bool} (h2 : bad2 = false ↔ NmOk name ∧ outs ≠ []) (h4 : bad4 = false ↔ (bad2 = false ∧ ∀ v ∈ ins, VarOk v) ∧ ∀ v ∈ outs, VarOk v) (h5 : bad5 = false ↔ bad4 = false ∧ ∀ v ∈ owns, VarOk v) : bad5 = false ↔ HeadOk name ins outs owns := by
 rw [h5, h4, h2]
 exact ⟨fun h => ⟨h.1.1.1.1, h.1.1.2, h.1.1.1.2, h.1.2, h.2⟩, fun h => ⟨⟨⟨⟨h.nm, h.some⟩, h.ins⟩, h.outs⟩, h.owns⟩⟩
theorem no_line {kind : ByteArray} {ns : List Ex} (h1 : ¬ kind.toList = [115, 101, 116]) (h2 : ¬ (kind.toList = [97, 115, 115, 101, 114, 116] ∨ kind.toList = [99, 104, 101, 99, 107])) : ¬ LineOk kind ns := fun h => h.2.elim (fun g => h1 g.1) (fun g => h2 g.1)
theorem line_none {kind : ByteArray} {ns : List Ex} {bad : Bool} (h1 : ¬ kind.toList = [115, 101, 116]) (h2 : ¬ (kind.toList = [97, 115, 115, 101, 114, 116] ∨ kind.toList = [99, 104, 101, 99, 107])) : (bad || !false) = false ↔ LineOk kind ns := ⟨fun h => by simp at h, fun h => absurd h (no_line h1 h2)⟩
theorem line_set {kind : ByteArray} {ns : List Ex} {bad : Bool} (h1 : kind.toList = [115, 101, 116]) (hb : bad = false ↔ ∀ v ∈ ns, NmOk v.op) : (bad || !decide (0 < ns.length)) = false ↔ LineOk kind ns := by
 rw [Bool.or_eq_false_iff, Bool.not_eq_false', decide_eq_true_eq, hb]
 refine ⟨fun h => ⟨h.1, Or.inl ⟨h1, by omega⟩⟩, fun h => ⟨h.1, ?_⟩⟩
 rcases h.2 with ⟨_, g⟩ | ⟨g, _⟩
 ·omega
 ·rw [h1] at g; exact absurd g (by decide)
theorem line_chk {kind : ByteArray} {ns : List Ex} {bad : Bool} (h1 : kind.toList = [97, 115, 115, 101, 114, 116] ∨ kind.toList = [99, 104, 101, 99, 107]) (hb : bad = false ↔ ∀ v ∈ ns, NmOk v.op) : (bad || !decide ((ns.length : Int) = 0)) = false ↔ LineOk kind ns := by
 rw [Bool.or_eq_false_iff, Bool.not_eq_false', decide_eq_true_eq, hb]
 refine ⟨fun h => ⟨h.1, Or.inr ⟨h1, by omega⟩⟩, fun h => ⟨h.1, ?_⟩⟩
 rcases h.2 with ⟨g, _⟩ | ⟨_, g⟩
 ·rw [g] at h1; exact absurd h1 (by decide)
 ·omega
theorem head_two {name : ByteArray} {outs : List Ex} {b : Prop} (hn : b ↔ NmOk name) (hb : b) : (false || !decide (0 < outs.length)) = false ↔ NmOk name ∧ outs ≠ [] := by
 rw [Bool.false_or, Bool.not_eq_false', decide_eq_true_eq, List.length_pos_iff]
 exact ⟨fun h => ⟨hn.1 hb, h⟩, fun h => h.2⟩
end Go.Proofs.YtgbpccipdcajgaaGreatDoor
