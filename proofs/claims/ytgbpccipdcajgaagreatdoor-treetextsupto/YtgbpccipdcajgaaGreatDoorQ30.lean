/-
  package tree's WRITER: vars, names BY THEIR CONTRACTS, to the byte.
-/
import Derived.Test.YtgbpccipdcajgaaGreatDoorQ23
import Derived.Test.YtgbpccipdcajgaaGreatDoorQ16
import Derived.Test.YtgbpccipdcajgaaGreatDoorQ22
import Derived.Test.YtgbpccipdcajgaaGreatDoorQ15
import Derived.Test.YtgbpccipdcajgaaGreatDoorQ20
import Derived.Test.YtgbpccipdcajgaaGreatDoorQ26
import Derived.Test.YtgbpccipdcajgaaGreatDoorQ08
import Derived.Deep.RegionHeld3
import Derived.Deep.Cut
import Derived.Deep.CutRange
import Derived.Deep.DeepCutAuto
import Derived.Test.YtgbpccipdcajgaaGreatDoorQ17
import Derived.Test.YtgbpccipdcajgaaGreatDoorQ29
namespace Go.Proofs.YtgbpccipdcajgaaGreatDoor
open Go.RowKit
attribute [local go_sem ↓] Go.wp_at_zero Go.wp_at_succ
set_option maxRecDepth 100000 in
set_option maxHeartbeats 1000000 in
theorem wvars_x (K : Prop) (B b d : Nat) (pS : Addr) (lx : List UInt8) (w : World) (o : Option Addr) (c : Nat) (vs : List Ex) (h : WStX B b d pS lx w) (hr : RowAt w (fun k => k < B) 2 (.slice o vs.length c) vs.length (varCells vs)) :
  Calls Tryz.prog 119 #[.pointer (some ⟨b, 0, none⟩), .slice o vs.length c] w fun e w' => WAnyX K B b d pS lx (lstX varX 0 vs) w e w' := by
 have hl := hr.len
 unfold maxLen at hl
 have HR : Hid (RowAt w (fun k => k < B) 2 (.slice o vs.length c) vs.length (varCells vs)) := hr
 have hle := h.le
 clear hr
 go_enter Tryz.func119, Tryz.ntmps119
 go_wp2
 go_loopw [8] (fun t wr => ∃ i : Nat, i ≤ vs.length ∧ t = .int .i64 i ∧ (∃ x, WStX B b d pS (lx ++ x) wr ∧ lstX varX 0 vs = catX (some x) (lstX varX i (vs.drop i))) ∧ Below B w wr ∧ Kept b w wr) (fun t _ => vs.length - (intOf t).toNat)
 case atStart => exact ⟨0, Nat.zero_le _, rfl, ⟨[], by rw [List.append_nil]; exact h, by rw [catX_nil]; rfl⟩, Below.refl _ _, Lib.OthersKept.refl _ _ _⟩
 case round =>
  obtain ⟨i, hi, rfl, ⟨x, hw, hx0⟩, hb, hk⟩ := hrel
  have HX : Hid (lstX varX 0 vs = catX (some x) (lstX varX i (vs.drop i))) := hx0
  clear hx0
  by_cases hlt : i < vs.length
  ·have hrr := below_row HR.out hb
   obtain ⟨q, off, rfl, _, g⟩ := row_get hrr (by rw [varCells_length]; omega)
   have c0 := g _ _ (varCells_at hlt).1
   have c1 := g _ _ (varCells_at hlt).2
   rw [← Nat.add_assoc] at c1
   have i0 : (0 : Int) ≤ (i : Int) := by omega
   have i1 : (i : Int) < (vs.length : Int) := by omega
   have hwl := hw.lt
   have h0 := hw.alloc (.cells #[.string vs[i].op, .int .i64 vs[i].n] 149)
   have HN : Hid _ := heap_alloc_new wr (.cells #[.string vs[i].op, .int .i64 vs[i].n] 149)
   have bz : Below B wr (wr.alloc (.cells #[.string vs[i].op, .int .i64 vs[i].n] 149)) := (Below.refl _ _).alloc (by omega) _
   clear hrr g
   go_wp2_with fail
   refine (between_x K B b d pS _ _ i _ h0).mono ?_
   rintro e w1 ⟨b1, k1, ⟨l1, rfl, h1, g1, p1, q1, rfl⟩ | ⟨ht, hr⟩⟩
   ·have s1 := h0.next b1 h1 g1
    have HN1 : Hid _ := kept_row k1 HN.out (by omega) (by intro c fz e; injection e with _ e; exact absurd e (by decide))
    obtain ⟨y0, y1, _⟩ := blk2 HN1.out
    have hl1 : wr.heap.size < w1.heap.size := lt_of_cell y0
    go_wp2_with fail
    refine (put_newX K B b d pS _ _ [vs[i].op, ⟨#[58, 32]⟩] (vs[i].op.data.toList ++ [58, 32]) (by simp [flat]) _ 2 rfl rfl s1 (by decide) _ rfl).mono ?_
    rintro e w2 ⟨b2, k2, ⟨l2, rfl, h2, g2, p2, q2, rfl⟩ | ⟨ht, hr⟩⟩
    ·have s2 := s1.next b2 h2 g2
     have HN2 : Hid _ := kept_row k2 HN1.out (by omega) (by intro c fz e; injection e with _ e; exact absurd e (by decide))
     obtain ⟨z0, z1, _⟩ := blk2 HN2.out
     go_wp2_with fail
     refine (wkind_x K B b d pS _ _ _ s2).mono ?_
     rintro e w3 ⟨b3, k3, ⟨l3, rfl, h3, g3, p3, q3, rfl⟩ | ⟨ht, hr⟩⟩
     ·go_wp2
      exact ⟨⟨i + 1, by omega, by go_num, ⟨x ++ (p1 ++ (p2 ++ p3)), by have := s2.next b3 h3 g3; simpa only [List.append_assoc] using this, lst_next hlt HX.out (by rw [varX, q1, q2, q3]; rfl)⟩, (((hb.trans bz).trans b1).trans b2).trans b3, (((hk.trans (Kept.alloc b wr _)).trans k1).trans k2).trans k3⟩, by simp [intOf]; omega⟩
     ·unfold WThrew at ht
      subst ht
      go_wp2
      exact ⟨rfl, (((hb.trans bz).trans b1).trans b2).trans b3, (((hk.trans (Kept.alloc b wr _)).trans k1).trans k2).trans k3, Or.inr ⟨rfl, lst_rsn hlt HX.out ((hr.lift q2).lift q1)⟩⟩
    ·unfold WThrew at ht
     subst ht
     go_wp2
     exact ⟨rfl, ((hb.trans bz).trans b1).trans b2, ((hk.trans (Kept.alloc b wr _)).trans k1).trans k2, Or.inr ⟨rfl, lst_rsn hlt HX.out ((hr.more _).lift q1)⟩⟩
   ·unfold WThrew at ht
    subst ht
    go_wp2
    exact ⟨rfl, (hb.trans bz).trans b1, (hk.trans (Kept.alloc b wr _)).trans k1, Or.inr ⟨rfl, lst_rsn hlt HX.out (hr.more _)⟩⟩
  ·have h1 := hw.wt
   have g1 := hw.len
   go_wp2
   go_end0
   exact ⟨hb, hk, Or.inl ⟨_, rfl, h1, g1, Ok.this (lst_done (by omega) HX.out)⟩⟩
set_option maxRecDepth 100000 in
set_option maxHeartbeats 1000000 in
theorem wnames_x (K : Prop) (B b d : Nat) (pS : Addr) (lx : List UInt8) (w : World) (o : Option Addr) (c : Nat) (ns : List Ex) (h : WStX B b d pS lx w) (hr : RowAt w (fun k => k < B) 1 (.slice o ns.length c) ns.length (nameCells ns)) :
  Calls Tryz.prog 144 #[.pointer (some ⟨b, 0, none⟩), .slice o ns.length c] w fun e w' => WAnyX K B b d pS lx (namesX ns) w e w' := by
 have hl := hr.len
 unfold maxLen at hl
 have HR : Hid (RowAt w (fun k => k < B) 1 (.slice o ns.length c) ns.length (nameCells ns)) := hr
 have hle := h.le
 clear hr
 by_cases h1 : ns.length = 1
 ·obtain ⟨q, off, rfl, _, g⟩ := row_get HR.out (by rw [nameCells_length]; omega)
  have c0 := g 0 _ (nameCells_at (by omega))
  rw [Nat.add_zero] at c0
  clear g
  have hN : namesX ns = some ns[0].op.data.toList := by
   match ns, h1 with
   | [v], _ => rfl
  obtain ⟨v0, hv0⟩ : ∃ v, v = ns[0] := ⟨_, rfl⟩
  rw [hN, ← hv0]
  rw [← hv0] at c0
  clear hN hv0
  rw [h1]
  go_enter Tryz.func144, Tryz.ntmps144
  go_wp2_with fail
  refine (put_newX K B b d pS _ _ [v0.op] v0.op.data.toList (by simp [flat]) _ 1 rfl rfl h (by decide) _ rfl).mono ?_
  rintro e w1 ⟨b1, k1, ⟨l1, rfl, h1, g1, hq⟩ | ⟨ht, hr⟩⟩
  ·go_wp2
   go_end0
   exact ⟨b1, k1, Or.inl ⟨l1, rfl, h1, g1, hq⟩⟩
  ·unfold WThrew at ht
   subst ht
   go_wp2
   exact ⟨rfl, b1, k1, Or.inr ⟨rfl, hr⟩⟩
 ·have h1' : ((ns.length : Int) == 1) = false := by simp; omega
  have hN : namesX ns = catX (some [40]) (catX (lstX nameX 0 ns) (some [41])) := by
   match ns, h1 with
   | [], _ => rfl
   | [_], h => exact absurd rfl h
   | _ :: _ :: _, _ => rfl
  rw [hN]
  clear hN
  go_enter Tryz.func144, Tryz.ntmps144
  go_wp2_with fail
  refine (put_newX K B b d pS _ _ [⟨#[40]⟩] [40] rfl _ 1 rfl rfl h (by decide) _ rfl).mono ?_
  rintro e w1 ⟨b1, k1, ⟨l1, rfl, h1, g1, y0, q0, rfl⟩ | ⟨ht, hr⟩⟩
  ·have s1 := h.next b1 h1 g1
   clear h1
   go_wp2
   go_loopw [20] (fun t wr => ∃ i : Nat, i ≤ ns.length ∧ t = .int .i64 i ∧ (∃ x, WStX B b d pS (lx ++ y0 ++ x) wr ∧ lstX nameX 0 ns = catX (some x) (lstX nameX i (ns.drop i))) ∧ Below B w wr ∧ Kept b w wr) (fun t _ => ns.length - (intOf t).toNat)
   case atStart => exact ⟨0, Nat.zero_le _, rfl, ⟨[], by rw [List.append_nil]; exact s1, by rw [catX_nil]; rfl⟩, b1, k1⟩
   case round =>
    clear s1
    obtain ⟨i, hi, rfl, ⟨x, hw, hx0⟩, hb, hk⟩ := hrel
    have HX : Hid (lstX nameX 0 ns = catX (some x) (lstX nameX i (ns.drop i))) := hx0
    clear hx0
    by_cases hlt : i < ns.length
    ·have hrr := below_row HR.out hb
     obtain ⟨q, off, rfl, _, g⟩ := row_get hrr (by rw [nameCells_length]; omega)
     have c0 := g _ _ (nameCells_at hlt)
     have i0 : (0 : Int) ≤ (i : Int) := by omega
     have i1 : (i : Int) < (ns.length : Int) := by omega
     clear hrr g
     go_wp2_with fail
     refine (between_x K B b d pS _ _ i _ hw).mono ?_
     rintro e w2 ⟨b2, k2, ⟨l2, rfl, h2, g2, y2, q2, rfl⟩ | ⟨ht, hr⟩⟩
     ·have s2 := hw.next b2 h2 g2
      go_wp2_with fail
      refine (put_newX K B b d pS _ _ [ns[i].op] ns[i].op.data.toList (by simp [flat]) _ 1 rfl rfl s2 (by decide) _ rfl).mono ?_
      rintro e w3 ⟨b3, k3, ⟨l3, rfl, h3, g3, y3, q3, rfl⟩ | ⟨ht, hr⟩⟩
      ·go_wp2
       exact ⟨⟨i + 1, by omega, by go_num, ⟨x ++ (y2 ++ y3), by have := s2.next b3 h3 g3; simpa only [List.append_assoc] using this, lst_next hlt HX.out (by rw [nameX, q2, q3]; rfl)⟩, (hb.trans b2).trans b3, (hk.trans k2).trans k3⟩, by simp [intOf]; omega⟩
      ·unfold WThrew at ht
       subst ht
       go_wp2
       exact ⟨rfl, (hb.trans b2).trans b3, (hk.trans k2).trans k3, Or.inr ⟨rfl, ((lst_rsn hlt HX.out (hr.lift q2)).more _).lift q0⟩⟩
     ·unfold WThrew at ht
      subst ht
      go_wp2
      exact ⟨rfl, hb.trans b2, hk.trans k2, Or.inr ⟨rfl, ((lst_rsn hlt HX.out (hr.more _)).more _).lift q0⟩⟩
    ·go_wp2_with fail
     refine (put_newX K B b d pS _ _ [⟨#[41]⟩] [41] rfl _ 1 rfl rfl hw (by decide) _ rfl).mono ?_
     rintro e w2 ⟨b2, k2, ⟨l2, rfl, h2, g2, y2, q2, rfl⟩ | ⟨ht, hr⟩⟩
     ·go_wp2
      go_end0
      exact ⟨hb.trans b2, hk.trans k2, Or.inl ⟨_, rfl, h2, g2, (Ok.lift (Ok.this q2) (lst_done (by omega) HX.out)).lift q0⟩⟩
     ·unfold WThrew at ht
      subst ht
      go_wp2
      exact ⟨rfl, hb.trans b2, hk.trans k2, Or.inr ⟨rfl, (Rsn.lift hr (lst_done (by omega) HX.out)).lift q0⟩⟩
  ·unfold WThrew at ht
   subst ht
   go_wp2
   exact ⟨rfl, b1, k1, Or.inr ⟨rfl, hr.more _⟩⟩
theorem formedB_int {op : List UInt8} {n : Int} {s : List UInt8} {m : Nat} (h : formedB op n s m = true) (ho : op = tIntL) : 0 ≤ n ∧ n ≤ 127 := by
 subst ho
 simp only [formedB, Bool.and_eq_true, beq_self_eq_true, ite_true, decide_eq_true_eq] at h
 exact h.2.1
theorem PartsAt.kept {b base sc : Nat} {w w' : World} {so : Option Addr} {ps : List Nat} (h : PartsAt w base so sc ps) (k : Kept b w w') (hb : b < base) : PartsAt w' base so sc ps := by
 rcases h with h | ⟨q, h1, h2, h3, h4⟩
 ·exact Or.inl h
 ·exact Or.inr ⟨q, h1, h2, h3, kept_row k h4 (by omega) (by intro c fz e; injection e with _ e; exact absurd e (by decide))⟩
theorem PartsAt.low {base base' sc : Nat} {w : World} {so : Option Addr} {ps : List Nat} (h : PartsAt w base so sc ps) (hb : base' ≤ base) : PartsAt w base' so sc ps := by
 rcases h with h | ⟨q, h1, h⟩
 ·exact Or.inl h
 ·exact Or.inr ⟨q, by omega, h⟩
theorem below_eq {B : Nat} {w w' : World} {l : List Ex} {xs : List Value} (h : EqIn w (fun k => k < B) l xs) (hb : Below B w w') : EqIn w' (fun k => k < B) l xs := h.keep (fun k hk _ => ⟨hk, hb.block k hk⟩)
theorem below_nd {B : Nat} {w w' : World} {l : List Ex} {xs : List Value} (h : NdIn w (fun k => k < B) l xs) (hb : Below B w w') : NdIn w' (fun k => k < B) l xs := h.keep (fun k hk _ => ⟨hk, hb.block k hk⟩)
structure OneP (w : World) (B : Nat) (m mo : Nat) (nm x : ByteArray) (io wo : Option Addr) (ic wc p f oc q g qc r ro rc : Nat) (o : Option Addr) (c' : Nat) : Prop where
 hm : m < B
 hp : p < B
 hq : q < B
 hr : r < B
 m0 : w.cell? ⟨m, mo, none⟩ = some (.string nm)
 m1 : w.cell? ⟨m, mo + 1, none⟩ = some (.slice io 0 ic)
 m2 : w.cell? ⟨m, mo + 2, none⟩ = some (.slice (some ⟨p, f, none⟩) 1 oc)
 m3 : w.cell? ⟨m, mo + 3, none⟩ = some (.slice wo 0 wc)
 m4 : w.cell? ⟨m, mo + 4, none⟩ = some (.slice (some ⟨q, g, none⟩) 1 qc)
 p0 : w.cell? ⟨p, f, none⟩ = some (.string x)
 p1 : w.cell? ⟨p, f + 1, none⟩ = some (.int .i64 1)
 q0 : w.cell? ⟨q, g, none⟩ = some (.string sSet)
 q1 : w.cell? ⟨q, g + 1, none⟩ = some (.slice (some ⟨r, ro, none⟩) 1 rc)
 q2 : w.cell? ⟨q, g + 2, none⟩ = some (.string sTrue)
 q3 : w.cell? ⟨q, g + 3, none⟩ = some (.int .i64 0)
 q4 : w.cell? ⟨q, g + 4, none⟩ = some (.string sNone)
 q5 : w.cell? ⟨q, g + 5, none⟩ = some (.slice o 0 c')
 r0 : w.cell? ⟨r, ro, none⟩ = some (.string x)
section
variable {w w' : World} {B m mo : Nat} {nm x : ByteArray} {io wo : Option Addr} {ic wc p f oc q g qc r ro rc : Nat} {o : Option Addr} {c' : Nat}
end
theorem WT.other {B b : Nat} {l : List UInt8} {d : Nat} {w : World} (h : WT B b l d w) {k off : Nat} {cur : Array Value} {t : TypeId} (hk : w.heap[k]? = some (.cells cur t (0, 0))) (ht : t ≠ 5) (hkb : k ≠ b) (v : Value) : WT B b l d (w.setCell ⟨k, off, none⟩ v) := by
 have K : ∀ p, WrAt B b p (Lib.byteCells l) d w → WrAt B b p (Lib.byteCells l) d (w.setCell ⟨k, off, none⟩ v) := fun p ⟨hB, v', hb, hown, hne⟩ =>
  ⟨hB, v', (Below.heap_setCell _ _ _ _ (by show b ≠ k; omega)).trans hb, hown.kept (row := some k) ⟨rfl, rfl, rfl, by simp [World.setCell], fun j _ hj => Below.heap_setCell _ _ _ _ (fun e => hj (by simp [e]))⟩ (Or.inr (Lib.ownBlock_ne hown hk ht)), hne⟩
 rcases h with h | h
 ·exact Or.inl (K _ h)
 ·exact Or.inr (K _ h)
abbrev thrownB (p : Addr) : Value := .iface 143 (.agg #[.iface 235 (.pointer (some p))])
theorem assert_thrownB (p : Addr) (w : World) : (Instr.typeAssert (thrownB p) 20 143 true).run Tryz.prog w = .ok (.tuple #[.agg #[.iface 235 (.pointer (some p))], .bool true]) w := by kernel_rfl
set_option maxRecDepth 100000 in
set_option maxHeartbeats 1000000 in
theorem catch_thrownB (b : Nat) (p : Addr) (v : Value) (older : List PanicEntry) (w : World) (hc : w.cell? ⟨b, 0, none⟩ = some v) (hz : w.frozen? ⟨b, 0, none⟩ = false) :
  CallsD Tryz.prog 78 #[.pointer (some ⟨b, 0, none⟩)] (.panicking ({ v := thrownB p, recovered := false } :: older)) w fun e u' w' =>
   e = .returned (.tuple #[]) ∧ u' = .panicking ({ v := thrownB p, recovered := true } :: older) ∧ w' = (w.setCell ⟨b, 0, none⟩ (.iface 235 (.pointer (some p)))).alloc (.cells #[.iface 235 (.pointer (some p))] 143) := by
 refine callsD_of_wpS Tryz.func78 rfl fun c₀ cs hu => ?_
 apply wpS_seq
 apply wpS_region
 simp [wpOpsS, go_sem, recoverD, hu, Tryz.ntmps78, Exit.thenS]
 have hta := assert_thrownB p
 apply wpS_seq
 apply wpS_region
 simp [wpOpsS, go_sem, Exit.thenS]
 refine wpS_cond (t := true) (by simp [Act.eval]) ?_
 simp only [if_true]
 apply wpS_seq
 apply wpS_region
 simp [wpOpsS, go_sem, Exit.thenS, hta]
 apply wpS_seq
 apply wpS_seq
 apply wpS_region
 simp [wpOpsS, go_sem, Exit.thenS]
 refine wpS_cond (t := false) (by simp [Act.eval]) ?_
 simp only [Bool.false_eq_true, if_false]
 refine wpS_of_wp (wp_skip ?_)
 have hbl : b < w.heap.size := lt_of_cell hc
 simp only [Exit.thenS]
 apply wpS_region
 simp [wpOpsS, go_sem, hc, hz, hbl, bodyPostS, results, Tryz.results78]
set_option maxRecDepth 100000 in
set_option maxHeartbeats 1000000 in
theorem wString_none (B b : Nat) (d : Nat) (w : World) (h : Wr B b [] d w) :
  Calls Tryz.prog 48 #[.pointer (some ⟨b, 0, none⟩)] w fun e w' => e = .returned (.string ⟨#[]⟩) ∧ Below B w w' ∧ Kept b w w' := by
 obtain ⟨p, _, hB, v, hbk, hown, hne⟩ := h.of
 have mixed : Tryz.prog.follows Departure.mixedOrders = true := by kernel_rfl
 have hUS : ∀ q W, (Builtin.unsafeString_ #[151, 3] 9 #[.pointer q, .int .i64 0]).run Tryz.prog W = .ok (.string .empty) W := fun q W => Lib.run_unsafeString_none W _ _ _ q
 have hl : b < w.heap.size := h.lt
 obtain ⟨q, c, sq, W, rfl, hSD, hbW, hkW, hcW⟩ : ∃ (q : Option Addr) (c : Nat) (q' : Option Addr) (W : World), v = .slice q 0 c ∧ (Builtin.unsafeSliceData_ #[112] 151 #[.slice q 0 c]).run Tryz.prog w.drew = .ok (.pointer q') W ∧ Below B w W ∧ Kept b w W ∧ W.cell? ⟨b, 1, none⟩ = some v := by
  have hc : w.drew.cell? ⟨b, 1, none⟩ = some v := by
   have : w.drew.heap[b]? = some (.cells #[p, v, .int .i64 6000, .int .i64 d] 116 (0, 0)) := hbk
   simp [World.cell?, this]
  rcases hown.2 with ⟨hv, _⟩ | ⟨g, cap, cur, hv, hbg, hg, _⟩
  ·exact ⟨none, 0, none, w.drew, hv, by rfl, Below.drew (Below.refl B w), Lib.OthersKept.drew (Lib.OthersKept.refl _ _ _), hc⟩
  ·by_cases h0 : cap = 0
   ·subst h0
    have hsh : w.drew.shape? g = some (5, cur.size) := by
     have hg' : w.drew.heap[g]? = some (.cells cur 5 (0, 0)) := hg
     simp [World.shape?, hg']
    exact ⟨_, _, _, _, hv, Lib.run_unsafeSliceData_zero w.drew #[112] 151 5 Tryz.underlying151 ⟨g, 0, none⟩ 0 _ hsh, (Below.drew (Below.refl B w)).alloc (by show B ≤ w.heap.size; omega) _, (Lib.OthersKept.drew (Lib.OthersKept.refl _ _ _)).alloc _, cell_keep (w := w.drew) ((Below.refl _ _).alloc (Nat.le_refl _) _) hc⟩
   ·exact ⟨_, _, _, w.drew, hv, Lib.run_unsafeSliceData_row _ _ _ _ _ _ h0, Below.drew (Below.refl B w), Lib.OthersKept.drew (Lib.OthersKept.refl _ _ _), hc⟩
 have c1 : w.drew.cell? ⟨b, 1, none⟩ = some (.slice q 0 c) := by
  have : w.drew.heap[b]? = some (.cells #[p, .slice q 0 c, .int .i64 6000, .int .i64 d] 116 (0, 0)) := hbk
  simp [World.cell?, this]
 have hU := hUS sq W
 have HW : Hid (Below B w W ∧ Kept b w W) := ⟨hbW, hkW⟩
 clear hUS hbW hkW
 go_enter Tryz.func48, Tryz.ntmps48
 go_wp2
 go_region_o
 all_goals (go_wp2; go_ret; exact ⟨rfl, HW.out.1, HW.out.2⟩)
theorem stays_lt {S : Nat → Prop} (w : World) : Stays S (fun k => k < w.heap.size) w w := fun _ _ h => ⟨h, rfl⟩
end Go.Proofs.YtgbpccipdcajgaaGreatDoor
namespace Go.Proofs.YtgbpccipdcajgaaGreatDoor
open Go.RowKit
structure Env (pT pB pS : Addr) (ev : Value) (w : World) : Prop where
 hS : w.cell? ⟨0, 0, none⟩ = some (.iface 235 (.pointer (some pS)))
 hT : w.cell? ⟨2, 0, none⟩ = some (.iface 235 (.pointer (some pT)))
 hB : w.cell? ⟨1, 0, none⟩ = some (.iface 235 (.pointer (some pB)))
 hv : w.cell? ⟨11, 0, none⟩ = some ev
 hev : ev = .nilIface ∨ ∃ te pe, ev = .iface te pe
 tab : TabAt w
 hgz : 13 < w.heap.size
theorem Env.below {pT pB pS : Addr} {ev : Value} {w w' : World} (E : Env pT pB pS ev w) (hb : Below w.heap.size w w') : Env pT pB pS ev w' :=
 ⟨cell_keep hb E.hS, cell_keep hb E.hT, cell_keep hb E.hB, cell_keep hb E.hv, E.hev, E.tab.keep (hb.block _ E.hgz), Nat.lt_of_lt_of_le E.hgz hb.size⟩
end Go.Proofs.YtgbpccipdcajgaaGreatDoor
namespace Go.Proofs.YtgbpccipdcajgaaGreatDoor
open Go.RowKit
attribute [local go_sem ↓] Go.wp_at_zero Go.wp_at_succ
theorem below_cell' {w w' : World} (h : Below w.heap.size w w') {p : Addr} {v : Value} (hc : w.cell? p = some v) : w'.cell? p = some v := cell_keep h hc
theorem ownsRow_same {base : Nat} {w w' : World} {e : TypeId} {size : Nat} {v : Value} {n : Nat} {xs : List Value} (h : w.ownsRow base e size v n xs) (hb : Below w.heap.size w w') : w'.ownsRow base e size v n xs :=
 h.kept (row := none) ⟨hb.os, hb.tape, hb.output, hb.size, fun k hk _ => hb.block k hk⟩ (by cases hv : v.ownBlock with | none => exact Or.inl rfl | some k => exact Or.inr (by simp))
theorem drew_new (w : World) (o : Obj) : ((w.alloc o).drew).heap[w.heap.size]? = some o := heap_alloc_new w o
theorem below_set5 {n N : Nat} {w w' : World} {a b c d e : Value} (h : Below n w w') (hn : n ≤ N) : Below n w (((((w'.setCell ⟨N, 0, none⟩ a).setCell ⟨N, 1, none⟩ b).setCell ⟨N, 2, none⟩ c).setCell ⟨N, 3, none⟩ d).setCell ⟨N, 4, none⟩ e) :=
 ((((h.setCell hn _).setCell hn _).setCell hn _).setCell hn _).setCell hn _
theorem grow_g0 {wr v1 w5 : World} {u : Value} {EO : Obj} {g2 n cap : Nat} (hb1 : Below wr.heap.size wr v1) (hgrow : (v1.alloc EO).grownBy w5 u.ownBlock) (hat : u.ownBlock = some g2 ∨ g2 = v1.heap.size + 1) {S S' : Nat → Prop} (hS : ∀ k, S k → k < wr.heap.size → u.ownBlock ≠ some k ∧ ((Value.slice (some ⟨g2, 0, none⟩) n cap).ownBlock ≠ some k → S' k)) : Stays S S' wr w5 := fun k hk hl => by
 obtain ⟨h2, h3⟩ := hS k hk hl
 have hs := hb1.size
 refine ⟨h3 ?_, ?_⟩
 ·intro e
  simp only [Value.ownBlock, Option.some.injEq] at e
  rcases hat with h | h
  ·rw [h, e] at h2; exact h2 rfl
  ·omega
 ·exact (hgrow.block k (by simp; omega) (fun e => h2 e.symm)).trans ((heap_alloc_old _ _ (by omega)).trans (hb1.block k hl))
theorem grow_gen {wr v1 w5 : World} {u x : Value} {EO : Obj} {nb g2 n cap : Nat} (hb1 : Below wr.heap.size wr v1) (hgrow : (v1.alloc EO).grownBy w5 u.ownBlock) (hat : u.ownBlock = some g2 ∨ g2 = v1.heap.size + 1) {S S' : Nat → Prop} (hS : ∀ k, S k → k < wr.heap.size → k ≠ nb ∧ u.ownBlock ≠ some k ∧ ((Value.slice (some ⟨g2, 0, none⟩) n cap).ownBlock ≠ some k → S' k)) : Stays S S' wr (w5.setCell ⟨nb, 4, none⟩ x) := fun k hk hl => by
 have h := grow_g0 (S := S) (S' := S') (n := n) (cap := cap) hb1 hgrow hat (fun k hk hl => (hS k hk hl).2) k hk hl
 exact ⟨h.1, (Below.heap_setCell _ _ _ _ (hS k hk hl).1).trans h.2⟩
theorem row_fin {v wc : World} {n nb lo : Nat} {o : Option Addr} {c : Nat} {vs : List Ex} (hr : RowAt v (From n) 2 (.slice o vs.length c) vs.length (varCells vs)) (hlo : lo ≤ n) (hne : nb < n ∨ v.heap.size ≤ nb) (hbl : ∀ k, k < v.heap.size → k ≠ nb → wc.heap[k]? = v.heap[k]?) : RowAt wc (fun k => lo ≤ k ∧ k ≠ nb) 2 (.slice o vs.length c) vs.length (varCells vs) :=
 hr.keep (fun k hk hl => by
  unfold From at hk
  have hkn : k ≠ nb := by omega
  exact ⟨⟨by omega, hkn⟩, hbl k hl hkn⟩)
section
variable {wq v1 v2 v3 : World} {n1 n2 n3 : Nat} {name : ByteArray} {ins outs owns : List Ex} {so1 so2 so3 : Option Addr} {sc1 sc2 sc3 : Nat}
end
def Numbers (w : World) (e : Ending) (w' : World) : Prop := (∃ k : Int, e = .returned (.int .i64 k)) ∧ Below w.heap.size w w'
def NumIs (k : Int) (w : World) (e : Ending) (w' : World) : Prop := e = .returned (.int .i64 k) ∧ Below w.heap.size w w'
abbrev WeighIs (k : Int) (op : ByteArray) (n : Int) (s : ByteArray) (l : List Ex) : Prop := ∀ (w : World) (S : Nat → Prop) (o : Option Addr) (c : Nat) (ys : List Value), RowAt w S 4 (.slice o l.length c) l.length ys → ExIn w S l ys →
  Calls Tryz.prog 45 #[.agg #[.string op, .int .i64 n, .string s, .slice o l.length c]] w (NumIs k w)
def accW (s0 : Int) (val : Nat → Int) : Nat → Int
 | 0 => s0
 | i + 1 => wrap64 (accW s0 val i + val i)
set_option maxRecDepth 100000 in
set_option maxHeartbeats 1000000 in
theorem weightOf_any : ∀ (m : Nat) (op : ByteArray) (n : Int) (s : ByteArray) (l : List Ex), SizeOf.sizeOf l < m → ∃ k, WeighIs k op n s l
 | 0 => fun _ _ _ _ h => absurd h (Nat.not_lt_zero _)
 | m + 1 => by
  intro op n s l hm
  obtain ⟨val, hval⟩ : ∃ val : Nat → Int, ∀ i (hi : i < l.length) (op : ByteArray) (n : Int) (s : ByteArray) (es : List Ex), l[i] = .mk op n s es → WeighIs (val i) op n s es := by
   refine Classical.axiomOfChoice (r := fun i k => ∀ (hi : i < l.length) (op : ByteArray) (n : Int) (s : ByteArray) (es : List Ex), l[i] = .mk op n s es → WeighIs k op n s es) (fun i => ?_)
   by_cases hi : i < l.length
   ·obtain ⟨op, n, s, es, e⟩ : ∃ op n s es, l[i] = .mk op n s es := by
     cases h : l[i] with
     | mk op n s es => exact ⟨op, n, s, es, rfl⟩
    have hsp := size_part hi e
    obtain ⟨k, hk⟩ := weightOf_any m op n s es (by omega)
    refine ⟨k, fun hi' op' n' s' es' e' => ?_⟩
    rw [e] at e'
    injection e' with q1 q2 q3 q4
    subst q1 q2 q3 q4
    exact hk
   ·exact ⟨0, fun hi' => absurd hi' hi⟩
  refine ⟨accW (wrap64 (1 + s.size)) val l.length, ?_⟩
  intro w S o c ys h1 h2
  have HV : Hid (∀ i (hi : i < l.length) (op : ByteArray) (n : Int) (s : ByteArray) (es : List Ex), l[i] = .mk op n s es → WeighIs (val i) op n s es) := hval
  have hl := h1.len
  unfold maxLen at hl
  have H1 : Hid (RowAt w S 4 (.slice o l.length c) l.length ys) := h1
  have H2 : Hid (ExIn w S l ys) := h2
  clear h1 h2 hval
  have hbA : Below w.heap.size w (w.alloc (reObj op n s (.slice o l.length c))) := (Below.refl _ _).alloc (Nat.le_refl _) _
  have HA : Hid _ := heap_alloc_new w (reObj op n s (.slice o l.length c))
  go_enter Tryz.func45, Tryz.ntmps45
  go_wp2
  go_loopw [3, 4] (fun v t wr => ∃ (i : Nat), i ≤ l.length ∧ t = .int .i64 i ∧ v = .int .i64 (accW (wrap64 (1 + s.size)) val i) ∧ Below w.heap.size w wr ∧ Hid (wr.heap[w.heap.size]? = some (reObj op n s (.slice o l.length c)))) (fun _ t _ => l.length - (intOf t).toNat)
  case atStart => exact ⟨0, Nat.zero_le _, rfl, rfl, hbA, HA⟩
  case round =>
   obtain ⟨i, hi, rfl, rfl, hb, HR⟩ := hrel
   obtain ⟨a0, a1, a2, a3, _⟩ := blk4 HR.out
   by_cases hlt : i < l.length
   ·obtain ⟨op', n', s', es, oo, cc, zs, e, x0, x1, x2, x3, r1, r2⟩ := H2.out.at hlt
    obtain ⟨p, f, rfl, _, g⟩ := row_get H1.out (by have := H1.out.1; omega)
    have x0 := cell_keep hb (g _ _ x0)
    have x1 := cell_keep hb (g _ _ x1)
    have x2 := cell_keep hb (g _ _ x2)
    have x3 := cell_keep hb (g _ _ x3)
    rw [← Nat.add_assoc] at x1 x2 x3
    have i0' : (0 : Int) ≤ (i : Int) := by omega
    have i1 : (i : Int) < (l.length : Int) := by omega
    have Hr : Hid (Calls Tryz.prog 45 #[.agg #[.string op', .int .i64 n', .string s', .slice oo es.length cc]] wr (NumIs (val i) wr)) := HV.out i hlt op' n' s' es e wr S oo cc zs (r1.keep (Stays.below hb (fun k hk => hk))) (r2.keep (Stays.below hb (fun k hk => hk)))
    clear g e r1 r2
    go_wp2_with fail
    refine Hr.out.mono ?_
    rintro e w4 ⟨rfl, hb4⟩
    have HR4 : Hid _ := row_keep hb4 HR.out
    go_wp2
    exact ⟨⟨i + 1, by omega, by go_num, rfl, hb.trans (hb4.mono hb.size), HR4⟩, by simp [intOf]; omega⟩
   ·obtain rfl : i = l.length := by omega
    go_wp2
    go_ret
    exact ⟨rfl, hb⟩
set_option maxRecDepth 100000 in
set_option maxHeartbeats 1000000 in
theorem weight_any (w : World) (S : Nat → Prop) (o : Option Addr) (c : Nat) (l : List Ex) (ys : List Value) (h1 : RowAt w S 5 (.slice o l.length c) l.length ys) (h2 : NdIn w S l ys) :
  Calls Tryz.prog 18 #[.slice o l.length c] w (Numbers w) := by
 have hl := h1.len
 unfold maxLen at hl
 have H1 : Hid (RowAt w S 5 (.slice o l.length c) l.length ys) := h1
 have H2 : Hid (NdIn w S l ys) := h2
 clear h1 h2
 go_enter Tryz.func18, Tryz.ntmps18
 go_wp2
 go_loopw [3, 4] (fun v t wr => ∃ (i : Nat) (x : Int), i ≤ l.length ∧ t = .int .i64 i ∧ v = .int .i64 x ∧ Below w.heap.size w wr) (fun _ t _ => l.length - (intOf t).toNat)
 case atStart => exact ⟨0, _, Nat.zero_le _, rfl, rfl, Below.refl _ _⟩
 case round =>
  obtain ⟨i, x, hi, rfl, rfl, hb⟩ := hrel
  rename World => wq
  by_cases hlt : i < l.length
  ·obtain ⟨name, ins, outs, owns, qs, o1, c1, o2, c2, o3, c3, o4, c4, zs, e, m0, m1, m2, m3, m4, r1, r2, r3, r4, r5⟩ := H2.out.at hlt
   obtain ⟨p, f, rfl, _, g⟩ := row_get H1.out (by have := H1.out.1; omega)
   have HX : Hid (∀ w', Below w.heap.size w w' → w'.cell? ⟨p, f + i * 5, none⟩ = some (.string name) ∧ w'.cell? ⟨p, f + i * 5 + 1, none⟩ = some (.slice o1 ins.length c1) ∧ w'.cell? ⟨p, f + i * 5 + 2, none⟩ = some (.slice o2 outs.length c2) ∧ w'.cell? ⟨p, f + i * 5 + 3, none⟩ = some (.slice o3 owns.length c3) ∧ w'.cell? ⟨p, f + i * 5 + 4, none⟩ = some (.slice o4 qs.length c4)) := fun w' hb' => ⟨cell_keep hb' (g _ _ m0), by have := cell_keep hb' (g _ _ m1); rwa [← Nat.add_assoc] at this, by have := cell_keep hb' (g _ _ m2); rwa [← Nat.add_assoc] at this, by have := cell_keep hb' (g _ _ m3); rwa [← Nat.add_assoc] at this, by have := cell_keep hb' (g _ _ m4); rwa [← Nat.add_assoc] at this⟩
   obtain ⟨x0, x1, x2, x3, x4⟩ := HX.out wq hb
   have i0' : (0 : Int) ≤ (i : Int) := by omega
   have i1 : (i : Int) < (l.length : Int) := by omega
   have hq := r4.len
   unfold maxLen at hq
   have HR : Hid (RowAt w S 6 (.slice o4 qs.length c4) qs.length zs ∧ EqIn w S qs zs) := ⟨r4, r5⟩
   clear g m0 m1 m2 m3 m4 r1 r2 r3 r4 r5 e
   go_wp2
   go_quiet (fail)
   go_wp2
   go_loopw [3, 5] (fun v t wr => ∃ (k : Nat) (x : Int), k ≤ qs.length ∧ t = .int .i64 k ∧ v = .int .i64 x ∧ Below w.heap.size w wr) (fun _ t _ => qs.length - (intOf t).toNat)
   case atStart => exact ⟨0, _, Nat.zero_le _, rfl, rfl, below_drewN hb nq⟩
   case round =>
    obtain ⟨k, y, hk, rfl, rfl, hbk⟩ := hrel
    rename World => wk
    obtain ⟨x0, x1, x2, x3, x4⟩ := HX.out wk hbk
    by_cases hlk : k < qs.length
    ·obtain ⟨kind, ns, no, nc, op, n, s, es, eo, ec, us, e, m0, m1, m2, m3, m4, m5, r1, r2, r3⟩ := HR.out.2.at hlk
     obtain ⟨p', f', rfl, _, g⟩ := row_get HR.out.1 (by have := HR.out.1.1; omega)
     have y0 := cell_keep hbk (g _ _ m0)
     have y1 := cell_keep hbk (g _ _ m1)
     have y2 := cell_keep hbk (g _ _ m2)
     have y3 := cell_keep hbk (g _ _ m3)
     have y4 := cell_keep hbk (g _ _ m4)
     have y5 := cell_keep hbk (g _ _ m5)
     rw [← Nat.add_assoc] at y1 y2 y3 y4 y5
     have k0' : (0 : Int) ≤ (k : Int) := by omega
     have k1 : (k : Int) < (qs.length : Int) := by omega
     obtain ⟨kw, hkw⟩ := weightOf_any _ op n s es (Nat.lt_succ_self _)
     have HE : Hid (∀ w', Below w.heap.size w w' → Calls Tryz.prog 45 #[.agg #[.string op, .int .i64 n, .string s, .slice eo es.length ec]] w' (NumIs kw w')) := fun w' hb' => hkw w' S eo ec us (r2.keep (Stays.below hb' (fun _ h => h))) (r3.keep (Stays.below hb' (fun _ h => h)))
     have HS : Hid (∀ w', Below w.heap.size w w' → w'.cell? ⟨p, f + i * 5 + 4, none⟩ = some (.slice (some ⟨p', f', none⟩) qs.length c4) ∧ w'.cell? ⟨p', f' + k * 6, none⟩ = some (.string kind) ∧ w'.cell? ⟨p', f' + k * 6 + 1, none⟩ = some (.slice no ns.length nc) ∧ w'.cell? ⟨p', f' + k * 6 + 2, none⟩ = some (.string op) ∧ w'.cell? ⟨p', f' + k * 6 + 3, none⟩ = some (.int .i64 n) ∧ w'.cell? ⟨p', f' + k * 6 + 4, none⟩ = some (.string s) ∧ w'.cell? ⟨p', f' + k * 6 + 5, none⟩ = some (.slice eo es.length ec) ∧ Below w.heap.size w w') := fun w' hb' => ⟨(HX.out w' hb').2.2.2.2, cell_keep hb' (g _ _ m0), by have := cell_keep hb' (g _ _ m1); rwa [← Nat.add_assoc] at this, by have := cell_keep hb' (g _ _ m2); rwa [← Nat.add_assoc] at this, by have := cell_keep hb' (g _ _ m3); rwa [← Nat.add_assoc] at this, by have := cell_keep hb' (g _ _ m4); rwa [← Nat.add_assoc] at this, by have := cell_keep hb' (g _ _ m5); rwa [← Nat.add_assoc] at this, hb'⟩
     clear g m0 m1 m2 m3 m4 m5 e hkw r1 r2 r3 HX HR H1 H2
     go_wp2
     go_region_held3 (fun w' => w'.cell? ⟨p, f + i * 5 + 4, none⟩ = some (.slice (some ⟨p', f', none⟩) qs.length c4) ∧ w'.cell? ⟨p', f' + k * 6, none⟩ = some (.string kind) ∧ w'.cell? ⟨p', f' + k * 6 + 1, none⟩ = some (.slice no ns.length nc) ∧ w'.cell? ⟨p', f' + k * 6 + 2, none⟩ = some (.string op) ∧ w'.cell? ⟨p', f' + k * 6 + 3, none⟩ = some (.int .i64 n) ∧ w'.cell? ⟨p', f' + k * 6 + 4, none⟩ = some (.string s) ∧ w'.cell? ⟨p', f' + k * 6 + 5, none⟩ = some (.slice eo es.length ec) ∧ Below w.heap.size w w')
      (first | exact HS.out _ hbk.drew | (go_split_ands; first | exact ⟨‹_›, ‹_›, ‹_›, ‹_›, ‹_›, ‹_›, ‹_›, ‹_›⟩ | exact HS.out _ (Below.trans ‹Below w.heap.size w _› (hbn.mono (Below.size ‹Below w.heap.size w _›)))))
      ((go_at_call 45; refine (HE.out _ ?_).mono ?_; (go_split_ands; exact ‹_›); rintro e w'' ⟨rfl, hbn⟩))
     go_split_ands
     go_wp2
     exact ⟨⟨k + 1, _, by omega, by go_num, rfl, ‹Below w.heap.size w _›⟩, by simp [intOf]; omega⟩
    ·go_wp2
     exact ⟨⟨i + 1, _, by omega, by go_num, rfl, hbk⟩, by simp [intOf]; omega⟩
  ·go_wp2
   go_ret
   exact ⟨⟨_, rfl⟩, hb⟩
theorem RwK.drewN {B b : Nat} {w w' : World} (h : RwK B b w w') (n : Nat) : RwK B b w (w'.drewN n) := ⟨below_drewN h.1 n, fun k o hk hb hc => by
 have := h.2 k o hk hb hc
 rwa [World.heap_drewN]⟩
set_option maxRecDepth 100000 in
set_option maxHeartbeats 2000000 in
theorem rwVars_k (B b : Nat) (n : Int) (bad : Bool) (w : World) (o : Option Addr) (c : Nat) (vs : List Ex) (hb : w.heap[b]? = some (rwObj n bad false)) (hB : B ≤ b) (hr : RowAt w (fun k => k < B) 2 (.slice o vs.length c) vs.length (varCells vs)) (hN : ∀ v ∈ vs, v.op.size ≤ 9000000) (hS : ∀ i, (rvTxt (vs.take i)).length ≤ 1000000000000) :
  Calls Tryz.prog 54 #[.pointer (some ⟨b, 0, none⟩), .slice o vs.length c] w fun e w' => e = .returned (.string (sOf (rvTxt vs))) ∧ RwK B b w w' ∧ ∃ bad', w'.heap[b]? = some (rwObj n bad' false) ∧ (bad' = false ↔ bad = false ∧ ∀ v ∈ vs, VarOk v) := by
 have hl := hr.len
 unfold maxLen at hl
 have HR : Hid (RowAt w (fun k => k < B) 2 (.slice o vs.length c) vs.length (varCells vs)) := hr
 have HN : Hid (∀ v ∈ vs, v.op.size ≤ 9000000) := hN
 have HS : Hid (∀ i, (rvTxt (vs.take i)).length ≤ 1000000000000) := hS
 have HB0 : Hid (w.heap[b]? = some (rwObj n bad false)) := hb
 clear hr hN hS hb
 go_enter Tryz.func54, Tryz.ntmps54
 go_wp2
 go_loopw [5, 6] (fun x t wr => ∃ i : Nat, i ≤ vs.length ∧ t = .int .i64 i ∧ x = .string (sOf (rvTxt (vs.take i))) ∧ RwK B b w wr ∧ ∃ bad', wr.heap[b]? = some (rwObj n bad' false) ∧ Hid (bad' = false ↔ bad = false ∧ ∀ v ∈ vs.take i, VarOk v)) (fun _ t _ => vs.length - (intOf t).toNat)
 case atStart => exact ⟨0, Nat.zero_le _, rfl, rfl, RwK.refl _ _ _, bad, HB0.out, ⟨fun h => ⟨h, fun v hv => by simp at hv⟩, fun h => h.1⟩⟩
 case round =>
  obtain ⟨i, hi, rfl, rfl, hbw, bad1, hbb, hbad⟩ := hrel
  by_cases hlt : i < vs.length
  ·have hrr := below_row HR.out hbw.1
   obtain ⟨q, off, cc, hv, hq, _, g⟩ := hrr.at (by rw [varCells_length]; omega)
   obtain rfl : o = some ⟨q, off, none⟩ := by injection hv
   clear hv
   have c0 := g _ _ (varCells_at hlt).1
   have c1 := g _ _ (varCells_at hlt).2
   rw [← Nat.add_assoc] at c1
   have i0 : (0 : Int) ≤ (i : Int) := by omega
   have i1 : (i : Int) < (vs.length : Int) := by omega
   have HI : Hid (∀ w, Calls Tryz.prog 53 #[.string vs[i].op] w fun e w' => ∃ b, e = .returned (.bool b) ∧ (b = true ↔ NmOk vs[i].op) ∧ Below w.heap.size w w') := fun w => refIsName_any vs[i].op (HN.out _ (List.getElem_mem hlt)) w
   clear hrr g
   go_wp2_with fail
   refine (HI.out _).mono ?_
   rintro e w1 ⟨b1, rfl, hb1, hw1⟩
   have hBw : B ≤ wr.heap.size := Nat.le_trans hB (Nat.le_of_lt (Array.getElem?_eq_some_iff.1 hbb).1)
   have HW1 : Hid (RwK B b w w1) := hbw.trans (RwK.of hw1 hBw)
   have hbb1 := row_keep hw1 hbb
   have d0 := cell_keep hw1 c0
   have d1 := cell_keep hw1 c1
   clear c0 c1
   obtain ⟨ok, hok⟩ : ∃ ok : Bool, ok = (b1 && (vs[i].n == 1 || vs[i].n == 2)) := ⟨_, rfl⟩
   have HM : Hid (Calls Tryz.prog 52 #[.pointer (some ⟨b, 0, none⟩), .bool ok] w1 fun e w' => e = .returned (.tuple #[]) ∧ RwK B b w1 w' ∧ w'.heap[b]? = some (rwObj n (bad1 || !ok) false)) := must_k B b n bad1 ok w1 hbb1 hB
   have HOK : Hid (ok = true ↔ VarOk vs[i]) := by
    show ok = true ↔ VarOk vs[i]
    rw [hok, Bool.and_eq_true, Bool.or_eq_true, beq_iff_eq, beq_iff_eq, hb1]
    exact ⟨fun h => ⟨h.1, h.2⟩, fun h => ⟨h.nm, h.kind⟩⟩
   clear hb1 hbb1 hbb HI hbw hw1 hBw hi
   have hz0 : (sOf (rvTxt (vs.take i))).size ≤ 1000000000000 := by rw [← bytes_len, sOf_list]; exact HS.out i
   have hz1 : vs[i].op.size ≤ 9000000 := HN.out _ (List.getElem_mem hlt)
   have HTX : Hid (rvTxt (vs.take (i + 1)) = rvTxt (vs.take i) ++ ((if i = 0 then [] else [59, 32]) ++ rOne vs[i])) := rvTxt_take hlt
   generalize hbase : sOf (rvTxt (vs.take i)) = base at hz0 ⊢
   have HBS : Hid (sOf (rvTxt (vs.take i)) = base) := hbase
   obtain ⟨kt, hkt⟩ : ∃ kt : ByteArray, kt = (if vs[i].n = 2 then ⟨#[105, 110, 116]⟩ else ⟨#[98, 111, 111, 108]⟩) := ⟨_, rfl⟩
   have hkz : kt.size ≤ 4 := by rw [hkt]; split <;> decide
   have HKT : Hid (∀ w, Calls Tryz.prog 87 #[.int .i64 vs[i].n] w fun e w' => e = .returned (.string kt) ∧ w' = w) := fun w => hkt ▸ kindText_any _ w
   have HKX : Hid (kt = (if vs[i].n = 2 then ⟨#[105, 110, 116]⟩ else ⟨#[98, 111, 111, 108]⟩)) := hkt
   clear hkt
   clear hbase
   have hcase : (b1 = false ∧ ok = false) ∨ (b1 = true ∧ (vs[i].n == 1) = true ∧ ok = true) ∨ (b1 = true ∧ (vs[i].n == 1) = false ∧ (vs[i].n == 2) = true ∧ ok = true) ∨ (b1 = true ∧ (vs[i].n == 1) = false ∧ (vs[i].n == 2) = false ∧ ok = false) := by
    cases b1 <;> cases a1 : (vs[i].n == 1) <;> cases a2 : (vs[i].n == 2) <;> simp [a1, a2] at hok <;> simp [hok]
   clear hok
   rcases hcase with ⟨rfl, rfl⟩ | ⟨rfl, a1, rfl⟩ | ⟨rfl, a1, a2, rfl⟩ | ⟨rfl, a1, a2, rfl⟩
   all_goals
    go_wp2_with fail
    refine HM.out.mono ?_
    rintro e w2 ⟨rfl, hb2, hrow2⟩
    have e0 := below_cell hb2.1 hq d0
    have e1 := below_cell hb2.1 hq d1
    have HR2 : Hid _ := hrow2
    have HB2 : Hid (RwK B b w1 w2) := hb2
    clear d0 d1 hrow2 hb2
    by_cases hi0 : i = 0
    ·have hi0' : ¬ ((0 : Int) < (i : Int)) := by omega
     have HI0 : Hid (i = 0) := hi0
     clear hi0
     have ha1 : ∀ W : World, (Op.stringOp .add base vs[i].op).run Tryz.prog W = .ok (.string (base ++ vs[i].op)) W := fun W => run_string_add_sum W _ _ (by omega)
     have ha2 : ∀ W : World, (Op.stringOp .add (base ++ vs[i].op) ⟨#[58, 32]⟩).run Tryz.prog W = .ok (.string (base ++ vs[i].op ++ ⟨#[58, 32]⟩)) W := fun W => run_string_add_sum W _ _ (by rw [ByteArray.size_append]; show base.size + vs[i].op.size + 2 ≤ _; omega)
     have ha3 : ∀ W : World, (Op.stringOp .add (base ++ vs[i].op ++ ⟨#[58, 32]⟩) kt).run Tryz.prog W = .ok (.string (base ++ vs[i].op ++ ⟨#[58, 32]⟩ ++ kt)) W := fun W => run_string_add_sum W _ _ (by rw [ByteArray.size_append, ByteArray.size_append]; show base.size + vs[i].op.size + 2 + kt.size ≤ _; omega)
     go_wp2_with fail
     go_quiet (exact Calls.quiet_of_same (HKT.out _))
     go_wp2
     exact ⟨⟨i + 1, by omega, by go_num, by rw [rv_first HTX.out HBS.out HKX.out HI0.out], (HW1.out.trans HB2.out).drewN nq, _, HR2.out, rv_bad hlt hbad.out (by simpa using HOK.out)⟩, by simp [intOf]; omega⟩
    ·have hi0' : (0 : Int) < (i : Int) := by omega
     have HI0 : Hid (i ≠ 0) := hi0
     clear hi0
     have ha0 : ∀ W : World, (Op.stringOp .add base ⟨#[59, 32]⟩).run Tryz.prog W = .ok (.string (base ++ ⟨#[59, 32]⟩)) W := fun W => run_string_add_sum W _ _ (by show base.size + 2 ≤ _; omega)
     have ha1 : ∀ W : World, (Op.stringOp .add (base ++ ⟨#[59, 32]⟩) vs[i].op).run Tryz.prog W = .ok (.string (base ++ ⟨#[59, 32]⟩ ++ vs[i].op)) W := fun W => run_string_add_sum W _ _ (by rw [ByteArray.size_append]; show base.size + 2 + vs[i].op.size ≤ _; omega)
     have ha2 : ∀ W : World, (Op.stringOp .add (base ++ ⟨#[59, 32]⟩ ++ vs[i].op) ⟨#[58, 32]⟩).run Tryz.prog W = .ok (.string (base ++ ⟨#[59, 32]⟩ ++ vs[i].op ++ ⟨#[58, 32]⟩)) W := fun W => run_string_add_sum W _ _ (by rw [ByteArray.size_append, ByteArray.size_append]; show base.size + 2 + vs[i].op.size + 2 ≤ _; omega)
     have ha3 : ∀ W : World, (Op.stringOp .add (base ++ ⟨#[59, 32]⟩ ++ vs[i].op ++ ⟨#[58, 32]⟩) kt).run Tryz.prog W = .ok (.string (base ++ ⟨#[59, 32]⟩ ++ vs[i].op ++ ⟨#[58, 32]⟩ ++ kt)) W := fun W => run_string_add_sum W _ _ (by rw [ByteArray.size_append, ByteArray.size_append, ByteArray.size_append]; show base.size + 2 + vs[i].op.size + 2 + kt.size ≤ _; omega)
     go_wp2_with fail
     go_quiet (exact Calls.quiet_of_same (HKT.out _))
     go_wp2
     exact ⟨⟨i + 1, by omega, by go_num, by rw [rv_next HTX.out HBS.out HKX.out HI0.out], (HW1.out.trans HB2.out).drewN nq, _, HR2.out, rv_bad hlt hbad.out (by simpa using HOK.out)⟩, by simp [intOf]; omega⟩
  ·obtain rfl : i = vs.length := by omega
   rw [List.take_length] at hbad
   have HBD : Hid _ := hbad
   rw [List.take_length]
   go_wp2
   go_ret
   exact ⟨by simp, hbw, bad1, hbb, HBD.out⟩
end Go.Proofs.YtgbpccipdcajgaaGreatDoor
