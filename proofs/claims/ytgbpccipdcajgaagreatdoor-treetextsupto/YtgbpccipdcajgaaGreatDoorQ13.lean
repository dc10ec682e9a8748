/-
  package tree's READER OF NODES: node BY ITS CONTRACT.
-/
import Derived.Test.YtgbpccipdcajgaaGreatDoorQ12
import Derived.Deep.Cut
import Derived.Deep.CutRange
import Derived.Deep.DeepCutAuto
import Derived.Deep.RegionWith
import Derived.Deep.RegionLaw
namespace Go.Proofs.YtgbpccipdcajgaaGreatDoor
open Go.RowKit
attribute [local go_sem ↓] Go.wp_at_zero Go.wp_at_succ
theorem equation_ok (C : Rc) (i d : Nat) (w : World) (T : Tkl C.l) (R : Rd C i d w) (es : List Ex) (j : Nat) (h : Parse C.l .eq i d (.ok es j)) :
  Calls Tryz.prog 114 #[.pointer (some ⟨C.b, 0, none⟩)] w fun e w' => Mv C.b w w' ∧ ∃ v, e = .returned v ∧ EqV w.heap.size w' es v ∧ Rd C j d w' ∧ i < j := by
 refine (equation_any C i d w T R).mono ?_
 rintro e w' ⟨hm, ⟨es', j', v, hp, rfl, hv, R', hij⟩ | ⟨j', bd, hp, _⟩⟩
 ·have := hp.one h
  injection this with e1 e2
  subst e1 e2
  exact ⟨hm, v, rfl, hv, R', hij⟩
 ·exact absurd (hp.one h) (by simp)
theorem equation_bad (C : Rc) (i d : Nat) (w : World) (T : Tkl C.l) (R : Rd C i d w) (h : ¬ ∃ es j, Parse C.l .eq i d (.ok es j)) :
  Calls Tryz.prog 114 #[.pointer (some ⟨C.b, 0, none⟩)] w fun e w' => Mv C.b w w' ∧ ∃ j bd, Parse C.l .eq i d (.bad j bd) ∧ Threw C j bd e w' := by
 refine (equation_any C i d w T R).mono ?_
 rintro e w' ⟨hm, ⟨es', j', v, hp, _⟩ | hb⟩
 ·exact absurd ⟨es', j', hp⟩ h
 ·exact ⟨hm, hb⟩
theorem EqV.one {base : Nat} {w : World} {es : List Ex} {v : Value} (h : EqV base w es v) : ∃ kind ns op x s l no nc so sc ys, es = [.mk kind 0 b0 [lst ns, .mk op x s l]] ∧ v = .agg #[.string kind, .slice no ns.length nc, .string op, .int .i64 x, .string s, .slice so l.length sc] ∧ RowAt w (From base) 1 (.slice no ns.length nc) ns.length (nameCells ns) ∧ RowAt w (From base) 4 (.slice so l.length sc) l.length ys ∧ ExIn w (From base) l ys := by
 obtain ⟨xs, rfl, hl, h⟩ := h
 generalize hx : xs.toList = zs at h
 cases h with
 | nil => simp at hl
 | cons kind ns e es nv xs' ys' h1 h2 h3 =>
  simp only [List.length_cons] at hl
  obtain rfl : es = [] := List.eq_nil_of_length_eq_zero (by omega)
  cases h3
  obtain ⟨op, x, s, l, so, sc, ys, rfl, rfl, h4, h5⟩ := h2.one'
  obtain ⟨a1, a2, no, nc, rfl, a3⟩ := h1
  refine ⟨kind, ns, op, x, s, l, no, nc, so, sc, ys, rfl, ?_, ⟨a1, a2, no, nc, rfl, a3⟩, h4, h5⟩
  congr 1
  apply Array.ext'
  rw [hx]; rfl
abbrev zNode : Obj := .cells #[.string ⟨#[]⟩, .slice none 0 0, .slice none 0 0, .slice none 0 0, .slice none 0 0] 70
theorem blk5 {w : World} {b : Nat} {x0 x1 x2 x3 x4 : Value} {t : TypeId} (h : w.heap[b]? = some (.cells #[x0, x1, x2, x3, x4] t (0, 0))) : w.cell? ⟨b, 0, none⟩ = some x0 ∧ w.cell? ⟨b, 1, none⟩ = some x1 ∧ w.cell? ⟨b, 2, none⟩ = some x2 ∧ w.cell? ⟨b, 3, none⟩ = some x3 ∧ w.cell? ⟨b, 4, none⟩ = some x4 ∧ ∀ k, w.frozen? ⟨b, k, none⟩ = false :=
 ⟨by simp [World.cell?, h], by simp [World.cell?, h], by simp [World.cell?, h], by simp [World.cell?, h], by simp [World.cell?, h], fun k => by simp [World.frozen?, h]⟩
theorem step_call {P : Program} {ops : Array Oper} {o : Oper} {a : Go.Act} {w : World} {K : Go.Act → World → Prop} {Q : Exit → Go.Act → World → Prop} {E : Prop} (hgd : o.guard = none) (f : FuncId) (vs : Array Value) (hrun : (execOp a.eval o).run P w = .ok (.enter f vs) w)
  (h : Calls P f vs w fun
   | .returned v, w' => K (a.put o.dst v) w'
   | .panicked c, w' => Q (.panic c) a w'
   | .outgrown, _ => LetsOut Q) : if Region.wanted o (yielded ops a.tmps) = true then Oper.wp P o a w K Q else E := by
 have hw : Region.wanted o (yielded ops a.tmps) = true := by simp [Region.wanted, hgd]
 rw [if_pos hw]
 unfold Oper.wp
 rw [hrun]
 exact h
theorem Tryz.infoEq : (Tryz.prog.info? 107).map (fun i => (i.zero, i.size, i.bytes)) = some (some (.agg #[.string ⟨#[]⟩, .slice none 0 0, .string ⟨#[]⟩, .int .i64 0, .string ⟨#[]⟩, .slice none 0 0]), 6, 104) := by kernel_rfl
def restA (l : List Tk) (name : ByteArray) (ins outs owns : List Ex) (i d : Nat) : Act := expA l i tLet fun i => .call (.eqs []) i d fun qs i => expA l i tTel fun i => retA [.mk name 0 b0 [lst ins, lst outs, lst owns, lst qs]] i
theorem Parse.mkNode {l : List Tk} {i d : Nat} {r : Res} (h : Run l (expA l i tNode fun i => nameA l i fun j => expA l j tOpen fun k => if tx l k tShut then bodyA l (tkx l i) [] k d else varsA k d fun ins j => bodyA l (tkx l i) ins j d) r) : Parse l .node i d r := h
theorem Run.body {l : List Tk} {name : ByteArray} {ins : List Ex} {i d : Nat} {r : Res} (h : Run l (expA l i tShut fun i => expA l i tReturns fun i => expA l i tOpen fun i => varsA i d fun outs i => expA l i tShut fun i => expA l i tSemi fun i => if tx l i tVar then .call (.owns []) (i + 1) d fun owns i => restA l name ins outs owns i d else restA l name ins outs [] i d) r) : Run l (bodyA l name ins i d) r := h
def NdV (base : Nat) (w' : World) (es : List Ex) (v : Value) : Prop := ∃ xs, v = .agg xs ∧ es.length = 1 ∧ NdIn w' (From base) es xs.toList
theorem RowAt.form {w : World} {S : Nat → Prop} {size n : Nat} {v : Value} {xs : List Value} (h : RowAt w S size v n xs) : ∃ o c, v = .slice o n c := by
 obtain ⟨_, _, o, c, h, _⟩ := h; exact ⟨o, c, h⟩

set_option maxRecDepth 100000 in
set_option maxHeartbeats 4000000 in
theorem node_any (C : Rc) (i d : Nat) (w : World) (T : Tkl C.l) (R : Rd C i d w) :
  Calls Tryz.prog 82 #[.pointer (some ⟨C.b, 0, none⟩)] w (Ret C .node i d w (NdV w.heap.size)) := by
 have hlt := R.lt
 have hbl := R.blt
 have hbA : Below w.heap.size w ((w.alloc zNode).alloc zNode) := ((Below.refl _ _).alloc (Nat.le_refl _) _).alloc (by simp) _
 have HZ : Hid _ := alloc_row zNode (heap_alloc_new w zNode)
 have HQ : Hid _ := two_new w zNode zNode
 have RA := R.below hbA
 go_enter Tryz.func82, Tryz.ntmps82
 go_wp2_with fail
 refine (expect_any C i d _ RA T tNode (by decide)).mono ?_
 rintro e w1 ⟨hm1, h1⟩
 have hs1 := hm1.size
 simp only [World.size_alloc] at hs1
 have hM1 : Mv C.b w w1 := (Mv.of_below hbA).trans hm1
 rcases h1 with ⟨hx1, rfl, R1⟩ | ⟨hx1, hj, p, rfl, q0, q1⟩
 ·go_wp2_with fail
  refine (name_any C (i + 1) d _ R1 T).mono ?_
  rintro e w2 ⟨hm2, h2⟩
  have hs2 := hm2.size
  have hM2 := hM1.trans hm2
  rcases h2 with ⟨hx2, rfl, R2⟩ | ⟨hx2, hj, p, rfl, q0, q1⟩
  ·have hq2 := hm2.row (k := w.heap.size + 1) (by omega) (hm1.row (by omega) HQ.out)
   have hz2 := hm2.row (k := w.heap.size) (by omega) (hm1.row (by omega) HZ.out)
   obtain ⟨y0, y1, y2, y3, y4, yf⟩ := blk5 hq2
   have HQ2 : Hid _ := set_row (k := 0) (v := .string (tkx C.l (i + 1))) hq2
   have HZ2 : Hid _ := (Below.heap_setCell w2 ⟨w.heap.size + 1, 0, none⟩ (.string (tkx C.l (i + 1))) w.heap.size (by simp)).trans hz2
   have hB2 : Below w.heap.size w2 (w2.setCell ⟨w.heap.size + 1, 0, none⟩ (.string (tkx C.l (i + 1)))) := (Below.refl _ _).setCell (by simp) _
   clear hq2 hz2
   have R2' := R.upon R2 hB2
   have hM2' := hM2.upon hB2
   go_wp2_with fail
   refine (expect_any C (i + 1 + 1) d _ R2' T tOpen (by decide)).mono ?_
   rintro e w3 ⟨hm3, h3⟩
   have hs3 := hm3.size
   simp only [World.size_setCell] at hs3
   have hM3 := hM2'.trans hm3
   clear y0 y1 y2 y3 y4 yf
   rcases h3 with ⟨hx3, rfl, R3⟩ | ⟨hx3, hj, p, rfl, q0, q1⟩
   ·have HQ3 : Hid _ := hm3.row (by omega) HQ2.out
    have HZ3 : Hid _ := hm3.row (by omega) HZ2.out
    go_wp2_with fail
    refine (is_new C (i + 1 + 1 + 1) d _ R3 [tShut] _ 1 rfl rfl (by decide)).mono ?_
    rintro e w4 ⟨rfl, hb4⟩
    have hs4 := hb4.size
    have R4 := R3.below hb4
    have hM4 := hM3.trans (Mv.of_below hb4)
    have HQ4 : Hid _ := row_keep hb4 HQ3.out
    have HZ4 : Hid _ := row_keep hb4 HZ3.out
    have HP : Hid (∀ ins j r, (tx C.l (i + 1 + 1 + 1) tShut = true → ins = [] ∧ j = i + 1 + 1 + 1) → (tx C.l (i + 1 + 1 + 1) tShut = false → ∀ k, Run C.l (k ins j) r → Run C.l (varsA (i + 1 + 1 + 1) d k) r) → Run C.l (bodyA C.l (tkx C.l (i + 1)) ins j d) r → Parse C.l .node i d r) := by
     intro ins j r h1 h2 h3
     refine Parse.mkNode (Run.exp hx1 (Run.nam hx2 (Run.exp hx3 ?_)))
     cases h : tx C.l (i + 1 + 1 + 1) tShut with
     | true => obtain ⟨rfl, rfl⟩ := h1 h; exact Run.ifT rfl h3
     | false => exact Run.ifF rfl (h2 h _ h3)
    go_upto_if 14 with fail
    go_cut [] (fun wc => ∃ (ins : List Ex) (j : Nat) (io : Option Addr) (ic : Nat), Rd C j d wc ∧ Hid (wc.heap[w.heap.size + 1]? = some (.cells #[.string (tkx C.l (i + 1)), .slice io ins.length ic, .slice none 0 0, .slice none 0 0, .slice none 0 0] 70 (0, 0))) ∧ Hid (wc.heap[w.heap.size]? = some zNode) ∧ Hid (RowAt wc (fun k => w.heap.size + 1 < k) 2 (.slice io ins.length ic) ins.length (varCells ins)) ∧ Mv C.b w wc ∧ i < j ∧ Hid (∀ r, Run C.l (bodyA C.l (tkx C.l (i + 1)) ins j d) r → Parse C.l .node i d r))
    case first =>
     by_cases g : txs C.l (i + 1 + 1 + 1) [tShut] = true
     ·have gt : tx C.l (i + 1 + 1 + 1) tShut = true := by rw [← txs_one]; exact g
      simp only [g, Bool.not_true]
      go_wp2
      go_meet
      case rel => exact ⟨[], i + 1 + 1 + 1, none, 0, R4, HQ4, HZ4, RowAt.none, hM4, by omega, fun r hr => HP.out [] _ r (fun _ => ⟨rfl, rfl⟩) (fun h => by rw [gt] at h; cases h) hr⟩
     ·have g' : txs C.l (i + 1 + 1 + 1) [tShut] = false := by simpa using g
      clear g
      have gt : tx C.l (i + 1 + 1 + 1) tShut = false := by rw [← txs_one]; exact g'
      obtain ⟨y0, y1, y2, y3, y4, yf⟩ := blk5 HQ4.out
      simp only [g', Bool.not_false]
      go_wp2_with fail
      refine (vars_any C (i + 1 + 1 + 1) d _ T R4).mono ?_
      rintro e w5 ⟨hm5, h5⟩
      have hs5 := hm5.size
      clear y0 y1 y2 y3 y4 yf
      rcases h5 with ⟨ins, j, v, hV, rfl, hrow, R5, hij⟩ | ⟨j, bd, hV, hj, p, rfl, q0, q1⟩
      ·obtain ⟨io, ic, rfl⟩ := hrow.form
       have hq5 := hm5.row (k := w.heap.size + 1) (by omega) HQ4.out
       have HQ5 : Hid ((w5.setCell ⟨w.heap.size + 1, 1, none⟩ (.slice io ins.length ic)).heap[w.heap.size + 1]? = some (.cells #[.string (tkx C.l (i + 1)), .slice io ins.length ic, .slice none 0 0, .slice none 0 0, .slice none 0 0] 70 (0, 0))) := set_row hq5
       have HZ5 : Hid ((w5.setCell ⟨w.heap.size + 1, 1, none⟩ (.slice io ins.length ic)).heap[w.heap.size]? = some zNode) := (Below.heap_setCell w5 ⟨w.heap.size + 1, 1, none⟩ (.slice io ins.length ic) w.heap.size (by simp)).trans (hm5.row (by omega) HZ4.out)
       obtain ⟨y0, y1, y2, y3, y4, yf⟩ := blk5 hq5
       have hB5 : Below w.heap.size w5 (w5.setCell ⟨w.heap.size + 1, 1, none⟩ (.slice io ins.length ic)) := (Below.refl _ _).setCell (by simp) _
       have HR5 : Hid (RowAt (w5.setCell ⟨w.heap.size + 1, 1, none⟩ (.slice io ins.length ic)) (fun k => w.heap.size + 1 < k) 2 (.slice io ins.length ic) ins.length (varCells ins)) := hrow.keep (Stays.set (p := ⟨w.heap.size + 1, 1, none⟩) _ (fun k hk => by unfold From at hk; exact ⟨by show k ≠ w.heap.size + 1; omega, by omega⟩))
       clear hq5 hrow
       go_wp2
       go_meet
       case rel => exact ⟨ins, j, io, ic, R.upon R5 hB5, HQ5, HZ5, HR5, (hM4.trans hm5).upon hB5, by omega, fun r hr => HP.out ins _ r (fun h => by rw [gt] at h; cases h) (fun _ k hk => hV k r hk) hr⟩
      ·go_wp2
       exact ⟨rfl, hM4.trans hm5, Or.inr ⟨j, bd, Parse.mkNode (Run.exp hx1 (Run.nam hx2 (Run.exp hx3 (Run.ifF gt (hV _))))), hj, p, rfl, q0, q1⟩⟩
    case rest =>
     clear HP HQ4 HZ4 HQ3 HZ3 R4 R3 hM4 HQ2 HZ2 R2' R2 R1 RA hM3 hM2' hM2 hM1 HQ HZ hb4 hm3 hm2 hm1 hbA hx1 hx2 hx3 hB2 hs1 hs2 hs3 hs4
     obtain ⟨ins, j, io, ic, R5, HQ5, HZ5, HR5, hM5, hij, HP5⟩ := hcut
     have hs5 := hM5.size
     have hq5s : w.heap.size + 1 < wc.heap.size := (Array.getElem?_eq_some_iff.1 HQ5.out).1
     go_wp2_with fail
     refine (expect_any C j d _ R5 T tShut (by decide)).mono ?_
     rintro e w6 ⟨hm6, h6⟩
     have hs6 := hm6.size
     have hM6 := hM5.trans hm6
     rcases h6 with ⟨hx6, rfl, R6⟩ | ⟨hx6, hj, p, rfl, q0, q1⟩
     ·go_wp2_with fail
      refine (expect_any C (j + 1) d _ R6 T tReturns (by decide)).mono ?_
      rintro e w7 ⟨hm7, h7⟩
      have hs7 := hm7.size
      have hM7 := hM6.trans hm7
      rcases h7 with ⟨hx7, rfl, R7⟩ | ⟨hx7, hj, p, rfl, q0, q1⟩
      ·go_wp2_with fail
       refine (expect_any C (j + 1 + 1) d _ R7 T tOpen (by decide)).mono ?_
       rintro e w8 ⟨hm8, h8⟩
       have hs8 := hm8.size
       have hM8 := hM7.trans hm8
       rcases h8 with ⟨hx8, rfl, R8⟩ | ⟨hx8, hj, p, rfl, q0, q1⟩
       ·go_wp2_with fail
        refine (vars_any C (j + 1 + 1 + 1) d _ T R8).mono ?_
        rintro e w9 ⟨hm9, h9⟩
        have hs9 := hm9.size
        have hM9 := hM8.trans hm9
        rcases h9 with ⟨outs, k, v, hV, rfl, hrow, R9, hjk⟩ | ⟨k, bd, hV, hj, p, rfl, q0, q1⟩
        ·obtain ⟨oo, oc, rfl⟩ := hrow.form
         have hmm : Mv C.b wc w9 := ((hm6.trans hm7).trans hm8).trans hm9
         have hq9 := hmm.row (k := w.heap.size + 1) (by omega) HQ5.out
         have HQ9 : Hid ((w9.setCell ⟨w.heap.size + 1, 2, none⟩ (.slice oo outs.length oc)).heap[w.heap.size + 1]? = some (.cells #[.string (tkx C.l (i + 1)), .slice io ins.length ic, .slice oo outs.length oc, .slice none 0 0, .slice none 0 0] 70 (0, 0))) := set_row hq9
         have HZ9 : Hid ((w9.setCell ⟨w.heap.size + 1, 2, none⟩ (.slice oo outs.length oc)).heap[w.heap.size]? = some zNode) := (Below.heap_setCell w9 ⟨w.heap.size + 1, 2, none⟩ (.slice oo outs.length oc) w.heap.size (by simp)).trans (hmm.row (by omega) HZ5.out)
         obtain ⟨y0, y1, y2, y3, y4, yf⟩ := blk5 hq9
         have hB9 : Below w.heap.size w9 (w9.setCell ⟨w.heap.size + 1, 2, none⟩ (.slice oo outs.length oc)) := (Below.refl _ _).setCell (by simp) _
         have HRO : Hid (RowAt (w9.setCell ⟨w.heap.size + 1, 2, none⟩ (.slice oo outs.length oc)) (fun k => w.heap.size + 1 < k) 2 (.slice oo outs.length oc) outs.length (varCells outs)) := hrow.keep (Stays.set (p := ⟨w.heap.size + 1, 2, none⟩) _ (fun k hk => by unfold From at hk; exact ⟨by show k ≠ w.heap.size + 1; omega, by omega⟩))
         have HRI : Hid (RowAt (w9.setCell ⟨w.heap.size + 1, 2, none⟩ (.slice oo outs.length oc)) (fun k => w.heap.size + 1 < k) 2 (.slice io ins.length ic) ins.length (varCells ins)) := HR5.out.keep ((Stays.mv (S' := fun k => w.heap.size + 1 < k) hmm (fun k hk => ⟨by omega, hk⟩)).trans (Stays.set (p := ⟨w.heap.size + 1, 2, none⟩) _ (fun k hk => ⟨by show k ≠ w.heap.size + 1; omega, hk⟩)) (by omega))
         have R9' := R.upon R9 hB9
         have hM9' := hM9.upon hB9
         clear hq9 hrow
         go_wp2_with fail
         refine (expect_any C k d _ R9' T tShut (by decide)).mono ?_
         rintro e w10 ⟨hm10, h10⟩
         have hs10 := hm10.size
         simp only [World.size_setCell] at hs10
         have hM10 := hM9'.trans hm10
         clear y0 y1 y2 y3 y4 yf
         rcases h10 with ⟨hx10, rfl, R10⟩ | ⟨hx10, hj, p, rfl, q0, q1⟩
         ·go_wp2_with fail
          refine (expect_any C (k + 1) d _ R10 T tSemi (by decide)).mono ?_
          rintro e w11 ⟨hm11, h11⟩
          have hs11 := hm11.size
          have hM11 := hM10.trans hm11
          rcases h11 with ⟨hx11, rfl, R11⟩ | ⟨hx11, hj, p, rfl, q0, q1⟩
          ·go_wp2_with fail
           refine (is_new C (k + 1 + 1) d _ R11 [tVar] _ 1 rfl rfl (by decide)).mono ?_
           rintro e w12 ⟨rfl, hb12⟩
           have hs12 := hb12.size
           have R12 := R11.below hb12
           have hM12 := hM11.trans (Mv.of_below hb12)
           have hmq : Mv C.b (w9.setCell ⟨w.heap.size + 1, 2, none⟩ (.slice oo outs.length oc)) w12 := (hm10.trans hm11).trans (Mv.of_below hb12)
           have HQ12 : Hid _ := hmq.row (k := w.heap.size + 1) (by omega) HQ9.out
           have HZ12 : Hid _ := hmq.row (k := w.heap.size) (by omega) HZ9.out
           have HRI12 : Hid (RowAt w12 (fun k => w.heap.size + 1 < k) 2 (.slice io ins.length ic) ins.length (varCells ins)) := HRI.out.keep (Stays.mv hmq (fun k hk => ⟨by omega, hk⟩))
           have HRO12 : Hid (RowAt w12 (fun k => w.heap.size + 1 < k) 2 (.slice oo outs.length oc) outs.length (varCells outs)) := HRO.out.keep (Stays.mv hmq (fun k hk => ⟨by omega, hk⟩))
           have HP12 : Hid (∀ r, Run C.l (if tx C.l (k + 1 + 1) tVar then .call (.owns []) (k + 1 + 1 + 1) d fun owns i' => restA C.l (tkx C.l (i + 1)) ins outs owns i' d else restA C.l (tkx C.l (i + 1)) ins outs [] (k + 1 + 1) d) r → Parse C.l .node i d r) := fun r hr => HP5.out r (Run.body (Run.exp hx6 (Run.exp hx7 (Run.exp hx8 (hV _ _ (Run.exp hx10 (Run.exp hx11 hr)))))))
           clear HQ9 HZ9 HRI HRO HQ5 HZ5 HR5 HP5 hx6 hx7 hx8 hx10 hx11 hV R5 R6 R7 R8 R9 R9' R10 R11 hm6 hm7 hm8 hm9 hm10 hm11 hb12 hmm hmq hB9 hM5 hM6 hM7 hM8 hM9 hM9' hM10 hM11
           go_upto_if 33 with fail
           go_cut [] (fun wc => ∃ (owns : List Ex) (j : Nat) (wo : Option Addr) (wcap : Nat), Rd C j d wc ∧ Hid (wc.heap[w.heap.size + 1]? = some (.cells #[.string (tkx C.l (i + 1)), .slice io ins.length ic, .slice oo outs.length oc, .slice wo owns.length wcap, .slice none 0 0] 70 (0, 0))) ∧ Hid (wc.heap[w.heap.size]? = some zNode) ∧ Hid (RowAt wc (fun k => w.heap.size + 1 < k) 2 (.slice io ins.length ic) ins.length (varCells ins)) ∧ Hid (RowAt wc (fun k => w.heap.size + 1 < k) 2 (.slice oo outs.length oc) outs.length (varCells outs)) ∧ Hid (RowAt wc (fun k => w.heap.size + 1 < k) 2 (.slice wo owns.length wcap) owns.length (varCells owns)) ∧ Mv C.b w wc ∧ i < j ∧ Hid (∀ r, Run C.l (restA C.l (tkx C.l (i + 1)) ins outs owns j d) r → Parse C.l .node i d r))
           case first =>
            by_cases g : txs C.l (k + 1 + 1) [tVar] = true
            ·have gt : tx C.l (k + 1 + 1) tVar = true := by rw [← txs_one]; exact g
             simp only [g]
             go_wp2_with fail
             refine (ownVars_any C (k + 1 + 1) d _ T R12 gt).mono ?_
             rintro e w13 ⟨hm13, h13⟩
             have hs13 := hm13.size
             rcases h13 with ⟨owns, m, v, hp, rfl, hrow, R13, hkm⟩ | ⟨m, bd, hp, hj, p, rfl, q0, q1⟩
             ·obtain ⟨wo, wcap, rfl⟩ := hrow.form
              have hq13 := hm13.row (k := w.heap.size + 1) (by omega) HQ12.out
              have HQ13 : Hid ((w13.setCell ⟨w.heap.size + 1, 3, none⟩ (.slice wo owns.length wcap)).heap[w.heap.size + 1]? = some (.cells #[.string (tkx C.l (i + 1)), .slice io ins.length ic, .slice oo outs.length oc, .slice wo owns.length wcap, .slice none 0 0] 70 (0, 0))) := set_row hq13
              have HZ13 : Hid ((w13.setCell ⟨w.heap.size + 1, 3, none⟩ (.slice wo owns.length wcap)).heap[w.heap.size]? = some zNode) := (Below.heap_setCell w13 ⟨w.heap.size + 1, 3, none⟩ (.slice wo owns.length wcap) w.heap.size (by simp)).trans (hm13.row (by omega) HZ12.out)
              obtain ⟨y0, y1, y2, y3, y4, yf⟩ := blk5 hq13
              have hB13 : Below w.heap.size w13 (w13.setCell ⟨w.heap.size + 1, 3, none⟩ (.slice wo owns.length wcap)) := (Below.refl _ _).setCell (by simp) _
              have StS : Stays (fun k => w.heap.size + 1 < k) (fun k => w.heap.size + 1 < k) w12 (w13.setCell ⟨w.heap.size + 1, 3, none⟩ (.slice wo owns.length wcap)) := (Stays.mv (S' := fun k => w.heap.size + 1 < k) hm13 (fun k hk => ⟨by omega, hk⟩)).trans (Stays.set (p := ⟨w.heap.size + 1, 3, none⟩) _ (fun k hk => ⟨by show k ≠ w.heap.size + 1; omega, hk⟩)) (by omega)
              have HRI13 : Hid (RowAt (w13.setCell ⟨w.heap.size + 1, 3, none⟩ (.slice wo owns.length wcap)) (fun k => w.heap.size + 1 < k) 2 (.slice io ins.length ic) ins.length (varCells ins)) := HRI12.out.keep StS
              have HRO13 : Hid (RowAt (w13.setCell ⟨w.heap.size + 1, 3, none⟩ (.slice wo owns.length wcap)) (fun k => w.heap.size + 1 < k) 2 (.slice oo outs.length oc) outs.length (varCells outs)) := HRO12.out.keep StS
              have HRW13 : Hid (RowAt (w13.setCell ⟨w.heap.size + 1, 3, none⟩ (.slice wo owns.length wcap)) (fun k => w.heap.size + 1 < k) 2 (.slice wo owns.length wcap) owns.length (varCells owns)) := hrow.keep (Stays.set (p := ⟨w.heap.size + 1, 3, none⟩) _ (fun k hk => by unfold From at hk; exact ⟨by show k ≠ w.heap.size + 1; omega, by omega⟩))
              clear hq13 hrow StS
              go_wp2
              go_meet
              case rel => exact ⟨owns, m, wo, wcap, R.upon R13 hB13, HQ13, HZ13, HRI13, HRO13, HRW13, (hM12.trans hm13).upon hB13, by omega, fun r hr => HP12.out r (Run.ifT gt (Run.then hp hr))⟩
             ·go_wp2
              exact ⟨rfl, hM12.trans hm13, Or.inr ⟨m, bd, HP12.out _ (Run.ifT gt (Run.stop hp)), hj, p, rfl, q0, q1⟩⟩
            ·have g' : txs C.l (k + 1 + 1) [tVar] = false := by simpa using g
             clear g
             have gt : tx C.l (k + 1 + 1) tVar = false := by rw [← txs_one]; exact g'
             simp only [g']
             go_wp2
             go_meet
             case rel => exact ⟨[], k + 1 + 1, none, 0, R12, HQ12, HZ12, HRI12, HRO12, RowAt.none, hM12, by omega, fun r hr => HP12.out r (Run.ifF gt hr)⟩
           case rest =>
            clear HP12 HQ12 HZ12 HRI12 HRO12 R12 hM12
            obtain ⟨owns, j0, wo, wcap, R1, HQ1, HZ1, HRI1, HRO1, HRW1, hM1, hij0, HP1⟩ := hcut
            have hq1s : w.heap.size + 1 < wc.heap.size := (Array.getElem?_eq_some_iff.1 HQ1.out).1
            go_wp2_with fail
            refine (expect_any C j0 d _ R1 T tLet (by decide)).mono ?_
            rintro e w2 ⟨hm2, h2⟩
            have hs2 := hm2.size
            have hM2 := hM1.trans hm2
            rcases h2 with ⟨hx2, rfl, R2⟩ | ⟨hx2, hj, p, rfl, q0, q1⟩
            ·have HQ2 : Hid _ := hm2.row (k := w.heap.size + 1) (by omega) HQ1.out
             have HZ2 : Hid _ := hm2.row (k := w.heap.size) (by omega) HZ1.out
             have HP2 : Hid (∀ r, Run C.l (.call (.eqs []) (j0 + 1) d fun qs i' => expA C.l i' tTel fun i'' => retA [.mk (tkx C.l (i + 1)) 0 b0 [lst ins, lst outs, lst owns, lst qs]] i'') r → Parse C.l .node i d r) := fun r hr => HP1.out r (Run.exp hx2 hr)
             have St2 : Stays (fun k => w.heap.size + 1 < k) (fun k => w.heap.size + 1 < k ∧ (Value.slice none 0 0).ownBlock ≠ some k) wc w2 := Stays.mv hm2 (fun k hk => ⟨by omega, hk, by simp [Value.ownBlock]⟩)
             have HRI2 : Hid (RowAt w2 (fun k => w.heap.size + 1 < k ∧ (Value.slice none 0 0).ownBlock ≠ some k) 2 (.slice io ins.length ic) ins.length (varCells ins)) := HRI1.out.keep St2
             have HRO2 : Hid (RowAt w2 (fun k => w.heap.size + 1 < k ∧ (Value.slice none 0 0).ownBlock ≠ some k) 2 (.slice oo outs.length oc) outs.length (varCells outs)) := HRO1.out.keep St2
             have HRW2 : Hid (RowAt w2 (fun k => w.heap.size + 1 < k ∧ (Value.slice none 0 0).ownBlock ≠ some k) 2 (.slice wo owns.length wcap) owns.length (varCells owns)) := HRW1.out.keep St2
             clear St2
             go_wp2
             go_loopw [] (fun wr => ∃ (qs : List Ex) (cells : List Value) (j : Nat) (qo : Option Addr) (qc : Nat), Rd C j d wr ∧ Hid (wr.heap[w.heap.size + 1]? = some (.cells #[.string (tkx C.l (i + 1)), .slice io ins.length ic, .slice oo outs.length oc, .slice wo owns.length wcap, .slice qo qs.length qc] 70 (0, 0))) ∧ Hid (wr.heap[w.heap.size]? = some zNode) ∧ Hid (wr.ownsRow (w.heap.size + 2) 107 6 (.slice qo qs.length qc) qs.length cells) ∧ EqIn wr (fun k => w.heap.size + 1 < k ∧ (Value.slice qo qs.length qc).ownBlock ≠ some k) qs cells ∧ Hid (RowAt wr (fun k => w.heap.size + 1 < k ∧ (Value.slice qo qs.length qc).ownBlock ≠ some k) 2 (.slice io ins.length ic) ins.length (varCells ins)) ∧ Hid (RowAt wr (fun k => w.heap.size + 1 < k ∧ (Value.slice qo qs.length qc).ownBlock ≠ some k) 2 (.slice oo outs.length oc) outs.length (varCells outs)) ∧ Hid (RowAt wr (fun k => w.heap.size + 1 < k ∧ (Value.slice qo qs.length qc).ownBlock ≠ some k) 2 (.slice wo owns.length wcap) owns.length (varCells owns)) ∧ Mv C.b w wr ∧ i < j ∧ qs.length ≤ j ∧ Hid (∀ k r, Run C.l (.call (.eqs qs) j d k) r → Run C.l (.call (.eqs []) (j0 + 1) d k) r)) (fun wr => C.l.length - posOf wr C.b)
             case atStart => exact ⟨[], [], j0 + 1, none, 0, R2, HQ2, HZ2, World.ownsRow_nil _ _ _ _, .nil, HRI2, HRO2, HRW2, hM2, by omega, by simp, fun k r hr => hr⟩
             case round =>
              clear HQ2 HZ2 HRI2 HRO2 HRW2 R2 HQ1 HZ1 HRI1 HRO1 HRW1 R1 hM2 hM1 hm2 hx2 HP1
              obtain ⟨qs, cells, j, qo, qc, Rr, HQr, HZr, HOr, hin, HRIr, HROr, HRWr, hmr, hijr, hle, HPr⟩ := hrel
              have hjl := Rr.lt
              have hlen := Rr.len
              have hsr := hmr.size
              have hqrs : w.heap.size + 1 < wr.heap.size := (Array.getElem?_eq_some_iff.1 HQr.out).1
              obtain ⟨i0, hi0, hz0, hz1, hz2⟩ := info_parts Tryz.infoEq
              by_cases g : txs C.l j [tTel] = true
              ·have gt : tx C.l j tTel = true := by rw [← txs_one]; exact g
               go_wp2_with fail
               refine (is_new C j d _ Rr [tTel] _ 1 rfl rfl (by decide)).mono ?_
               rintro e w3 ⟨rfl, hb3⟩
               have hs3 := hb3.size
               go_wp2_with fail
               refine (expect_any C j d _ (Rr.below hb3) T tTel (by decide)).mono ?_
               rintro e w4 ⟨hm4, h4⟩
               have hs4 := hm4.size
               rcases h4 with ⟨_, rfl, R4⟩ | ⟨hx4, _⟩
               ·have hmm : Mv C.b wr w4 := (Mv.of_below hb3).trans hm4
                obtain ⟨y0, y1, y2, y3, y4, yf⟩ := blk5 (hmm.row (by omega) HQr.out)
                obtain ⟨z0, z1, z2, z3, z4, zf⟩ := blk5 (hmm.row (k := w.heap.size) (by omega) HZr.out)
                have hB : Below w.heap.size w4 (setL w4 w.heap.size 0 [.string (tkx C.l (i + 1)), .slice io ins.length ic, .slice oo outs.length oc, .slice wo owns.length wcap, .slice qo qs.length qc]) := setL_below (Nat.le_refl _) _ _ _
                have St : Stays (fun k => w.heap.size + 1 < k ∧ (Value.slice qo qs.length qc).ownBlock ≠ some k) (From w.heap.size) wr (setL w4 w.heap.size 0 [.string (tkx C.l (i + 1)), .slice io ins.length ic, .slice oo outs.length oc, .slice wo owns.length wcap, .slice qo qs.length qc]) := (Stays.mv (S' := fun k => w.heap.size + 1 < k) hmm (fun k hk => ⟨by omega, hk.1⟩)).trans (setL_stays (fun k hk => by unfold From; omega) _ _ _) (by omega)
                have StQ : Stays (From (w.heap.size + 2)) (From w.heap.size) wr (setL w4 w.heap.size 0 [.string (tkx C.l (i + 1)), .slice io ins.length ic, .slice oo outs.length oc, .slice wo owns.length wcap, .slice qo qs.length qc]) := (Stays.mv (S' := fun k => w.heap.size + 1 < k) hmm (fun k hk => by unfold From at hk; omega)).trans (setL_stays (fun k hk => by unfold From; omega) _ _ _) (by omega)
                go_wp2
                exact bodyPost_ret (v := .agg #[.string (tkx C.l (i + 1)), .slice io ins.length ic, .slice oo outs.length oc, .slice wo owns.length wcap, .slice qo qs.length qc]) (by simp [results, Tryz.results82, go_sem, z0, z1, z2, z3, z4]) rfl ⟨(hmr.trans hmm).upon hB, Or.inl ⟨_, j + 1, _, HP2.out _ (HPr.out _ _ (Run.then (Run.ifT gt Run.done) (Run.exp gt Run.done))), rfl, ⟨_, rfl, rfl, .cons (tkx C.l (i + 1)) ins outs owns qs [] _ _ _ _ cells [] (HRIr.out.keep St) (HROr.out.keep St) (HRWr.out.keep St) ((RowAt.of_owns HOr.out).keep StQ) (hin.keep St) .nil⟩, R.upon R4 hB, by omega⟩⟩
               ·rw [gt] at hx4; cases hx4
              ·have g' : txs C.l j [tTel] = false := by simpa using g
               clear g
               have gt : tx C.l j tTel = false := by rw [← txs_one]; exact g'
               by_cases hok : ∃ es k, Parse C.l .eq j d (.ok es k)
               ·obtain ⟨es, k, hp⟩ := hok
                go_wp2_with fail
                refine (is_new C j d _ Rr [tTel] _ 1 rfl rfl (by decide)).mono ?_
                rintro e w3 ⟨rfl, hb3⟩
                have hs3 := hb3.size
                have R3 := Rr.below hb3
                obtain ⟨y0, y1, y2, y3, y4, yf⟩ := blk5 (row_keep hb3 HQr.out)
                have R3' : Rd C j d w3.drew := R3.below (Below.refl _ _).drew
                have hn63 : qs.length + 1 ≤ maxLen := by unfold maxLen; omega
                have hby : (qs.length + 1) * 104 ≤ 140737488355328 := by omega
                go_wp2_with fail
                go_region_law (first
                 | (refine step_append_lies _ rfl (.tmp 44) (.tmp 47) 68 rfl (w.heap.size + 2) 107 i0 _ 6 104 Tryz.underlying68 hi0 hz0 hz1 hz2 rfl (by omega) (.slice qo qs.length qc) qs.length cells (by simp [Act.eval]) HO4.out ⟨w4.heap.size, 0, none⟩ 1 1 [.string kind, .slice no ns.length nc, .string op, .int .i64 x, .string s, .slice so l.length sc] (by simp [Act.eval]) rfl HN'.out (by simp [Value.oneCell']) (by omega) hn63 hby (by rw [World.size_alloc]; exact hbz) (w4.heap.size + 1) (by simp) ?_; intro g cap w5 hown5 hgrow hat hlt5; have hq5 := (hgrow.block (w.heap.size + 1) (by rw [World.size_alloc]; omega) (fun e => by have := (hrw.out _ e.symm).1; omega)).trans (alloc_row (.cells #[.string kind, .slice no ns.length nc, .string op, .int .i64 x, .string s, .slice so l.length sc] 107) (hmm.row (k := w.heap.size + 1) (by omega) HQr.out)); obtain ⟨t0, t1, t2, t3, t4, tf⟩ := blk5 hq5; have HQ5 : Hid _ := hq5; clear hq5)
                 | (refine step_call rfl 114 #[.pointer (some ⟨C.b, 0, none⟩)] (by kernel_rfl) ?_; refine (equation_ok C j d _ T ?_ es k hp).mono ?_; exact R3'; rintro e w4 ⟨hm4, v, rfl, hv, R4, hjk⟩; obtain ⟨kind, ns, op, x, s, l, no, nc, so, sc, ys, rfl, rfl, hrowN, hrow, hinE⟩ := hv.one; have hs4 : w3.heap.size ≤ w4.heap.size := hm4.size; have hbz : w.heap.size + 2 ≤ w4.heap.size + 1 := (by omega); have hlt4 : w.heap.size + 1 < w4.heap.size := (by omega); have hne4 : w.heap.size + 1 ≠ w4.heap.size := (by omega); have hmm : Mv C.b wr w4 := (Mv.of_below (hb3.drew)).trans hm4; have hrw : Hid (∀ k, (Value.slice qo qs.length qc).ownBlock = some k → w.heap.size + 2 ≤ k ∧ k < wr.heap.size) := fun k hk => ownsRow_block HOr.out hk; obtain ⟨v0, v1, v2, v3, v4, vf⟩ := blk5 (hmm.row (k := w.heap.size + 1) (by omega) HQr.out); have HO4 : Hid _ := (ownsRow_mv HOr.out hmm (by omega)).alloc (.cells #[.string kind, .slice no ns.length nc, .string op, .int .i64 x, .string s, .slice so l.length sc] 107); have HN' : Hid _ := World.news_of_block (heap_alloc_new w4 (.cells #[.string kind, .slice no ns.length nc, .string op, .int .i64 x, .string s, .slice so l.length sc] 107)); dsimp only))
                all_goals
                 have hB5 : Below w.heap.size w4 w5 := ((Below.refl _ _).alloc (by omega) _).grown hgrow (by simp; omega) (fun k hk => by have := (hrw.out k hk).1; omega)
                 have hBq : Below w.heap.size w4 (w5.setCell ⟨w.heap.size + 1, 4, none⟩ (.slice (some ⟨g, 0, none⟩) (qs.length + 1) cap)) := hB5.setCell (by simp) _
                 have hg2 : w.heap.size + 2 ≤ g := by
                  rcases hat with h | h
                  ·exact (hrw.out g h).1
                  ·omega
                 have St0 : Stays (fun k => w.heap.size + 1 < k ∧ (Value.slice qo qs.length qc).ownBlock ≠ some k) (fun k => w.heap.size + 1 < k ∧ (Value.slice (some ⟨g, 0, none⟩) (qs.length + 1) cap).ownBlock ≠ some k) wr (w5.setCell ⟨w.heap.size + 1, 4, none⟩ (.slice (some ⟨g, 0, none⟩) (qs.length + 1) cap)) := (grow_old (base := w.heap.size + 2) hmm (by omega) hgrow hat).trans (Stays.set (p := ⟨w.heap.size + 1, 4, none⟩) _ (fun k hk => ⟨by show k ≠ w.heap.size + 1; omega, hk⟩)) (by have := hB5.size; omega)
                 have St1 : Stays (From w3.heap.size) (fun k => w.heap.size + 1 < k ∧ (Value.slice (some ⟨g, 0, none⟩) (qs.length + 1) cap).ownBlock ≠ some k) w4 (w5.setCell ⟨w.heap.size + 1, 4, none⟩ (.slice (some ⟨g, 0, none⟩) (qs.length + 1) cap)) := (grow_new (base := w.heap.size + 2) (H := w3.heap.size) (by omega) (fun k hk => by have := (hrw.out k hk).2; omega) hgrow hat).trans (Stays.set (p := ⟨w.heap.size + 1, 4, none⟩) _ (fun k hk => ⟨by show k ≠ w.heap.size + 1; omega, hk⟩)) hB5.size
                 have HQ6 : Hid ((w5.setCell ⟨w.heap.size + 1, 4, none⟩ (.slice (some ⟨g, 0, none⟩) (qs.length + 1) cap)).heap[w.heap.size + 1]? = some (.cells #[.string (tkx C.l (i + 1)), .slice io ins.length ic, .slice oo outs.length oc, .slice wo owns.length wcap, .slice (some ⟨g, 0, none⟩) (qs.length + 1) cap] 70 (0, 0))) := set_row HQ5.out
                 have HZ6 : Hid ((w5.setCell ⟨w.heap.size + 1, 4, none⟩ (.slice (some ⟨g, 0, none⟩) (qs.length + 1) cap)).heap[w.heap.size]? = some zNode) := (Below.heap_setCell w5 ⟨w.heap.size + 1, 4, none⟩ (.slice (some ⟨g, 0, none⟩) (qs.length + 1) cap) w.heap.size (by simp)).trans ((hgrow.block w.heap.size (by rw [World.size_alloc]; omega) (fun e => by have := (hrw.out _ e.symm).1; omega)).trans (alloc_row _ (hmm.row (k := w.heap.size) (by omega) HZr.out)))
                 have HO6 : Hid ((w5.setCell ⟨w.heap.size + 1, 4, none⟩ (.slice (some ⟨g, 0, none⟩) (qs.length + 1) cap)).ownsRow (w.heap.size + 2) 107 6 (.slice (some ⟨g, 0, none⟩) (qs.length + 1) cap) (qs.length + 1) (cells ++ [.string kind, .slice no ns.length nc, .string op, .int .i64 x, .string s, .slice so l.length sc])) := ownsRow_mv (ba := w.heap.size + 1) hown5 (Mv.setAt (w.heap.size + 1) 4 w5 _) (by omega)
                 have R6 := R.upon R4 hBq
                 have hM6 := (hmr.trans hmm).upon hBq
                 have hE6 := (hin.keep St0).append (.cons kind ns (.mk op x s l) [] _ [.string op, .int .i64 x, .string s, .slice so l.length sc] [] (hrowN.keep St1) (.cons op x s l [] _ ys [] (hrow.keep St1) (hinE.keep St1) .nil) .nil)
                 have HI6 : Hid _ := HRIr.out.keep St0
                 have HOo6 : Hid _ := HROr.out.keep St0
                 have HW6 : Hid _ := HRWr.out.keep St0
                 clear St0 St1 hgrow hown5 hB5 hBq v0 v1 v2 v3 v4 vf t0 t1 t2 t3 t4 tf y0 y1 y2 y3 y4 yf
                 go_wp2
                 have e1 := Rr.pos
                 have e2 := R6.pos
                 have l2 := R6.lt
                 refine ⟨⟨qs ++ [.mk kind 0 b0 [lst ns, .mk op x s l]], cells ++ [.string kind, .slice no ns.length nc, .string op, .int .i64 x, .string s, .slice so l.length sc], k, some ⟨g, 0, none⟩, cap, R6, ?_, HZ6, ?_, ?_, ?_, ?_, ?_, hM6, by omega, by simp; omega, fun k' r hr => ?_⟩, by omega⟩
                 ·rw [List.length_append]; exact HQ6
                 ·rw [List.length_append]; exact HO6
                 ·rw [List.length_append]; exact hE6
                 ·rw [List.length_append]; exact HI6
                 ·rw [List.length_append]; exact HOo6
                 ·rw [List.length_append]; exact HW6
                 ·exact HPr.out k' r (by
                   cases hr with
                   | ok _ _ _ _ e j _ h1 h2 => exact Run.then (Run.ifF gt (Run.then hp (Run.tail h1))) h2
                   | bad _ _ _ _ j b h1 => exact Run.stop (Run.ifF gt (Run.then hp (Run.tail h1))))
               ·go_wp2_with fail
                refine (is_new C j d _ Rr [tTel] _ 1 rfl rfl (by decide)).mono ?_
                rintro e w3 ⟨rfl, hb3⟩
                have hs3 := hb3.size
                have R3 := Rr.below hb3
                have R3' : Rd C j d w3.drew := R3.below (Below.refl _ _).drew
                obtain ⟨y0, y1, y2, y3, y4, yf⟩ := blk5 (row_keep hb3 HQr.out)
                go_wp2_with fail
                refine wp_region_any (by kernel_rfl) ?_
                change wpAny _ _ _ _ _ _ _ (World.drew _)
                refine wpAny_take (i := 0) (v := ?_) rfl (by kernel_rfl) (by kernel_rfl) (by kernel_rfl) (fun _ _ _ h => h) (Or.inl ⟨by rfl, ?_⟩) ?_
                rotate_left
                ·intro w
                 go_simp
                 with_reducible rfl
                refine wpAny_take (i := 2) (v := ?_) rfl (by kernel_rfl) (by kernel_rfl) (by kernel_rfl) (fun _ _ _ h => h) (Or.inl ⟨by rfl, ?_⟩) ?_
                rotate_left
                ·intro w
                 go_simp
                 with_reducible rfl
                refine wpAny_ready (rs := [1, 3]) (by kernel_rfl) (by simp) ?_
                refine AllReady.cons rfl (fun K hK => ?_) ?_
                ·go_simp
                 refine hK _ _ ?_
                 clear hK K
                 refine wpAny_ready (rs := [3]) (by kernel_rfl) (by simp) ?_
                 refine AllReady.cons rfl (fun K hK => ?_) AllReady.nil
                 refine step_call rfl 114 #[.pointer (some ⟨C.b, 0, none⟩)] (by kernel_rfl) ?_
                 refine (equation_bad C j d _ T R3' hok).mono ?_
                 rintro e w4 ⟨hm4, k, bd, hp, hjk, p, rfl, q0, q1⟩
                 exact ⟨rfl, hmr.trans ((Mv.of_below (hb3.drew)).trans hm4), Or.inr ⟨k, bd, HP2.out _ (HPr.out _ _ (Run.stop (Run.ifF gt (Run.stop hp)))), hjk, p, rfl, q0, q1⟩⟩
                ·refine AllReady.cons rfl (fun K hK => ?_) AllReady.nil
                 refine step_call rfl 114 #[.pointer (some ⟨C.b, 0, none⟩)] (by kernel_rfl) ?_
                 refine (equation_bad C j d _ T R3' hok).mono ?_
                 rintro e w4 ⟨hm4, k, bd, hp, hjk, p, rfl, q0, q1⟩
                 exact ⟨rfl, hmr.trans ((Mv.of_below (hb3.drew)).trans hm4), Or.inr ⟨k, bd, HP2.out _ (HPr.out _ _ (Run.stop (Run.ifF gt (Run.stop hp)))), hjk, p, rfl, q0, q1⟩⟩
            ·go_wp2
             exact ⟨rfl, hM2, Or.inr ⟨j0, false, HP1.out _ (Run.unexp hx2), hj, p, rfl, q0, q1⟩⟩
          ·go_wp2
           exact ⟨rfl, hM11, Or.inr ⟨k + 1, false, HP5.out _ (Run.body (Run.exp hx6 (Run.exp hx7 (Run.exp hx8 (hV _ _ (Run.exp hx10 (Run.unexp hx11))))))), hj, p, rfl, q0, q1⟩⟩
         ·go_wp2
          exact ⟨rfl, hM10, Or.inr ⟨k, false, HP5.out _ (Run.body (Run.exp hx6 (Run.exp hx7 (Run.exp hx8 (hV _ _ (Run.unexp hx10)))))), hj, p, rfl, q0, q1⟩⟩
        ·go_wp2
         exact ⟨rfl, hM9, Or.inr ⟨k, bd, HP5.out _ (Run.body (Run.exp hx6 (Run.exp hx7 (Run.exp hx8 (hV _))))), hj, p, rfl, q0, q1⟩⟩
       ·go_wp2
        exact ⟨rfl, hM8, Or.inr ⟨j + 1 + 1, false, HP5.out _ (Run.body (Run.exp hx6 (Run.exp hx7 (Run.unexp hx8)))), hj, p, rfl, q0, q1⟩⟩
      ·go_wp2
       exact ⟨rfl, hM7, Or.inr ⟨j + 1, false, HP5.out _ (Run.body (Run.exp hx6 (Run.unexp hx7))), hj, p, rfl, q0, q1⟩⟩
     ·go_wp2
      exact ⟨rfl, hM6, Or.inr ⟨j, false, HP5.out _ (Run.body (Run.unexp hx6)), hj, p, rfl, q0, q1⟩⟩
   ·go_wp2
    exact ⟨rfl, hM3, Or.inr ⟨i + 1 + 1, false, Parse.mkNode (Run.exp hx1 (Run.nam hx2 (Run.unexp hx3))), hj, p, rfl, q0, q1⟩⟩
  ·go_wp2
   exact ⟨rfl, hM2, Or.inr ⟨i + 1, false, Parse.mkNode (Run.exp hx1 (Run.unnam hx2)), hj, p, rfl, q0, q1⟩⟩
 ·go_wp2
  exact ⟨rfl, hM1, Or.inr ⟨i, false, Parse.mkNode (Run.unexp hx1), hj, p, rfl, q0, q1⟩⟩
end Go.Proofs.YtgbpccipdcajgaaGreatDoor
