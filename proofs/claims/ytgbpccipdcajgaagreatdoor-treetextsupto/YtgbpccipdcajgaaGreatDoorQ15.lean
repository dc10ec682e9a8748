/-
  package tree's READER OF PROGRAMS: program BY ITS CONTRACT.
-/
import Derived.Test.YtgbpccipdcajgaaGreatDoorQ13
import Derived.Deep.QuietTactic
import Derived.BigQuiet
import Derived.WalkSmall
import Derived.Test.YtgbpccipdcajgaaGreatDoorQ14
import Derived.Test.YtgbpccipdcajgaaGreatDoorQ06
namespace Go.Proofs.YtgbpccipdcajgaaGreatDoor
open Go.RowKit
attribute [local go_sem ↓] Go.wp_at_zero Go.wp_at_succ
theorem NdV.one {base : Nat} {w : World} {es : List Ex} {v : Value} (h : NdV base w es v) : ∃ name ins outs owns qs o1 c1 o2 c2 o3 c3 o4 c4 xs, es = [.mk name 0 b0 [lst ins, lst outs, lst owns, lst qs]] ∧ v = .agg #[.string name, .slice o1 ins.length c1, .slice o2 outs.length c2, .slice o3 owns.length c3, .slice o4 qs.length c4] ∧ RowAt w (From base) 2 (.slice o1 ins.length c1) ins.length (varCells ins) ∧ RowAt w (From base) 2 (.slice o2 outs.length c2) outs.length (varCells outs) ∧ RowAt w (From base) 2 (.slice o3 owns.length c3) owns.length (varCells owns) ∧ RowAt w (From base) 6 (.slice o4 qs.length c4) qs.length xs ∧ EqIn w (From base) qs xs := by
 obtain ⟨xs, rfl, hl, h⟩ := h
 generalize hx : xs.toList = zs at h
 cases h with
 | nil => simp at hl
 | cons name ins outs owns qs es v1 v2 v3 v4 xs' ys' h1 h2 h3 h4 h5 h6 =>
  simp only [List.length_cons] at hl
  obtain rfl : es = [] := List.eq_nil_of_length_eq_zero (by omega)
  cases h6
  obtain ⟨o1, c1, rfl⟩ := h1.form
  obtain ⟨o2, c2, rfl⟩ := h2.form
  obtain ⟨o3, c3, rfl⟩ := h3.form
  obtain ⟨o4, c4, rfl⟩ := h4.form
  refine ⟨name, ins, outs, owns, qs, o1, c1, o2, c2, o3, c3, o4, c4, xs', rfl, ?_, h1, h2, h3, h4, h5⟩
  congr 1
  apply Array.ext'
  rw [hx]
theorem Tryz.infoNode : (Tryz.prog.info? 70).map (fun i => (i.zero, i.size, i.bytes)) = some (some (.agg #[.string ⟨#[]⟩, .slice none 0 0, .slice none 0 0, .slice none 0 0, .slice none 0 0]), 5, 112) := by kernel_rfl
def NodesV (base : Nat) (w' : World) (es : List Ex) (v : Value) : Prop := ∃ ys, RowAt w' (From base) 5 v es.length ys ∧ NdIn w' (From base) es ys
set_option maxRecDepth 100000 in
set_option maxHeartbeats 2000000 in
theorem program_any (C : Rc) (i d : Nat) (w : World) (T : Tkl C.l) (R : Rd C i d w) :
  Calls Tryz.prog 29 #[.pointer (some ⟨C.b, 0, none⟩)] w fun e w' => Mv C.b w w' ∧ ((∃ es j v, Parse C.l (.nodes []) i d (.ok es j) ∧ e = .returned v ∧ NodesV w.heap.size w' es v) ∨ (∃ j bd, Parse C.l (.nodes []) i d (.bad j bd) ∧ Threw C j bd e w')) := by
 obtain ⟨i0, hi0, hz0, hz1, hz2⟩ := info_parts Tryz.infoNode
 have hlt := R.lt
 have hbl := R.blt
 have hfd := fldK
 go_enter Tryz.func29, Tryz.ntmps29
 go_wp2
 go_loopw [3] (fun v wr => ∃ (es : List Ex) (cells : List Value) (j : Nat) (so : Option Addr) (sc : Nat), v = .slice so es.length sc ∧ Hid (wr.ownsRow w.heap.size 70 5 v es.length cells) ∧ NdIn wr (fun k => w.heap.size ≤ k ∧ v.ownBlock ≠ some k) es cells ∧ Rd C j d wr ∧ Mv C.b w wr ∧ es.length ≤ j ∧ Hid (∀ r, Parse C.l (.nodes es) j d r → Parse C.l (.nodes []) i d r)) (fun _ wr => C.l.length - posOf wr C.b)
 case atStart => exact ⟨[], [], i, none, 0, rfl, World.ownsRow_nil _ _ _ _, .nil, R, Mv.refl _ _, by simp, fun r h => h⟩
 case round =>
  obtain ⟨es, cells, j, so, sc, rfl, HO, hin, Rr, hmr, hle, HP⟩ := hrel
  have hjl := Rr.lt
  have hlen := Rr.len
  have hsr := hmr.size
  by_cases g1 : isEnd C.l j = true
  ·have g1' : ((tkk C.l j).toList == [101, 110, 100]) = true := g1
   go_wp2_with fail
   refine (tnext_any C j d _ Rr).mono ?_
   rintro e w2 ⟨rfl, hb2⟩
   go_wp2
   go_ret
   exact ⟨hmr.trans (Mv.of_below hb2), Or.inl ⟨es, j, _, HP.out _ (Run.ifT g1 Run.done), rfl, ⟨cells, (RowAt.of_owns HO.out).keep (Stays.below hb2 (fun k hk => hk)), hin.keep (Stays.below hb2 (fun k hk => hk.1))⟩⟩⟩
  ·have g1' : isEnd C.l j = false := by simpa using g1
   have g1'' : ((tkk C.l j).toList == [101, 110, 100]) = false := g1'
   clear g1
   by_cases g2 : txs C.l j [tNode] = true ∧ es.length = 12
   ·obtain ⟨g2, g3⟩ := g2
    have gt : tx C.l j tNode = true := by rw [← txs_one]; exact g2
    have HG : Hid (es.length = 12) := g3
    have g3' : ((es.length : Int) == 12) = true := by simp; omega
    clear g3
    go_wp2_with fail
    refine (tnext_any C j d _ Rr).mono ?_
    rintro e w2 ⟨rfl, hb2⟩
    have R2 := Rr.below hb2
    go_wp2_with fail
    refine (is_new C j d _ R2 [tNode] _ 1 rfl rfl (by decide)).mono ?_
    rintro e w3 ⟨rfl, hb3⟩
    have R3 := R2.below hb3
    have hB3 := R3.hB
    go_wp2_with fail
    refine (fail_any C j d _ R3 _ true rfl).mono ?_
    rintro e w4 ⟨⟨hj, p, rfl, q0, q1⟩, hb4⟩
    go_wp2
    exact ⟨rfl, ((hmr.trans (Mv.of_below hb2)).trans (Mv.of_below hb3)).trans (Mv.of_below hb4), Or.inr ⟨j, true, HP.out _ (Run.ifF g1' (Run.ifT (by rw [gt, HG.out]; rfl) (.ret _))), hj, p, rfl, q0, q1⟩⟩
   ·have g2' : (tx C.l j tNode && es.length == 12) = false := by
     rw [← txs_one]
     cases h : txs C.l j [tNode] with
     | false => rfl
     | true => simpa using fun e => g2 ⟨h, e⟩
    have HG : Hid ((tx C.l j tNode && es.length == 12) = false) := g2'
    have hor : txs C.l j [tNode] = false ∨ (txs C.l j [tNode] = true ∧ ((es.length : Int) == 12) = false) := by
     cases h : txs C.l j [tNode] with
     | false => exact Or.inl rfl
     | true => exact Or.inr ⟨rfl, by simp; exact fun e => g2 ⟨h, by omega⟩⟩
    clear g2 g2'
    go_wp2_with fail
    refine (tnext_any C j d _ Rr).mono ?_
    rintro e w2 ⟨rfl, hb2⟩
    have R2 := Rr.below hb2
    have hs2 := hb2.size
    rcases hor with hor | ⟨hor, hor2⟩
    all_goals
     go_wp2_with fail
     refine (is_new C j d _ R2 [tNode] _ 1 rfl rfl (by decide)).mono ?_
     rintro e w3 ⟨rfl, hb3⟩
     have R3 := R2.below hb3
     have hs3 := hb3.size
     go_wp2_with fail
     refine (node_any C j d _ T R3).mono ?_
     rintro e w4 ⟨hm4, h4⟩
     have hs4 := hm4.size
     have hmm : Mv C.b wr w4 := ((Mv.of_below hb2).trans (Mv.of_below hb3)).trans hm4
     rcases h4 with ⟨es', j', v, hp', rfl, hv, R4, hij'⟩ | ⟨j', bd, hp', hj', p, rfl, q0, q1⟩
     ·obtain ⟨name, ins, outs, owns, qs, o1, c1, o2, c2, o3, c3, o4, c4, xs, rfl, rfl, r1, r2, r3, r4, r5⟩ := hv.one
      have hown4 := ownsRow_mv HO.out hmm (by omega)
      have hnb := heap_alloc_new w4 (.cells #[.string name, .slice o1 ins.length c1, .slice o2 outs.length c2, .slice o3 owns.length c3, .slice o4 qs.length c4] 70)
      have HN' : Hid _ := World.news_of_block hnb
      have HO4 : Hid _ := hown4.alloc (.cells #[.string name, .slice o1 ins.length c1, .slice o2 outs.length c2, .slice o3 owns.length c3, .slice o4 qs.length c4] 70)
      have hn63 : es.length + 1 ≤ maxLen := by unfold maxLen; omega
      have hby : (es.length + 1) * 112 ≤ 140737488355328 := by omega
      have hrw : ∀ k, (Value.slice so es.length sc).ownBlock = some k → w.heap.size ≤ k ∧ k < wr.heap.size := fun k hk => ownsRow_block HO.out hk
      have HRW : Hid _ := hrw
      clear hown4 hnb hrw
      go_wp2_with (at_builtin; refine wpList_append_lies _ rfl _ _ _ rfl w.heap.size 70 i0 _ 5 112 Tryz.underlying39 hi0 hz0 hz1 hz2 rfl (by omega) _ es.length cells rfl HO4.out ⟨w4.heap.size, 0, none⟩ 1 1 [.string name, .slice o1 ins.length c1, .slice o2 outs.length c2, .slice o3 owns.length c3, .slice o4 qs.length c4] rfl rfl HN'.out (by simp [Value.oneCell']) (by omega) hn63 hby (by simp; omega) (w4.heap.size + 1) (by simp) ?_; intro g cap w5 hown5 hgrow hat hlt5)
      have hB : Below w.heap.size w4 w5 := ((Below.refl _ _).alloc (by omega) _).grown hgrow (by simp; omega) (fun k hk => (HRW.out k hk).1)
      have St0 := grow_old (n := es.length + 1) (cap := cap) hmm hbl hgrow hat
      have St1 := grow_new (base := w.heap.size) (n := es.length + 1) (cap := cap) (H := w3.heap.size) (by omega) (fun k hk => by have := (HRW.out k hk).2; omega) hgrow hat
      have R5 := R.upon R4 hB
      have e1 := Rr.pos
      have e2 := R5.pos
      have l2 := R4.lt
      refine ⟨⟨es ++ [.mk name 0 b0 [lst ins, lst outs, lst owns, lst qs]], cells ++ [.string name, .slice o1 ins.length c1, .slice o2 outs.length c2, .slice o3 owns.length c3, .slice o4 qs.length c4], j', some ⟨g, 0, none⟩, cap, by rw [List.length_append]; rfl, ?_, (hin.keep St0).append (.cons name ins outs owns qs [] _ _ _ _ xs [] (r1.keep St1) (r2.keep St1) (r3.keep St1) (r4.keep St1) (r5.keep St1) .nil), R5, (hmr.trans hmm).upon hB, by simp; omega, fun r hr => HP.out _ (Run.ifF g1' (Run.ifF HG.out (Run.then hp' (Run.tail hr))))⟩, by omega⟩
      rw [List.length_append]; exact hown5
     ·go_wp2
      exact ⟨rfl, hmr.trans hmm, Or.inr ⟨j', bd, HP.out _ (Run.ifF g1' (Run.ifF HG.out (Run.stop hp'))), hj', p, rfl, q0, q1⟩⟩
theorem row_get {w : World} {S : Nat → Prop} {size n m : Nat} {o : Option Addr} {c : Nat} {xs : List Value} (h : RowAt w S size (.slice o m c) n xs) (hn : 0 < xs.length) : ∃ b off, o = some ⟨b, off, none⟩ ∧ b < w.heap.size ∧ ∀ k x, xs[k]? = some x → w.cell? ⟨b, off + k, none⟩ = some x := by
 obtain ⟨b, off, c', e, hb, hl, hc⟩ := h.at hn
 injection e with e
 exact ⟨b, off, e, hl, hc⟩
theorem RowAt.len {w : World} {S : Nat → Prop} {size n : Nat} {v : Value} {xs : List Value} (h : RowAt w S size v n xs) : n ≤ maxLen := h.2.1
theorem nameCells_at {ns : List Ex} {i : Nat} (hi : i < ns.length) : (nameCells ns)[i]? = some (.string ns[i].op) := by
 simp [nameCells, hi]
theorem varCells_at : ∀ {vs : List Ex} {i : Nat} (hi : i < vs.length), (varCells vs)[i * 2]? = some (.string vs[i].op) ∧ (varCells vs)[i * 2 + 1]? = some (.int .i64 vs[i].n)
 | [], i, hi => by simp at hi
 | v :: vs, 0, _ => ⟨rfl, rfl⟩
 | v :: vs, i + 1, hi => by
  have := varCells_at (vs := vs) (i := i) (by simpa using hi)
  have e : varCells (v :: vs) = .string v.op :: .int .i64 v.n :: varCells vs := rfl
  rw [e, show (i + 1) * 2 = i * 2 + 1 + 1 from by omega, List.getElem?_cons_succ, List.getElem?_cons_succ, List.getElem?_cons_succ, List.getElem?_cons_succ]
  exact this
theorem varCells_length : ∀ (vs : List Ex), (varCells vs).length = vs.length * 2
 | [] => rfl
 | v :: vs => by have := varCells_length vs; simp only [varCells, List.flatMap_cons, List.length_append, List.length_cons, List.length_nil] at this ⊢; omega
theorem nameCells_length (ns : List Ex) : (nameCells ns).length = ns.length := by simp [nameCells]
theorem ExIn.at {w : World} {S : Nat → Prop} {l : List Ex} {xs : List Value} (h : ExIn w S l xs) : ∀ {i : Nat} (hi : i < l.length), ∃ op n s es o c ys, l[i] = .mk op n s es ∧ xs[i * 4]? = some (.string op) ∧ xs[i * 4 + 1]? = some (.int .i64 n) ∧ xs[i * 4 + 2]? = some (.string s) ∧ xs[i * 4 + 3]? = some (.slice o es.length c) ∧ RowAt w S 4 (.slice o es.length c) es.length ys ∧ ExIn w S es ys := by
 induction h with
 | nil => intro i hi; simp at hi
 | cons op n s l es lv xs ys h1 h2 h3 _ ih =>
  intro i hi
  cases i with
  | zero =>
   obtain ⟨o, c, rfl⟩ := h1.form
   exact ⟨op, n, s, l, o, c, xs, rfl, rfl, rfl, rfl, rfl, h1, h2⟩
  | succ i =>
   obtain ⟨op', n', s', l', o, c, zs, e, a0, a1, a2, a3, a4, a5⟩ := ih (i := i) (by simpa using hi)
   refine ⟨op', n', s', l', o, c, zs, by simpa using e, ?_, ?_, ?_, ?_, a4, a5⟩
   ·rw [show (i + 1) * 4 = i * 4 + 1 + 1 + 1 + 1 from by omega]; simpa using a0
   ·rw [show (i + 1) * 4 + 1 = i * 4 + 1 + 1 + 1 + 1 + 1 from by omega]; simpa using a1
   ·rw [show (i + 1) * 4 + 2 = i * 4 + 2 + 1 + 1 + 1 + 1 from by omega]; simpa using a2
   ·rw [show (i + 1) * 4 + 3 = i * 4 + 3 + 1 + 1 + 1 + 1 from by omega]; simpa using a3
theorem EqIn.at {w : World} {S : Nat → Prop} {l : List Ex} {xs : List Value} (h : EqIn w S l xs) : ∀ {i : Nat} (hi : i < l.length), ∃ kind ns no nc op n s es o c ys, l[i] = .mk kind 0 b0 [lst ns, .mk op n s es] ∧ xs[i * 6]? = some (.string kind) ∧ xs[i * 6 + 1]? = some (.slice no ns.length nc) ∧ xs[i * 6 + 2]? = some (.string op) ∧ xs[i * 6 + 3]? = some (.int .i64 n) ∧ xs[i * 6 + 4]? = some (.string s) ∧ xs[i * 6 + 5]? = some (.slice o es.length c) ∧ RowAt w S 1 (.slice no ns.length nc) ns.length (nameCells ns) ∧ RowAt w S 4 (.slice o es.length c) es.length ys ∧ ExIn w S es ys := by
 induction h with
 | nil => intro i hi; simp at hi
 | cons kind ns e es nv xs ys h1 h2 h3 ih =>
  intro i hi
  obtain ⟨op, n, s, l, o, c, zs, rfl, rfl, h4, h5⟩ := h2.one'
  cases i with
  | zero =>
   obtain ⟨no, nc, rfl⟩ := h1.form
   exact ⟨kind, ns, no, nc, op, n, s, l, o, c, zs, rfl, rfl, rfl, rfl, rfl, rfl, rfl, h1, h4, h5⟩
  | succ i =>
   obtain ⟨kind', ns', no, nc, op', n', s', l', o, c, zs, e, a0, a1, a2, a3, a4, a5, a6, a7, a8⟩ := ih (i := i) (by simpa using hi)
   refine ⟨kind', ns', no, nc, op', n', s', l', o, c, zs, by simpa using e, ?_, ?_, ?_, ?_, ?_, ?_, a6, a7, a8⟩
   ·rw [show (i + 1) * 6 = i * 6 + 1 + 1 + 1 + 1 + 1 + 1 from by omega]; simpa using a0
   ·rw [show (i + 1) * 6 + 1 = i * 6 + 1 + 1 + 1 + 1 + 1 + 1 + 1 from by omega]; simpa using a1
   ·rw [show (i + 1) * 6 + 2 = i * 6 + 2 + 1 + 1 + 1 + 1 + 1 + 1 from by omega]; simpa using a2
   ·rw [show (i + 1) * 6 + 3 = i * 6 + 3 + 1 + 1 + 1 + 1 + 1 + 1 from by omega]; simpa using a3
   ·rw [show (i + 1) * 6 + 4 = i * 6 + 4 + 1 + 1 + 1 + 1 + 1 + 1 from by omega]; simpa using a4
   ·rw [show (i + 1) * 6 + 5 = i * 6 + 5 + 1 + 1 + 1 + 1 + 1 + 1 from by omega]; simpa using a5
theorem NdIn.at {w : World} {S : Nat → Prop} {l : List Ex} {xs : List Value} (h : NdIn w S l xs) : ∀ {i : Nat} (hi : i < l.length), ∃ name ins outs owns qs o1 c1 o2 c2 o3 c3 o4 c4 ys, l[i] = .mk name 0 b0 [lst ins, lst outs, lst owns, lst qs] ∧ xs[i * 5]? = some (.string name) ∧ xs[i * 5 + 1]? = some (.slice o1 ins.length c1) ∧ xs[i * 5 + 2]? = some (.slice o2 outs.length c2) ∧ xs[i * 5 + 3]? = some (.slice o3 owns.length c3) ∧ xs[i * 5 + 4]? = some (.slice o4 qs.length c4) ∧ RowAt w S 2 (.slice o1 ins.length c1) ins.length (varCells ins) ∧ RowAt w S 2 (.slice o2 outs.length c2) outs.length (varCells outs) ∧ RowAt w S 2 (.slice o3 owns.length c3) owns.length (varCells owns) ∧ RowAt w S 6 (.slice o4 qs.length c4) qs.length ys ∧ EqIn w S qs ys := by
 induction h with
 | nil => intro i hi; simp at hi
 | cons name ins outs owns qs es v1 v2 v3 v4 xs ys h1 h2 h3 h4 h5 _ ih =>
  intro i hi
  cases i with
  | zero =>
   obtain ⟨o1, c1, rfl⟩ := h1.form
   obtain ⟨o2, c2, rfl⟩ := h2.form
   obtain ⟨o3, c3, rfl⟩ := h3.form
   obtain ⟨o4, c4, rfl⟩ := h4.form
   exact ⟨name, ins, outs, owns, qs, o1, c1, o2, c2, o3, c3, o4, c4, xs, rfl, rfl, rfl, rfl, rfl, rfl, h1, h2, h3, h4, h5⟩
  | succ i =>
   obtain ⟨name', ins', outs', owns', qs', o1, c1, o2, c2, o3, c3, o4, c4, zs, e, a0, a1, a2, a3, a4, b1, b2, b3, b4, b5⟩ := ih (i := i) (by simpa using hi)
   refine ⟨name', ins', outs', owns', qs', o1, c1, o2, c2, o3, c3, o4, c4, zs, by simpa using e, ?_, ?_, ?_, ?_, ?_, b1, b2, b3, b4, b5⟩
   ·rw [show (i + 1) * 5 = i * 5 + 1 + 1 + 1 + 1 + 1 from by omega]; simpa using a0
   ·rw [show (i + 1) * 5 + 1 = i * 5 + 1 + 1 + 1 + 1 + 1 + 1 from by omega]; simpa using a1
   ·rw [show (i + 1) * 5 + 2 = i * 5 + 2 + 1 + 1 + 1 + 1 + 1 from by omega]; simpa using a2
   ·rw [show (i + 1) * 5 + 3 = i * 5 + 3 + 1 + 1 + 1 + 1 + 1 from by omega]; simpa using a3
   ·rw [show (i + 1) * 5 + 4 = i * 5 + 4 + 1 + 1 + 1 + 1 + 1 from by omega]; simpa using a4
theorem WT.alloc {B b : Nat} {l : List UInt8} {d : Nat} {w : World} (h : WT B b l d w) (o : Obj) : WT B b l d (w.alloc o) := Wr.kept h o
theorem Kept.alloc (b : Nat) (w : World) (o : Obj) : Kept b w (w.alloc o) := (Lib.OthersKept.refl _ _ _).alloc o
def sBool : ByteArray := ⟨#[98, 111, 111, 108]⟩
def WThrew (pS : Addr) (e : Ending) : Prop := e = .panicked [{ v := .iface 143 (.agg #[.iface 235 (.pointer (some pS))]), recovered := false }]
def TabAt (w : World) : Prop := Lib.TabIs Tryz.prog w "internal/strconv.uint64pow10" .u64 Lib.pow10Tab
theorem Tryz.tabNamed : Tryz.prog.globalNamed "internal/strconv.uint64pow10" = some 13 := by kernel_rfl
theorem TabAt.keep {w w' : World} (h : TabAt w) (hb : w'.heap[13]? = w.heap[13]?) : TabAt w' := by
 unfold TabAt Lib.TabIs World.var? at h ⊢
 rw [Tryz.tabNamed] at h ⊢
 simp only [Option.bind_some] at h ⊢
 rw [hb]
 exact h
structure WSt (B b d : Nat) (pS : Addr) (w : World) : Prop where
 wt : ∃ l, WT B b l d w ∧ l.length ≤ 6000
 err : w.cell? ⟨0, 0, none⟩ = some (.iface 235 (.pointer (some pS)))
 low : 0 < B
 tab : TabAt w
 low2 : 13 < B
theorem WSt.lt {B b d : Nat} {pS : Addr} {w : World} (h : WSt B b d pS w) : b < w.heap.size := by obtain ⟨l, h, _⟩ := h.wt; exact h.lt
theorem WSt.le {B b d : Nat} {pS : Addr} {w : World} (h : WSt B b d pS w) : B ≤ b := by obtain ⟨l, h, _⟩ := h.wt; exact h.le
theorem WSt.alloc {B b d : Nat} {pS : Addr} {w : World} (h : WSt B b d pS w) (o : Obj) : WSt B b d pS (w.alloc o) := by
 have hl := h.lt
 have hB := h.le
 obtain ⟨⟨l, h1, h2⟩, h3, h4, h5, h6⟩ := h
 exact ⟨⟨l, h1.alloc _, h2⟩, cell_keep ((Below.refl _ _).alloc (Nat.le_refl _) _) h3, h4, h5.keep (((Below.refl _ _).alloc (Nat.le_refl w.heap.size) _).block _ (by omega)), h6⟩
theorem WSt.next {B b d e : Nat} {pS : Addr} {w w' : World} {l : List UInt8} (h : WSt B b d pS w) (hb : Below B w w') (h1 : WT B b l e w') (h2 : l.length ≤ 6000) : WSt B b e pS w' :=
 ⟨⟨l, h1, h2⟩, by rw [World.cell?_of_block (w := w) (hb.block _ h.low)]; exact h.err, h.low, h.tab.keep (hb.block _ h.low2), h.low2⟩
set_option maxRecDepth 100000 in
set_option maxHeartbeats 1000000 in
theorem wfail_any (b : Nat) (pS : Addr) (w : World) (h : w.cell? ⟨0, 0, none⟩ = some (.iface 235 (.pointer (some pS)))) :
  Calls Tryz.prog 141 #[.pointer (some ⟨b, 0, none⟩)] w fun e w' => WThrew pS e ∧ w' = w := by
 go_enter Tryz.func141, Tryz.ntmps141
 go_wp2
 exact ⟨rfl, rfl, rfl⟩
theorem below_cell {B : Nat} {w w' : World} (h : Below B w w') {p : Addr} {v : Value} (hp : p.block < B) (hc : w.cell? p = some v) : w'.cell? p = some v := by
 rw [World.cell?_of_block (w := w) (h.block p.block hp)]; exact hc
theorem kept_row {b k : Nat} {w w' : World} {o : Obj} (h : Kept b w w') (hr : w.heap[k]? = some o) (hk : k ≠ b) (ho : ∀ c fz, o ≠ .cells c 5 fz) : w'.heap[k]? = some o := h k o hr (fun e => hk (by injection e)) ho
def sTrue : ByteArray := ⟨#[116, 114, 117, 101]⟩
abbrev sNone : ByteArray := ⟨#[]⟩
theorem WT.deep {B b : Nat} {l : List UInt8} {d : Nat} {w : World} (h : WT B b l d w) : w.cell? ⟨b, 3, none⟩ = some (.int .i64 d) ∧ w.frozen? ⟨b, 3, none⟩ = false := by
 obtain ⟨p, _, _, v, hb, _⟩ := Wr.of h
 exact ⟨by simp [World.cell?, hb], by simp [World.frozen?, hb]⟩
theorem WT.set {B b : Nat} {l : List UInt8} {d : Nat} {w : World} (h : WT B b l d w) (e : Nat) {x : Int} (hx : x = (e : Int)) : WT B b l e (w.setCell ⟨b, 3, none⟩ (.int .i64 x)) := by
 subst hx
 have K : ∀ p, WrAt B b p (Lib.byteCells l) d w → WrAt B b p (Lib.byteCells l) e (w.setCell ⟨b, 3, none⟩ (.int .i64 e)) := fun p ⟨hB, v, hb, hown, hne⟩ =>
  ⟨hB, v, set_row hb, hown.kept (row := some b) ⟨rfl, rfl, rfl, by simp [World.setCell], fun k _ hk => Below.heap_setCell _ _ _ _ (fun e => hk (by simp [e]))⟩ (Or.inr hne), hne⟩
 rcases h with h | h
 ·exact Or.inl (K _ h)
 ·exact Or.inr (K _ h)
theorem WT.below {B b : Nat} {l : List UInt8} {d : Nat} {w w' : World} (h : WT B b l d w) (hb : Below w.heap.size w w') : WT B b l d w' := by
 have K : ∀ p, WrAt B b p (Lib.byteCells l) d w → WrAt B b p (Lib.byteCells l) d w' := fun p ⟨hB, v, hr, hown, hne⟩ =>
  ⟨hB, v, row_keep hb hr, hown.kept (row := none) ⟨hb.os, hb.tape, hb.output, hb.size, fun k hk _ => hb.block k hk⟩ (by cases h : v.ownBlock with | none => exact Or.inl rfl | some k => exact Or.inr (by simp)), hne⟩
 rcases h with h | h
 ·exact Or.inl (K _ h)
 ·exact Or.inr (K _ h)
theorem Kept.below {b : Nat} {w w' : World} (hb : Below w.heap.size w w') : Kept b w w' := fun _ _ hk _ _ => row_keep hb hk
end Go.Proofs.YtgbpccipdcajgaaGreatDoor
