/-
  package tree's READER OF PROGRAMS: program BY ITS CONTRACT.
-/
import Derived.Test.YtglkpgcmlbhkpabGreatDoorQ16
import Derived.Deep.QuietTactic
import Derived.BigQuiet
import Derived.WalkSmall
import Derived.Test.YtglkpgcmlbhkpabGreatDoorQ11
import Derived.Test.YtglkpgcmlbhkpabGreatDoorQ08
import Derived.Test.YtglkpgcmlbhkpabGreatDoorQ06
import Derived.Test.YtglkpgcmlbhkpabGreatDoorQ09
import Derived.Test.YtglkpgcmlbhkpabGreatDoorQ14
import Derived.Test.YtglkpgcmlbhkpabGreatDoorQ07
namespace Go.Proofs.YtglkpgcmlbhkpabGreatDoor
open Go.RowKit
attribute [local go_sem ↓] Go.wp_at_zero Go.wp_at_succ

theorem NdV.one {base : Nat} {w : World} {es : List Ex} {v : Value} (h : NdV base w es v) : ∃ name ins outs owns qs o1 c1 o2 c2 o3 c3 o4 c4 xs, es = [.mk name 0 b0 [lst ins, lst outs, lst owns, lst qs]] ∧ v = .agg #[.string name, .slice o1 ins.length c1, .slice o2 outs.length c2, .slice o3 owns.length c3, .slice o4 qs.length c4] ∧ RowAt w (From base) 2 (.slice o1 ins.length c1) ins.length (varCells ins) ∧ RowAt w (From base) 2 (.slice o2 outs.length c2) outs.length (varCells outs) ∧ RowAt w (From base) 2 (.slice o3 owns.length c3) owns.length (varCells owns) ∧ RowAt w (From base) 6 (.slice o4 qs.length c4) qs.length xs ∧ EqIn w (From base) qs xs := by
  obtain ⟨xs, rfl, hl, h⟩ := h
  generalize hx : xs.toList = zs at h
  cases h with
  | nil => simp at hl
  | cons name ins outs owns qs es v1 v2 v3 v4 xs' ys' h1 h2 h3 h4 h5 h6 =>
    simp only [List.length_cons] at hl
    obtain rfl : es = [] := List.eq_nil_of_length_eq_zero (by omega)
    cases h6
    obtain ⟨o1, c1, rfl⟩ := h1.form
    obtain ⟨o2, c2, rfl⟩ := h2.form
    obtain ⟨o3, c3, rfl⟩ := h3.form
    obtain ⟨o4, c4, rfl⟩ := h4.form
    refine ⟨name, ins, outs, owns, qs, o1, c1, o2, c2, o3, c3, o4, c4, xs', rfl, ?_, h1, h2, h3, h4, h5⟩
    congr 1
    apply Array.ext'
    rw [hx]
theorem Tryz.infoNode : (Tryz.prog.info? 84).map (fun i => (i.zero, i.size, i.bytes)) = some (some (.agg #[.string ⟨#[]⟩, .slice none 0 0, .slice none 0 0, .slice none 0 0, .slice none 0 0]), 5, 112) := by kernel_rfl
/-- Nodes in memory of their own. -/
def NodesV (base : Nat) (w' : World) (es : List Ex) (v : Value) : Prop := ∃ ys, RowAt w' (From base) 5 v es.length ys ∧ NdIn w' (From base) es ys
theorem isEnd_list {l : List Tk} {i : Nat} : isEnd l i = ((tkk l i).toList == [101, 110, 100]) := rfl

set_option maxRecDepth 100000 in
set_option maxHeartbeats 2000000 in
theorem program_any (C : Rc) (i d : Nat) (w : World) (T : Tkl C.l) (R : Rd C i d w) :
    Calls Tryz.prog 42 #[.pointer (some ⟨C.b, 0, none⟩)] w fun e w' => Mv C.b w w' ∧ ((∃ es j v, Parse C.l (.nodes []) i d (.ok es j) ∧ e = .returned v ∧ NodesV w.heap.size w' es v) ∨ (∃ j bd, Parse C.l (.nodes []) i d (.bad j bd) ∧ Threw C j bd e w')) := by
  obtain ⟨i0, hi0, hz0, hz1, hz2⟩ := info_parts Tryz.infoNode
  have hlt := R.lt
  have hbl := R.blt
  have hfd := fldK
  go_enter Tryz.func42, Tryz.ntmps42
  go_wp2
  go_loopw [3] (fun v wr => ∃ (es : List Ex) (cells : List Value) (j : Nat) (so : Option Addr) (sc : Nat), v = .slice so es.length sc ∧ Hid (wr.ownsRow w.heap.size 84 5 v es.length cells) ∧ NdIn wr (fun k => w.heap.size ≤ k ∧ v.ownBlock ≠ some k) es cells ∧ Rd C j d wr ∧ Mv C.b w wr ∧ es.length ≤ j ∧ Hid (∀ r, Parse C.l (.nodes es) j d r → Parse C.l (.nodes []) i d r)) (fun _ wr => C.l.length - posOf wr C.b)
  case atStart => exact ⟨[], [], i, none, 0, rfl, World.ownsRow_nil _ _ _ _, .nil, R, Mv.refl _ _, by simp, fun r h => h⟩
  case round =>
    obtain ⟨es, cells, j, so, sc, rfl, HO, hin, Rr, hmr, hle, HP⟩ := hrel
    have hjl := Rr.lt
    have hlen := Rr.len
    have hsr := hmr.size
    by_cases g1 : isEnd C.l j = true
    · have g1' : ((tkk C.l j).toList == [101, 110, 100]) = true := g1
      go_wp2_with fail
      refine (tnext_any C j d _ Rr).mono ?_
      rintro e w2 ⟨rfl, hb2⟩
      go_wp2
      go_ret
      exact ⟨hmr.trans (Mv.of_below hb2), Or.inl ⟨es, j, _, HP.out _ (Run.ifT g1 Run.done), rfl, ⟨cells, (RowAt.of_owns HO.out).keep (Stays.below hb2 (fun k hk => hk)), hin.keep (Stays.below hb2 (fun k hk => hk.1))⟩⟩⟩
    · have g1' : isEnd C.l j = false := by simpa using g1
      have g1'' : ((tkk C.l j).toList == [101, 110, 100]) = false := g1'
      clear g1
      by_cases g2 : txs C.l j [tNode] = true ∧ es.length = 12
      · obtain ⟨g2, g3⟩ := g2
        have gt : tx C.l j tNode = true := by rw [← txs_one]; exact g2
        have HG : Hid (es.length = 12) := g3
        have g3' : ((es.length : Int) == 12) = true := by simp; omega
        clear g3
        go_wp2_with fail
        refine (tnext_any C j d _ Rr).mono ?_
        rintro e w2 ⟨rfl, hb2⟩
        have R2 := Rr.below hb2
        go_wp2_with fail
        refine (is_new C j d _ R2 [tNode] _ 1 rfl rfl (by decide)).mono ?_
        rintro e w3 ⟨rfl, hb3⟩
        have R3 := R2.below hb3
        have hB3 := R3.hB
        go_wp2_with fail
        refine (fail_any C j d _ R3 _ true rfl).mono ?_
        rintro e w4 ⟨⟨hj, p, rfl, q0, q1⟩, hb4⟩
        go_wp2
        exact ⟨rfl, ((hmr.trans (Mv.of_below hb2)).trans (Mv.of_below hb3)).trans (Mv.of_below hb4), Or.inr ⟨j, true, HP.out _ (Run.ifF g1' (Run.ifT (by rw [gt, HG.out]; rfl) (.ret _))), hj, p, rfl, q0, q1⟩⟩
      · have g2' : (tx C.l j tNode && es.length == 12) = false := by
          rw [← txs_one]
          cases h : txs C.l j [tNode] with
          | false => rfl
          | true => simpa using fun e => g2 ⟨h, e⟩
        have HG : Hid ((tx C.l j tNode && es.length == 12) = false) := g2'
        have hor : txs C.l j [tNode] = false ∨ (txs C.l j [tNode] = true ∧ ((es.length : Int) == 12) = false) := by
          cases h : txs C.l j [tNode] with
          | false => exact Or.inl rfl
          | true => exact Or.inr ⟨rfl, by simp; exact fun e => g2 ⟨h, by omega⟩⟩
        clear g2 g2'
        go_wp2_with fail
        refine (tnext_any C j d _ Rr).mono ?_
        rintro e w2 ⟨rfl, hb2⟩
        have R2 := Rr.below hb2
        have hs2 := hb2.size
        rcases hor with hor | ⟨hor, hor2⟩
        all_goals
          go_wp2_with fail
          refine (is_new C j d _ R2 [tNode] _ 1 rfl rfl (by decide)).mono ?_
          rintro e w3 ⟨rfl, hb3⟩
          have R3 := R2.below hb3
          have hs3 := hb3.size
          go_wp2_with fail
          refine (node_any C j d _ T R3).mono ?_
          rintro e w4 ⟨hm4, h4⟩
          have hs4 := hm4.size
          have hmm : Mv C.b wr w4 := ((Mv.of_below hb2).trans (Mv.of_below hb3)).trans hm4
          rcases h4 with ⟨es', j', v, hp', rfl, hv, R4, hij'⟩ | ⟨j', bd, hp', hj', p, rfl, q0, q1⟩
          · obtain ⟨name, ins, outs, owns, qs, o1, c1, o2, c2, o3, c3, o4, c4, xs, rfl, rfl, r1, r2, r3, r4, r5⟩ := hv.one
            have hown4 := ownsRow_mv HO.out hmm (by omega)
            have hnb := heap_alloc_new w4 (.cells #[.string name, .slice o1 ins.length c1, .slice o2 outs.length c2, .slice o3 owns.length c3, .slice o4 qs.length c4] 84)
            have HN' : Hid _ := World.news_of_block hnb
            have HO4 : Hid _ := hown4.alloc (.cells #[.string name, .slice o1 ins.length c1, .slice o2 outs.length c2, .slice o3 owns.length c3, .slice o4 qs.length c4] 84)
            have hn63 : es.length + 1 ≤ maxLen := by unfold maxLen; omega
            have hby : (es.length + 1) * 112 ≤ 140737488355328 := by omega
            have hrw : ∀ k, (Value.slice so es.length sc).ownBlock = some k → w.heap.size ≤ k ∧ k < wr.heap.size := fun k hk => ownsRow_block HO.out hk
            have HRW : Hid _ := hrw
            clear hown4 hnb hrw
            go_wp2_with (at_builtin; refine wpList_append_lies _ rfl _ _ _ rfl w.heap.size 84 i0 _ 5 112 Tryz.underlying29 hi0 hz0 hz1 hz2 rfl (by omega) _ es.length cells rfl HO4.out ⟨w4.heap.size, 0, none⟩ 1 1 [.string name, .slice o1 ins.length c1, .slice o2 outs.length c2, .slice o3 owns.length c3, .slice o4 qs.length c4] rfl rfl HN'.out (by simp [Value.oneCell']) (by omega) hn63 hby (by simp; omega) (w4.heap.size + 1) (by simp) ?_; intro g cap w5 hown5 hgrow hat hlt5)
            have hB : Below w.heap.size w4 w5 := ((Below.refl _ _).alloc (by omega) _).grown hgrow (by simp; omega) (fun k hk => (HRW.out k hk).1)
            have St0 := grow_old (n := es.length + 1) (cap := cap) hmm hbl hgrow hat
            have St1 := grow_new (base := w.heap.size) (n := es.length + 1) (cap := cap) (H := w3.heap.size) (by omega) (fun k hk => by have := (HRW.out k hk).2; omega) hgrow hat
            have R5 := R.upon R4 hB
            have e1 := Rr.pos
            have e2 := R5.pos
            have l2 := R4.lt
            refine ⟨⟨es ++ [.mk name 0 b0 [lst ins, lst outs, lst owns, lst qs]], cells ++ [.string name, .slice o1 ins.length c1, .slice o2 outs.length c2, .slice o3 owns.length c3, .slice o4 qs.length c4], j', some ⟨g, 0, none⟩, cap, by rw [List.length_append]; rfl, ?_, (hin.keep St0).append (.cons name ins outs owns qs [] _ _ _ _ xs [] (r1.keep St1) (r2.keep St1) (r3.keep St1) (r4.keep St1) (r5.keep St1) .nil), R5, (hmr.trans hmm).upon hB, by simp; omega, fun r hr => HP.out _ (Run.ifF g1' (Run.ifF HG.out (Run.then hp' (Run.tail hr))))⟩, by omega⟩
            rw [List.length_append]; exact hown5
          · go_wp2
            exact ⟨rfl, hmr.trans hmm, Or.inr ⟨j', bd, HP.out _ (Run.ifF g1' (Run.ifF HG.out (Run.stop hp'))), hj', p, rfl, q0, q1⟩⟩
end Go.Proofs.YtglkpgcmlbhkpabGreatDoor

/-
  lustrumref1.SameTexts, SameVars, SameExpr, SameNodes BY THEIR CONTRACTS: what holds the same is the same.
-/
namespace Go.Proofs.YtglkpgcmlbhkpabGreatDoor
open Go.RowKit
attribute [local go_sem ↓] Go.wp_at_zero Go.wp_at_succ

theorem row_get {w : World} {S : Nat → Prop} {size n m : Nat} {o : Option Addr} {c : Nat} {xs : List Value} (h : RowAt w S size (.slice o m c) n xs) (hn : 0 < xs.length) : ∃ b off, o = some ⟨b, off, none⟩ ∧ b < w.heap.size ∧ ∀ k x, xs[k]? = some x → w.cell? ⟨b, off + k, none⟩ = some x := by
  obtain ⟨b, off, c', e, hb, hl, hc⟩ := h.at hn
  injection e with e
  exact ⟨b, off, e, hl, hc⟩
theorem RowAt.len {w : World} {S : Nat → Prop} {size n : Nat} {v : Value} {xs : List Value} (h : RowAt w S size v n xs) : n ≤ maxLen := h.2.1
theorem nameCells_at {ns : List Ex} {i : Nat} (hi : i < ns.length) : (nameCells ns)[i]? = some (.string ns[i].op) := by
  simp [nameCells, hi]
theorem varCells_at : ∀ {vs : List Ex} {i : Nat} (hi : i < vs.length), (varCells vs)[i * 2]? = some (.string vs[i].op) ∧ (varCells vs)[i * 2 + 1]? = some (.int .i64 vs[i].n)
  | [], i, hi => by simp at hi
  | v :: vs, 0, _ => ⟨rfl, rfl⟩
  | v :: vs, i + 1, hi => by
    have := varCells_at (vs := vs) (i := i) (by simpa using hi)
    have e : varCells (v :: vs) = .string v.op :: .int .i64 v.n :: varCells vs := rfl
    rw [e, show (i + 1) * 2 = i * 2 + 1 + 1 from by omega, List.getElem?_cons_succ, List.getElem?_cons_succ, List.getElem?_cons_succ, List.getElem?_cons_succ]
    exact this
theorem varCells_length : ∀ (vs : List Ex), (varCells vs).length = vs.length * 2
  | [] => rfl
  | v :: vs => by have := varCells_length vs; simp only [varCells, List.flatMap_cons, List.length_append, List.length_cons, List.length_nil] at this ⊢; omega
theorem nameCells_length (ns : List Ex) : (nameCells ns).length = ns.length := by simp [nameCells]
theorem ExIn.at {w : World} {S : Nat → Prop} {l : List Ex} {xs : List Value} (h : ExIn w S l xs) : ∀ {i : Nat} (hi : i < l.length), ∃ op n s es o c ys, l[i] = .mk op n s es ∧ xs[i * 4]? = some (.string op) ∧ xs[i * 4 + 1]? = some (.int .i64 n) ∧ xs[i * 4 + 2]? = some (.string s) ∧ xs[i * 4 + 3]? = some (.slice o es.length c) ∧ RowAt w S 4 (.slice o es.length c) es.length ys ∧ ExIn w S es ys := by
  induction h with
  | nil => intro i hi; simp at hi
  | cons op n s l es lv xs ys h1 h2 h3 _ ih =>
    intro i hi
    cases i with
    | zero =>
      obtain ⟨o, c, rfl⟩ := h1.form
      exact ⟨op, n, s, l, o, c, xs, rfl, rfl, rfl, rfl, rfl, h1, h2⟩
    | succ i =>
      obtain ⟨op', n', s', l', o, c, zs, e, a0, a1, a2, a3, a4, a5⟩ := ih (i := i) (by simpa using hi)
      refine ⟨op', n', s', l', o, c, zs, by simpa using e, ?_, ?_, ?_, ?_, a4, a5⟩
      · rw [show (i + 1) * 4 = i * 4 + 1 + 1 + 1 + 1 from by omega]; simpa using a0
      · rw [show (i + 1) * 4 + 1 = i * 4 + 1 + 1 + 1 + 1 + 1 from by omega]; simpa using a1
      · rw [show (i + 1) * 4 + 2 = i * 4 + 2 + 1 + 1 + 1 + 1 from by omega]; simpa using a2
      · rw [show (i + 1) * 4 + 3 = i * 4 + 3 + 1 + 1 + 1 + 1 from by omega]; simpa using a3
theorem EqIn.at {w : World} {S : Nat → Prop} {l : List Ex} {xs : List Value} (h : EqIn w S l xs) : ∀ {i : Nat} (hi : i < l.length), ∃ kind ns no nc op n s es o c ys, l[i] = .mk kind 0 b0 [lst ns, .mk op n s es] ∧ xs[i * 6]? = some (.string kind) ∧ xs[i * 6 + 1]? = some (.slice no ns.length nc) ∧ xs[i * 6 + 2]? = some (.string op) ∧ xs[i * 6 + 3]? = some (.int .i64 n) ∧ xs[i * 6 + 4]? = some (.string s) ∧ xs[i * 6 + 5]? = some (.slice o es.length c) ∧ RowAt w S 1 (.slice no ns.length nc) ns.length (nameCells ns) ∧ RowAt w S 4 (.slice o es.length c) es.length ys ∧ ExIn w S es ys := by
  induction h with
  | nil => intro i hi; simp at hi
  | cons kind ns e es nv xs ys h1 h2 h3 ih =>
    intro i hi
    obtain ⟨op, n, s, l, o, c, zs, rfl, rfl, h4, h5⟩ := h2.one'
    cases i with
    | zero =>
      obtain ⟨no, nc, rfl⟩ := h1.form
      exact ⟨kind, ns, no, nc, op, n, s, l, o, c, zs, rfl, rfl, rfl, rfl, rfl, rfl, rfl, h1, h4, h5⟩
    | succ i =>
      obtain ⟨kind', ns', no, nc, op', n', s', l', o, c, zs, e, a0, a1, a2, a3, a4, a5, a6, a7, a8⟩ := ih (i := i) (by simpa using hi)
      refine ⟨kind', ns', no, nc, op', n', s', l', o, c, zs, by simpa using e, ?_, ?_, ?_, ?_, ?_, ?_, a6, a7, a8⟩
      · rw [show (i + 1) * 6 = i * 6 + 1 + 1 + 1 + 1 + 1 + 1 from by omega]; simpa using a0
      · rw [show (i + 1) * 6 + 1 = i * 6 + 1 + 1 + 1 + 1 + 1 + 1 + 1 from by omega]; simpa using a1
      · rw [show (i + 1) * 6 + 2 = i * 6 + 2 + 1 + 1 + 1 + 1 + 1 + 1 from by omega]; simpa using a2
      · rw [show (i + 1) * 6 + 3 = i * 6 + 3 + 1 + 1 + 1 + 1 + 1 + 1 from by omega]; simpa using a3
      · rw [show (i + 1) * 6 + 4 = i * 6 + 4 + 1 + 1 + 1 + 1 + 1 + 1 from by omega]; simpa using a4
      · rw [show (i + 1) * 6 + 5 = i * 6 + 5 + 1 + 1 + 1 + 1 + 1 + 1 from by omega]; simpa using a5
theorem NdIn.at {w : World} {S : Nat → Prop} {l : List Ex} {xs : List Value} (h : NdIn w S l xs) : ∀ {i : Nat} (hi : i < l.length), ∃ name ins outs owns qs o1 c1 o2 c2 o3 c3 o4 c4 ys, l[i] = .mk name 0 b0 [lst ins, lst outs, lst owns, lst qs] ∧ xs[i * 5]? = some (.string name) ∧ xs[i * 5 + 1]? = some (.slice o1 ins.length c1) ∧ xs[i * 5 + 2]? = some (.slice o2 outs.length c2) ∧ xs[i * 5 + 3]? = some (.slice o3 owns.length c3) ∧ xs[i * 5 + 4]? = some (.slice o4 qs.length c4) ∧ RowAt w S 2 (.slice o1 ins.length c1) ins.length (varCells ins) ∧ RowAt w S 2 (.slice o2 outs.length c2) outs.length (varCells outs) ∧ RowAt w S 2 (.slice o3 owns.length c3) owns.length (varCells owns) ∧ RowAt w S 6 (.slice o4 qs.length c4) qs.length ys ∧ EqIn w S qs ys := by
  induction h with
  | nil => intro i hi; simp at hi
  | cons name ins outs owns qs es v1 v2 v3 v4 xs ys h1 h2 h3 h4 h5 _ ih =>
    intro i hi
    cases i with
    | zero =>
      obtain ⟨o1, c1, rfl⟩ := h1.form
      obtain ⟨o2, c2, rfl⟩ := h2.form
      obtain ⟨o3, c3, rfl⟩ := h3.form
      obtain ⟨o4, c4, rfl⟩ := h4.form
      exact ⟨name, ins, outs, owns, qs, o1, c1, o2, c2, o3, c3, o4, c4, xs, rfl, rfl, rfl, rfl, rfl, rfl, h1, h2, h3, h4, h5⟩
    | succ i =>
      obtain ⟨name', ins', outs', owns', qs', o1, c1, o2, c2, o3, c3, o4, c4, zs, e, a0, a1, a2, a3, a4, b1, b2, b3, b4, b5⟩ := ih (i := i) (by simpa using hi)
      refine ⟨name', ins', outs', owns', qs', o1, c1, o2, c2, o3, c3, o4, c4, zs, by simpa using e, ?_, ?_, ?_, ?_, ?_, b1, b2, b3, b4, b5⟩
      · rw [show (i + 1) * 5 = i * 5 + 1 + 1 + 1 + 1 + 1 from by omega]; simpa using a0
      · rw [show (i + 1) * 5 + 1 = i * 5 + 1 + 1 + 1 + 1 + 1 + 1 from by omega]; simpa using a1
      · rw [show (i + 1) * 5 + 2 = i * 5 + 2 + 1 + 1 + 1 + 1 + 1 from by omega]; simpa using a2
      · rw [show (i + 1) * 5 + 3 = i * 5 + 3 + 1 + 1 + 1 + 1 + 1 from by omega]; simpa using a3
      · rw [show (i + 1) * 5 + 4 = i * 5 + 4 + 1 + 1 + 1 + 1 + 1 from by omega]; simpa using a4

set_option maxHeartbeats 1000000 in
theorem sameTexts_any (w : World) (S S' : Nat → Prop) (o o' : Option Addr) (c c' : Nat) (ns : List Ex) (h1 : RowAt w S 1 (.slice o ns.length c) ns.length (nameCells ns)) (h2 : RowAt w S' 1 (.slice o' ns.length c') ns.length (nameCells ns)) :
    Calls Tryz.prog 44 #[.slice o ns.length c, .slice o' ns.length c'] w fun e w' => e = .returned (.bool true) ∧ ∃ k, w' = w.drewN k := by
  have hl := h1.len
  unfold maxLen at hl
  have H1 : Hid _ := h1
  have H2 : Hid _ := h2
  clear h1 h2
  go_enter Tryz.func44, Tryz.ntmps44
  go_wp2
  go_loopw [5] (fun i wr => ∃ j k : Nat, j ≤ ns.length ∧ i = .int .i64 j ∧ wr = w.drewN k) (fun i _ => ns.length - (intOf i).toNat)
  case atStart => exact ⟨0, 0, Nat.zero_le _, rfl, rfl⟩
  case round =>
    obtain ⟨j, k, hj, rfl, rfl⟩ := hrel
    by_cases hlt : j < ns.length
    · obtain ⟨b, off, rfl, _, hc⟩ := row_get H1.out (by rw [nameCells_length]; omega)
      obtain ⟨b', off', rfl, _, hc'⟩ := row_get H2.out (by rw [nameCells_length]; omega)
      have x0 := hc j _ (nameCells_at hlt)
      have x1 := hc' j _ (nameCells_at hlt)
      clear hc hc'
      have hi0 : (0 : Int) ≤ (j : Int) := by omega
      have hi1 : (j : Int) < (ns.length : Int) := by omega
      go_wp2
      go_quiet (fail)
      go_wp2
      refine ⟨⟨j + 1, _, by omega, by go_num, rfl⟩, ?_⟩
      simp [intOf]; omega
    · go_wp2
      go_ret
      exact ⟨rfl, k, rfl⟩
set_option maxHeartbeats 1000000 in
theorem sameVars_any (w : World) (S S' : Nat → Prop) (o o' : Option Addr) (c c' : Nat) (vs : List Ex) (h1 : RowAt w S 2 (.slice o vs.length c) vs.length (varCells vs)) (h2 : RowAt w S' 2 (.slice o' vs.length c') vs.length (varCells vs)) :
    Calls Tryz.prog 43 #[.slice o vs.length c, .slice o' vs.length c'] w fun e w' => e = .returned (.bool true) ∧ ∃ k, w' = w.drewN k := by
  have hl := h1.len
  unfold maxLen at hl
  have H1 : Hid _ := h1
  have H2 : Hid _ := h2
  clear h1 h2
  go_enter Tryz.func43, Tryz.ntmps43
  go_wp2
  go_loopw [5] (fun i wr => ∃ j k : Nat, j ≤ vs.length ∧ i = .int .i64 j ∧ wr = w.drewN k) (fun i _ => vs.length - (intOf i).toNat)
  case atStart => exact ⟨0, 0, Nat.zero_le _, rfl, rfl⟩
  case round =>
    obtain ⟨j, k, hj, rfl, rfl⟩ := hrel
    by_cases hlt : j < vs.length
    · obtain ⟨b, off, rfl, _, hc⟩ := row_get H1.out (by rw [varCells_length]; omega)
      obtain ⟨b', off', rfl, _, hc'⟩ := row_get H2.out (by rw [varCells_length]; omega)
      have x0 := hc _ _ (varCells_at hlt).1
      have x1 := hc _ _ (varCells_at hlt).2
      have y0 := hc' _ _ (varCells_at hlt).1
      have y1 := hc' _ _ (varCells_at hlt).2
      rw [← Nat.add_assoc] at x1 y1
      clear hc hc'
      have hi0 : (0 : Int) ≤ (j : Int) := by omega
      have hi1 : (j : Int) < (vs.length : Int) := by omega
      go_wp2
      go_quiet (fail)
      go_wp2
      refine ⟨⟨j + 1, _, by omega, by go_num, rfl⟩, ?_⟩
      simp [intOf]; omega
    · go_wp2
      go_ret
      exact ⟨rfl, k, rfl⟩
end Go.Proofs.YtglkpgcmlbhkpabGreatDoor

/-
  package tree's WRITER: between, kind, vars, names BY THEIR CONTRACTS (where there is room).
-/
namespace Go.Proofs.YtglkpgcmlbhkpabGreatDoor
open Go.RowKit
attribute [local go_sem ↓] Go.wp_at_zero Go.wp_at_succ

/-- What a function of the writer does, where there is room: it writes these bytes. -/
def Writes (B b : Nat) (l x : List UInt8) (d : Nat) (w : World) (e : Ending) (w' : World) : Prop := e = .returned (.tuple #[]) ∧ WT B b (l ++ x) d w' ∧ Below B w w' ∧ Kept b w w'
theorem WT.alloc {B b : Nat} {l : List UInt8} {d : Nat} {w : World} (h : WT B b l d w) (o : Obj) : WT B b l d (w.alloc o) := Wr.kept h o
theorem Kept.alloc (b : Nat) (w : World) (o : Obj) : Kept b w (w.alloc o) := (Lib.OthersKept.refl _ _ _).alloc o
/-- put of texts that were laid for it. -/
theorem put_new (B b : Nat) (l : List UInt8) (d : Nat) (w : World) (xs : List ByteArray) (q n : Nat) (hq : w.heap.size = q) (hn : xs.length = n) (h : WT B b l d w) (hl : l.length + (cat xs).length ≤ 6000) (hn1 : n ≤ 1000) (cur : Array Value) (hc : cur = (xs.map Value.string).toArray) :
    Calls Tryz.prog 129 #[.pointer (some ⟨b, 0, none⟩), .slice (some ⟨q, 0, none⟩) n n] (w.alloc (.cells cur 9)) fun e w' => Writes B b l (cat xs) d w e w' := by
  subst hq hc
  have hlt := h.lt
  have hle := h.le
  refine (put_ok B b l d _ w.heap.size xs n hn (h.alloc _) (heap_alloc_new w _) (by omega) (by simp; omega) hl hn1).mono ?_
  rintro e w' ⟨rfl, h1, h2, h3⟩
  exact ⟨rfl, h1, (((Below.refl _ _).alloc (by omega) _).trans h2), (Kept.alloc b w _).trans h3⟩
set_option maxRecDepth 100000 in
set_option maxHeartbeats 1000000 in
theorem between_first (B b : Nat) (l : List UInt8) (d : Nat) (w : World) (s : ByteArray) (h : WT B b l d w) :
    Calls Tryz.prog 182 #[.pointer (some ⟨b, 0, none⟩), .int .i64 0, .string s] w fun e w' => Writes B b l [] d w e w' := by
  go_enter Tryz.func182, Tryz.ntmps182
  go_wp2
  go_end0
  exact ⟨rfl, by simpa using h, Below.refl _ _, Lib.OthersKept.refl _ _ _⟩
set_option maxRecDepth 100000 in
set_option maxHeartbeats 1000000 in
theorem between_next (B b : Nat) (l : List UInt8) (d : Nat) (w : World) (i : Nat) (s : ByteArray) (h : WT B b l d w) (hi : 0 < i) (hl : l.length + s.size ≤ 6000) :
    Calls Tryz.prog 182 #[.pointer (some ⟨b, 0, none⟩), .int .i64 i, .string s] w fun e w' => Writes B b l s.data.toList d w e w' := by
  have hi' : (0 : Int) < (i : Int) := by omega
  go_enter Tryz.func182, Tryz.ntmps182
  go_wp2_with fail
  refine (put_new B b l d _ [s] _ 1 rfl rfl h (by simpa [cat] using hl) (by decide) _ rfl).mono ?_
  rintro e w' ⟨rfl, h1, h2, h3⟩
  go_wp2
  go_end0
  exact ⟨rfl, by simpa [cat] using h1, h2, h3⟩
def sBool : ByteArray := ⟨#[98, 111, 111, 108]⟩
set_option maxRecDepth 100000 in
set_option maxHeartbeats 1000000 in
theorem kind_bool (B b : Nat) (l : List UInt8) (d : Nat) (w : World) (h : WT B b l d w) (hl : l.length + 4 ≤ 6000) :
    Calls Tryz.prog 183 #[.pointer (some ⟨b, 0, none⟩), .int .i64 1] w fun e w' => Writes B b l [98, 111, 111, 108] d w e w' := by
  go_enter Tryz.func183, Tryz.ntmps183
  go_wp2_with fail
  refine (put_new B b l d _ [sBool] _ 1 rfl rfl h (by simpa [cat, sBool] using hl) (by decide) _ rfl).mono ?_
  rintro e w' ⟨rfl, h1, h2, h3⟩
  go_wp2
  go_end0
  exact ⟨rfl, h1, h2, h3⟩
end Go.Proofs.YtglkpgcmlbhkpabGreatDoor

/-
  lustrumref1's READER OF TOKENS, ITS SMALL METHODS BY THEIR CONTRACTS: ok, fail, is, pass, want, name, down, some. Conditions: the reader and its tokens lie in memory as TreeOf lays them ('QS').
-/
namespace Go.Proofs.YtglkpgcmlbhkpabGreatDoor
open Go.RowKit
attribute [local go_sem ↓] Go.wp_at_zero Go.wp_at_succ

structure Qc where
  b : Nat
  g : Nat
  cap : Nat
  l : List Tk
/-- Where a reader stands: at a token; or it has failed, at one. -/
inductive St where
  | here (i : Nat)
  | bad (j : Nat) (bd : Bool)
def St.k : St → Nat
  | .here i => i
  | .bad j _ => j
def St.code : St → Int
  | .here _ => 0
  | .bad _ bd => if bd then 2 else 1
def St.pos (l : List Tk) : St → Int
  | .here _ => 0
  | .bad j _ => tkp l j
def St.isAt : St → Bool
  | .here _ => true
  | .bad _ _ => false
/-- A reader. -/
structure QS (C : Qc) (st : St) (d : Nat) (w : World) : Prop where
  c0 : w.cell? ⟨C.b, 0, none⟩ = some (.slice (some ⟨C.g, 0, none⟩) C.l.length C.cap)
  c1 : w.cell? ⟨C.b, 1, none⟩ = some (.int .i64 st.k)
  c2 : w.cell? ⟨C.b, 2, none⟩ = some (.int .i64 d)
  c3 : w.cell? ⟨C.b, 3, none⟩ = some (.int .i64 st.code)
  c4 : w.cell? ⟨C.b, 4, none⟩ = some (.int .i64 (st.pos C.l))
  fz : ∀ k, w.frozen? ⟨C.b, k, none⟩ = false
  row : ∀ k, k < C.l.length → w.cell? ⟨C.g, k * 3, none⟩ = some (.string (tkk C.l k)) ∧ w.cell? ⟨C.g, k * 3 + 1, none⟩ = some (.string (tkx C.l k)) ∧ w.cell? ⟨C.g, k * 3 + 2, none⟩ = some (.int .i64 (tkp C.l k))
  ne : C.g ≠ C.b
  lt : st.k < C.l.length
  len : C.l.length ≤ 6001
  dp : d ≤ 21
  da : st.isAt = true → d ≤ 20
theorem QS.blt {C : Qc} {st : St} {d : Nat} {w : World} (R : QS C st d w) : C.b < w.heap.size := lt_of_cell R.c0
theorem QS.go {C : Qc} {st st' : St} {d e : Nat} {w w' : World} (R : QS C st d w) (h : Mv C.b w w') (h0 : w'.cell? ⟨C.b, 0, none⟩ = some (.slice (some ⟨C.g, 0, none⟩) C.l.length C.cap)) (h1 : w'.cell? ⟨C.b, 1, none⟩ = some (.int .i64 st'.k)) (h2 : w'.cell? ⟨C.b, 2, none⟩ = some (.int .i64 e)) (h3 : w'.cell? ⟨C.b, 3, none⟩ = some (.int .i64 st'.code)) (h4 : w'.cell? ⟨C.b, 4, none⟩ = some (.int .i64 (st'.pos C.l))) (hf : ∀ k, w'.frozen? ⟨C.b, k, none⟩ = false) (hj : st'.k < C.l.length) (he : e ≤ 21) (ha : st'.isAt = true → e ≤ 20) : QS C st' e w' :=
  ⟨h0, h1, h2, h3, h4, hf, fun k hk => ⟨h.cell R.ne (R.row k hk).1, h.cell R.ne (R.row k hk).2.1, h.cell R.ne (R.row k hk).2.2⟩, R.ne, hj, R.len, he, ha⟩
theorem QS.below {C : Qc} {st : St} {d : Nat} {w w' : World} (R : QS C st d w) (hb : Below w.heap.size w w') : QS C st d w' :=
  R.go (Mv.of_below hb) (cell_keep hb R.c0) (cell_keep hb R.c1) (cell_keep hb R.c2) (cell_keep hb R.c3) (cell_keep hb R.c4) (fun k => by rw [hb.frozen (p := ⟨C.b, k, none⟩) R.blt]; exact R.fz k) R.lt R.dp R.da
theorem QS.drewN {C : Qc} {st : St} {d : Nat} {w : World} (R : QS C st d w) (n : Nat) : QS C st d (w.drewN n) := R.below (below_drewN (Below.refl _ _) n)
theorem QS.upon {C : Qc} {st st' : St} {d e : Nat} {w w1 w2 : World} (R : QS C st d w) (R1 : QS C st' e w1) (g : Below w.heap.size w1 w2) : QS C st' e w2 := by
  have f : ∀ {p : Addr} {v : Value}, p.block < w.heap.size → w1.cell? p = some v → w2.cell? p = some v := fun {p} {v} hp hc => by
    rw [World.cell?_of_block (w := w1) (g.block p.block hp)]; exact hc
  have hb := R.blt
  have hg : C.g < w.heap.size := lt_of_cell (R.row st.k R.lt).1
  refine ⟨f hb R1.c0, f hb R1.c1, f hb R1.c2, f hb R1.c3, f hb R1.c4, fun k => ?_, fun k hk => ⟨f hg (R1.row k hk).1, f hg (R1.row k hk).2.1, f hg (R1.row k hk).2.2⟩, R1.ne, R1.lt, R1.len, R1.dp, R1.da⟩
  rw [World.frozen?_of_block (w := w1) (g.block C.b hb)]; exact R1.fz k
theorem other_cell {w : World} {b o p : Nat} {v x : Value} (h : o ≠ p) (hc : w.cell? ⟨b, p, none⟩ = some x) : (w.setCell ⟨b, o, none⟩ v).cell? ⟨b, p, none⟩ = some x := by
  rw [World.cell?_setCell_other _ _ _ _ (addr_ne h)]; exact hc
theorem QS.set1 {C : Qc} {i d : Nat} {w : World} (R : QS C (.here i) d w) {j : Nat} {x : Int} (hx : x = (j : Int)) (hj : j < C.l.length) : QS C (.here j) d (w.setCell ⟨C.b, 1, none⟩ (.int .i64 x)) := by
  subst hx
  exact R.go (Mv.setAt _ _ _ _) (other_cell (by decide) R.c0) (World.cell?_setCell_same _ _ _ R.c1) (other_cell (by decide) R.c2) (other_cell (by decide) R.c3) (other_cell (by decide) R.c4) (fun k => by rw [World.frozen?_setCell]; exact R.fz k) hj R.dp R.da
theorem QS.set2 {C : Qc} {st : St} {d : Nat} {w : World} (R : QS C st d w) {e : Nat} {x : Int} (hx : x = (e : Int)) (he : e ≤ 21) (ha : st.isAt = true → e ≤ 20) : QS C st e (w.setCell ⟨C.b, 2, none⟩ (.int .i64 x)) := by
  subst hx
  exact R.go (Mv.setAt _ _ _ _) (other_cell (by decide) R.c0) (other_cell (by decide) R.c1) (World.cell?_setCell_same _ _ _ R.c2) (other_cell (by decide) R.c3) (other_cell (by decide) R.c4) (fun k => by rw [World.frozen?_setCell]; exact R.fz k) R.lt he ha

/-- Where it stands behind a failure. -/
def St.fail (st : St) (bd : Bool) : St := match st with | .here i => .bad i bd | s => s
theorem QS.set34 {C : Qc} {i d : Nat} {w : World} (R : QS C (.here i) d w) (bd : Bool) {x y : Int} (hx : x = if bd then 2 else 1) (hy : y = (tkp C.l i : Int)) : QS C (.bad i bd) d ((w.setCell ⟨C.b, 3, none⟩ (.int .i64 x)).setCell ⟨C.b, 4, none⟩ (.int .i64 y)) := by
  subst hx hy
  refine R.go ((Mv.setAt _ _ _ _).trans (Mv.setAt _ _ _ _)) (other_cell (by decide) (other_cell (by decide) R.c0)) (other_cell (by decide) (other_cell (by decide) R.c1)) (other_cell (by decide) (other_cell (by decide) R.c2)) (other_cell (by decide) (World.cell?_setCell_same _ _ _ R.c3)) (World.cell?_setCell_same _ _ _ (other_cell (by decide) R.c4)) (fun k => by rw [World.frozen?_setCell, World.frozen?_setCell]; exact R.fz k) R.lt R.dp (fun h => by cases h)
/-- The token there has this text. -/
def St.tx (l : List Tk) (st : St) (x : List UInt8) : Bool := match st with | .here i => Proofs.YtglkpgcmlbhkpabGreatDoor.tx l i x | .bad _ _ => false
/-- The token there is of this kind and has this text. -/
def St.isB (l : List Tk) (st : St) (k x : ByteArray) : Bool := match st with | .here i => ((tkk l i).toList == k.toList) && ((tkx l i).toList == x.toList) | .bad _ _ => false
/-- A word's or an operator's kind. -/
def kindOf (x : List UInt8) : ByteArray := if wordL.contains x then kWord else kOp
theorem isB_tx {C : Qc} {st : St} {d : Nat} {w : World} (R : QS C st d w) (T : Tkl C.l) {k xb : ByteArray} {x : List UInt8} (hx : x ∈ wordL ∧ k = kWord ∨ x ∈ opLL ∧ k = kOp) (hb : xb.toList = x) : st.isB C.l k xb = st.tx C.l x := by
  cases st with
  | bad j bd => rfl
  | here i =>
    have hlt : i < C.l.length := R.lt
    simp only [St.isB, St.tx, Proofs.YtglkpgcmlbhkpabGreatDoor.tx, hb]
    cases h : ((tkx C.l i).toList == x) with
    | false => simp
    | true =>
      have ht : Proofs.YtglkpgcmlbhkpabGreatDoor.tx C.l i x = true := h
      rcases hx with ⟨hx, rfl⟩ | ⟨hx, rfl⟩
      · rw [tkk_lt hlt, T.word hlt hx ht]; simp
      · rw [tkk_lt hlt, T.oper hlt hx ht]; simp
/-- Where it stands behind such a token, if it is there. -/
def St.pass (l : List Tk) (st : St) (x : List UInt8) : St := match st with | .here i => if Proofs.YtglkpgcmlbhkpabGreatDoor.tx l i x then .here (i + 1) else .here i | s => s
def St.want (l : List Tk) (st : St) (x : List UInt8) : St := match st with | .here i => if Proofs.YtglkpgcmlbhkpabGreatDoor.tx l i x then .here (i + 1) else .bad i false | s => s
/-- Where it stands behind what opens. -/
def St.down (st : St) (d : Nat) : St := match st with | .here i => if d = 20 then .bad i true else .here (i + 1) | s => s
end Go.Proofs.YtglkpgcmlbhkpabGreatDoor

/-
  lustrumref1's READER OF TOKENS, name AND some BY THEIR CONTRACTS.
-/
namespace Go.Proofs.YtglkpgcmlbhkpabGreatDoor
open Go.RowKit
attribute [local go_sem ↓] Go.wp_at_zero Go.wp_at_succ

def St.nm (l : List Tk) (st : St) : ByteArray := match st with | .here i => if isName l i then tkx l i else b0 | _ => b0
def St.name (l : List Tk) (st : St) : St := match st with | .here i => if isName l i then .here (i + 1) else .bad i false | s => s
def St.some (l : List Tk) (st : St) (xs : List (List UInt8)) : ByteArray := match st with | .here i => if txs l i xs then tkx l i else b0 | _ => b0
theorem drewN_row {w : World} {q : Nat} {o : Obj} (n : Nat) (h : w.heap[q]? = Option.some o) : (w.drewN n).heap[q]? = Option.some o := row_keep (below_drewN (Below.refl _ _) n) h
end Go.Proofs.YtglkpgcmlbhkpabGreatDoor
