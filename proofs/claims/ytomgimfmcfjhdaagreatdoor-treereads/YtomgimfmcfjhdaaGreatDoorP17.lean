/-
  package tree's READER OF PROGRAMS: program BY ITS CONTRACT.
-/
import Derived.Test.YtomgimfmcfjhdaaGreatDoorP16
import Derived.Defers
import Derived.Recover
import Derived.Laws.Pointers
namespace Go.Proofs.YtomgimfmcfjhdaaGreatDoor
open Go.RowKit
attribute [local go_sem ↓] Go.wp_at_zero Go.wp_at_succ

theorem NdV.one {base : Nat} {w : World} {es : List Ex} {v : Value} (h : NdV base w es v) : ∃ name ins outs owns qs o1 c1 o2 c2 o3 c3 o4 c4 xs, es = [.mk name 0 b0 [lst ins, lst outs, lst owns, lst qs]] ∧ v = .agg #[.string name, .slice o1 ins.length c1, .slice o2 outs.length c2, .slice o3 owns.length c3, .slice o4 qs.length c4] ∧ RowAt w (From base) 2 (.slice o1 ins.length c1) ins.length (varCells ins) ∧ RowAt w (From base) 2 (.slice o2 outs.length c2) outs.length (varCells outs) ∧ RowAt w (From base) 2 (.slice o3 owns.length c3) owns.length (varCells owns) ∧ RowAt w (From base) 6 (.slice o4 qs.length c4) qs.length xs ∧ EqIn w (From base) qs xs := by
  obtain ⟨xs, rfl, hl, h⟩ := h
  generalize hx : xs.toList = zs at h
  cases h with
  | nil => simp at hl
  | cons name ins outs owns qs es v1 v2 v3 v4 xs' ys' h1 h2 h3 h4 h5 h6 =>
    simp only [List.length_cons] at hl
    obtain rfl : es = [] := List.eq_nil_of_length_eq_zero (by omega)
    cases h6
    obtain ⟨o1, c1, rfl⟩ := h1.form
    obtain ⟨o2, c2, rfl⟩ := h2.form
    obtain ⟨o3, c3, rfl⟩ := h3.form
    obtain ⟨o4, c4, rfl⟩ := h4.form
    refine ⟨name, ins, outs, owns, qs, o1, c1, o2, c2, o3, c3, o4, c4, xs', rfl, ?_, h1, h2, h3, h4, h5⟩
    congr 1
    apply Array.ext'
    rw [hx]
theorem Tryz.infoNode : (Tryz.prog.info? 70).map (fun i => (i.zero, i.size, i.bytes)) = some (some (.agg #[.string ⟨#[]⟩, .slice none 0 0, .slice none 0 0, .slice none 0 0, .slice none 0 0]), 5, 112) := by kernel_rfl
/-- Nodes in memory of their own. -/
def NodesV (base : Nat) (w' : World) (es : List Ex) (v : Value) : Prop := ∃ ys, RowAt w' (From base) 5 v es.length ys ∧ NdIn w' (From base) es ys
theorem isEnd_list {l : List Tk} {i : Nat} : isEnd l i = ((tkk l i).toList == [101, 110, 100]) := rfl

set_option maxRecDepth 100000 in
set_option maxHeartbeats 2000000 in
theorem program_any (C : Rc) (i d : Nat) (w : World) (T : Tkl C.l) (R : Rd C i d w) :
    Calls Tryz.prog 29 #[.pointer (some ⟨C.b, 0, none⟩)] w fun e w' => Mv C.b w w' ∧ ((∃ es j v, Parse C.l (.nodes []) i d (.ok es j) ∧ e = .returned v ∧ NodesV w.heap.size w' es v) ∨ (∃ j bd, Parse C.l (.nodes []) i d (.bad j bd) ∧ Threw C j bd e w')) := by
  obtain ⟨i0, hi0, hz0, hz1, hz2⟩ := info_parts Tryz.infoNode
  have hlt := R.lt
  have hbl := R.blt
  have hfd := fldK
  go_enter Tryz.func29, Tryz.ntmps29
  go_wp2
  go_loopw [3] (fun v wr => ∃ (es : List Ex) (cells : List Value) (j : Nat) (so : Option Addr) (sc : Nat), v = .slice so es.length sc ∧ Hid (wr.ownsRow w.heap.size 70 5 v es.length cells) ∧ NdIn wr (fun k => w.heap.size ≤ k ∧ v.ownBlock ≠ some k) es cells ∧ Rd C j d wr ∧ Mv C.b w wr ∧ es.length ≤ j ∧ Hid (∀ r, Parse C.l (.nodes es) j d r → Parse C.l (.nodes []) i d r)) (fun _ wr => C.l.length - posOf wr C.b)
  case atStart => exact ⟨[], [], i, none, 0, rfl, World.ownsRow_nil _ _ _ _, .nil, R, Mv.refl _ _, by simp, fun r h => h⟩
  case round =>
    obtain ⟨es, cells, j, so, sc, rfl, HO, hin, Rr, hmr, hle, HP⟩ := hrel
    have hjl := Rr.lt
    have hlen := Rr.len
    have hsr := hmr.size
    by_cases g1 : isEnd C.l j = true
    · have g1' : ((tkk C.l j).toList == [101, 110, 100]) = true := g1
      go_wp2_with fail
      refine (tnext_any C j d _ Rr).mono ?_
      rintro e w2 ⟨rfl, hb2⟩
      go_wp2
      go_ret
      exact ⟨hmr.trans (Mv.of_below hb2), Or.inl ⟨es, j, _, HP.out _ (Run.ifT g1 Run.done), rfl, ⟨cells, (RowAt.of_owns HO.out).keep (Stays.below hb2 (fun k hk => hk)), hin.keep (Stays.below hb2 (fun k hk => hk.1))⟩⟩⟩
    · have g1' : isEnd C.l j = false := by simpa using g1
      have g1'' : ((tkk C.l j).toList == [101, 110, 100]) = false := g1'
      clear g1
      by_cases g2 : txs C.l j [tNode] = true ∧ es.length = 12
      · obtain ⟨g2, g3⟩ := g2
        have gt : tx C.l j tNode = true := by rw [← txs_one]; exact g2
        have HG : Hid (es.length = 12) := g3
        have g3' : ((es.length : Int) == 12) = true := by simp; omega
        clear g3
        go_wp2_with fail
        refine (tnext_any C j d _ Rr).mono ?_
        rintro e w2 ⟨rfl, hb2⟩
        have R2 := Rr.below hb2
        go_wp2_with fail
        refine (is_new C j d _ R2 [tNode] _ 1 rfl rfl (by decide)).mono ?_
        rintro e w3 ⟨rfl, hb3⟩
        have R3 := R2.below hb3
        have hB3 := R3.hB
        go_wp2_with fail
        refine (fail_any C j d _ R3 _ true rfl).mono ?_
        rintro e w4 ⟨⟨hj, p, rfl, q0, q1⟩, hb4⟩
        go_wp2
        exact ⟨rfl, ((hmr.trans (Mv.of_below hb2)).trans (Mv.of_below hb3)).trans (Mv.of_below hb4), Or.inr ⟨j, true, HP.out _ (Run.ifF g1' (Run.ifT (by rw [gt, HG.out]; rfl) (.ret _))), hj, p, rfl, q0, q1⟩⟩
      · have g2' : (tx C.l j tNode && es.length == 12) = false := by
          rw [← txs_one]
          cases h : txs C.l j [tNode] with
          | false => rfl
          | true => simpa using fun e => g2 ⟨h, e⟩
        have HG : Hid ((tx C.l j tNode && es.length == 12) = false) := g2'
        have hor : txs C.l j [tNode] = false ∨ (txs C.l j [tNode] = true ∧ ((es.length : Int) == 12) = false) := by
          cases h : txs C.l j [tNode] with
          | false => exact Or.inl rfl
          | true => exact Or.inr ⟨rfl, by simp; exact fun e => g2 ⟨h, by omega⟩⟩
        clear g2 g2'
        go_wp2_with fail
        refine (tnext_any C j d _ Rr).mono ?_
        rintro e w2 ⟨rfl, hb2⟩
        have R2 := Rr.below hb2
        have hs2 := hb2.size
        rcases hor with hor | ⟨hor, hor2⟩
        all_goals
          go_wp2_with fail
          refine (is_new C j d _ R2 [tNode] _ 1 rfl rfl (by decide)).mono ?_
          rintro e w3 ⟨rfl, hb3⟩
          have R3 := R2.below hb3
          have hs3 := hb3.size
          go_wp2_with fail
          refine (node_any C j d _ T R3).mono ?_
          rintro e w4 ⟨hm4, h4⟩
          have hs4 := hm4.size
          have hmm : Mv C.b wr w4 := ((Mv.of_below hb2).trans (Mv.of_below hb3)).trans hm4
          rcases h4 with ⟨es', j', v, hp', rfl, hv, R4, hij'⟩ | ⟨j', bd, hp', hj', p, rfl, q0, q1⟩
          · obtain ⟨name, ins, outs, owns, qs, o1, c1, o2, c2, o3, c3, o4, c4, xs, rfl, rfl, r1, r2, r3, r4, r5⟩ := hv.one
            have hown4 := ownsRow_mv HO.out hmm (by omega)
            have hnb := heap_alloc_new w4 (.cells #[.string name, .slice o1 ins.length c1, .slice o2 outs.length c2, .slice o3 owns.length c3, .slice o4 qs.length c4] 70)
            have HN' : Hid _ := World.news_of_block hnb
            have HO4 : Hid _ := hown4.alloc (.cells #[.string name, .slice o1 ins.length c1, .slice o2 outs.length c2, .slice o3 owns.length c3, .slice o4 qs.length c4] 70)
            have hn63 : es.length + 1 ≤ maxLen := by unfold maxLen; omega
            have hby : (es.length + 1) * 112 ≤ 140737488355328 := by omega
            have hrw : ∀ k, (Value.slice so es.length sc).ownBlock = some k → w.heap.size ≤ k ∧ k < wr.heap.size := fun k hk => ownsRow_block HO.out hk
            have HRW : Hid _ := hrw
            clear hown4 hnb hrw
            go_wp2_with (at_builtin; refine wpList_append_lies _ rfl _ _ _ rfl w.heap.size 70 i0 _ 5 112 Tryz.underlying39 hi0 hz0 hz1 hz2 rfl (by omega) _ es.length cells rfl HO4.out ⟨w4.heap.size, 0, none⟩ 1 1 [.string name, .slice o1 ins.length c1, .slice o2 outs.length c2, .slice o3 owns.length c3, .slice o4 qs.length c4] rfl rfl HN'.out (by simp [Value.oneCell']) (by omega) hn63 hby (by simp; omega) (w4.heap.size + 1) (by simp) ?_; intro g cap w5 hown5 hgrow hat hlt5)
            have hB : Below w.heap.size w4 w5 := ((Below.refl _ _).alloc (by omega) _).grown hgrow (by simp; omega) (fun k hk => (HRW.out k hk).1)
            have St0 := grow_old (n := es.length + 1) (cap := cap) hmm hbl hgrow hat
            have St1 := grow_new (base := w.heap.size) (n := es.length + 1) (cap := cap) (H := w3.heap.size) (by omega) (fun k hk => by have := (HRW.out k hk).2; omega) hgrow hat
            have R5 := R.upon R4 hB
            have e1 := Rr.pos
            have e2 := R5.pos
            have l2 := R4.lt
            refine ⟨⟨es ++ [.mk name 0 b0 [lst ins, lst outs, lst owns, lst qs]], cells ++ [.string name, .slice o1 ins.length c1, .slice o2 outs.length c2, .slice o3 owns.length c3, .slice o4 qs.length c4], j', some ⟨g, 0, none⟩, cap, by rw [List.length_append]; rfl, ?_, (hin.keep St0).append (.cons name ins outs owns qs [] _ _ _ _ xs [] (r1.keep St1) (r2.keep St1) (r3.keep St1) (r4.keep St1) (r5.keep St1) .nil), R5, (hmr.trans hmm).upon hB, by simp; omega, fun r hr => HP.out _ (Run.ifF g1' (Run.ifF HG.out (Run.then hp' (Run.tail hr))))⟩, by omega⟩
            rw [List.length_append]; exact hown5
          · go_wp2
            exact ⟨rfl, hmr.trans hmm, Or.inr ⟨j', bd, HP.out _ (Run.ifF g1' (Run.ifF HG.out (Run.stop hp'))), hj', p, rfl, q0, q1⟩⟩
end Go.Proofs.YtomgimfmcfjhdaaGreatDoor

/-
  tree.caught BY ITS CONTRACT; tree.Read BY ITS CONTRACT.
-/
namespace Go.Proofs.YtomgimfmcfjhdaaGreatDoor
open Go.RowKit
attribute [local go_sem ↓] Go.wp_at_zero Go.wp_at_succ

abbrev thrownV (p : Nat) : Value := .iface 143 (.agg #[.iface 64 (.pointer (some ⟨p, 0, none⟩))])
theorem assert_thrown (p : Nat) (w : World) : (Instr.typeAssert (thrownV p) 20 143 true).run Tryz.prog w = .ok (.tuple #[.agg #[.iface 64 (.pointer (some ⟨p, 0, none⟩))], .bool true]) w := by kernel_rfl
set_option maxRecDepth 100000 in
set_option maxHeartbeats 1000000 in
theorem catch_thrown (b p : Nat) (v : Value) (older : List PanicEntry) (w : World) (hc : w.cell? ⟨b, 0, none⟩ = some v) (hz : w.frozen? ⟨b, 0, none⟩ = false) :
    CallsD Tryz.prog 78 #[.pointer (some ⟨b, 0, none⟩)] (.panicking ({ v := thrownV p, recovered := false } :: older)) w fun e u' w' =>
      e = .returned (.tuple #[]) ∧ u' = .panicking ({ v := thrownV p, recovered := true } :: older) ∧ w' = (w.setCell ⟨b, 0, none⟩ (.iface 64 (.pointer (some ⟨p, 0, none⟩)))).alloc (.cells #[.iface 64 (.pointer (some ⟨p, 0, none⟩))] 143) := by
  refine callsD_of_wpS Tryz.func78 rfl fun c₀ cs hu => ?_
  apply wpS_seq
  apply wpS_region
  simp [wpOpsS, go_sem, recoverD, hu, Tryz.ntmps78, Exit.thenS]
  have hta := assert_thrown p
  apply wpS_seq
  apply wpS_region
  simp [wpOpsS, go_sem, Exit.thenS]
  refine wpS_cond (t := true) (by simp [Act.eval]) ?_
  simp only [if_true]
  apply wpS_seq
  apply wpS_region
  simp [wpOpsS, go_sem, Exit.thenS, hta]
  apply wpS_seq
  apply wpS_seq
  apply wpS_region
  simp [wpOpsS, go_sem, Exit.thenS]
  refine wpS_cond (t := false) (by simp [Act.eval]) ?_
  simp only [Bool.false_eq_true, if_false]
  refine wpS_of_wp (wp_skip ?_)
  have hbl : b < w.heap.size := lt_of_cell hc
  simp only [Exit.thenS]
  apply wpS_region
  simp [wpOpsS, go_sem, hc, hz, hbl, bodyPostS, results, Tryz.results78]
theorem catch_idle (p : Addr) (w : World) :
    CallsD Tryz.prog 78 #[.pointer (some p)] .returning w fun e u' w' => e = .returned (.tuple #[]) ∧ u' = .returning ∧ w' = w := by
  refine callsD_of_wpS Tryz.func78 rfl fun c₀ cs hu => ?_
  apply wpS_seq
  apply wpS_region
  simp [wpOpsS, go_sem, recoverD, hu, Tryz.ntmps78, Exit.thenS]
  apply wpS_seq
  apply wpS_region
  simp [wpOpsS, go_sem, Exit.thenS]
  refine wpS_cond (t := false) (by simp [Act.eval]) ?_
  simp only [Bool.false_eq_true, if_false]
  refine wpS_of_wp (wp_skip ?_)
  cases c₀
  simp_all [bodyPostS, results, Tryz.results78]

set_option maxRecDepth 100000 in
set_option maxHeartbeats 1000000 in
theorem read1_any (C : Rc) (b5 b2 : Nat) (v2 : Value) (w : World) (T : Tkl C.l) (R : Rd C 0 0 w) (h5 : w.cell? ⟨b5, 0, none⟩ = some (.pointer (some ⟨C.b, 0, none⟩))) (h2 : w.cell? ⟨b2, 0, none⟩ = some v2) (f2 : w.frozen? ⟨b2, 0, none⟩ = false) (n2 : b2 ≠ C.b) :
    Calls Tryz.prog 28 #[.pointer (some ⟨b5, 0, none⟩), .pointer (some ⟨b2, 0, none⟩)] w fun e w' =>
      (∃ es j v w1, Parse C.l (.nodes []) 0 0 (.ok es j) ∧ e = .returned (.tuple #[]) ∧ Mv C.b w w1 ∧ NodesV w.heap.size w1 es v ∧ w' = w1.setCell ⟨b2, 0, none⟩ v) ∨ (∃ j bd, Parse C.l (.nodes []) 0 0 (.bad j bd) ∧ Threw C j bd e w' ∧ Mv C.b w w') := by
  go_enter Tryz.func28, Tryz.ntmps28
  go_wp2_with fail
  refine (program_any C 0 0 _ T R).mono ?_
  rintro e w1 ⟨hm1, h1⟩
  rcases h1 with ⟨es, j, v, hp, rfl, ⟨ys, hrow, hin⟩⟩ | ⟨j, bd, hp, hj, p, rfl, q0, q1⟩
  · obtain ⟨so, sc, rfl⟩ := hrow.form
    have c2 := hm1.cell (p := ⟨b2, 0, none⟩) n2 h2
    have g2 : w1.frozen? ⟨b2, 0, none⟩ = false := by
      rw [World.frozen?_of_block (w := w) (hm1.block b2 (lt_of_cell h2) (by intro e; injection e with e; exact n2 e))]; exact f2
    go_wp2
    go_end0
    exact Or.inl ⟨es, j, _, w1, hp, rfl, hm1, ⟨ys, hrow, hin⟩, rfl⟩
  · go_wp2
    exact ⟨rfl, Or.inr ⟨j, bd, hp, ⟨hj, p, rfl, q0, q1⟩, hm1⟩⟩

set_option maxRecDepth 100000 in
set_option maxHeartbeats 1000000 in
theorem caught_read (C : Rc) (b5 b2 : Nat) (v2 : Value) (w : World) (T : Tkl C.l) (R : Rd C 0 0 w) (h5 : w.cell? ⟨b5, 0, none⟩ = some (.pointer (some ⟨C.b, 0, none⟩))) (h2 : w.cell? ⟨b2, 0, none⟩ = some v2) (f2 : w.frozen? ⟨b2, 0, none⟩ = false) (n2 : b2 ≠ C.b) (H : Nat) (hH1 : H ≤ C.b) (hH2 : H ≤ b2) :
    Calls Tryz.prog 27 #[.func (.func 28) #[] #[.pointer (some ⟨b5, 0, none⟩), .pointer (some ⟨b2, 0, none⟩)]] w fun e w' =>
      (∃ es j v, Parse C.l (.nodes []) 0 0 (.ok es j) ∧ e = .returned .nilIface ∧ NodesV w.heap.size w' es v ∧ w'.cell? ⟨b2, 0, none⟩ = some v ∧ w'.frozen? ⟨b2, 0, none⟩ = false ∧ Below H w w') ∨
      (∃ j bd p, Parse C.l (.nodes []) 0 0 (.bad j bd) ∧ j < C.l.length ∧ e = .returned (.iface 64 (.pointer (some ⟨p, 0, none⟩))) ∧ w'.cell? ⟨p, 0, none⟩ = some (.int .i64 (tkp C.l j)) ∧ w'.cell? ⟨p, 0 + 1, none⟩ = some (.iface 235 (.pointer (some (if bd then C.pB else C.pT)))) ∧ w'.cell? ⟨b2, 0, none⟩ = some v2 ∧ w'.frozen? ⟨b2, 0, none⟩ = false ∧ Below H w w') := by
  have hmf : ∀ (fn : Fn) (first cap : Array Value) (w : World), (Instr.makeFunc fn first cap).run Tryz.prog w = .ok (.func fn first cap) w := fun _ _ _ _ => rfl
  have hbA : Below w.heap.size w (w.alloc (.cells #[.nilIface] 27)) := (Below.refl _ _).alloc (Nat.le_refl _) _
  have HZ : Hid _ := heap_alloc_new w (.cells #[.nilIface] 27)
  have hbl := R.blt
  have hl2 : b2 < w.heap.size := lt_of_cell h2
  go_enter_defers Tryz.func27, Tryz.ntmps27
  go_wp2_with fail
  refine (read1_any C b5 b2 v2 _ T (R.below hbA) (cell_keep hbA h5) (cell_keep hbA h2) (by rw [hbA.frozen (p := ⟨b2, 0, none⟩) hl2]; exact f2) n2).mono ?_
  rintro e w' h
  rcases h with ⟨es, j, v, w1, hp, rfl, hm1, hv, rfl⟩ | ⟨j, bd, hp, ⟨hj, p, rfl, q0, q1⟩, hm1⟩
  · have hr1 := hm1.row (k := w.heap.size) (by omega) HZ.out
    have c1 : w1.cell? ⟨w.heap.size, 0, none⟩ = some .nilIface := by simp [World.cell?, hr1]
    have f1 : w1.frozen? ⟨w.heap.size, 0, none⟩ = false := by simp [World.frozen?, hr1]
    have hne : b2 ≠ w.heap.size := by omega
    have hne' : w.heap.size ≠ b2 := by omega
    clear hr1
    go_wp2
    refine leaves_cons (f := 78) (args := #[.pointer (some ⟨w.heap.size, 0, none⟩)]) (by simp) (by simp [go_sem]) ?_
    refine (catch_idle _ _).mono ?_
    rintro e u' w'' ⟨rfl, rfl, rfl⟩
    have hBw : Below H w1 ((w1.setCell ⟨b2, 0, none⟩ v).setCell ⟨w.heap.size, 0, none⟩ .nilIface) := ((Below.refl _ _).setCell hH2 _).setCell (by show H ≤ w.heap.size; omega) _
    have hBl : Below H w w1 := (hbA.mono (by omega)).trans ⟨hm1.os, hm1.tape, hm1.output, hm1.size, fun k hk => hm1.block k (by simp; omega) (by intro e; injection e with e; omega)⟩
    obtain ⟨ys, hrow, hin⟩ := hv
    have St : Stays (From (w.alloc (.cells #[.nilIface] 27)).heap.size) (From w.heap.size) w1 ((w1.setCell ⟨b2, 0, none⟩ v).setCell ⟨w.heap.size, 0, none⟩ .nilIface) := (Stays.set (S' := fun k => w.heap.size < k) (p := ⟨b2, 0, none⟩) v (fun k hk => by unfold From at hk; simp only [World.size_alloc] at hk; exact ⟨by show k ≠ b2; omega, by omega⟩)).trans (Stays.set (p := ⟨w.heap.size, 0, none⟩) _ (fun k hk => ⟨by show k ≠ w.heap.size; omega, by unfold From; omega⟩)) (by simp)
    refine ⟨.nilIface, ?_, Or.inl ⟨es, j, v, hp, rfl, ⟨ys, hrow.keep St, hin.keep St⟩, ?_, ?_, hBl.trans hBw⟩⟩
    · simp [results, Tryz.results27, go_sem, c1]
    · rw [World.cell?_setCell_other _ _ _ _ (fun e => hne' (by injection e))]
      exact World.cell?_setCell_same _ _ _ (hm1.cell (p := ⟨b2, 0, none⟩) n2 (cell_keep hbA h2))
    · rw [World.frozen?_setCell, World.frozen?_setCell, World.frozen?_of_block (w := w.alloc (.cells #[.nilIface] 27)) (hm1.block b2 (by simp; omega) (by intro e; injection e with e; exact n2 e)), hbA.frozen (p := ⟨b2, 0, none⟩) hl2]; exact f2
  · have hr1 := hm1.row (k := w.heap.size) (by omega) HZ.out
    have c1 : w'.cell? ⟨w.heap.size, 0, none⟩ = some .nilIface := by simp [World.cell?, hr1]
    have f1 : w'.frozen? ⟨w.heap.size, 0, none⟩ = false := by simp [World.frozen?, hr1]
    clear hr1
    go_wp2
    refine leaves_cons (f := 78) (args := #[.pointer (some ⟨w.heap.size, 0, none⟩)]) (by simp) (by simp [go_sem]) ?_
    refine (catch_thrown w.heap.size p .nilIface [] _ c1 f1).mono ?_
    rintro e u' w'' ⟨rfl, rfl, rfl⟩
    have hne : p ≠ w.heap.size := fun e => by rw [e, c1] at q0; cases q0
    have hs1 := hm1.size
    simp only [World.size_alloc] at hs1
    have hBw : Below H w' ((w'.setCell ⟨w.heap.size, 0, none⟩ (.iface 64 (.pointer (some ⟨p, 0, none⟩)))).alloc (.cells #[.iface 64 (.pointer (some ⟨p, 0, none⟩))] 143)) := ((Below.refl _ _).setCell (by show H ≤ w.heap.size; omega) _).alloc (by simp; omega) _
    have hBl : Below H w w' := (hbA.mono (by omega)).trans ⟨hm1.os, hm1.tape, hm1.output, hm1.size, fun k hk => hm1.block k (by simp; omega) (by intro e; injection e with e; omega)⟩
    have far : ∀ {a : Addr} {x : Value}, a.block ≠ w.heap.size → w'.cell? a = some x → ((w'.setCell ⟨w.heap.size, 0, none⟩ (.iface 64 (.pointer (some ⟨p, 0, none⟩)))).alloc (.cells #[.iface 64 (.pointer (some ⟨p, 0, none⟩))] 143)).cell? a = some x := by
      intro a x ha hx
      have hl := lt_of_cell hx
      rw [World.cell?_of_block (w := w') ((heap_alloc_old _ _ (by simpa using hl)).trans (Below.heap_setCell _ _ _ _ ha))]
      exact hx
    refine ⟨.iface 64 (.pointer (some ⟨p, 0, none⟩)), ?_, Or.inr ⟨j, bd, p, hp, hj, rfl, far hne q0, far hne q1, far (by show b2 ≠ w.heap.size; omega) (hm1.cell (p := ⟨b2, 0, none⟩) n2 (cell_keep hbA h2)), ?_, hBl.trans hBw⟩⟩
    · have hlw : w.heap.size < w'.heap.size := by omega
      simp [results, Tryz.results27, go_sem, c1, hlw]
    · rw [World.frozen?_of_block (w := w') ((heap_alloc_old _ _ (by show b2 < _; simp; omega)).trans (Below.heap_setCell _ _ _ _ (by show b2 ≠ w.heap.size; omega))), World.frozen?_of_block (w := w.alloc (.cells #[.nilIface] 27)) (hm1.block b2 (by simp; omega) (by intro e; injection e with e; exact n2 e)), hbA.frozen (p := ⟨b2, 0, none⟩) hl2]; exact f2

theorem tblk1 {w : World} {b : Nat} {x : Value} {t : TypeId} (h : w.heap[b]? = some (.cells #[x] t (0, 0))) : w.cell? ⟨b, 0, none⟩ = some x ∧ ∀ k, w.frozen? ⟨b, k, none⟩ = false :=
  ⟨by simp [World.cell?, h], fun k => by simp [World.frozen?, h]⟩
set_option maxRecDepth 100000 in
set_option maxHeartbeats 1000000 in
theorem read_long (s : ByteArray) (w : World) (t : TypeId) (x : Value) (h : 6000 < s.size) (hm : s.size ≤ maxLen) (hB : w.cell? ⟨1, 0, none⟩ = some (.iface t x)) :
    Calls Tryz.prog 13 #[.string s] w fun e w' => e = .returned (.tuple #[.slice none 0 0, .iface t x]) ∧ Below w.heap.size w w' := by
  have hbA : Below w.heap.size w (w.alloc (.cells #[.slice none 0 0] 39)) := (Below.refl _ _).alloc (Nat.le_refl _) _
  go_enter Tryz.func13, Tryz.ntmps13
  go_wp2_with fail
  refine (lex_long s _ _ h hm (cell_keep hbA hB) ⟨_, _, rfl⟩).mono ?_
  rintro e w1 ⟨rfl, k, rfl⟩
  go_wp2
  exact bodyPost_ret (v := .tuple #[.slice none 0 0, .iface t x]) (by simp [results, Tryz.results13, go_sem]) rfl ⟨rfl, (below_drewN hbA k).setCell (Nat.le_refl _) _⟩

set_option maxRecDepth 100000 in
set_option maxHeartbeats 1000000 in
theorem read_any (s : ByteArray) (w : World) (pT pB : Addr) (ev : Value) (hs : s.size ≤ 6000) (hT : w.cell? ⟨2, 0, none⟩ = some (.iface 235 (.pointer (some pT)))) (hB : w.cell? ⟨1, 0, none⟩ = some (.iface 235 (.pointer (some pB)))) (hv : w.cell? ⟨11, 0, none⟩ = some ev) (hev : ev = .nilIface ∨ ∃ te pe, ev = .iface te pe) :
    Calls Tryz.prog 13 #[.string s] w fun e w' => Below w.heap.size w w' ∧
      ((∃ (l : List Tk) (es : List Ex) (j : Nat) (v : Value), Lexes s 0 l none ∧ Parse l (.nodes []) 0 0 (.ok es j) ∧ e = .returned (.tuple #[v, .nilIface]) ∧ NodesV w.heap.size w' es v) ∨
       (∃ (l : List Tk) (j p : Nat) (bd : Bool), Lexes s 0 l none ∧ Parse l (.nodes []) 0 0 (.bad j bd) ∧ j < l.length ∧ e = .returned (.tuple #[.slice none 0 0, .iface 64 (.pointer (some ⟨p, 0, none⟩))]) ∧ w'.cell? ⟨p, 0, none⟩ = some (.int .i64 (tkp l j)) ∧ w'.cell? ⟨p, 0 + 1, none⟩ = some (.iface 235 (.pointer (some (if bd then pB else pT))))) ∨
       (∃ (l : List Tk) (j p : Nat), Lexes s 0 l (some j) ∧ e = .returned (.tuple #[.slice none 0 0, .iface 64 (.pointer (some ⟨p, 0, none⟩))]) ∧ w'.cell? ⟨p, 0, none⟩ = some (.int .i64 j) ∧ w'.cell? ⟨p, 0 + 1, none⟩ = some (.iface 235 (.pointer (some pT))))) := by
  have hbA : Below w.heap.size w (w.alloc (.cells #[.slice none 0 0] 39)) := (Below.refl _ _).alloc (Nat.le_refl _) _
  have HZ : Hid _ := heap_alloc_new w (.cells #[.slice none 0 0] 39)
  have hmf : ∀ (fn : Fn) (first cap : Array Value) (w : World), (Instr.makeFunc fn first cap).run Tryz.prog w = .ok (.func fn first cap) w := fun _ _ _ _ => rfl
  have lT := lt_of_cell hT
  have lB := lt_of_cell hB
  go_enter Tryz.func13, Tryz.ntmps13
  go_wp2_with fail
  refine (lex_any s _ pT ev hs (cell_keep hbA hT) (cell_keep hbA hv) hev).mono ?_
  rintro e w1 ⟨hb1, h1⟩
  have hs1 := hb1.size
  simp only [World.size_alloc] at hs1
  have HZ1 : Hid _ := row_keep hb1 HZ.out
  have hT1 := cell_keep hb1 (cell_keep hbA hT)
  have hB1 := cell_keep hb1 (cell_keep hbA hB)
  rcases h1 with ⟨l, v, hl, rfl, hown⟩ | ⟨l, j, p, hl, rfl, hp0, hp1⟩
  · have T := hl.toks hs
    obtain ⟨g, cap, rfl, hc⟩ := own_cells hown T.ne
    have hgl : g < w1.heap.size := lt_of_cell (hc 0 T.ne).1
    have hbW : Below w1.heap.size w1 ((w1.alloc (.cells #[.slice (some ⟨g, 0, none⟩) l.length cap, .int .i64 0, .int .i64 0] 73)).alloc (.cells #[.pointer (some ⟨w1.heap.size, 0, none⟩)] 71)) := ((Below.refl _ _).alloc (Nat.le_refl _) _).alloc (by simp) _
    obtain ⟨y0, y1, y2, yf⟩ := blk3 (alloc_row (.cells #[.pointer (some ⟨w1.heap.size, 0, none⟩)] 71) (heap_alloc_new w1 (.cells #[.slice (some ⟨g, 0, none⟩) l.length cap, .int .i64 0, .int .i64 0] 73)))
    obtain ⟨x0, xf⟩ := tblk1 (two_new w1 (.cells #[.slice (some ⟨g, 0, none⟩) l.length cap, .int .i64 0, .int .i64 0] 73) (.cells #[.pointer (some ⟨w1.heap.size, 0, none⟩)] 71))
    obtain ⟨z0, zf⟩ := tblk1 (row_keep hbW HZ1.out)
    have R : Rd ⟨pT, pB, w1.heap.size, g, cap, l⟩ 0 0 ((w1.alloc (.cells #[.slice (some ⟨g, 0, none⟩) l.length cap, .int .i64 0, .int .i64 0] 73)).alloc (.cells #[.pointer (some ⟨w1.heap.size, 0, none⟩)] 71)) := by
      refine ⟨y0, y1, y2, yf, fun k hk => ?_, ?_, T.ne, T.len, by decide, cell_keep hbW hT1, cell_keep hbW hB1, ?_, ?_⟩
      · have hk' : k < l.length := hk
        obtain ⟨a0, a1, a2⟩ := hc k hk'
        rw [show tkk l k = l[k].kind from tkk_lt hk', show tkx l k = l[k].text from tkx_lt hk', show tkp l k = l[k].pos from dif_pos hk']
        exact ⟨cell_keep hbW a0, cell_keep hbW a1, cell_keep hbW a2⟩
      · show g ≠ w1.heap.size; omega
      · show 2 ≠ w1.heap.size
        have : 2 < w.heap.size := lT
        omega
      · show 1 ≠ w1.heap.size
        have : 1 < w.heap.size := lB
        omega
    have HR : Hid _ := R
    have HX0 : Hid _ := x0
    have HZ0 : Hid _ := z0
    have HZF : Hid _ := zf 0
    clear y0 y1 y2 yf x0 xf z0 zf hc hown R
    go_wp2_with fail
    refine (caught_read ⟨pT, pB, w1.heap.size, g, cap, l⟩ (w1.heap.size + 1) w.heap.size (.slice none 0 0) _ T HR.out HX0.out HZ0.out HZF.out (by show w.heap.size ≠ w1.heap.size; omega) w.heap.size (by show w.heap.size ≤ w1.heap.size; omega) (Nat.le_refl _)).mono ?_
    rintro e w2 h2
    have hBW : Below w.heap.size w ((w1.alloc (.cells #[.slice (some ⟨g, 0, none⟩) l.length cap, .int .i64 0, .int .i64 0] 73)).alloc (.cells #[.pointer (some ⟨w1.heap.size, 0, none⟩)] 71)) := (hbA.trans (hb1.mono (by simp))).trans (hbW.mono (by omega))
    rcases h2 with ⟨es, j, v, hp, rfl, ⟨ys, hrow, hin⟩, hc2, hf2, hb2⟩ | ⟨j, bd, p, hp, hj, rfl, hp0, hp1, hc2, hf2, hb2⟩
    · obtain ⟨so, sc, rfl⟩ := hrow.form
      have St : Stays (From ((w1.alloc (.cells #[.slice (some ⟨g, 0, none⟩) l.length cap, .int .i64 0, .int .i64 0] 73)).alloc (.cells #[.pointer (some ⟨w1.heap.size, 0, none⟩)] 71)).heap.size) (From w.heap.size) w2 (w2.setCell ⟨w.heap.size, 0, none⟩ (.slice so es.length sc)) := Stays.set (p := ⟨w.heap.size, 0, none⟩) _ (fun k hk => by unfold From at *; simp only [World.size_alloc] at hk; exact ⟨by show k ≠ w.heap.size; omega, by omega⟩)
      go_wp2
      exact bodyPost_ret (v := .tuple #[.slice so es.length sc, .nilIface]) (by simp [results, Tryz.results13, go_sem, hc2]) rfl ⟨(hBW.trans hb2).setCell (Nat.le_refl _) _, Or.inl ⟨l, es, j, _, hl, hp, rfl, ys, hrow.keep St, hin.keep St⟩⟩
    · have hpn : p ≠ w.heap.size := fun e => by rw [e, hc2] at hp0; cases hp0
      go_wp2
      refine bodyPost_ret (v := .tuple #[.slice none 0 0, .iface 64 (.pointer (some ⟨p, 0, none⟩))]) (by simp [results, Tryz.results13, go_sem, hc2]) rfl ⟨(hBW.trans hb2).setCell (Nat.le_refl _) _, Or.inr (Or.inl ⟨l, j, p, bd, hl, hp, hj, rfl, ?_, ?_⟩)⟩
      · rw [World.cell?_setCell_other _ _ _ _ (fun e => hpn (by injection e with e; exact e.symm))]; exact hp0
      · rw [World.cell?_setCell_other _ _ _ _ (fun e => hpn (by injection e with e; exact e.symm))]; exact hp1
  · obtain ⟨z0, zf⟩ := tblk1 HZ1.out
    have hpn : p ≠ w.heap.size := fun e => by rw [e, z0] at hp0; cases hp0
    go_wp2
    refine bodyPost_ret (v := .tuple #[.slice none 0 0, .iface 64 (.pointer (some ⟨p, 0, none⟩))]) (by simp [results, Tryz.results13, go_sem, z0]) rfl ⟨(hbA.trans (hb1.mono (by simp))).setCell (Nat.le_refl _) _, Or.inr (Or.inr ⟨l, j, p, hl, rfl, ?_, ?_⟩)⟩
    · rw [World.cell?_setCell_other _ _ _ _ (fun e => hpn (by injection e with e; exact e.symm))]; exact hp0
    · rw [World.cell?_setCell_other _ _ _ _ (fun e => hpn (by injection e with e; exact e.symm))]; exact hp1
end Go.Proofs.YtomgimfmcfjhdaaGreatDoor
