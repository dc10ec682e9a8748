/-
  tree.caught BY ITS CONTRACT; tree.Read BY ITS CONTRACT.
-/
import Derived.Test.YtgbpccipdcajgaaGreatDoorQ15
import Derived.Defers
import Derived.Recover
import Derived.Laws.Pointers
import Derived.Test.YtgbpccipdcajgaaGreatDoorQ17
import Derived.Test.YtgbpccipdcajgaaGreatDoorQ12
namespace Go.Proofs.YtgbpccipdcajgaaGreatDoor
open Go.RowKit
attribute [local go_sem ↓] Go.wp_at_zero Go.wp_at_succ
abbrev thrownV (p : Nat) : Value := .iface 143 (.agg #[.iface 64 (.pointer (some ⟨p, 0, none⟩))])
theorem assert_thrown (p : Nat) (w : World) : (Instr.typeAssert (thrownV p) 20 143 true).run Tryz.prog w = .ok (.tuple #[.agg #[.iface 64 (.pointer (some ⟨p, 0, none⟩))], .bool true]) w := by kernel_rfl
set_option maxRecDepth 100000 in
set_option maxHeartbeats 1000000 in
theorem catch_thrown (b p : Nat) (v : Value) (older : List PanicEntry) (w : World) (hc : w.cell? ⟨b, 0, none⟩ = some v) (hz : w.frozen? ⟨b, 0, none⟩ = false) :
  CallsD Tryz.prog 78 #[.pointer (some ⟨b, 0, none⟩)] (.panicking ({ v := thrownV p, recovered := false } :: older)) w fun e u' w' =>
   e = .returned (.tuple #[]) ∧ u' = .panicking ({ v := thrownV p, recovered := true } :: older) ∧ w' = (w.setCell ⟨b, 0, none⟩ (.iface 64 (.pointer (some ⟨p, 0, none⟩)))).alloc (.cells #[.iface 64 (.pointer (some ⟨p, 0, none⟩))] 143) := by
 refine callsD_of_wpS Tryz.func78 rfl fun c₀ cs hu => ?_
 apply wpS_seq
 apply wpS_region
 simp [wpOpsS, go_sem, recoverD, hu, Tryz.ntmps78, Exit.thenS]
 have hta := assert_thrown p
 apply wpS_seq
 apply wpS_region
 simp [wpOpsS, go_sem, Exit.thenS]
 refine wpS_cond (t := true) (by simp [Act.eval]) ?_
 simp only [if_true]
 apply wpS_seq
 apply wpS_region
 simp [wpOpsS, go_sem, Exit.thenS, hta]
 apply wpS_seq
 apply wpS_seq
 apply wpS_region
 simp [wpOpsS, go_sem, Exit.thenS]
 refine wpS_cond (t := false) (by simp [Act.eval]) ?_
 simp only [Bool.false_eq_true, if_false]
 refine wpS_of_wp (wp_skip ?_)
 have hbl : b < w.heap.size := lt_of_cell hc
 simp only [Exit.thenS]
 apply wpS_region
 simp [wpOpsS, go_sem, hc, hz, hbl, bodyPostS, results, Tryz.results78]
theorem catch_idle (p : Addr) (w : World) :
  CallsD Tryz.prog 78 #[.pointer (some p)] .returning w fun e u' w' => e = .returned (.tuple #[]) ∧ u' = .returning ∧ w' = w := by
 refine callsD_of_wpS Tryz.func78 rfl fun c₀ cs hu => ?_
 apply wpS_seq
 apply wpS_region
 simp [wpOpsS, go_sem, recoverD, hu, Tryz.ntmps78, Exit.thenS]
 apply wpS_seq
 apply wpS_region
 simp [wpOpsS, go_sem, Exit.thenS]
 refine wpS_cond (t := false) (by simp [Act.eval]) ?_
 simp only [Bool.false_eq_true, if_false]
 refine wpS_of_wp (wp_skip ?_)
 cases c₀
 simp_all [bodyPostS, results, Tryz.results78]

set_option maxRecDepth 100000 in
set_option maxHeartbeats 1000000 in
theorem read1_any (C : Rc) (b5 b2 : Nat) (v2 : Value) (w : World) (T : Tkl C.l) (R : Rd C 0 0 w) (h5 : w.cell? ⟨b5, 0, none⟩ = some (.pointer (some ⟨C.b, 0, none⟩))) (h2 : w.cell? ⟨b2, 0, none⟩ = some v2) (f2 : w.frozen? ⟨b2, 0, none⟩ = false) (n2 : b2 ≠ C.b) :
  Calls Tryz.prog 28 #[.pointer (some ⟨b5, 0, none⟩), .pointer (some ⟨b2, 0, none⟩)] w fun e w' =>
   (∃ es j v w1, Parse C.l (.nodes []) 0 0 (.ok es j) ∧ e = .returned (.tuple #[]) ∧ Mv C.b w w1 ∧ NodesV w.heap.size w1 es v ∧ w' = w1.setCell ⟨b2, 0, none⟩ v) ∨ (∃ j bd, Parse C.l (.nodes []) 0 0 (.bad j bd) ∧ Threw C j bd e w' ∧ Mv C.b w w') := by
 go_enter Tryz.func28, Tryz.ntmps28
 go_wp2_with fail
 refine (program_any C 0 0 _ T R).mono ?_
 rintro e w1 ⟨hm1, h1⟩
 rcases h1 with ⟨es, j, v, hp, rfl, ⟨ys, hrow, hin⟩⟩ | ⟨j, bd, hp, hj, p, rfl, q0, q1⟩
 ·obtain ⟨so, sc, rfl⟩ := hrow.form
  have c2 := hm1.cell (p := ⟨b2, 0, none⟩) n2 h2
  have g2 : w1.frozen? ⟨b2, 0, none⟩ = false := by
   rw [World.frozen?_of_block (w := w) (hm1.block b2 (lt_of_cell h2) (by intro e; injection e with e; exact n2 e))]; exact f2
  go_wp2
  go_end0
  exact Or.inl ⟨es, j, _, w1, hp, rfl, hm1, ⟨ys, hrow, hin⟩, rfl⟩
 ·go_wp2
  exact ⟨rfl, Or.inr ⟨j, bd, hp, ⟨hj, p, rfl, q0, q1⟩, hm1⟩⟩

set_option maxRecDepth 100000 in
set_option maxHeartbeats 1000000 in
theorem caught_read (C : Rc) (b5 b2 : Nat) (v2 : Value) (w : World) (T : Tkl C.l) (R : Rd C 0 0 w) (h5 : w.cell? ⟨b5, 0, none⟩ = some (.pointer (some ⟨C.b, 0, none⟩))) (h2 : w.cell? ⟨b2, 0, none⟩ = some v2) (f2 : w.frozen? ⟨b2, 0, none⟩ = false) (n2 : b2 ≠ C.b) (H : Nat) (hH1 : H ≤ C.b) (hH2 : H ≤ b2) :
  Calls Tryz.prog 27 #[.func (.func 28) #[] #[.pointer (some ⟨b5, 0, none⟩), .pointer (some ⟨b2, 0, none⟩)]] w fun e w' =>
   (∃ es j v, Parse C.l (.nodes []) 0 0 (.ok es j) ∧ e = .returned .nilIface ∧ NodesV w.heap.size w' es v ∧ w'.cell? ⟨b2, 0, none⟩ = some v ∧ w'.frozen? ⟨b2, 0, none⟩ = false ∧ Below H w w') ∨
   (∃ j bd p, Parse C.l (.nodes []) 0 0 (.bad j bd) ∧ j < C.l.length ∧ e = .returned (.iface 64 (.pointer (some ⟨p, 0, none⟩))) ∧ w'.cell? ⟨p, 0, none⟩ = some (.int .i64 (tkp C.l j)) ∧ w'.cell? ⟨p, 0 + 1, none⟩ = some (.iface 235 (.pointer (some (if bd then C.pB else C.pT)))) ∧ w'.cell? ⟨b2, 0, none⟩ = some v2 ∧ w'.frozen? ⟨b2, 0, none⟩ = false ∧ Below H w w') := by
 have hmf : ∀ (fn : Fn) (first cap : Array Value) (w : World), (Instr.makeFunc fn first cap).run Tryz.prog w = .ok (.func fn first cap) w := fun _ _ _ _ => rfl
 have hbA : Below w.heap.size w (w.alloc (.cells #[.nilIface] 27)) := (Below.refl _ _).alloc (Nat.le_refl _) _
 have HZ : Hid _ := heap_alloc_new w (.cells #[.nilIface] 27)
 have hbl := R.blt
 have hl2 : b2 < w.heap.size := lt_of_cell h2
 go_enter_defers Tryz.func27, Tryz.ntmps27
 go_wp2_with fail
 refine (read1_any C b5 b2 v2 _ T (R.below hbA) (cell_keep hbA h5) (cell_keep hbA h2) (by rw [hbA.frozen (p := ⟨b2, 0, none⟩) hl2]; exact f2) n2).mono ?_
 rintro e w' h
 rcases h with ⟨es, j, v, w1, hp, rfl, hm1, hv, rfl⟩ | ⟨j, bd, hp, ⟨hj, p, rfl, q0, q1⟩, hm1⟩
 ·have hr1 := hm1.row (k := w.heap.size) (by omega) HZ.out
  have c1 : w1.cell? ⟨w.heap.size, 0, none⟩ = some .nilIface := by simp [World.cell?, hr1]
  have f1 : w1.frozen? ⟨w.heap.size, 0, none⟩ = false := by simp [World.frozen?, hr1]
  have hne : b2 ≠ w.heap.size := by omega
  have hne' : w.heap.size ≠ b2 := by omega
  clear hr1
  go_wp2
  refine leaves_cons (f := 78) (args := #[.pointer (some ⟨w.heap.size, 0, none⟩)]) (by simp) (by simp [go_sem]) ?_
  refine (catch_idle _ _).mono ?_
  rintro e u' w'' ⟨rfl, rfl, rfl⟩
  have hBw : Below H w1 ((w1.setCell ⟨b2, 0, none⟩ v).setCell ⟨w.heap.size, 0, none⟩ .nilIface) := ((Below.refl _ _).setCell hH2 _).setCell (by show H ≤ w.heap.size; omega) _
  have hBl : Below H w w1 := (hbA.mono (by omega)).trans ⟨hm1.os, hm1.tape, hm1.output, hm1.size, fun k hk => hm1.block k (by simp; omega) (by intro e; injection e with e; omega)⟩
  obtain ⟨ys, hrow, hin⟩ := hv
  have St : Stays (From (w.alloc (.cells #[.nilIface] 27)).heap.size) (From w.heap.size) w1 ((w1.setCell ⟨b2, 0, none⟩ v).setCell ⟨w.heap.size, 0, none⟩ .nilIface) := (Stays.set (S' := fun k => w.heap.size < k) (p := ⟨b2, 0, none⟩) v (fun k hk => by unfold From at hk; simp only [World.size_alloc] at hk; exact ⟨by show k ≠ b2; omega, by omega⟩)).trans (Stays.set (p := ⟨w.heap.size, 0, none⟩) _ (fun k hk => ⟨by show k ≠ w.heap.size; omega, by unfold From; omega⟩)) (by simp)
  refine ⟨.nilIface, ?_, Or.inl ⟨es, j, v, hp, rfl, ⟨ys, hrow.keep St, hin.keep St⟩, ?_, ?_, hBl.trans hBw⟩⟩
  ·simp [results, Tryz.results27, go_sem, c1]
  ·rw [World.cell?_setCell_other _ _ _ _ (fun e => hne' (by injection e))]
   exact World.cell?_setCell_same _ _ _ (hm1.cell (p := ⟨b2, 0, none⟩) n2 (cell_keep hbA h2))
  ·rw [World.frozen?_setCell, World.frozen?_setCell, World.frozen?_of_block (w := w.alloc (.cells #[.nilIface] 27)) (hm1.block b2 (by simp; omega) (by intro e; injection e with e; exact n2 e)), hbA.frozen (p := ⟨b2, 0, none⟩) hl2]; exact f2
 ·have hr1 := hm1.row (k := w.heap.size) (by omega) HZ.out
  have c1 : w'.cell? ⟨w.heap.size, 0, none⟩ = some .nilIface := by simp [World.cell?, hr1]
  have f1 : w'.frozen? ⟨w.heap.size, 0, none⟩ = false := by simp [World.frozen?, hr1]
  clear hr1
  go_wp2
  refine leaves_cons (f := 78) (args := #[.pointer (some ⟨w.heap.size, 0, none⟩)]) (by simp) (by simp [go_sem]) ?_
  refine (catch_thrown w.heap.size p .nilIface [] _ c1 f1).mono ?_
  rintro e u' w'' ⟨rfl, rfl, rfl⟩
  have hne : p ≠ w.heap.size := fun e => by rw [e, c1] at q0; cases q0
  have hs1 := hm1.size
  simp only [World.size_alloc] at hs1
  have hBw : Below H w' ((w'.setCell ⟨w.heap.size, 0, none⟩ (.iface 64 (.pointer (some ⟨p, 0, none⟩)))).alloc (.cells #[.iface 64 (.pointer (some ⟨p, 0, none⟩))] 143)) := ((Below.refl _ _).setCell (by show H ≤ w.heap.size; omega) _).alloc (by simp; omega) _
  have hBl : Below H w w' := (hbA.mono (by omega)).trans ⟨hm1.os, hm1.tape, hm1.output, hm1.size, fun k hk => hm1.block k (by simp; omega) (by intro e; injection e with e; omega)⟩
  have far : ∀ {a : Addr} {x : Value}, a.block ≠ w.heap.size → w'.cell? a = some x → ((w'.setCell ⟨w.heap.size, 0, none⟩ (.iface 64 (.pointer (some ⟨p, 0, none⟩)))).alloc (.cells #[.iface 64 (.pointer (some ⟨p, 0, none⟩))] 143)).cell? a = some x := by
   intro a x ha hx
   have hl := lt_of_cell hx
   rw [World.cell?_of_block (w := w') ((heap_alloc_old _ _ (by simpa using hl)).trans (Below.heap_setCell _ _ _ _ ha))]
   exact hx
  refine ⟨.iface 64 (.pointer (some ⟨p, 0, none⟩)), ?_, Or.inr ⟨j, bd, p, hp, hj, rfl, far hne q0, far hne q1, far (by show b2 ≠ w.heap.size; omega) (hm1.cell (p := ⟨b2, 0, none⟩) n2 (cell_keep hbA h2)), ?_, hBl.trans hBw⟩⟩
  ·have hlw : w.heap.size < w'.heap.size := by omega
   simp [results, Tryz.results27, go_sem, c1, hlw]
  ·rw [World.frozen?_of_block (w := w') ((heap_alloc_old _ _ (by show b2 < _; simp; omega)).trans (Below.heap_setCell _ _ _ _ (by show b2 ≠ w.heap.size; omega))), World.frozen?_of_block (w := w.alloc (.cells #[.nilIface] 27)) (hm1.block b2 (by simp; omega) (by intro e; injection e with e; exact n2 e)), hbA.frozen (p := ⟨b2, 0, none⟩) hl2]; exact f2

theorem tblk1 {w : World} {b : Nat} {x : Value} {t : TypeId} (h : w.heap[b]? = some (.cells #[x] t (0, 0))) : w.cell? ⟨b, 0, none⟩ = some x ∧ ∀ k, w.frozen? ⟨b, k, none⟩ = false :=
 ⟨by simp [World.cell?, h], fun k => by simp [World.frozen?, h]⟩
set_option maxRecDepth 100000 in
set_option maxHeartbeats 1000000 in
theorem read_any (s : ByteArray) (w : World) (pT pB : Addr) (ev : Value) (hs : s.size ≤ 6000) (hT : w.cell? ⟨2, 0, none⟩ = some (.iface 235 (.pointer (some pT)))) (hB : w.cell? ⟨1, 0, none⟩ = some (.iface 235 (.pointer (some pB)))) (hv : w.cell? ⟨11, 0, none⟩ = some ev) (hev : ev = .nilIface ∨ ∃ te pe, ev = .iface te pe) :
  Calls Tryz.prog 13 #[.string s] w fun e w' => Below w.heap.size w w' ∧
   ((∃ (l : List Tk) (es : List Ex) (j : Nat) (v : Value), Lexes s 0 l none ∧ Parse l (.nodes []) 0 0 (.ok es j) ∧ e = .returned (.tuple #[v, .nilIface]) ∧ NodesV w.heap.size w' es v) ∨
    (∃ (l : List Tk) (j p : Nat) (bd : Bool), Lexes s 0 l none ∧ Parse l (.nodes []) 0 0 (.bad j bd) ∧ j < l.length ∧ e = .returned (.tuple #[.slice none 0 0, .iface 64 (.pointer (some ⟨p, 0, none⟩))]) ∧ w'.cell? ⟨p, 0, none⟩ = some (.int .i64 (tkp l j)) ∧ w'.cell? ⟨p, 0 + 1, none⟩ = some (.iface 235 (.pointer (some (if bd then pB else pT))))) ∨
    (∃ (l : List Tk) (j p : Nat), Lexes s 0 l (some j) ∧ e = .returned (.tuple #[.slice none 0 0, .iface 64 (.pointer (some ⟨p, 0, none⟩))]) ∧ w'.cell? ⟨p, 0, none⟩ = some (.int .i64 j) ∧ w'.cell? ⟨p, 0 + 1, none⟩ = some (.iface 235 (.pointer (some pT))))) := by
 have hbA : Below w.heap.size w (w.alloc (.cells #[.slice none 0 0] 39)) := (Below.refl _ _).alloc (Nat.le_refl _) _
 have HZ : Hid _ := heap_alloc_new w (.cells #[.slice none 0 0] 39)
 have hmf : ∀ (fn : Fn) (first cap : Array Value) (w : World), (Instr.makeFunc fn first cap).run Tryz.prog w = .ok (.func fn first cap) w := fun _ _ _ _ => rfl
 have lT := lt_of_cell hT
 have lB := lt_of_cell hB
 go_enter Tryz.func13, Tryz.ntmps13
 go_wp2_with fail
 refine (lex_any s _ pT ev hs (cell_keep hbA hT) (cell_keep hbA hv) hev).mono ?_
 rintro e w1 ⟨hb1, h1⟩
 have hs1 := hb1.size
 simp only [World.size_alloc] at hs1
 have HZ1 : Hid _ := row_keep hb1 HZ.out
 have hT1 := cell_keep hb1 (cell_keep hbA hT)
 have hB1 := cell_keep hb1 (cell_keep hbA hB)
 rcases h1 with ⟨l, v, hl, rfl, hown⟩ | ⟨l, j, p, hl, rfl, hp0, hp1⟩
 ·have T := hl.toks hs
  obtain ⟨g, cap, rfl, hc⟩ := own_cells hown T.ne
  have hgl : g < w1.heap.size := lt_of_cell (hc 0 T.ne).1
  have hbW : Below w1.heap.size w1 ((w1.alloc (.cells #[.slice (some ⟨g, 0, none⟩) l.length cap, .int .i64 0, .int .i64 0] 73)).alloc (.cells #[.pointer (some ⟨w1.heap.size, 0, none⟩)] 71)) := ((Below.refl _ _).alloc (Nat.le_refl _) _).alloc (by simp) _
  obtain ⟨y0, y1, y2, yf⟩ := blk3 (alloc_row (.cells #[.pointer (some ⟨w1.heap.size, 0, none⟩)] 71) (heap_alloc_new w1 (.cells #[.slice (some ⟨g, 0, none⟩) l.length cap, .int .i64 0, .int .i64 0] 73)))
  obtain ⟨x0, xf⟩ := tblk1 (two_new w1 (.cells #[.slice (some ⟨g, 0, none⟩) l.length cap, .int .i64 0, .int .i64 0] 73) (.cells #[.pointer (some ⟨w1.heap.size, 0, none⟩)] 71))
  obtain ⟨z0, zf⟩ := tblk1 (row_keep hbW HZ1.out)
  have R : Rd ⟨pT, pB, w1.heap.size, g, cap, l⟩ 0 0 ((w1.alloc (.cells #[.slice (some ⟨g, 0, none⟩) l.length cap, .int .i64 0, .int .i64 0] 73)).alloc (.cells #[.pointer (some ⟨w1.heap.size, 0, none⟩)] 71)) := by
   refine ⟨y0, y1, y2, yf, fun k hk => ?_, ?_, T.ne, T.len, by decide, cell_keep hbW hT1, cell_keep hbW hB1, ?_, ?_⟩
   ·have hk' : k < l.length := hk
    obtain ⟨a0, a1, a2⟩ := hc k hk'
    rw [show tkk l k = l[k].kind from tkk_lt hk', show tkx l k = l[k].text from tkx_lt hk', show tkp l k = l[k].pos from dif_pos hk']
    exact ⟨cell_keep hbW a0, cell_keep hbW a1, cell_keep hbW a2⟩
   ·show g ≠ w1.heap.size; omega
   ·show 2 ≠ w1.heap.size
    have : 2 < w.heap.size := lT
    omega
   ·show 1 ≠ w1.heap.size
    have : 1 < w.heap.size := lB
    omega
  have HR : Hid _ := R
  have HX0 : Hid _ := x0
  have HZ0 : Hid _ := z0
  have HZF : Hid _ := zf 0
  clear y0 y1 y2 yf x0 xf z0 zf hc hown R
  go_wp2_with fail
  refine (caught_read ⟨pT, pB, w1.heap.size, g, cap, l⟩ (w1.heap.size + 1) w.heap.size (.slice none 0 0) _ T HR.out HX0.out HZ0.out HZF.out (by show w.heap.size ≠ w1.heap.size; omega) w.heap.size (by show w.heap.size ≤ w1.heap.size; omega) (Nat.le_refl _)).mono ?_
  rintro e w2 h2
  have hBW : Below w.heap.size w ((w1.alloc (.cells #[.slice (some ⟨g, 0, none⟩) l.length cap, .int .i64 0, .int .i64 0] 73)).alloc (.cells #[.pointer (some ⟨w1.heap.size, 0, none⟩)] 71)) := (hbA.trans (hb1.mono (by simp))).trans (hbW.mono (by omega))
  rcases h2 with ⟨es, j, v, hp, rfl, ⟨ys, hrow, hin⟩, hc2, hf2, hb2⟩ | ⟨j, bd, p, hp, hj, rfl, hp0, hp1, hc2, hf2, hb2⟩
  ·obtain ⟨so, sc, rfl⟩ := hrow.form
   have St : Stays (From ((w1.alloc (.cells #[.slice (some ⟨g, 0, none⟩) l.length cap, .int .i64 0, .int .i64 0] 73)).alloc (.cells #[.pointer (some ⟨w1.heap.size, 0, none⟩)] 71)).heap.size) (From w.heap.size) w2 (w2.setCell ⟨w.heap.size, 0, none⟩ (.slice so es.length sc)) := Stays.set (p := ⟨w.heap.size, 0, none⟩) _ (fun k hk => by unfold From at *; simp only [World.size_alloc] at hk; exact ⟨by show k ≠ w.heap.size; omega, by omega⟩)
   go_wp2
   exact bodyPost_ret (v := .tuple #[.slice so es.length sc, .nilIface]) (by simp [results, Tryz.results13, go_sem, hc2]) rfl ⟨(hBW.trans hb2).setCell (Nat.le_refl _) _, Or.inl ⟨l, es, j, _, hl, hp, rfl, ys, hrow.keep St, hin.keep St⟩⟩
  ·have hpn : p ≠ w.heap.size := fun e => by rw [e, hc2] at hp0; cases hp0
   go_wp2
   refine bodyPost_ret (v := .tuple #[.slice none 0 0, .iface 64 (.pointer (some ⟨p, 0, none⟩))]) (by simp [results, Tryz.results13, go_sem, hc2]) rfl ⟨(hBW.trans hb2).setCell (Nat.le_refl _) _, Or.inr (Or.inl ⟨l, j, p, bd, hl, hp, hj, rfl, ?_, ?_⟩)⟩
   ·rw [World.cell?_setCell_other _ _ _ _ (fun e => hpn (by injection e with e; exact e.symm))]; exact hp0
   ·rw [World.cell?_setCell_other _ _ _ _ (fun e => hpn (by injection e with e; exact e.symm))]; exact hp1
 ·obtain ⟨z0, zf⟩ := tblk1 HZ1.out
  have hpn : p ≠ w.heap.size := fun e => by rw [e, z0] at hp0; cases hp0
  go_wp2
  refine bodyPost_ret (v := .tuple #[.slice none 0 0, .iface 64 (.pointer (some ⟨p, 0, none⟩))]) (by simp [results, Tryz.results13, go_sem, z0]) rfl ⟨(hbA.trans (hb1.mono (by simp))).setCell (Nat.le_refl _) _, Or.inr (Or.inr ⟨l, j, p, hl, rfl, ?_, ?_⟩)⟩
  ·rw [World.cell?_setCell_other _ _ _ _ (fun e => hpn (by injection e with e; exact e.symm))]; exact hp0
  ·rw [World.cell?_setCell_other _ _ _ _ (fun e => hpn (by injection e with e; exact e.symm))]; exact hp1
abbrev tqObj (k : ByteArray) (v : Value) (op : ByteArray) (n : Int) (s : ByteArray) (u : Value) : Obj := .cells #[.string k, v, .string op, .int .i64 n, .string s, u] 107
set_option maxRecDepth 100000 in
set_option maxHeartbeats 1000000 in
theorem alikeEq_any (k : ByteArray) (ns : List Ex) (op : ByteArray) (n : Int) (s : ByteArray) (l : List Ex) (w : World) (S S' : Nat → Prop) (no no' o o' : Option Addr) (nc nc' c c' : Nat) (ys ys' : List Value) (g1 : RowAt w S 1 (.slice no ns.length nc) ns.length (nameCells ns)) (g2 : RowAt w S' 1 (.slice no' ns.length nc') ns.length (nameCells ns)) (h1 : RowAt w S 4 (.slice o l.length c) l.length ys) (h2 : ExIn w S l ys) (h3 : RowAt w S' 4 (.slice o' l.length c') l.length ys') (h4 : ExIn w S' l ys') :
  Calls Tryz.prog 123 #[.agg #[.string k, .slice no ns.length nc, .string op, .int .i64 n, .string s, .slice o l.length c], .agg #[.string k, .slice no' ns.length nc', .string op, .int .i64 n, .string s, .slice o' l.length c']] w fun e w' => e = .returned (.bool true) ∧ Below w.heap.size w w' := by
 have hbA : Below w.heap.size w ((w.alloc (tqObj k (.slice no ns.length nc) op n s (.slice o l.length c))).alloc (tqObj k (.slice no' ns.length nc') op n s (.slice o' l.length c'))) := ((Below.refl _ _).alloc (Nat.le_refl _) _).alloc (by simp) _
 have H1 : Hid (RowAt w S 4 (.slice o l.length c) l.length ys) := h1
 have H2 : Hid (ExIn w S l ys) := h2
 have H3 : Hid (RowAt w S' 4 (.slice o' l.length c') l.length ys') := h3
 have H4 : Hid (ExIn w S' l ys') := h4
 have G1 : Hid (RowAt w S 1 (.slice no ns.length nc) ns.length (nameCells ns)) := g1
 have G2 : Hid (RowAt w S' 1 (.slice no' ns.length nc') ns.length (nameCells ns)) := g2
 clear h1 h2 h3 h4 g1 g2
 go_enter Tryz.func123, Tryz.ntmps123
 go_wp2_with fail
 refine (eqTexts_any _ S S' no no' nc nc' ns (G1.out.keep (Stays.below hbA (fun k hk => hk))) (G2.out.keep (Stays.below hbA (fun k hk => hk)))).mono ?_
 rintro e w1 ⟨rfl, k1, rfl⟩
 have hb1 := below_drewN hbA k1
 go_wp2_with fail
 refine (alikeTerms_any (SizeOf.sizeOf l + 1) op n s l (by omega) _ S S' o o' c c' ys ys' (H1.out.keep (Stays.below hb1 (fun k hk => hk))) (H2.out.keep (Stays.below hb1 (fun k hk => hk))) (H3.out.keep (Stays.below hb1 (fun k hk => hk))) (H4.out.keep (Stays.below hb1 (fun k hk => hk)))).mono ?_
 rintro e w2 ⟨rfl, hb2⟩
 go_wp2
 go_ret
 exact ⟨rfl, hb1.trans (hb2.mono (by show _ ≤ (World.alloc _ _).heap.size; simp; omega))⟩
set_option maxRecDepth 100000 in
set_option maxHeartbeats 1000000 in
theorem eqfQ_any (l : List Ex) (w : World) (S S' : Nat → Prop) (o o' : Option Addr) (c c' : Nat) (ys ys' : List Value) (h1 : RowAt w S 6 (.slice o l.length c) l.length ys) (h2 : EqIn w S l ys) (h3 : RowAt w S' 6 (.slice o' l.length c') l.length ys') (h4 : EqIn w S' l ys') :
  Calls Tryz.prog 122 #[.slice o l.length c, .slice o' l.length c', .func (.func 123) #[] #[]] w fun e w' => e = .returned (.bool true) ∧ Below w.heap.size w w' := by
 have hl := h1.len
 unfold maxLen at hl
 have H1 : Hid (RowAt w S 6 (.slice o l.length c) l.length ys) := h1
 have H2 : Hid (EqIn w S l ys) := h2
 have H3 : Hid (RowAt w S' 6 (.slice o' l.length c') l.length ys') := h3
 have H4 : Hid (EqIn w S' l ys') := h4
 clear h1 h2 h3 h4
 go_enter Tryz.func122, Tryz.ntmps122
 go_wp2
 go_loopw [17] (fun t wr => ∃ i : Nat, i ≤ l.length ∧ t = .int .i64 i ∧ Below w.heap.size w wr) (fun t _ => l.length - (intOf t).toNat)
 case atStart => exact ⟨0, Nat.zero_le _, rfl, Below.refl _ _⟩
 case round =>
  obtain ⟨i, hi, rfl, hbr⟩ := hrel
  by_cases hlt : i < l.length
  ·obtain ⟨kd, ns, no, nc, op, n, s, es, oo, cc, zs, e, m0, m1, m2, m3, m4, m5, r0, r1, r2⟩ := H2.out.at hlt
   obtain ⟨kd', ns', no', nc', op', n', s', es', oo', cc', zs', e', k0, k1, k2, k3, k4, k5, t0, t1, t2⟩ := H4.out.at hlt
   rw [e] at e'
   simp only [Ex.mk.injEq, lst, List.cons.injEq, and_true, true_and] at e'
   obtain ⟨rfl, rfl, rfl, rfl, rfl, rfl⟩ := e'
   obtain ⟨p, f, rfl, _, g⟩ := row_get H1.out (by have := H1.out.1; omega)
   obtain ⟨p', f', rfl, _, g'⟩ := row_get H3.out (by have := H3.out.1; omega)
   have x0 := cell_keep hbr (g _ _ m0)
   have x1 := cell_keep hbr (g _ _ m1)
   have x2 := cell_keep hbr (g _ _ m2)
   have x3 := cell_keep hbr (g _ _ m3)
   have x4 := cell_keep hbr (g _ _ m4)
   have x5 := cell_keep hbr (g _ _ m5)
   have y0 := cell_keep hbr (g' _ _ k0)
   have y1 := cell_keep hbr (g' _ _ k1)
   have y2 := cell_keep hbr (g' _ _ k2)
   have y3 := cell_keep hbr (g' _ _ k3)
   have y4 := cell_keep hbr (g' _ _ k4)
   have y5 := cell_keep hbr (g' _ _ k5)
   rw [← Nat.add_assoc] at x1 x2 x3 x4 x5 y1 y2 y3 y4 y5
   clear m0 m1 m2 m3 m4 m5 k0 k1 k2 k3 k4 k5
   have i0 : (0 : Int) ≤ (i : Int) := by omega
   have i1 : (i : Int) < (l.length : Int) := by omega
   have hpl : p' < wr.heap.size := lt_of_cell y0
   have hbz := hbr.size
   have hbA : Below w.heap.size w ((wr.alloc (tqObj kd (.slice no ns.length nc) op n s (.slice oo es.length cc))).alloc (tqObj kd (.slice no' ns.length nc') op n s (.slice oo' es.length cc'))) := (hbr.alloc hbz _).alloc (by simp; omega) _
   have HR : Hid (RowAt w S 1 (.slice no ns.length nc) ns.length (nameCells ns) ∧ RowAt w S 4 (.slice oo es.length cc) es.length zs ∧ ExIn w S es zs) := ⟨r0, r1, r2⟩
   have HT : Hid (RowAt w S' 1 (.slice no' ns.length nc') ns.length (nameCells ns) ∧ RowAt w S' 4 (.slice oo' es.length cc') es.length zs' ∧ ExIn w S' es zs') := ⟨t0, t1, t2⟩
   clear g g' r0 r1 r2 t0 t1 t2
   go_wp2_with fail
   refine (alikeEq_any kd ns op n s es _ S S' no no' oo oo' nc nc' cc cc' zs zs' (HR.out.1.keep (Stays.below hbA (fun k hk => hk))) (HT.out.1.keep (Stays.below hbA (fun k hk => hk))) (HR.out.2.1.keep (Stays.below hbA (fun k hk => hk))) (HR.out.2.2.keep (Stays.below hbA (fun k hk => hk))) (HT.out.2.1.keep (Stays.below hbA (fun k hk => hk))) (HT.out.2.2.keep (Stays.below hbA (fun k hk => hk)))).mono ?_
   rintro e w4 ⟨rfl, hb4⟩
   go_wp2
   exact ⟨⟨i + 1, by omega, by go_num, hbA.trans (hb4.mono (by simp; omega))⟩, by simp [intOf]; omega⟩
  ·go_wp2
   go_ret
   exact ⟨rfl, hbr⟩
abbrev tnObj (name : ByteArray) (a b c d : Value) : Obj := .cells #[.string name, a, b, c, d] 70
set_option maxRecDepth 100000 in
set_option maxHeartbeats 1000000 in
theorem alikeNode_any (name : ByteArray) (ins outs owns qs : List Ex) (w : World) (S S' : Nat → Prop) (o1 o2 o3 o4 o1' o2' o3' o4' : Option Addr) (c1 c2 c3 c4 c1' c2' c3' c4' : Nat) (ys ys' : List Value) (h1 : (RowAt w S 2 (.slice o1 ins.length c1) ins.length (varCells ins) ∧ RowAt w S 2 (.slice o2 outs.length c2) outs.length (varCells outs) ∧ RowAt w S 2 (.slice o3 owns.length c3) owns.length (varCells owns) ∧ RowAt w S 6 (.slice o4 qs.length c4) qs.length ys ∧ EqIn w S qs ys)) (h2 : (RowAt w S' 2 (.slice o1' ins.length c1') ins.length (varCells ins) ∧ RowAt w S' 2 (.slice o2' outs.length c2') outs.length (varCells outs) ∧ RowAt w S' 2 (.slice o3' owns.length c3') owns.length (varCells owns) ∧ RowAt w S' 6 (.slice o4' qs.length c4') qs.length ys' ∧ EqIn w S' qs ys')) :
  Calls Tryz.prog 86 #[.agg #[.string name, .slice o1 ins.length c1, .slice o2 outs.length c2, .slice o3 owns.length c3, .slice o4 qs.length c4], .agg #[.string name, .slice o1' ins.length c1', .slice o2' outs.length c2', .slice o3' owns.length c3', .slice o4' qs.length c4']] w fun e w' => e = .returned (.bool true) ∧ Below w.heap.size w w' := by
 have hb : Below w.heap.size w ((w.alloc (tnObj name (.slice o1 ins.length c1) (.slice o2 outs.length c2) (.slice o3 owns.length c3) (.slice o4 qs.length c4))).alloc (tnObj name (.slice o1' ins.length c1') (.slice o2' outs.length c2') (.slice o3' owns.length c3') (.slice o4' qs.length c4'))) := ((Below.refl _ _).alloc (Nat.le_refl _) _).alloc (by simp) _
 have H1 : Hid (RowAt w S 2 (.slice o1 ins.length c1) ins.length (varCells ins) ∧ RowAt w S 2 (.slice o2 outs.length c2) outs.length (varCells outs) ∧ RowAt w S 2 (.slice o3 owns.length c3) owns.length (varCells owns) ∧ RowAt w S 6 (.slice o4 qs.length c4) qs.length ys ∧ EqIn w S qs ys) := h1
 have H2 : Hid (RowAt w S' 2 (.slice o1' ins.length c1') ins.length (varCells ins) ∧ RowAt w S' 2 (.slice o2' outs.length c2') outs.length (varCells outs) ∧ RowAt w S' 2 (.slice o3' owns.length c3') owns.length (varCells owns) ∧ RowAt w S' 6 (.slice o4' qs.length c4') qs.length ys' ∧ EqIn w S' qs ys') := h2
 clear h1 h2
 go_enter Tryz.func86, Tryz.ntmps86
 go_wp2_with fail
 refine (eqVars_any _ S S' o1 o1' c1 c1' ins (H1.out.1.keep (Stays.below hb (fun k hk => hk))) (H2.out.1.keep (Stays.below hb (fun k hk => hk)))).mono ?_
 rintro e w1 ⟨rfl, k1, rfl⟩
 go_wp2_with fail
 refine (eqVars_any _ S S' o2 o2' c2 c2' outs (H1.out.2.1.keep (Stays.below (below_drewN hb _) (fun k hk => hk))) (H2.out.2.1.keep (Stays.below (below_drewN hb _) (fun k hk => hk)))).mono ?_
 rintro e w1 ⟨rfl, k2, rfl⟩
 go_wp2_with fail
 refine (eqVars_any _ S S' o3 o3' c3 c3' owns (H1.out.2.2.1.keep (Stays.below (below_drewN hb _) (fun k hk => hk))) (H2.out.2.2.1.keep (Stays.below (below_drewN hb _) (fun k hk => hk)))).mono ?_
 rintro e w1 ⟨rfl, k3, rfl⟩
 have hbF : ∀ n, Below w.heap.size w (((w.alloc (tnObj name (.slice o1 ins.length c1) (.slice o2 outs.length c2) (.slice o3 owns.length c3) (.slice o4 qs.length c4))).alloc (tnObj name (.slice o1' ins.length c1') (.slice o2' outs.length c2') (.slice o3' owns.length c3') (.slice o4' qs.length c4'))).drewN n) := fun n => below_drewN hb n
 have HF : Hid _ := hbF
 clear hbF
 go_wp2_with fail
 refine (eqfQ_any qs _ S S' o4 o4' c4 c4' ys ys' (H1.out.2.2.2.1.keep (Stays.below (HF.out _) (fun k hk => hk))) (H1.out.2.2.2.2.keep (Stays.below (HF.out _) (fun k hk => hk))) (H2.out.2.2.2.1.keep (Stays.below (HF.out _) (fun k hk => hk))) (H2.out.2.2.2.2.keep (Stays.below (HF.out _) (fun k hk => hk)))).mono ?_
 rintro e w4 ⟨rfl, hb4⟩
 go_wp2
 go_ret
 exact ⟨rfl, (HF.out _).trans (hb4.mono (by show _ ≤ (World.alloc _ _).heap.size; simp; omega))⟩
set_option maxRecDepth 100000 in
set_option maxHeartbeats 1000000 in
theorem eqfN_any (l : List Ex) (w : World) (S S' : Nat → Prop) (o o' : Option Addr) (c c' : Nat) (ys ys' : List Value) (h1 : RowAt w S 5 (.slice o l.length c) l.length ys) (h2 : NdIn w S l ys) (h3 : RowAt w S' 5 (.slice o' l.length c') l.length ys') (h4 : NdIn w S' l ys') :
  Calls Tryz.prog 85 #[.slice o l.length c, .slice o' l.length c', .func (.func 86) #[] #[]] w fun e w' => e = .returned (.bool true) ∧ Below w.heap.size w w' := by
 have hl := h1.len
 unfold maxLen at hl
 have H1 : Hid (RowAt w S 5 (.slice o l.length c) l.length ys) := h1
 have H2 : Hid (NdIn w S l ys) := h2
 have H3 : Hid (RowAt w S' 5 (.slice o' l.length c') l.length ys') := h3
 have H4 : Hid (NdIn w S' l ys') := h4
 clear h1 h2 h3 h4
 go_enter Tryz.func85, Tryz.ntmps85
 go_wp2
 go_loopw [17] (fun t wr => ∃ i : Nat, i ≤ l.length ∧ t = .int .i64 i ∧ Below w.heap.size w wr) (fun t _ => l.length - (intOf t).toNat)
 case atStart => exact ⟨0, Nat.zero_le _, rfl, Below.refl _ _⟩
 case round =>
  obtain ⟨i, hi, rfl, hbr⟩ := hrel
  by_cases hlt : i < l.length
  ·obtain ⟨name, ins, outs, owns, qs, o1, c1, o2, c2, o3, c3, o4, c4, zs, e, m0, m1, m2, m3, m4, r1, r2, r3, r4, r5⟩ := H2.out.at hlt
   obtain ⟨name', ins', outs', owns', qs', o1', c1', o2', c2', o3', c3', o4', c4', zs', e', k0, k1, k2, k3, k4, q1, q2, q3, q4, q5⟩ := H4.out.at hlt
   rw [e] at e'
   simp only [Ex.mk.injEq, lst, List.cons.injEq, and_true, true_and] at e'
   obtain ⟨rfl, rfl, rfl, rfl, rfl⟩ := e'
   obtain ⟨p, f, rfl, _, g⟩ := row_get H1.out (by have := H1.out.1; omega)
   obtain ⟨p', f', rfl, _, g'⟩ := row_get H3.out (by have := H3.out.1; omega)
   have x0 := cell_keep hbr (g _ _ m0)
   have x1 := cell_keep hbr (g _ _ m1)
   have x2 := cell_keep hbr (g _ _ m2)
   have x3 := cell_keep hbr (g _ _ m3)
   have x4 := cell_keep hbr (g _ _ m4)
   have y0 := cell_keep hbr (g' _ _ k0)
   have y1 := cell_keep hbr (g' _ _ k1)
   have y2 := cell_keep hbr (g' _ _ k2)
   have y3 := cell_keep hbr (g' _ _ k3)
   have y4 := cell_keep hbr (g' _ _ k4)
   rw [← Nat.add_assoc] at x1 x2 x3 x4 y1 y2 y3 y4
   clear m0 m1 m2 m3 m4 k0 k1 k2 k3 k4
   have i0 : (0 : Int) ≤ (i : Int) := by omega
   have i1 : (i : Int) < (l.length : Int) := by omega
   have hpl : p' < wr.heap.size := lt_of_cell y0
   have hbz := hbr.size
   have hbA : Below w.heap.size w ((wr.alloc (tnObj name (.slice o1 ins.length c1) (.slice o2 outs.length c2) (.slice o3 owns.length c3) (.slice o4 qs.length c4))).alloc (tnObj name (.slice o1' ins.length c1') (.slice o2' outs.length c2') (.slice o3' owns.length c3') (.slice o4' qs.length c4'))) := (hbr.alloc hbz _).alloc (by simp; omega) _
   have HR : Hid (RowAt w S 2 (.slice o1 ins.length c1) ins.length (varCells ins) ∧ RowAt w S 2 (.slice o2 outs.length c2) outs.length (varCells outs) ∧ RowAt w S 2 (.slice o3 owns.length c3) owns.length (varCells owns) ∧ RowAt w S 6 (.slice o4 qs.length c4) qs.length zs ∧ EqIn w S qs zs) := ⟨r1, r2, r3, r4, r5⟩
   have HT : Hid (RowAt w S' 2 (.slice o1' ins.length c1') ins.length (varCells ins) ∧ RowAt w S' 2 (.slice o2' outs.length c2') outs.length (varCells outs) ∧ RowAt w S' 2 (.slice o3' owns.length c3') owns.length (varCells owns) ∧ RowAt w S' 6 (.slice o4' qs.length c4') qs.length zs' ∧ EqIn w S' qs zs') := ⟨q1, q2, q3, q4, q5⟩
   clear g g' r1 r2 r3 r4 r5 q1 q2 q3 q4 q5
   go_wp2_with fail
   refine (alikeNode_any name ins outs owns qs _ S S' o1 o2 o3 o4 o1' o2' o3' o4' c1 c2 c3 c4 c1' c2' c3' c4' zs zs' ⟨(HR.out.1.keep (Stays.below hbA (fun k hk => hk))), (HR.out.2.1.keep (Stays.below hbA (fun k hk => hk))), (HR.out.2.2.1.keep (Stays.below hbA (fun k hk => hk))), (HR.out.2.2.2.1.keep (Stays.below hbA (fun k hk => hk))), (HR.out.2.2.2.2.keep (Stays.below hbA (fun k hk => hk)))⟩ ⟨(HT.out.1.keep (Stays.below hbA (fun k hk => hk))), (HT.out.2.1.keep (Stays.below hbA (fun k hk => hk))), (HT.out.2.2.1.keep (Stays.below hbA (fun k hk => hk))), (HT.out.2.2.2.1.keep (Stays.below hbA (fun k hk => hk))), (HT.out.2.2.2.2.keep (Stays.below hbA (fun k hk => hk)))⟩).mono ?_
   rintro e w4 ⟨rfl, hb4⟩
   go_wp2
   exact ⟨⟨i + 1, by omega, by go_num, hbA.trans (hb4.mono (by simp; omega))⟩, by simp [intOf]; omega⟩
  ·go_wp2
   go_ret
   exact ⟨rfl, hbr⟩
set_option maxRecDepth 100000 in
set_option maxHeartbeats 1000000 in
theorem alike_any (l : List Ex) (w : World) (S S' : Nat → Prop) (o o' : Option Addr) (c c' : Nat) (ys ys' : List Value) (h1 : RowAt w S 5 (.slice o l.length c) l.length ys) (h2 : NdIn w S l ys) (h3 : RowAt w S' 5 (.slice o' l.length c') l.length ys') (h4 : NdIn w S' l ys') :
  Calls Tryz.prog 49 #[.slice o l.length c, .slice o' l.length c'] w fun e w' => e = .returned (.bool true) ∧ Below w.heap.size w w' := by
 have H1 : Hid (RowAt w S 5 (.slice o l.length c) l.length ys) := h1
 have H2 : Hid (NdIn w S l ys) := h2
 have H3 : Hid (RowAt w S' 5 (.slice o' l.length c') l.length ys') := h3
 have H4 : Hid (NdIn w S' l ys') := h4
 clear h1 h2 h3 h4
 go_enter Tryz.func49, Tryz.ntmps49
 go_wp2_with fail
 refine (eqfN_any l _ S S' o o' c c' ys ys' H1.out H2.out H3.out H4.out).mono ?_
 rintro e w4 ⟨rfl, hb4⟩
 go_wp2
 go_ret
 exact ⟨rfl, hb4⟩
end Go.Proofs.YtgbpccipdcajgaaGreatDoor
