/-
  tree.caught BY ITS CONTRACT; tree.Read BY ITS CONTRACT.
-/
import Derived.Test.YtglkpgcmlbhkpabGreatDoorQ17
import Derived.Defers
import Derived.Recover
import Derived.Laws.Pointers
import Derived.Test.YtglkpgcmlbhkpabGreatDoorQ19
import Derived.Deep.QuietTactic
import Derived.BigQuiet
import Derived.WalkSmall
namespace Go.Proofs.YtglkpgcmlbhkpabGreatDoor
open Go.RowKit
attribute [local go_sem ↓] Go.wp_at_zero Go.wp_at_succ

abbrev thrownV (p : Nat) : Value := .iface 165 (.agg #[.iface 111 (.pointer (some ⟨p, 0, none⟩))])
theorem assert_thrown (p : Nat) (w : World) : (Instr.typeAssert (thrownV p) 20 165 true).run Tryz.prog w = .ok (.tuple #[.agg #[.iface 111 (.pointer (some ⟨p, 0, none⟩))], .bool true]) w := by kernel_rfl
set_option maxRecDepth 100000 in
set_option maxHeartbeats 1000000 in
theorem catch_thrown (b p : Nat) (v : Value) (older : List PanicEntry) (w : World) (hc : w.cell? ⟨b, 0, none⟩ = some v) (hz : w.frozen? ⟨b, 0, none⟩ = false) :
    CallsD Tryz.prog 84 #[.pointer (some ⟨b, 0, none⟩)] (.panicking ({ v := thrownV p, recovered := false } :: older)) w fun e u' w' =>
      e = .returned (.tuple #[]) ∧ u' = .panicking ({ v := thrownV p, recovered := true } :: older) ∧ w' = (w.setCell ⟨b, 0, none⟩ (.iface 111 (.pointer (some ⟨p, 0, none⟩)))).alloc (.cells #[.iface 111 (.pointer (some ⟨p, 0, none⟩))] 165) := by
  refine callsD_of_wpS Tryz.func84 rfl fun c₀ cs hu => ?_
  apply wpS_seq
  apply wpS_region
  simp [wpOpsS, go_sem, recoverD, hu, Tryz.ntmps84, Exit.thenS]
  have hta := assert_thrown p
  apply wpS_seq
  apply wpS_region
  simp [wpOpsS, go_sem, Exit.thenS]
  refine wpS_cond (t := true) (by simp [Act.eval]) ?_
  simp only [if_true]
  apply wpS_seq
  apply wpS_region
  simp [wpOpsS, go_sem, Exit.thenS, hta]
  apply wpS_seq
  apply wpS_seq
  apply wpS_region
  simp [wpOpsS, go_sem, Exit.thenS]
  refine wpS_cond (t := false) (by simp [Act.eval]) ?_
  simp only [Bool.false_eq_true, if_false]
  refine wpS_of_wp (wp_skip ?_)
  have hbl : b < w.heap.size := lt_of_cell hc
  simp only [Exit.thenS]
  apply wpS_region
  simp [wpOpsS, go_sem, hc, hz, hbl, bodyPostS, results, Tryz.results84]
theorem catch_idle (p : Addr) (w : World) :
    CallsD Tryz.prog 84 #[.pointer (some p)] .returning w fun e u' w' => e = .returned (.tuple #[]) ∧ u' = .returning ∧ w' = w := by
  refine callsD_of_wpS Tryz.func84 rfl fun c₀ cs hu => ?_
  apply wpS_seq
  apply wpS_region
  simp [wpOpsS, go_sem, recoverD, hu, Tryz.ntmps84, Exit.thenS]
  apply wpS_seq
  apply wpS_region
  simp [wpOpsS, go_sem, Exit.thenS]
  refine wpS_cond (t := false) (by simp [Act.eval]) ?_
  simp only [Bool.false_eq_true, if_false]
  refine wpS_of_wp (wp_skip ?_)
  cases c₀
  simp_all [bodyPostS, results, Tryz.results84]

set_option maxRecDepth 100000 in
set_option maxHeartbeats 1000000 in
theorem read1_any (C : Rc) (b5 b2 : Nat) (v2 : Value) (w : World) (T : Tkl C.l) (R : Rd C 0 0 w) (h5 : w.cell? ⟨b5, 0, none⟩ = some (.pointer (some ⟨C.b, 0, none⟩))) (h2 : w.cell? ⟨b2, 0, none⟩ = some v2) (f2 : w.frozen? ⟨b2, 0, none⟩ = false) (n2 : b2 ≠ C.b) :
    Calls Tryz.prog 41 #[.pointer (some ⟨b5, 0, none⟩), .pointer (some ⟨b2, 0, none⟩)] w fun e w' =>
      (∃ es j v w1, Parse C.l (.nodes []) 0 0 (.ok es j) ∧ e = .returned (.tuple #[]) ∧ Mv C.b w w1 ∧ NodesV w.heap.size w1 es v ∧ w' = w1.setCell ⟨b2, 0, none⟩ v) ∨ (∃ j bd, Parse C.l (.nodes []) 0 0 (.bad j bd) ∧ Threw C j bd e w' ∧ Mv C.b w w') := by
  go_enter Tryz.func41, Tryz.ntmps41
  go_wp2_with fail
  refine (program_any C 0 0 _ T R).mono ?_
  rintro e w1 ⟨hm1, h1⟩
  rcases h1 with ⟨es, j, v, hp, rfl, ⟨ys, hrow, hin⟩⟩ | ⟨j, bd, hp, hj, p, rfl, q0, q1⟩
  · obtain ⟨so, sc, rfl⟩ := hrow.form
    have c2 := hm1.cell (p := ⟨b2, 0, none⟩) n2 h2
    have g2 : w1.frozen? ⟨b2, 0, none⟩ = false := by
      rw [World.frozen?_of_block (w := w) (hm1.block b2 (lt_of_cell h2) (by intro e; injection e with e; exact n2 e))]; exact f2
    go_wp2
    go_end0
    exact Or.inl ⟨es, j, _, w1, hp, rfl, hm1, ⟨ys, hrow, hin⟩, rfl⟩
  · go_wp2
    exact ⟨rfl, Or.inr ⟨j, bd, hp, ⟨hj, p, rfl, q0, q1⟩, hm1⟩⟩

set_option maxRecDepth 100000 in
set_option maxHeartbeats 1000000 in
theorem caught_read (C : Rc) (b5 b2 : Nat) (v2 : Value) (w : World) (T : Tkl C.l) (R : Rd C 0 0 w) (h5 : w.cell? ⟨b5, 0, none⟩ = some (.pointer (some ⟨C.b, 0, none⟩))) (h2 : w.cell? ⟨b2, 0, none⟩ = some v2) (f2 : w.frozen? ⟨b2, 0, none⟩ = false) (n2 : b2 ≠ C.b) (H : Nat) (hH1 : H ≤ C.b) (hH2 : H ≤ b2) :
    Calls Tryz.prog 34 #[.func (.func 41) #[] #[.pointer (some ⟨b5, 0, none⟩), .pointer (some ⟨b2, 0, none⟩)]] w fun e w' =>
      (∃ es j v, Parse C.l (.nodes []) 0 0 (.ok es j) ∧ e = .returned .nilIface ∧ NodesV w.heap.size w' es v ∧ w'.cell? ⟨b2, 0, none⟩ = some v ∧ w'.frozen? ⟨b2, 0, none⟩ = false ∧ Below H w w') ∨
      (∃ j bd p, Parse C.l (.nodes []) 0 0 (.bad j bd) ∧ j < C.l.length ∧ e = .returned (.iface 111 (.pointer (some ⟨p, 0, none⟩))) ∧ w'.cell? ⟨p, 0, none⟩ = some (.int .i64 (tkp C.l j)) ∧ w'.cell? ⟨p, 0 + 1, none⟩ = some (.iface 325 (.pointer (some (if bd then C.pB else C.pT)))) ∧ w'.cell? ⟨b2, 0, none⟩ = some v2 ∧ w'.frozen? ⟨b2, 0, none⟩ = false ∧ Below H w w') := by
  have hmf : ∀ (fn : Fn) (first cap : Array Value) (w : World), (Instr.makeFunc fn first cap).run Tryz.prog w = .ok (.func fn first cap) w := fun _ _ _ _ => rfl
  have hbA : Below w.heap.size w (w.alloc (.cells #[.nilIface] 26)) := (Below.refl _ _).alloc (Nat.le_refl _) _
  have HZ : Hid _ := heap_alloc_new w (.cells #[.nilIface] 26)
  have hbl := R.blt
  have hl2 : b2 < w.heap.size := lt_of_cell h2
  go_enter_defers Tryz.func34, Tryz.ntmps34
  go_wp2_with fail
  refine (read1_any C b5 b2 v2 _ T (R.below hbA) (cell_keep hbA h5) (cell_keep hbA h2) (by rw [hbA.frozen (p := ⟨b2, 0, none⟩) hl2]; exact f2) n2).mono ?_
  rintro e w' h
  rcases h with ⟨es, j, v, w1, hp, rfl, hm1, hv, rfl⟩ | ⟨j, bd, hp, ⟨hj, p, rfl, q0, q1⟩, hm1⟩
  · have hr1 := hm1.row (k := w.heap.size) (by omega) HZ.out
    have c1 : w1.cell? ⟨w.heap.size, 0, none⟩ = some .nilIface := by simp [World.cell?, hr1]
    have f1 : w1.frozen? ⟨w.heap.size, 0, none⟩ = false := by simp [World.frozen?, hr1]
    have hne : b2 ≠ w.heap.size := by omega
    have hne' : w.heap.size ≠ b2 := by omega
    clear hr1
    go_wp2
    refine leaves_cons (f := 84) (args := #[.pointer (some ⟨w.heap.size, 0, none⟩)]) (by simp) (by simp [go_sem]) ?_
    refine (catch_idle _ _).mono ?_
    rintro e u' w'' ⟨rfl, rfl, rfl⟩
    have hBw : Below H w1 ((w1.setCell ⟨b2, 0, none⟩ v).setCell ⟨w.heap.size, 0, none⟩ .nilIface) := ((Below.refl _ _).setCell hH2 _).setCell (by show H ≤ w.heap.size; omega) _
    have hBl : Below H w w1 := (hbA.mono (by omega)).trans ⟨hm1.os, hm1.tape, hm1.output, hm1.size, fun k hk => hm1.block k (by simp; omega) (by intro e; injection e with e; omega)⟩
    obtain ⟨ys, hrow, hin⟩ := hv
    have St : Stays (From (w.alloc (.cells #[.nilIface] 26)).heap.size) (From w.heap.size) w1 ((w1.setCell ⟨b2, 0, none⟩ v).setCell ⟨w.heap.size, 0, none⟩ .nilIface) := (Stays.set (S' := fun k => w.heap.size < k) (p := ⟨b2, 0, none⟩) v (fun k hk => by unfold From at hk; simp only [World.size_alloc] at hk; exact ⟨by show k ≠ b2; omega, by omega⟩)).trans (Stays.set (p := ⟨w.heap.size, 0, none⟩) _ (fun k hk => ⟨by show k ≠ w.heap.size; omega, by unfold From; omega⟩)) (by simp)
    refine ⟨.nilIface, ?_, Or.inl ⟨es, j, v, hp, rfl, ⟨ys, hrow.keep St, hin.keep St⟩, ?_, ?_, hBl.trans hBw⟩⟩
    · simp [results, Tryz.results34, go_sem, c1]
    · rw [World.cell?_setCell_other _ _ _ _ (fun e => hne' (by injection e))]
      exact World.cell?_setCell_same _ _ _ (hm1.cell (p := ⟨b2, 0, none⟩) n2 (cell_keep hbA h2))
    · rw [World.frozen?_setCell, World.frozen?_setCell, World.frozen?_of_block (w := w.alloc (.cells #[.nilIface] 26)) (hm1.block b2 (by simp; omega) (by intro e; injection e with e; exact n2 e)), hbA.frozen (p := ⟨b2, 0, none⟩) hl2]; exact f2
  · have hr1 := hm1.row (k := w.heap.size) (by omega) HZ.out
    have c1 : w'.cell? ⟨w.heap.size, 0, none⟩ = some .nilIface := by simp [World.cell?, hr1]
    have f1 : w'.frozen? ⟨w.heap.size, 0, none⟩ = false := by simp [World.frozen?, hr1]
    clear hr1
    go_wp2
    refine leaves_cons (f := 84) (args := #[.pointer (some ⟨w.heap.size, 0, none⟩)]) (by simp) (by simp [go_sem]) ?_
    refine (catch_thrown w.heap.size p .nilIface [] _ c1 f1).mono ?_
    rintro e u' w'' ⟨rfl, rfl, rfl⟩
    have hne : p ≠ w.heap.size := fun e => by rw [e, c1] at q0; cases q0
    have hs1 := hm1.size
    simp only [World.size_alloc] at hs1
    have hBw : Below H w' ((w'.setCell ⟨w.heap.size, 0, none⟩ (.iface 111 (.pointer (some ⟨p, 0, none⟩)))).alloc (.cells #[.iface 111 (.pointer (some ⟨p, 0, none⟩))] 165)) := ((Below.refl _ _).setCell (by show H ≤ w.heap.size; omega) _).alloc (by simp; omega) _
    have hBl : Below H w w' := (hbA.mono (by omega)).trans ⟨hm1.os, hm1.tape, hm1.output, hm1.size, fun k hk => hm1.block k (by simp; omega) (by intro e; injection e with e; omega)⟩
    have far : ∀ {a : Addr} {x : Value}, a.block ≠ w.heap.size → w'.cell? a = some x → ((w'.setCell ⟨w.heap.size, 0, none⟩ (.iface 111 (.pointer (some ⟨p, 0, none⟩)))).alloc (.cells #[.iface 111 (.pointer (some ⟨p, 0, none⟩))] 165)).cell? a = some x := by
      intro a x ha hx
      have hl := lt_of_cell hx
      rw [World.cell?_of_block (w := w') ((heap_alloc_old _ _ (by simpa using hl)).trans (Below.heap_setCell _ _ _ _ ha))]
      exact hx
    refine ⟨.iface 111 (.pointer (some ⟨p, 0, none⟩)), ?_, Or.inr ⟨j, bd, p, hp, hj, rfl, far hne q0, far hne q1, far (by show b2 ≠ w.heap.size; omega) (hm1.cell (p := ⟨b2, 0, none⟩) n2 (cell_keep hbA h2)), ?_, hBl.trans hBw⟩⟩
    · have hlw : w.heap.size < w'.heap.size := by omega
      simp [results, Tryz.results34, go_sem, c1, hlw]
    · rw [World.frozen?_of_block (w := w') ((heap_alloc_old _ _ (by show b2 < _; simp; omega)).trans (Below.heap_setCell _ _ _ _ (by show b2 ≠ w.heap.size; omega))), World.frozen?_of_block (w := w.alloc (.cells #[.nilIface] 26)) (hm1.block b2 (by simp; omega) (by intro e; injection e with e; exact n2 e)), hbA.frozen (p := ⟨b2, 0, none⟩) hl2]; exact f2

theorem tblk1 {w : World} {b : Nat} {x : Value} {t : TypeId} (h : w.heap[b]? = some (.cells #[x] t (0, 0))) : w.cell? ⟨b, 0, none⟩ = some x ∧ ∀ k, w.frozen? ⟨b, k, none⟩ = false :=
  ⟨by simp [World.cell?, h], fun k => by simp [World.frozen?, h]⟩
set_option maxRecDepth 100000 in
set_option maxHeartbeats 1000000 in
theorem read_long (s : ByteArray) (w : World) (t : TypeId) (x : Value) (h : 6000 < s.size) (hm : s.size ≤ maxLen) (hB : w.cell? ⟨2, 0, none⟩ = some (.iface t x)) :
    Calls Tryz.prog 13 #[.string s] w fun e w' => e = .returned (.tuple #[.slice none 0 0, .iface t x]) ∧ Below w.heap.size w w' := by
  have hbA : Below w.heap.size w (w.alloc (.cells #[.slice none 0 0] 29)) := (Below.refl _ _).alloc (Nat.le_refl _) _
  go_enter Tryz.func13, Tryz.ntmps13
  go_wp2_with fail
  refine (lex_long s _ _ h hm (cell_keep hbA hB) ⟨_, _, rfl⟩).mono ?_
  rintro e w1 ⟨rfl, k, rfl⟩
  go_wp2
  exact bodyPost_ret (v := .tuple #[.slice none 0 0, .iface t x]) (by simp [results, Tryz.results13, go_sem]) rfl ⟨rfl, (below_drewN hbA k).setCell (Nat.le_refl _) _⟩

set_option maxRecDepth 100000 in
set_option maxHeartbeats 1000000 in
theorem read_any (s : ByteArray) (w : World) (pT pB : Addr) (ev : Value) (hs : s.size ≤ 6000) (hT : w.cell? ⟨1, 0, none⟩ = some (.iface 325 (.pointer (some pT)))) (hB : w.cell? ⟨2, 0, none⟩ = some (.iface 325 (.pointer (some pB)))) (hv : w.cell? ⟨11, 0, none⟩ = some ev) (hev : ev = .nilIface ∨ ∃ te pe, ev = .iface te pe) :
    Calls Tryz.prog 13 #[.string s] w fun e w' => Below w.heap.size w w' ∧
      ((∃ (l : List Tk) (es : List Ex) (j : Nat) (v : Value), Lexes s 0 l none ∧ Parse l (.nodes []) 0 0 (.ok es j) ∧ e = .returned (.tuple #[v, .nilIface]) ∧ NodesV w.heap.size w' es v) ∨
       (∃ (l : List Tk) (j p : Nat) (bd : Bool), Lexes s 0 l none ∧ Parse l (.nodes []) 0 0 (.bad j bd) ∧ j < l.length ∧ e = .returned (.tuple #[.slice none 0 0, .iface 111 (.pointer (some ⟨p, 0, none⟩))]) ∧ w'.cell? ⟨p, 0, none⟩ = some (.int .i64 (tkp l j)) ∧ w'.cell? ⟨p, 0 + 1, none⟩ = some (.iface 325 (.pointer (some (if bd then pB else pT))))) ∨
       (∃ (l : List Tk) (j p : Nat), Lexes s 0 l (some j) ∧ e = .returned (.tuple #[.slice none 0 0, .iface 111 (.pointer (some ⟨p, 0, none⟩))]) ∧ w'.cell? ⟨p, 0, none⟩ = some (.int .i64 j) ∧ w'.cell? ⟨p, 0 + 1, none⟩ = some (.iface 325 (.pointer (some pT))))) := by
  have hbA : Below w.heap.size w (w.alloc (.cells #[.slice none 0 0] 29)) := (Below.refl _ _).alloc (Nat.le_refl _) _
  have HZ : Hid _ := heap_alloc_new w (.cells #[.slice none 0 0] 29)
  have hmf : ∀ (fn : Fn) (first cap : Array Value) (w : World), (Instr.makeFunc fn first cap).run Tryz.prog w = .ok (.func fn first cap) w := fun _ _ _ _ => rfl
  have lT := lt_of_cell hT
  have lB := lt_of_cell hB
  go_enter Tryz.func13, Tryz.ntmps13
  go_wp2_with fail
  refine (lex_any s _ pT ev hs (cell_keep hbA hT) (cell_keep hbA hv) hev).mono ?_
  rintro e w1 ⟨hb1, h1⟩
  have hs1 := hb1.size
  simp only [World.size_alloc] at hs1
  have HZ1 : Hid _ := row_keep hb1 HZ.out
  have hT1 := cell_keep hb1 (cell_keep hbA hT)
  have hB1 := cell_keep hb1 (cell_keep hbA hB)
  rcases h1 with ⟨l, v, hl, rfl, hown⟩ | ⟨l, j, p, hl, rfl, hp0, hp1⟩
  · have T := hl.toks hs
    obtain ⟨g, cap, rfl, hc⟩ := own_cells hown T.ne
    have hgl : g < w1.heap.size := lt_of_cell (hc 0 T.ne).1
    have hbW : Below w1.heap.size w1 ((w1.alloc (.cells #[.slice (some ⟨g, 0, none⟩) l.length cap, .int .i64 0, .int .i64 0] 104)).alloc (.cells #[.pointer (some ⟨w1.heap.size, 0, none⟩)] 102)) := ((Below.refl _ _).alloc (Nat.le_refl _) _).alloc (by simp) _
    obtain ⟨y0, y1, y2, yf⟩ := blk3 (alloc_row (.cells #[.pointer (some ⟨w1.heap.size, 0, none⟩)] 102) (heap_alloc_new w1 (.cells #[.slice (some ⟨g, 0, none⟩) l.length cap, .int .i64 0, .int .i64 0] 104)))
    obtain ⟨x0, xf⟩ := tblk1 (two_new w1 (.cells #[.slice (some ⟨g, 0, none⟩) l.length cap, .int .i64 0, .int .i64 0] 104) (.cells #[.pointer (some ⟨w1.heap.size, 0, none⟩)] 102))
    obtain ⟨z0, zf⟩ := tblk1 (row_keep hbW HZ1.out)
    have R : Rd ⟨pT, pB, w1.heap.size, g, cap, l⟩ 0 0 ((w1.alloc (.cells #[.slice (some ⟨g, 0, none⟩) l.length cap, .int .i64 0, .int .i64 0] 104)).alloc (.cells #[.pointer (some ⟨w1.heap.size, 0, none⟩)] 102)) := by
      refine ⟨y0, y1, y2, yf, fun k hk => ?_, ?_, T.ne, T.len, by decide, cell_keep hbW hT1, cell_keep hbW hB1, ?_, ?_⟩
      · have hk' : k < l.length := hk
        obtain ⟨a0, a1, a2⟩ := hc k hk'
        rw [show tkk l k = l[k].kind from tkk_lt hk', show tkx l k = l[k].text from tkx_lt hk', show tkp l k = l[k].pos from dif_pos hk']
        exact ⟨cell_keep hbW a0, cell_keep hbW a1, cell_keep hbW a2⟩
      · show g ≠ w1.heap.size; omega
      · show 1 ≠ w1.heap.size
        have : 1 < w.heap.size := lT
        omega
      · show 2 ≠ w1.heap.size
        have : 2 < w.heap.size := lB
        omega
    have HR : Hid _ := R
    have HX0 : Hid _ := x0
    have HZ0 : Hid _ := z0
    have HZF : Hid _ := zf 0
    clear y0 y1 y2 yf x0 xf z0 zf hc hown R
    go_wp2_with fail
    refine (caught_read ⟨pT, pB, w1.heap.size, g, cap, l⟩ (w1.heap.size + 1) w.heap.size (.slice none 0 0) _ T HR.out HX0.out HZ0.out HZF.out (by show w.heap.size ≠ w1.heap.size; omega) w.heap.size (by show w.heap.size ≤ w1.heap.size; omega) (Nat.le_refl _)).mono ?_
    rintro e w2 h2
    have hBW : Below w.heap.size w ((w1.alloc (.cells #[.slice (some ⟨g, 0, none⟩) l.length cap, .int .i64 0, .int .i64 0] 104)).alloc (.cells #[.pointer (some ⟨w1.heap.size, 0, none⟩)] 102)) := (hbA.trans (hb1.mono (by simp))).trans (hbW.mono (by omega))
    rcases h2 with ⟨es, j, v, hp, rfl, ⟨ys, hrow, hin⟩, hc2, hf2, hb2⟩ | ⟨j, bd, p, hp, hj, rfl, hp0, hp1, hc2, hf2, hb2⟩
    · obtain ⟨so, sc, rfl⟩ := hrow.form
      have St : Stays (From ((w1.alloc (.cells #[.slice (some ⟨g, 0, none⟩) l.length cap, .int .i64 0, .int .i64 0] 104)).alloc (.cells #[.pointer (some ⟨w1.heap.size, 0, none⟩)] 102)).heap.size) (From w.heap.size) w2 (w2.setCell ⟨w.heap.size, 0, none⟩ (.slice so es.length sc)) := Stays.set (p := ⟨w.heap.size, 0, none⟩) _ (fun k hk => by unfold From at *; simp only [World.size_alloc] at hk; exact ⟨by show k ≠ w.heap.size; omega, by omega⟩)
      go_wp2
      exact bodyPost_ret (v := .tuple #[.slice so es.length sc, .nilIface]) (by simp [results, Tryz.results13, go_sem, hc2]) rfl ⟨(hBW.trans hb2).setCell (Nat.le_refl _) _, Or.inl ⟨l, es, j, _, hl, hp, rfl, ys, hrow.keep St, hin.keep St⟩⟩
    · have hpn : p ≠ w.heap.size := fun e => by rw [e, hc2] at hp0; cases hp0
      go_wp2
      refine bodyPost_ret (v := .tuple #[.slice none 0 0, .iface 111 (.pointer (some ⟨p, 0, none⟩))]) (by simp [results, Tryz.results13, go_sem, hc2]) rfl ⟨(hBW.trans hb2).setCell (Nat.le_refl _) _, Or.inr (Or.inl ⟨l, j, p, bd, hl, hp, hj, rfl, ?_, ?_⟩)⟩
      · rw [World.cell?_setCell_other _ _ _ _ (fun e => hpn (by injection e with e; exact e.symm))]; exact hp0
      · rw [World.cell?_setCell_other _ _ _ _ (fun e => hpn (by injection e with e; exact e.symm))]; exact hp1
  · obtain ⟨z0, zf⟩ := tblk1 HZ1.out
    have hpn : p ≠ w.heap.size := fun e => by rw [e, z0] at hp0; cases hp0
    go_wp2
    refine bodyPost_ret (v := .tuple #[.slice none 0 0, .iface 111 (.pointer (some ⟨p, 0, none⟩))]) (by simp [results, Tryz.results13, go_sem, z0]) rfl ⟨(hbA.trans (hb1.mono (by simp))).setCell (Nat.le_refl _) _, Or.inr (Or.inr ⟨l, j, p, hl, rfl, ?_, ?_⟩)⟩
    · rw [World.cell?_setCell_other _ _ _ _ (fun e => hpn (by injection e with e; exact e.symm))]; exact hp0
    · rw [World.cell?_setCell_other _ _ _ _ (fun e => hpn (by injection e with e; exact e.symm))]; exact hp1
end Go.Proofs.YtglkpgcmlbhkpabGreatDoor

/-
  package tree's WRITER, on one program: program; Text$1; caught.
-/
namespace Go.Proofs.YtglkpgcmlbhkpabGreatDoor
open Go.RowKit
attribute [local go_sem ↓] Go.wp_at_zero Go.wp_at_succ

/-- One program in memory: one node with an output, one equation that sets it to true. -/
structure OneP (w : World) (B : Nat) (m mo : Nat) (nm x : ByteArray) (io wo : Option Addr) (ic wc p f oc q g qc r ro rc : Nat) (o : Option Addr) (c' : Nat) : Prop where
  hm : m < B
  hp : p < B
  hq : q < B
  hr : r < B
  m0 : w.cell? ⟨m, mo, none⟩ = some (.string nm)
  m1 : w.cell? ⟨m, mo + 1, none⟩ = some (.slice io 0 ic)
  m2 : w.cell? ⟨m, mo + 2, none⟩ = some (.slice (some ⟨p, f, none⟩) 1 oc)
  m3 : w.cell? ⟨m, mo + 3, none⟩ = some (.slice wo 0 wc)
  m4 : w.cell? ⟨m, mo + 4, none⟩ = some (.slice (some ⟨q, g, none⟩) 1 qc)
  p0 : w.cell? ⟨p, f, none⟩ = some (.string x)
  p1 : w.cell? ⟨p, f + 1, none⟩ = some (.int .i64 1)
  q0 : w.cell? ⟨q, g, none⟩ = some (.string sSet)
  q1 : w.cell? ⟨q, g + 1, none⟩ = some (.slice (some ⟨r, ro, none⟩) 1 rc)
  q2 : w.cell? ⟨q, g + 2, none⟩ = some (.string sTrue)
  q3 : w.cell? ⟨q, g + 3, none⟩ = some (.int .i64 0)
  q4 : w.cell? ⟨q, g + 4, none⟩ = some (.string sNone)
  q5 : w.cell? ⟨q, g + 5, none⟩ = some (.slice o 0 c')
  r0 : w.cell? ⟨r, ro, none⟩ = some (.string x)
section
variable {w w' : World} {B m mo : Nat} {nm x : ByteArray} {io wo : Option Addr} {ic wc p f oc q g qc r ro rc : Nat} {o : Option Addr} {c' : Nat}
theorem OneP.below (h : OneP w B m mo nm x io wo ic wc p f oc q g qc r ro rc o c') (hb : Below B w w') : OneP w' B m mo nm x io wo ic wc p f oc q g qc r ro rc o c' :=
  ⟨h.hm, h.hp, h.hq, h.hr, below_cell hb h.hm h.m0, below_cell hb h.hm h.m1, below_cell hb h.hm h.m2, below_cell hb h.hm h.m3, below_cell hb h.hm h.m4, below_cell hb h.hp h.p0, below_cell hb h.hp h.p1, below_cell hb h.hq h.q0, below_cell hb h.hq h.q1, below_cell hb h.hq h.q2, below_cell hb h.hq h.q3, below_cell hb h.hq h.q4, below_cell hb h.hq h.q5, below_cell hb h.hr h.r0⟩
end
set_option maxRecDepth 100000 in
set_option maxHeartbeats 1000000 in
theorem program_true (B b : Nat) (l : List UInt8) (d : Nat) (w : World) (m mo mc : Nat) (nm x : ByteArray) (io wo : Option Addr) (ic wc p f oc q g qc r ro rc : Nat) (o : Option Addr) (c' : Nat) (h : WT B b l d w) (O : OneP w B m mo nm x io wo ic wc p f oc q g qc r ro rc o c') (hl : l.length + nm.size + x.size + x.size + 60 ≤ 6000) (hd : d < 6000) :
    Calls Tryz.prog 36 #[.pointer (some ⟨b, 0, none⟩), .slice (some ⟨m, mo, none⟩) 1 mc] w fun e w' => Writes B b l (nodeT nm x) d w e w' := by
  have HO : Hid (OneP w B m mo nm x io wo ic wc p f oc q g qc r ro rc o c') := O
  clear O
  go_enter Tryz.func36, Tryz.ntmps36
  go_wp2
  go_loopw [8] (fun t wr => (t = .int .i64 0 ∧ wr = w) ∨ (t = .int .i64 1 ∧ WT B b (l ++ nodeT nm x) d wr ∧ Below B w wr ∧ Kept b w wr)) (fun t _ => 1 - (intOf t).toNat)
  case atStart => exact Or.inl ⟨rfl, rfl⟩
  case round =>
    rcases hrel with ⟨rfl, rfl⟩ | ⟨rfl, h1, b1, k1⟩
    · have hlt := h.lt
      have hle := h.le
      have bz : Below B wr (wr.alloc (.cells #[.string nm, .slice io 0 ic, .slice (some ⟨p, f, none⟩) 1 oc, .slice wo 0 wc, .slice (some ⟨q, g, none⟩) 1 qc] 84)) := (Below.refl _ _).alloc (by omega) _
      have O1 := HO.out.below bz
      have m0 := HO.out.m0
      have m1 := HO.out.m1
      have m2 := HO.out.m2
      have m3 := HO.out.m3
      have m4 := HO.out.m4
      go_wp2_with fail
      refine (node_true B b l d _ nm x io wo ic wc p f oc q g qc r ro rc o c' (h.alloc _) O1.hp O1.hq O1.hr O1.p0 O1.p1 O1.q0 O1.q1 O1.q2 O1.q3 O1.q4 O1.q5 O1.r0 hl hd).mono ?_
      rintro e v1 ⟨rfl, h1, b1, k1⟩
      go_wp2
      exact ⟨Or.inr ⟨by go_num, h1, bz.trans b1, (Kept.alloc b wr _).trans k1⟩, by simp [intOf]⟩
    · go_wp2
      go_end0
      exact ⟨rfl, h1, b1, k1⟩
set_option maxRecDepth 100000 in
set_option maxHeartbeats 1000000 in
theorem text1_true (B b : Nat) (d : Nat) (w : World) (b3 b0 m mo mc : Nat) (nm x : ByteArray) (io wo : Option Addr) (ic wc p f oc q g qc r ro rc : Nat) (o : Option Addr) (c' : Nat) (h : WT B b [] d w) (O : OneP w B m mo nm x io wo ic wc p f oc q g qc r ro rc o c') (h3 : w.cell? ⟨b3, 0, none⟩ = some (.pointer (some ⟨b, 0, none⟩))) (h0 : w.cell? ⟨b0, 0, none⟩ = some (.slice (some ⟨m, mo, none⟩) 1 mc)) (hl : nm.size + x.size + x.size + 60 ≤ 6000) (hd : d < 6000) :
    Calls Tryz.prog 35 #[.pointer (some ⟨b3, 0, none⟩), .pointer (some ⟨b0, 0, none⟩)] w fun e w' => Writes B b [] (nodeT nm x) d w e w' := by
  have HO : Hid (OneP w B m mo nm x io wo ic wc p f oc q g qc r ro rc o c') := O
  clear O
  go_enter Tryz.func35, Tryz.ntmps35
  go_wp2_with fail
  refine (program_true B b [] d _ m mo mc nm x io wo ic wc p f oc q g qc r ro rc o c' h HO.out (by simp; omega) hd).mono ?_
  rintro e w1 ⟨rfl, h1, b1, k1⟩
  go_wp2
  go_end0
  exact ⟨rfl, h1, b1, k1⟩
theorem WT.other {B b : Nat} {l : List UInt8} {d : Nat} {w : World} (h : WT B b l d w) {k off : Nat} {cur : Array Value} {t : TypeId} (hk : w.heap[k]? = some (.cells cur t (0, 0))) (ht : t ≠ 5) (hkb : k ≠ b) (v : Value) : WT B b l d (w.setCell ⟨k, off, none⟩ v) := by
  have K : ∀ p, WrAt B b p (Lib.byteCells l) d w → WrAt B b p (Lib.byteCells l) d (w.setCell ⟨k, off, none⟩ v) := fun p ⟨hB, v', hb, hown, hne⟩ =>
    ⟨hB, v', (Below.heap_setCell _ _ _ _ (by show b ≠ k; omega)).trans hb, hown.kept (row := some k) ⟨rfl, rfl, rfl, by simp [World.setCell], fun j _ hj => Below.heap_setCell _ _ _ _ (fun e => hj (by simp [e]))⟩ (Or.inr (Lib.ownBlock_ne hown hk ht)), hne⟩
  rcases h with h | h
  · exact Or.inl (K _ h)
  · exact Or.inr (K _ h)
set_option maxRecDepth 100000 in
set_option maxHeartbeats 1000000 in
theorem caught_true (B b : Nat) (d : Nat) (w : World) (b3 b0 m mo mc : Nat) (nm x : ByteArray) (io wo : Option Addr) (ic wc p f oc q g qc r ro rc : Nat) (o : Option Addr) (c' : Nat) (h : WT B b [] d w) (O : OneP w B m mo nm x io wo ic wc p f oc q g qc r ro rc o c') (h3 : w.cell? ⟨b3, 0, none⟩ = some (.pointer (some ⟨b, 0, none⟩))) (h0 : w.cell? ⟨b0, 0, none⟩ = some (.slice (some ⟨m, mo, none⟩) 1 mc)) (hl : nm.size + x.size + x.size + 60 ≤ 6000) (hd : d < 6000) :
    Calls Tryz.prog 34 #[.func (.func 35) #[] #[.pointer (some ⟨b3, 0, none⟩), .pointer (some ⟨b0, 0, none⟩)]] w fun e w' => e = .returned .nilIface ∧ WT B b (nodeT nm x) d w' ∧ Below B w w' ∧ Kept b w w' := by
  have hmf : ∀ (fn : Fn) (first cap : Array Value) (w : World), (Instr.makeFunc fn first cap).run Tryz.prog w = .ok (.func fn first cap) w := fun _ _ _ _ => rfl
  have hlt := h.lt
  have hle := h.le
  have hbA : Below w.heap.size w (w.alloc (.cells #[.nilIface] 26)) := (Below.refl _ _).alloc (Nat.le_refl _) _
  have HZ : Hid _ := heap_alloc_new w (.cells #[.nilIface] 26)
  have bz : Below B w (w.alloc (.cells #[.nilIface] 26)) := (Below.refl _ _).alloc (by omega) _
  go_enter_defers Tryz.func34, Tryz.ntmps34
  go_wp2_with fail
  refine (text1_true B b d _ b3 b0 m mo mc nm x io wo ic wc p f oc q g qc r ro rc o c' (h.alloc _) (O.below bz) (cell_keep hbA h3) (cell_keep hbA h0) hl hd).mono ?_
  rintro e w1 ⟨rfl, h1, b1, k1⟩
  have hr1 := kept_row k1 HZ.out (by omega) (by intro c fz e; injection e with _ e; exact absurd e (by decide))
  have c1 : w1.cell? ⟨w.heap.size, 0, none⟩ = some .nilIface := by simp [World.cell?, hr1]
  have f1 : w1.frozen? ⟨w.heap.size, 0, none⟩ = false := by simp [World.frozen?, hr1]
  have hlw : w.heap.size < w1.heap.size := lt_of_cell c1
  have HR1 : Hid _ := hr1
  clear hr1
  go_wp2
  refine leaves_cons (f := 84) (args := #[.pointer (some ⟨w.heap.size, 0, none⟩)]) (by simp) (by simp [go_sem]) ?_
  refine (catch_idle _ _).mono ?_
  rintro e u' w'' ⟨rfl, rfl, rfl⟩
  refine ⟨.nilIface, ?_, rfl, h1.other HR1.out (by decide) (by omega) _, (bz.trans b1).setCell (by show B ≤ w.heap.size; omega) _, fun k o hk hb ho => ?_⟩
  · simp [results, Tryz.results34, go_sem, c1]
  · have hkl := (Array.getElem?_eq_some_iff.1 hk).1
    exact (Below.heap_setCell _ _ _ _ (by show k ≠ w.heap.size; omega)).trans (((Kept.alloc b w _).trans k1) k o hk hb ho)
end Go.Proofs.YtglkpgcmlbhkpabGreatDoor

/-
  lustrumref1.SameExpr BY ITS CONTRACT: what holds the same is the same.
-/
namespace Go.Proofs.YtglkpgcmlbhkpabGreatDoor
open Go.RowKit
attribute [local go_sem ↓] Go.wp_at_zero Go.wp_at_succ

theorem size_part {l : List Ex} {i : Nat} (hi : i < l.length) {op : ByteArray} {n : Int} {s : ByteArray} {es : List Ex} (e : l[i] = .mk op n s es) : SizeOf.sizeOf es < SizeOf.sizeOf l := by
  have h := List.sizeOf_lt_of_mem (List.getElem_mem hi)
  rw [e] at h
  simp only [Ex.mk.sizeOf_spec] at h
  omega
abbrev reObj (op : ByteArray) (n : Int) (s : ByteArray) (v : Value) : Obj := .cells #[.string op, .int .i64 n, .string s, v] 38
set_option maxRecDepth 100000 in
set_option maxHeartbeats 1000000 in
theorem sameExpr_any : ∀ (m : Nat) (op : ByteArray) (n : Int) (s : ByteArray) (l : List Ex), SizeOf.sizeOf l < m → ∀ (w : World) (S S' : Nat → Prop) (o o' : Option Addr) (c c' : Nat) (ys ys' : List Value), RowAt w S 4 (.slice o l.length c) l.length ys → ExIn w S l ys → RowAt w S' 4 (.slice o' l.length c') l.length ys' → ExIn w S' l ys' →
    Calls Tryz.prog 45 #[.agg #[.string op, .int .i64 n, .string s, .slice o l.length c], .agg #[.string op, .int .i64 n, .string s, .slice o' l.length c']] w fun e w' => e = .returned (.bool true) ∧ Below w.heap.size w w'
  | 0, _, _, _, _, h => absurd h (Nat.not_lt_zero _)
  | m + 1, op, n, s, l, hm => by
    intro w S S' o o' c c' ys ys' h1 h2 h3 h4
    have IH := sameExpr_any m
    have hl := h1.len
    unfold maxLen at hl
    have H1 : Hid (RowAt w S 4 (.slice o l.length c) l.length ys) := h1
    have H2 : Hid (ExIn w S l ys) := h2
    have H3 : Hid (RowAt w S' 4 (.slice o' l.length c') l.length ys') := h3
    have H4 : Hid (ExIn w S' l ys') := h4
    have hbA : Below w.heap.size w ((w.alloc (reObj op n s (.slice o l.length c))).alloc (reObj op n s (.slice o' l.length c'))) := ((Below.refl _ _).alloc (Nat.le_refl _) _).alloc (by simp) _
    have HA : Hid (((w.alloc (reObj op n s (.slice o l.length c))).alloc (reObj op n s (.slice o' l.length c'))).heap[w.heap.size]? = some (reObj op n s (.slice o l.length c))) := alloc_row _ (heap_alloc_new w _)
    have HB : Hid (((w.alloc (reObj op n s (.slice o l.length c))).alloc (reObj op n s (.slice o' l.length c'))).heap[w.heap.size + 1]? = some (reObj op n s (.slice o' l.length c'))) := two_new w _ _
    clear h1 h2 h3 h4
    go_enter Tryz.func45, Tryz.ntmps45
    go_wp2
    go_loopw [5] (fun t wr => ∃ i : Nat, i ≤ l.length ∧ t = .int .i64 i ∧ Below (w.heap.size + 1 + 1) ((w.alloc (reObj op n s (.slice o l.length c))).alloc (reObj op n s (.slice o' l.length c'))) wr) (fun t _ => l.length - (intOf t).toNat)
    case atStart => exact ⟨0, Nat.zero_le _, rfl, Below.refl _ _⟩
    case round =>
      obtain ⟨i, hi, rfl, hbr⟩ := hrel
      have hbr' : Below ((w.alloc (reObj op n s (.slice o l.length c))).alloc (reObj op n s (.slice o' l.length c'))).heap.size ((w.alloc (reObj op n s (.slice o l.length c))).alloc (reObj op n s (.slice o' l.length c'))) wr := by simpa using hbr
      have hbw : Below w.heap.size w wr := hbA.trans (hbr.mono (by omega))
      obtain ⟨a0, a1, a2, a3, _⟩ := blk4 (row_keep hbr' HA.out)
      obtain ⟨b0, b1, b2, b3, _⟩ := blk4 (row_keep hbr' HB.out)
      by_cases hlt : i < l.length
      · obtain ⟨op', n', s', es, oo, cc, zs, e, x0, x1, x2, x3, r1, r2⟩ := H2.out.at hlt
        obtain ⟨op'', n'', s'', es', oo', cc', zs', e', y0, y1, y2, y3, r3, r4⟩ := H4.out.at hlt
        rw [e] at e'
        injection e' with e1 e2 e3 e4
        subst e1 e2 e3 e4
        obtain ⟨p, f, rfl, _, g⟩ := row_get H1.out (by have := H1.out.1; omega)
        obtain ⟨p', f', rfl, _, g'⟩ := row_get H3.out (by have := H3.out.1; omega)
        have x0 := cell_keep hbw (g _ _ x0)
        have x1 := cell_keep hbw (g _ _ x1)
        have x2 := cell_keep hbw (g _ _ x2)
        have x3 := cell_keep hbw (g _ _ x3)
        have y0 := cell_keep hbw (g' _ _ y0)
        have y1 := cell_keep hbw (g' _ _ y1)
        have y2 := cell_keep hbw (g' _ _ y2)
        have y3 := cell_keep hbw (g' _ _ y3)
        rw [← Nat.add_assoc] at x1 x2 x3 y1 y2 y3
        have i0 : (0 : Int) ≤ (i : Int) := by omega
        have i1 : (i : Int) < (l.length : Int) := by omega
        have hsz := size_part hlt e
        have Hr : Hid (Calls Tryz.prog 45 #[.agg #[.string op', .int .i64 n', .string s', .slice oo es.length cc], .agg #[.string op', .int .i64 n', .string s', .slice oo' es.length cc']] wr.drew fun e w' => e = .returned (.bool true) ∧ Below wr.drew.heap.size wr.drew w') := IH op' n' s' es (by omega) wr.drew S S' oo oo' cc cc' zs zs' (r1.keep (Stays.below hbw.drew (fun k hk => hk))) (r2.keep (Stays.below hbw.drew (fun k hk => hk))) (r3.keep (Stays.below hbw.drew (fun k hk => hk))) (r4.keep (Stays.below hbw.drew (fun k hk => hk)))
        clear g g' r1 r2 r3 r4 IH hbw hsz
        go_wp2
        go_region_law (refine step_call rfl 45 #[.agg #[.string op', .int .i64 n', .string s', .slice oo es.length cc], .agg #[.string op', .int .i64 n', .string s', .slice oo' es.length cc']] (by kernel_rfl) ?_; refine Hr.out.mono ?_; rintro e w4 ⟨rfl, hb4⟩)
        all_goals
          go_wp2
          have hs4 := hbr.size
          simp only [World.size_alloc] at hs4
          exact ⟨⟨i + 1, by omega, by go_num, (hbr.drew).trans (hb4.mono (by show _ ≤ wr.heap.size; omega))⟩, by simp [intOf]; omega⟩
      · go_wp2
        go_ret
        exact ⟨rfl, hbw⟩
end Go.Proofs.YtglkpgcmlbhkpabGreatDoor

/-
  package tree's alike BY ITS CONTRACT: what holds the same is alike: variables, texts, terms.
-/
namespace Go.Proofs.YtglkpgcmlbhkpabGreatDoor
open Go.RowKit
attribute [local go_sem ↓] Go.wp_at_zero Go.wp_at_succ

set_option maxHeartbeats 1000000 in
theorem eqTexts_any (w : World) (S S' : Nat → Prop) (o o' : Option Addr) (c c' : Nat) (ns : List Ex) (h1 : RowAt w S 1 (.slice o ns.length c) ns.length (nameCells ns)) (h2 : RowAt w S' 1 (.slice o' ns.length c') ns.length (nameCells ns)) :
    Calls Tryz.prog 186 #[.slice o ns.length c, .slice o' ns.length c'] w fun e w' => e = .returned (.bool true) ∧ ∃ k, w' = w.drewN k := by
  have hl := h1.len
  unfold maxLen at hl
  have H1 : Hid _ := h1
  have H2 : Hid _ := h2
  clear h1 h2
  go_enter Tryz.func186, Tryz.ntmps186
  go_wp2
  go_loopw [13] (fun i wr => ∃ j k : Nat, j ≤ ns.length ∧ i = .int .i64 j ∧ wr = w.drewN k) (fun i _ => ns.length - (intOf i).toNat)
  case atStart => exact ⟨0, 0, Nat.zero_le _, rfl, rfl⟩
  case round =>
    obtain ⟨j, k, hj, rfl, rfl⟩ := hrel
    by_cases hlt : j < ns.length
    · obtain ⟨b, off, rfl, _, hc⟩ := row_get H1.out (by rw [nameCells_length]; omega)
      obtain ⟨b', off', rfl, _, hc'⟩ := row_get H2.out (by rw [nameCells_length]; omega)
      have x0 := hc j _ (nameCells_at hlt)
      have x1 := hc' j _ (nameCells_at hlt)
      clear hc hc'
      have hi0 : (0 : Int) ≤ (j : Int) := by omega
      have hi1 : (j : Int) < (ns.length : Int) := by omega
      go_wp2
      go_quiet (fail)
      go_wp2
      refine ⟨⟨j + 1, _, by omega, by go_num, rfl⟩, ?_⟩
      simp [intOf]; omega
    · go_wp2
      go_ret
      exact ⟨rfl, k, rfl⟩
set_option maxHeartbeats 1000000 in
theorem eqVars_any (w : World) (S S' : Nat → Prop) (o o' : Option Addr) (c c' : Nat) (vs : List Ex) (h1 : RowAt w S 2 (.slice o vs.length c) vs.length (varCells vs)) (h2 : RowAt w S' 2 (.slice o' vs.length c') vs.length (varCells vs)) :
    Calls Tryz.prog 132 #[.slice o vs.length c, .slice o' vs.length c'] w fun e w' => e = .returned (.bool true) ∧ ∃ k, w' = w.drewN k := by
  have hl := h1.len
  unfold maxLen at hl
  have H1 : Hid _ := h1
  have H2 : Hid _ := h2
  clear h1 h2
  go_enter Tryz.func132, Tryz.ntmps132
  go_wp2
  go_loopw [13] (fun i wr => ∃ j k : Nat, j ≤ vs.length ∧ i = .int .i64 j ∧ wr = w.drewN k) (fun i _ => vs.length - (intOf i).toNat)
  case atStart => exact ⟨0, 0, Nat.zero_le _, rfl, rfl⟩
  case round =>
    obtain ⟨j, k, hj, rfl, rfl⟩ := hrel
    by_cases hlt : j < vs.length
    · obtain ⟨b, off, rfl, _, hc⟩ := row_get H1.out (by rw [varCells_length]; omega)
      obtain ⟨b', off', rfl, _, hc'⟩ := row_get H2.out (by rw [varCells_length]; omega)
      have x0 := hc _ _ (varCells_at hlt).1
      have x1 := hc _ _ (varCells_at hlt).2
      have y0 := hc' _ _ (varCells_at hlt).1
      have y1 := hc' _ _ (varCells_at hlt).2
      rw [← Nat.add_assoc] at x1 y1
      clear hc hc'
      have hi0 : (0 : Int) ≤ (j : Int) := by omega
      have hi1 : (j : Int) < (vs.length : Int) := by omega
      go_wp2
      go_quiet (fail)
      go_wp2
      refine ⟨⟨j + 1, _, by omega, by go_num, rfl⟩, ?_⟩
      simp [intOf]; omega
    · go_wp2
      go_ret
      exact ⟨rfl, k, rfl⟩
end Go.Proofs.YtglkpgcmlbhkpabGreatDoor
