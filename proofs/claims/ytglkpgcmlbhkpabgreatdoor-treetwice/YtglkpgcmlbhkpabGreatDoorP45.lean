/-
  tree.caught of the writer; tree.Text BY ITS CONTRACT, whatever it is given: what is written is read, and the same.
-/
import Derived.Test.YtglkpgcmlbhkpabGreatDoorP42
import Derived.Test.YtglkpgcmlbhkpabGreatDoorP44
import Derived.Test.YtglkpgcmlbhkpabGreatDoorP28
namespace Go.Proofs.YtglkpgcmlbhkpabGreatDoor
open Go.RowKit
attribute [local go_sem ↓] Go.wp_at_zero Go.wp_at_succ

abbrev thrownB (p : Addr) : Value := .iface 165 (.agg #[.iface 325 (.pointer (some p))])
theorem assert_thrownB (p : Addr) (w : World) : (Instr.typeAssert (thrownB p) 20 165 true).run Tryz.prog w = .ok (.tuple #[.agg #[.iface 325 (.pointer (some p))], .bool true]) w := by kernel_rfl
set_option maxRecDepth 100000 in
set_option maxHeartbeats 1000000 in
theorem catch_thrownB (b : Nat) (p : Addr) (v : Value) (older : List PanicEntry) (w : World) (hc : w.cell? ⟨b, 0, none⟩ = some v) (hz : w.frozen? ⟨b, 0, none⟩ = false) :
    CallsD Tryz.prog 84 #[.pointer (some ⟨b, 0, none⟩)] (.panicking ({ v := thrownB p, recovered := false } :: older)) w fun e u' w' =>
      e = .returned (.tuple #[]) ∧ u' = .panicking ({ v := thrownB p, recovered := true } :: older) ∧ w' = (w.setCell ⟨b, 0, none⟩ (.iface 325 (.pointer (some p)))).alloc (.cells #[.iface 325 (.pointer (some p))] 165) := by
  refine callsD_of_wpS Tryz.func84 rfl fun c₀ cs hu => ?_
  apply wpS_seq
  apply wpS_region
  simp [wpOpsS, go_sem, recoverD, hu, Tryz.ntmps84, Exit.thenS]
  have hta := assert_thrownB p
  apply wpS_seq
  apply wpS_region
  simp [wpOpsS, go_sem, Exit.thenS]
  refine wpS_cond (t := true) (by simp [Act.eval]) ?_
  simp only [if_true]
  apply wpS_seq
  apply wpS_region
  simp [wpOpsS, go_sem, Exit.thenS, hta]
  apply wpS_seq
  apply wpS_seq
  apply wpS_region
  simp [wpOpsS, go_sem, Exit.thenS]
  refine wpS_cond (t := false) (by simp [Act.eval]) ?_
  simp only [Bool.false_eq_true, if_false]
  refine wpS_of_wp (wp_skip ?_)
  have hbl : b < w.heap.size := lt_of_cell hc
  simp only [Exit.thenS]
  apply wpS_region
  simp [wpOpsS, go_sem, hc, hz, hbl, bodyPostS, results, Tryz.results84]
set_option maxRecDepth 100000 in
set_option maxHeartbeats 1000000 in
theorem text1_any (B b d : Nat) (pS : Addr) (w : World) (b3 b0 : Nat) (es : List Ex) (o : Option Addr) (c : Nat) (ys : List Value) (hd : d ≤ 6000) (h : WSt B b d pS w) (r1 : RowAt w (fun k => k < B) 5 (.slice o es.length c) es.length ys) (r2 : NdIn w (fun k => k < B) es ys) (h3 : w.cell? ⟨b3, 0, none⟩ = some (.pointer (some ⟨b, 0, none⟩))) (h0 : w.cell? ⟨b0, 0, none⟩ = some (.slice o es.length c)) :
    Calls Tryz.prog 35 #[.pointer (some ⟨b3, 0, none⟩), .pointer (some ⟨b0, 0, none⟩)] w fun e w' => WAny B b d pS w e w' := by
  have HC : Hid (Calls Tryz.prog 36 #[.pointer (some ⟨b, 0, none⟩), .slice o es.length c] w fun e w' => WAny B b d pS w e w') := wprogram_any B b d pS w es o c ys hd h r1 r2
  clear r1 r2
  go_enter Tryz.func35, Tryz.ntmps35
  go_wp2_with fail
  refine HC.out.mono ?_
  rintro e w1 ⟨b1, k1, ⟨l1, rfl, u1, g1⟩ | ht⟩
  · go_wp2
    go_end0
    exact ⟨b1, k1, Or.inl ⟨l1, rfl, u1, g1⟩⟩
  · unfold WThrew at ht
    subst ht
    go_wp2
    exact ⟨rfl, b1, k1, Or.inr rfl⟩
set_option maxRecDepth 100000 in
set_option maxHeartbeats 1000000 in
theorem caught_w (B b d : Nat) (pS : Addr) (w : World) (b3 b0 : Nat) (es : List Ex) (o : Option Addr) (c : Nat) (ys : List Value) (hd : d ≤ 6000) (h : WSt B b d pS w) (r1 : RowAt w (fun k => k < B) 5 (.slice o es.length c) es.length ys) (r2 : NdIn w (fun k => k < B) es ys) (h3 : w.cell? ⟨b3, 0, none⟩ = some (.pointer (some ⟨b, 0, none⟩))) (h0 : w.cell? ⟨b0, 0, none⟩ = some (.slice o es.length c)) :
    Calls Tryz.prog 34 #[.func (.func 35) #[] #[.pointer (some ⟨b3, 0, none⟩), .pointer (some ⟨b0, 0, none⟩)]] w fun e w' => Below B w w' ∧ Kept b w w' ∧ ((∃ l, e = .returned .nilIface ∧ WT B b l d w' ∧ l.length ≤ 6000) ∨ e = .returned (.iface 325 (.pointer (some pS)))) := by
  have hmf : ∀ (fn : Fn) (first cap : Array Value) (w : World), (Instr.makeFunc fn first cap).run Tryz.prog w = .ok (.func fn first cap) w := fun _ _ _ _ => rfl
  have hlt := h.lt
  have hle := h.le
  have hbA : Below w.heap.size w (w.alloc (.cells #[.nilIface] 26)) := (Below.refl _ _).alloc (Nat.le_refl _) _
  have HZ : Hid _ := heap_alloc_new w (.cells #[.nilIface] 26)
  have bz : Below B w (w.alloc (.cells #[.nilIface] 26)) := (Below.refl _ _).alloc (by omega) _
  have HC : Hid (Calls Tryz.prog 35 #[.pointer (some ⟨b3, 0, none⟩), .pointer (some ⟨b0, 0, none⟩)] (w.alloc (.cells #[.nilIface] 26)) fun e w' => WAny B b d pS (w.alloc (.cells #[.nilIface] 26)) e w') := text1_any B b d pS _ b3 b0 es o c ys hd (h.alloc _) (below_row r1 bz) (below_nd r2 bz) (cell_keep hbA h3) (cell_keep hbA h0)
  clear r1 r2
  go_enter_defers Tryz.func34, Tryz.ntmps34
  go_wp2_with fail
  refine HC.out.mono ?_
  rintro e w1 ⟨b1, k1, ⟨l1, rfl, u1, g1⟩ | ht⟩
  · have hr1 := kept_row k1 HZ.out (by omega) (by intro c fz e; injection e with _ e; exact absurd e (by decide))
    have c1 : w1.cell? ⟨w.heap.size, 0, none⟩ = some .nilIface := by simp [World.cell?, hr1]
    have f1 : w1.frozen? ⟨w.heap.size, 0, none⟩ = false := by simp [World.frozen?, hr1]
    have hlw : w.heap.size < w1.heap.size := lt_of_cell c1
    have HR1 : Hid _ := hr1
    clear hr1
    go_wp2
    refine leaves_cons (f := 84) (args := #[.pointer (some ⟨w.heap.size, 0, none⟩)]) (by simp) (by simp [go_sem]) ?_
    refine (catch_idle _ _).mono ?_
    rintro e u' w'' ⟨rfl, rfl, rfl⟩
    refine ⟨.nilIface, ?_, (bz.trans b1).setCell (by show B ≤ w.heap.size; omega) _, fun k o hk hb ho => ?_, Or.inl ⟨l1, rfl, u1.other HR1.out (by decide) (by omega) _, g1⟩⟩
    · simp [results, Tryz.results34, go_sem, c1]
    · have hkl := (Array.getElem?_eq_some_iff.1 hk).1
      exact (Below.heap_setCell _ _ _ _ (by show k ≠ w.heap.size; omega)).trans (((Kept.alloc b w _).trans k1) k o hk hb ho)
  · unfold WThrew at ht
    subst ht
    have hr1 := kept_row k1 HZ.out (by omega) (by intro c fz e; injection e with _ e; exact absurd e (by decide))
    have c1 : w1.cell? ⟨w.heap.size, 0, none⟩ = some .nilIface := by simp [World.cell?, hr1]
    have f1 : w1.frozen? ⟨w.heap.size, 0, none⟩ = false := by simp [World.frozen?, hr1]
    have hlw : w.heap.size < w1.heap.size := lt_of_cell c1
    clear hr1
    go_wp2
    refine leaves_cons (f := 84) (args := #[.pointer (some ⟨w.heap.size, 0, none⟩)]) (by simp) (by simp [go_sem]) ?_
    refine (catch_thrownB w.heap.size pS .nilIface [] _ c1 f1).mono ?_
    rintro e u' w'' ⟨rfl, rfl, rfl⟩
    refine ⟨.iface 325 (.pointer (some pS)), ?_, ((bz.trans b1).setCell (by show B ≤ w.heap.size; omega) _).alloc (by simp; omega) _, fun k o hk hb ho => ?_, Or.inr rfl⟩
    · simp [results, Tryz.results34, go_sem, c1, hlw]
    · have hkl := (Array.getElem?_eq_some_iff.1 hk).1
      exact (heap_alloc_old _ _ (by simp; omega)).trans ((Below.heap_setCell _ _ _ _ (by show k ≠ w.heap.size; omega)).trans (((Kept.alloc b w _).trans k1) k o hk hb ho))
set_option maxRecDepth 100000 in
set_option maxHeartbeats 1000000 in
theorem wString_none (B b : Nat) (d : Nat) (w : World) (h : Wr B b [] d w) :
    Calls Tryz.prog 37 #[.pointer (some ⟨b, 0, none⟩)] w fun e w' => e = .returned (.string ⟨#[]⟩) ∧ Below B w w' ∧ Kept b w w' := by
  obtain ⟨p, _, hB, v, hbk, hown, hne⟩ := h.of
  have mixed : Tryz.prog.follows Departure.mixedOrders = true := by kernel_rfl
  have hUS : ∀ q W, (Builtin.unsafeString_ #[167, 3] 9 #[.pointer q, .int .i64 0]).run Tryz.prog W = .ok (.string .empty) W := fun q W => Lib.run_unsafeString_none W _ _ _ q
  have hl : b < w.heap.size := h.lt
  obtain ⟨q, c, sq, W, rfl, hSD, hbW, hkW, hcW⟩ : ∃ (q : Option Addr) (c : Nat) (q' : Option Addr) (W : World), v = .slice q 0 c ∧ (Builtin.unsafeSliceData_ #[87] 167 #[.slice q 0 c]).run Tryz.prog w.drew = .ok (.pointer q') W ∧ Below B w W ∧ Kept b w W ∧ W.cell? ⟨b, 1, none⟩ = some v := by
    have hc : w.drew.cell? ⟨b, 1, none⟩ = some v := by
      have : w.drew.heap[b]? = some (.cells #[p, v, .int .i64 6000, .int .i64 d] 91 (0, 0)) := hbk
      simp [World.cell?, this]
    rcases hown.2 with ⟨hv, _⟩ | ⟨g, cap, cur, hv, hbg, hg, _⟩
    · exact ⟨none, 0, none, w.drew, hv, by rfl, Below.drew (Below.refl B w), Lib.OthersKept.drew (Lib.OthersKept.refl _ _ _), hc⟩
    · by_cases h0 : cap = 0
      · subst h0
        have hsh : w.drew.shape? g = some (5, cur.size) := by
          have hg' : w.drew.heap[g]? = some (.cells cur 5 (0, 0)) := hg
          simp [World.shape?, hg']
        exact ⟨_, _, _, _, hv, Lib.run_unsafeSliceData_zero w.drew #[87] 167 5 Tryz.underlying167 ⟨g, 0, none⟩ 0 _ hsh, (Below.drew (Below.refl B w)).alloc (by show B ≤ w.heap.size; omega) _, (Lib.OthersKept.drew (Lib.OthersKept.refl _ _ _)).alloc _, cell_keep (w := w.drew) ((Below.refl _ _).alloc (Nat.le_refl _) _) hc⟩
      · exact ⟨_, _, _, w.drew, hv, Lib.run_unsafeSliceData_row _ _ _ _ _ _ h0, Below.drew (Below.refl B w), Lib.OthersKept.drew (Lib.OthersKept.refl _ _ _), hc⟩
  have c1 : w.drew.cell? ⟨b, 1, none⟩ = some (.slice q 0 c) := by
    have : w.drew.heap[b]? = some (.cells #[p, .slice q 0 c, .int .i64 6000, .int .i64 d] 91 (0, 0)) := hbk
    simp [World.cell?, this]
  have hU := hUS sq W
  have HW : Hid (Below B w W ∧ Kept b w W) := ⟨hbW, hkW⟩
  clear hUS hbW hkW
  go_enter Tryz.func37, Tryz.ntmps37
  go_wp2
  go_region_o
  all_goals (go_wp2; go_ret; exact ⟨rfl, HW.out.1, HW.out.2⟩)
theorem stays_lt {S : Nat → Prop} (w : World) : Stays S (fun k => k < w.heap.size) w w := fun _ _ h => ⟨h, rfl⟩
set_option maxRecDepth 100000 in
set_option maxHeartbeats 2000000 in
theorem wtext_any (es : List Ex) (S : Nat → Prop) (o : Option Addr) (c : Nat) (ys : List Value) (w : World) (h1 : RowAt w S 5 (.slice o es.length c) es.length ys) (h2 : NdIn w S es ys) (pT pB pS : Addr) (ev : Value) (hS : w.cell? ⟨0, 0, none⟩ = some (.iface 325 (.pointer (some pS)))) (hT : w.cell? ⟨1, 0, none⟩ = some (.iface 325 (.pointer (some pT)))) (hB : w.cell? ⟨2, 0, none⟩ = some (.iface 325 (.pointer (some pB)))) (hv : w.cell? ⟨11, 0, none⟩ = some ev) (hev : ev = .nilIface ∨ ∃ te pe, ev = .iface te pe) (tab : TabAt w) (hgz : 13 < w.heap.size) :
    Calls Tryz.prog 11 #[.slice o es.length c] w fun e w' => Below w.heap.size w w' ∧ ((∃ (t : ByteArray) (l : List Tk) (es' : List Ex) (j : Nat), e = .returned (.tuple #[.string t, .nilIface]) ∧ t.size ≤ 6000 ∧ Lexes t 0 l none ∧ Parse l (.nodes []) 0 0 (.ok es' j) ∧ SameNds es es') ∨ e = .returned (.tuple #[.string ⟨#[]⟩, .iface 325 (.pointer (some pS))])) := by
  have hmf : ∀ (fn : Fn) (first cap : Array Value) (w : World), (Instr.makeFunc fn first cap).run Tryz.prog w = .ok (.func fn first cap) w := fun _ _ _ _ => rfl
  have H1 : Hid (RowAt w S 5 (.slice o es.length c) es.length ys) := h1
  have H2 : Hid (NdIn w S es ys) := h2
  clear h1 h2
  have bz : Below w.heap.size w (((w.alloc (.cells #[.slice o es.length c] 29)).alloc (.cells #[.pointer none, .slice none 0 0, .int .i64 6000, .int .i64 0] 91)).alloc (.cells #[.pointer (some ⟨w.heap.size + 1, 0, none⟩)] 85)) := (((Below.refl _ _).alloc (Nat.le_refl _) _).alloc (by simp) _).alloc (by simp; omega) _
  have HL : Hid ((((w.alloc (.cells #[.slice o es.length c] 29)).alloc (.cells #[.pointer none, .slice none 0 0, .int .i64 6000, .int .i64 0] 91)).alloc (.cells #[.pointer (some ⟨w.heap.size + 1, 0, none⟩)] 85)).heap[w.heap.size]? = some (.cells #[.slice o es.length c] 29)) := alloc_row _ (alloc_row _ (heap_alloc_new w _))
  have hwr : (((w.alloc (.cells #[.slice o es.length c] 29)).alloc (.cells #[.pointer none, .slice none 0 0, .int .i64 6000, .int .i64 0] 91)).alloc (.cells #[.pointer (some ⟨w.heap.size + 1, 0, none⟩)] 85)).heap[w.heap.size + 1]? = some (.cells #[.pointer none, .slice none 0 0, .int .i64 6000, .int .i64 0] 91) := alloc_row _ (two_new w _ _)
  have HX : Hid ((((w.alloc (.cells #[.slice o es.length c] 29)).alloc (.cells #[.pointer none, .slice none 0 0, .int .i64 6000, .int .i64 0] 91)).alloc (.cells #[.pointer (some ⟨w.heap.size + 1, 0, none⟩)] 85)).heap[w.heap.size + 1 + 1]? = some (.cells #[.pointer (some ⟨w.heap.size + 1, 0, none⟩)] 85)) := heap_alloc_new' (by simp) _
  have h0 : WT w.heap.size (w.heap.size + 1) [] 0 (((w.alloc (.cells #[.slice o es.length c] 29)).alloc (.cells #[.pointer none, .slice none 0 0, .int .i64 6000, .int .i64 0] 91)).alloc (.cells #[.pointer (some ⟨w.heap.size + 1, 0, none⟩)] 85)) := Or.inl ⟨by omega, .slice none 0 0, hwr, World.ownsRow_nil _ _ _ _, by simp [Value.ownBlock]⟩
  have s0 : WSt w.heap.size (w.heap.size + 1) 0 pS (((w.alloc (.cells #[.slice o es.length c] 29)).alloc (.cells #[.pointer none, .slice none 0 0, .int .i64 6000, .int .i64 0] 91)).alloc (.cells #[.pointer (some ⟨w.heap.size + 1, 0, none⟩)] 85)) := ⟨⟨[], h0, by simp⟩, cell_keep bz hS, lt_of_cell hS, tab.keep (bz.block _ hgz), hgz⟩
  have HC : Hid (Calls Tryz.prog 34 #[.func (.func 35) #[] #[.pointer (some ⟨w.heap.size + 1 + 1, 0, none⟩), .pointer (some ⟨w.heap.size, 0, none⟩)]] (((w.alloc (.cells #[.slice o es.length c] 29)).alloc (.cells #[.pointer none, .slice none 0 0, .int .i64 6000, .int .i64 0] 91)).alloc (.cells #[.pointer (some ⟨w.heap.size + 1, 0, none⟩)] 85)) fun e w' => Below w.heap.size (((w.alloc (.cells #[.slice o es.length c] 29)).alloc (.cells #[.pointer none, .slice none 0 0, .int .i64 6000, .int .i64 0] 91)).alloc (.cells #[.pointer (some ⟨w.heap.size + 1, 0, none⟩)] 85)) w' ∧ Kept (w.heap.size + 1) (((w.alloc (.cells #[.slice o es.length c] 29)).alloc (.cells #[.pointer none, .slice none 0 0, .int .i64 6000, .int .i64 0] 91)).alloc (.cells #[.pointer (some ⟨w.heap.size + 1, 0, none⟩)] 85)) w' ∧ ((∃ l, e = .returned .nilIface ∧ WT w.heap.size (w.heap.size + 1) l 0 w' ∧ l.length ≤ 6000) ∨ e = .returned (.iface 325 (.pointer (some pS))))) := caught_w w.heap.size (w.heap.size + 1) 0 pS _ (w.heap.size + 1 + 1) w.heap.size es o c ys (by omega) s0 (below_row (H1.out.keep (stays_lt w)) bz) (below_nd (H2.out.keep (stays_lt w)) bz) (tblk1 HX.out).1 (tblk1 HL.out).1
  clear h0 hwr s0
  go_enter Tryz.func11, Tryz.ntmps11
  go_wp2_with fail
  refine HC.out.mono ?_
  rintro e w1 ⟨b1, k1, ⟨l1, rfl, u1, g1⟩ | rfl⟩
  · have HX1 : Hid _ := kept_row k1 HX.out (by omega) (by intro c fz e; injection e with _ e; exact absurd e (by decide))
    have HL1 : Hid _ := kept_row k1 HL.out (by omega) (by intro c fz e; injection e with _ e; exact absurd e (by decide))
    have x1 := (tblk1 HX1.out).1
    have hx1 : w.heap.size + 1 + 1 < w1.heap.size := lt_of_cell x1
    have hStr : Calls Tryz.prog 37 #[.pointer (some ⟨w.heap.size + 1, 0, none⟩)] w1 fun e w' => e = .returned (.string ⟨l1.toArray⟩) ∧ Below w.heap.size w1 w' ∧ Kept (w.heap.size + 1) w1 w' := by
      by_cases hn : l1 = []
      · subst hn
        exact wString_none w.heap.size (w.heap.size + 1) 0 w1 u1
      · exact wString_any w.heap.size (w.heap.size + 1) l1 0 w1 u1 hn
    have HStr : Hid (Calls Tryz.prog 37 #[.pointer (some ⟨w.heap.size + 1, 0, none⟩)] w1 fun e w' => e = .returned (.string ⟨l1.toArray⟩) ∧ Below w.heap.size w1 w' ∧ Kept (w.heap.size + 1) w1 w') := hStr
    clear hStr u1
    go_wp2_with fail
    refine HStr.out.mono ?_
    rintro e w2 ⟨rfl, b2, k2⟩
    have bw2 := (bz.trans b1).trans b2
    have HL2 : Hid _ := kept_row k2 HL1.out (by omega) (by intro c fz e; injection e with _ e; exact absurd e (by decide))
    have hs2 := bw2.size
    have ht6 : (⟨l1.toArray⟩ : ByteArray).size ≤ 6000 := g1
    obtain ⟨t, ht⟩ : ∃ t : ByteArray, t = ⟨l1.toArray⟩ := ⟨_, rfl⟩
    rw [← ht] at ht6
    rw [← ht]
    clear x1 hx1 ht
    go_wp2_with fail
    refine (read_any t w2 pT pB ev ht6 (below_cell bw2 (lt_of_cell hT) hT) (below_cell bw2 (lt_of_cell hB) hB) (below_cell bw2 (lt_of_cell hv) hv) hev).mono ?_
    rintro e w3 ⟨b3, hR⟩
    have bw3 : Below w.heap.size w w3 := bw2.trans (b3.mono hs2)
    have hS3 := cell_keep bw3 hS
    rcases hR with ⟨l, es', j, v, hlx, hP, rfl, hN⟩ | ⟨l, j, p', bd, _, _, _, rfl, _⟩ | ⟨l, j, p', _, rfl, _⟩
    · obtain ⟨ys', hrow, hin⟩ := hN
      obtain ⟨so, sc, rfl⟩ := hrow.form
      have y0 := (tblk1 (row_keep b3 HL2.out)).1
      have hl3 : w.heap.size < w3.heap.size := lt_of_cell y0
      have HA : Hid (Calls Tryz.prog 38 #[.slice o es.length c, .slice so es'.length sc] w3 (Tells (SameNds es es') w3)) := alike_is es es' w3 S (From w2.heap.size) o so c sc ys ys' (H1.out.keep (Stays.below bw3 (fun k hk => hk))) (H2.out.keep (Stays.below bw3 (fun k hk => hk))) hrow hin
      have HLP : Hid (Lexes t 0 l none ∧ Parse l (.nodes []) 0 0 (.ok es' j)) := ⟨hlx, hP⟩
      clear hrow hin hlx hP
      go_wp2_with fail
      refine HA.out.mono ?_
      rintro e w4 ⟨r, rfl, hr, b4⟩
      have hS4 := cell_keep b4 hS3
      have bw4 := bw3.trans (b4.mono bw3.size)
      cases r with
      | true =>
        have HQ : Hid (SameNds es es') := hr rfl
        clear hr
        go_wp2
        go_ret2
        exact ⟨bw4, Or.inl ⟨t, l, es', j, rfl, ht6, HLP.out.1, HLP.out.2, HQ.out⟩⟩
      | false =>
        clear hr
        go_wp2
        go_quiet (fail)
        go_wp2
        go_ret2
        exact ⟨below_drewN bw4 nq, Or.inr rfl⟩
    · go_wp2
      go_quiet (fail)
      go_wp2
      go_ret2
      exact ⟨below_drewN bw3 nq, Or.inr rfl⟩
    · go_wp2
      go_quiet (fail)
      go_wp2
      go_ret2
      exact ⟨below_drewN bw3 nq, Or.inr rfl⟩
  · go_wp2
    go_ret2
    exact ⟨bz.trans b1, Or.inr rfl⟩
end Go.Proofs.YtglkpgcmlbhkpabGreatDoor
