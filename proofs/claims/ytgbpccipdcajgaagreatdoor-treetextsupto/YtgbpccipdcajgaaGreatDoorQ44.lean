/-
  tree.Text BY ITS CONTRACT, to the byte: what is written is the program's text, is read, and the same.
-/
import Derived.Test.YtgbpccipdcajgaaGreatDoorQ32
import Derived.Test.YtgbpccipdcajgaaGreatDoorQ30
import Derived.Test.YtgbpccipdcajgaaGreatDoorQ14
import Derived.Test.YtgbpccipdcajgaaGreatDoorQ17
import Derived.Test.YtgbpccipdcajgaaGreatDoorQ39
import Derived.Test.YtgbpccipdcajgaaGreatDoorQ22
import Derived.Test.YtgbpccipdcajgaaGreatDoorQ33
import Derived.Test.YtgbpccipdcajgaaGreatDoorRows
import Derived.Deep.Strs
import Derived.SizedLaws
import Derived.Test.YtgbpccipdcajgaaGreatDoorQ40
namespace Go.Proofs.YtgbpccipdcajgaaGreatDoor
open Go.RowKit
attribute [local go_sem ↓] Go.wp_at_zero Go.wp_at_succ
set_option maxRecDepth 100000 in
set_option maxHeartbeats 1000000 in
theorem text1_x (B b : Nat) (pS : Addr) (lx : List UInt8) (w : World) (b3 b0 : Nat) (es : List Ex) (o : Option Addr) (c : Nat) (ys : List Value) (h : WStX B b 0 pS lx w) (r1 : RowAt w (fun k => k < B) 5 (.slice o es.length c) es.length ys) (r2 : NdIn w (fun k => k < B) es ys) (h3 : w.cell? ⟨b3, 0, none⟩ = some (.pointer (some ⟨b, 0, none⟩))) (h0 : w.cell? ⟨b0, 0, none⟩ = some (.slice o es.length c)) :
  Calls Tryz.prog 46 #[.pointer (some ⟨b3, 0, none⟩), .pointer (some ⟨b0, 0, none⟩)] w fun e w' => WAnyX False B b 0 pS lx (progX es) w e w' := by
 have HC : Hid (Calls Tryz.prog 47 #[.pointer (some ⟨b, 0, none⟩), .slice o es.length c] w fun e w' => WAnyX False B b 0 pS lx (progX es) w e w') := wprogram_x False B b pS lx w es o c ys h r1 r2
 clear r1 r2
 go_enter Tryz.func46, Tryz.ntmps46
 go_wp2_with fail
 refine HC.out.mono ?_
 rintro e w1 ⟨b1, k1, ⟨l1, rfl, u1, g1, hq⟩ | ⟨ht, hr⟩⟩
 ·go_wp2
  go_end0
  exact ⟨b1, k1, Or.inl ⟨l1, rfl, u1, g1, hq⟩⟩
 ·unfold WThrew at ht
  subst ht
  go_wp2
  exact ⟨rfl, b1, k1, Or.inr ⟨rfl, hr⟩⟩
set_option maxRecDepth 100000 in
set_option maxHeartbeats 1000000 in
theorem caught_x (B b : Nat) (pS : Addr) (lx : List UInt8) (w : World) (b3 b0 : Nat) (es : List Ex) (o : Option Addr) (c : Nat) (ys : List Value) (h : WStX B b 0 pS lx w) (r1 : RowAt w (fun k => k < B) 5 (.slice o es.length c) es.length ys) (r2 : NdIn w (fun k => k < B) es ys) (h3 : w.cell? ⟨b3, 0, none⟩ = some (.pointer (some ⟨b, 0, none⟩))) (h0 : w.cell? ⟨b0, 0, none⟩ = some (.slice o es.length c)) :
  Calls Tryz.prog 27 #[.func (.func 46) #[] #[.pointer (some ⟨b3, 0, none⟩), .pointer (some ⟨b0, 0, none⟩)]] w fun e w' => Below B w w' ∧ Kept b w w' ∧ ((∃ l, e = .returned .nilIface ∧ WT B b l 0 w' ∧ l.length ≤ 6000 ∧ Ok lx (progX es) l) ∨ (e = .returned (.iface 235 (.pointer (some pS))) ∧ Rsn False lx (progX es))) := by
 have hmf : ∀ (fn : Fn) (first cap : Array Value) (w : World), (Instr.makeFunc fn first cap).run Tryz.prog w = .ok (.func fn first cap) w := fun _ _ _ _ => rfl
 have hlt := h.lt
 have hle := h.le
 have hbA : Below w.heap.size w (w.alloc (.cells #[.nilIface] 27)) := (Below.refl _ _).alloc (Nat.le_refl _) _
 have HZ : Hid _ := heap_alloc_new w (.cells #[.nilIface] 27)
 have bz : Below B w (w.alloc (.cells #[.nilIface] 27)) := (Below.refl _ _).alloc (by omega) _
 have HC : Hid (Calls Tryz.prog 46 #[.pointer (some ⟨b3, 0, none⟩), .pointer (some ⟨b0, 0, none⟩)] (w.alloc (.cells #[.nilIface] 27)) fun e w' => WAnyX False B b 0 pS lx (progX es) (w.alloc (.cells #[.nilIface] 27)) e w') := text1_x B b pS lx _ b3 b0 es o c ys (h.alloc _) (below_row r1 bz) (below_nd r2 bz) (cell_keep hbA h3) (cell_keep hbA h0)
 clear r1 r2
 go_enter_defers Tryz.func27, Tryz.ntmps27
 go_wp2_with fail
 refine HC.out.mono ?_
 rintro e w1 ⟨b1, k1, ⟨l1, rfl, u1, g1, hq⟩ | ⟨ht, hr⟩⟩
 ·have hr1 := kept_row k1 HZ.out (by omega) (by intro c fz e; injection e with _ e; exact absurd e (by decide))
  have c1 : w1.cell? ⟨w.heap.size, 0, none⟩ = some .nilIface := by simp [World.cell?, hr1]
  have f1 : w1.frozen? ⟨w.heap.size, 0, none⟩ = false := by simp [World.frozen?, hr1]
  have hlw : w.heap.size < w1.heap.size := lt_of_cell c1
  have HR1 : Hid _ := hr1
  clear hr1
  go_wp2
  refine leaves_cons (f := 78) (args := #[.pointer (some ⟨w.heap.size, 0, none⟩)]) (by simp) (by simp [go_sem]) ?_
  refine (catch_idle _ _).mono ?_
  rintro e u' w'' ⟨rfl, rfl, rfl⟩
  refine ⟨.nilIface, ?_, (bz.trans b1).setCell (by show B ≤ w.heap.size; omega) _, fun k o hk hb ho => ?_, Or.inl ⟨l1, rfl, u1.other HR1.out (by decide) (by omega) _, g1, hq⟩⟩
  ·simp [results, Tryz.results27, go_sem, c1]
  ·have hkl := (Array.getElem?_eq_some_iff.1 hk).1
   exact (Below.heap_setCell _ _ _ _ (by show k ≠ w.heap.size; omega)).trans (((Kept.alloc b w _).trans k1) k o hk hb ho)
 ·unfold WThrew at ht
  subst ht
  have hr1 := kept_row k1 HZ.out (by omega) (by intro c fz e; injection e with _ e; exact absurd e (by decide))
  have c1 : w1.cell? ⟨w.heap.size, 0, none⟩ = some .nilIface := by simp [World.cell?, hr1]
  have f1 : w1.frozen? ⟨w.heap.size, 0, none⟩ = false := by simp [World.frozen?, hr1]
  have hlw : w.heap.size < w1.heap.size := lt_of_cell c1
  clear hr1
  go_wp2
  refine leaves_cons (f := 78) (args := #[.pointer (some ⟨w.heap.size, 0, none⟩)]) (by simp) (by simp [go_sem]) ?_
  refine (catch_thrownB w.heap.size pS .nilIface [] _ c1 f1).mono ?_
  rintro e u' w'' ⟨rfl, rfl, rfl⟩
  refine ⟨.iface 235 (.pointer (some pS)), ?_, ((bz.trans b1).setCell (by show B ≤ w.heap.size; omega) _).alloc (by simp; omega) _, fun k o hk hb ho => ?_, Or.inr ⟨rfl, hr⟩⟩
  ·simp [results, Tryz.results27, go_sem, c1, hlw]
  ·have hkl := (Array.getElem?_eq_some_iff.1 hk).1
   exact (heap_alloc_old _ _ (by simp; omega)).trans ((Below.heap_setCell _ _ _ _ (by show k ≠ w.heap.size; omega)).trans (((Kept.alloc b w _).trans k1) k o hk hb ho))
def NoText (es : List Ex) : Prop := ∀ z, progX es = some z → z.length ≤ 6000 → ∀ l es' j, Lexes (sOf z) 0 l none → Parse l (.nodes []) 0 0 (.ok es' j) → ¬ SameNds es es'
set_option maxRecDepth 100000 in
set_option maxHeartbeats 2000000 in
theorem wtext_full (es : List Ex) (S : Nat → Prop) (o : Option Addr) (c : Nat) (ys : List Value) (w : World) (h1 : RowAt w S 5 (.slice o es.length c) es.length ys) (h2 : NdIn w S es ys) (pT pB pS : Addr) (ev : Value) (hS : w.cell? ⟨0, 0, none⟩ = some (.iface 235 (.pointer (some pS)))) (hT : w.cell? ⟨2, 0, none⟩ = some (.iface 235 (.pointer (some pT)))) (hB : w.cell? ⟨1, 0, none⟩ = some (.iface 235 (.pointer (some pB)))) (hv : w.cell? ⟨11, 0, none⟩ = some ev) (hev : ev = .nilIface ∨ ∃ te pe, ev = .iface te pe) (tab : TabAt w) (hgz : 13 < w.heap.size) :
  Calls Tryz.prog 19 #[.slice o es.length c] w fun e w' => Below w.heap.size w w' ∧ ((∃ (t : ByteArray) (l : List Tk) (es' : List Ex) (j : Nat), e = .returned (.tuple #[.string t, .nilIface]) ∧ t.size ≤ 6000 ∧ Lexes t 0 l none ∧ Parse l (.nodes []) 0 0 (.ok es' j) ∧ SameNds es es' ∧ progX es = some t.toList) ∨ (e = .returned (.tuple #[.string ⟨#[]⟩, .iface 235 (.pointer (some pS))]) ∧ NoText es)) := by
 have hmf : ∀ (fn : Fn) (first cap : Array Value) (w : World), (Instr.makeFunc fn first cap).run Tryz.prog w = .ok (.func fn first cap) w := fun _ _ _ _ => rfl
 have H1 : Hid (RowAt w S 5 (.slice o es.length c) es.length ys) := h1
 have H2 : Hid (NdIn w S es ys) := h2
 clear h1 h2
 have bz : Below w.heap.size w (((w.alloc (.cells #[.slice o es.length c] 39)).alloc (.cells #[.pointer none, .slice none 0 0, .int .i64 6000, .int .i64 0] 116)).alloc (.cells #[.pointer (some ⟨w.heap.size + 1, 0, none⟩)] 110)) := (((Below.refl _ _).alloc (Nat.le_refl _) _).alloc (by simp) _).alloc (by simp; omega) _
 have HL : Hid ((((w.alloc (.cells #[.slice o es.length c] 39)).alloc (.cells #[.pointer none, .slice none 0 0, .int .i64 6000, .int .i64 0] 116)).alloc (.cells #[.pointer (some ⟨w.heap.size + 1, 0, none⟩)] 110)).heap[w.heap.size]? = some (.cells #[.slice o es.length c] 39)) := alloc_row _ (alloc_row _ (heap_alloc_new w _))
 have hwr : (((w.alloc (.cells #[.slice o es.length c] 39)).alloc (.cells #[.pointer none, .slice none 0 0, .int .i64 6000, .int .i64 0] 116)).alloc (.cells #[.pointer (some ⟨w.heap.size + 1, 0, none⟩)] 110)).heap[w.heap.size + 1]? = some (.cells #[.pointer none, .slice none 0 0, .int .i64 6000, .int .i64 0] 116) := alloc_row _ (two_new w _ _)
 have HX : Hid ((((w.alloc (.cells #[.slice o es.length c] 39)).alloc (.cells #[.pointer none, .slice none 0 0, .int .i64 6000, .int .i64 0] 116)).alloc (.cells #[.pointer (some ⟨w.heap.size + 1, 0, none⟩)] 110)).heap[w.heap.size + 1 + 1]? = some (.cells #[.pointer (some ⟨w.heap.size + 1, 0, none⟩)] 110)) := heap_alloc_new' (by simp) _
 have h0 : WT w.heap.size (w.heap.size + 1) [] 0 (((w.alloc (.cells #[.slice o es.length c] 39)).alloc (.cells #[.pointer none, .slice none 0 0, .int .i64 6000, .int .i64 0] 116)).alloc (.cells #[.pointer (some ⟨w.heap.size + 1, 0, none⟩)] 110)) := Or.inl ⟨by omega, .slice none 0 0, hwr, World.ownsRow_nil _ _ _ _, by simp [Value.ownBlock]⟩
 have s0 : WStX w.heap.size (w.heap.size + 1) 0 pS [] (((w.alloc (.cells #[.slice o es.length c] 39)).alloc (.cells #[.pointer none, .slice none 0 0, .int .i64 6000, .int .i64 0] 116)).alloc (.cells #[.pointer (some ⟨w.heap.size + 1, 0, none⟩)] 110)) := ⟨h0, by simp, cell_keep bz hS, lt_of_cell hS, tab.keep (bz.block _ hgz), hgz⟩
 have HC : Hid (Calls Tryz.prog 27 #[.func (.func 46) #[] #[.pointer (some ⟨w.heap.size + 1 + 1, 0, none⟩), .pointer (some ⟨w.heap.size, 0, none⟩)]] (((w.alloc (.cells #[.slice o es.length c] 39)).alloc (.cells #[.pointer none, .slice none 0 0, .int .i64 6000, .int .i64 0] 116)).alloc (.cells #[.pointer (some ⟨w.heap.size + 1, 0, none⟩)] 110)) fun e w' => Below w.heap.size (((w.alloc (.cells #[.slice o es.length c] 39)).alloc (.cells #[.pointer none, .slice none 0 0, .int .i64 6000, .int .i64 0] 116)).alloc (.cells #[.pointer (some ⟨w.heap.size + 1, 0, none⟩)] 110)) w' ∧ Kept (w.heap.size + 1) (((w.alloc (.cells #[.slice o es.length c] 39)).alloc (.cells #[.pointer none, .slice none 0 0, .int .i64 6000, .int .i64 0] 116)).alloc (.cells #[.pointer (some ⟨w.heap.size + 1, 0, none⟩)] 110)) w' ∧ ((∃ l, e = .returned .nilIface ∧ WT w.heap.size (w.heap.size + 1) l 0 w' ∧ l.length ≤ 6000 ∧ Ok [] (progX es) l) ∨ (e = .returned (.iface 235 (.pointer (some pS))) ∧ Rsn False [] (progX es)))) := caught_x w.heap.size (w.heap.size + 1) pS [] _ (w.heap.size + 1 + 1) w.heap.size es o c ys s0 (below_row (H1.out.keep (stays_lt w)) bz) (below_nd (H2.out.keep (stays_lt w)) bz) (tblk1 HX.out).1 (tblk1 HL.out).1
 clear h0 hwr s0
 go_enter Tryz.func19, Tryz.ntmps19
 go_wp2_with fail
 refine HC.out.mono ?_
 rintro e w1 ⟨b1, k1, ⟨l1, rfl, u1, g1, hq1⟩ | ⟨rfl, hr1⟩⟩
 ·have HQ1 : Hid (progX es = some l1) := (by obtain ⟨x, h1, h2⟩ := hq1; rw [h1, h2]; rfl : progX es = some l1)
  clear hq1
  have HX1 : Hid _ := kept_row k1 HX.out (by omega) (by intro c fz e; injection e with _ e; exact absurd e (by decide))
  have HL1 : Hid _ := kept_row k1 HL.out (by omega) (by intro c fz e; injection e with _ e; exact absurd e (by decide))
  have x1 := (tblk1 HX1.out).1
  have hx1 : w.heap.size + 1 + 1 < w1.heap.size := lt_of_cell x1
  have hStr : Calls Tryz.prog 48 #[.pointer (some ⟨w.heap.size + 1, 0, none⟩)] w1 fun e w' => e = .returned (.string ⟨l1.toArray⟩) ∧ Below w.heap.size w1 w' ∧ Kept (w.heap.size + 1) w1 w' := by
   by_cases hn : l1 = []
   ·subst hn
    exact wString_none w.heap.size (w.heap.size + 1) 0 w1 u1
   ·exact wString_any w.heap.size (w.heap.size + 1) l1 0 w1 u1 hn
  have HStr : Hid (Calls Tryz.prog 48 #[.pointer (some ⟨w.heap.size + 1, 0, none⟩)] w1 fun e w' => e = .returned (.string ⟨l1.toArray⟩) ∧ Below w.heap.size w1 w' ∧ Kept (w.heap.size + 1) w1 w') := hStr
  clear hStr u1
  go_wp2_with fail
  refine HStr.out.mono ?_
  rintro e w2 ⟨rfl, b2, k2⟩
  have bw2 := (bz.trans b1).trans b2
  have HL2 : Hid _ := kept_row k2 HL1.out (by omega) (by intro c fz e; injection e with _ e; exact absurd e (by decide))
  have hs2 := bw2.size
  have ht6 : (⟨l1.toArray⟩ : ByteArray).size ≤ 6000 := g1
  obtain ⟨t, ht⟩ : ∃ t : ByteArray, t = ⟨l1.toArray⟩ := ⟨_, rfl⟩
  rw [← ht] at ht6
  rw [← ht]
  have HQT : Hid (progX es = some t.toList) := (by rw [HQ1.out, ht, ByteArray.toList_eq] : progX es = some t.toList)
  clear x1 hx1 ht HQ1
  go_wp2_with fail
  refine (read_any t w2 pT pB ev ht6 (below_cell bw2 (lt_of_cell hT) hT) (below_cell bw2 (lt_of_cell hB) hB) (below_cell bw2 (lt_of_cell hv) hv) hev).mono ?_
  rintro e w3 ⟨b3, hR⟩
  have bw3 : Below w.heap.size w w3 := bw2.trans (b3.mono hs2)
  have hS3 := cell_keep bw3 hS
  have htt : sOf t.toList = t := sOf_bytes t
  rcases hR with ⟨l, es', j, v, hlx, hP, rfl, hN⟩ | ⟨l, j, p', bd, hlx, hP, _, rfl, _⟩ | ⟨l, j, p', hlx, rfl, _⟩
  ·obtain ⟨ys', hrow, hin⟩ := hN
   obtain ⟨so, sc, rfl⟩ := hrow.form
   have y0 := (tblk1 (row_keep b3 HL2.out)).1
   have hl3 : w.heap.size < w3.heap.size := lt_of_cell y0
   have HLP : Hid (Lexes t 0 l none ∧ Parse l (.nodes []) 0 0 (.ok es' j)) := ⟨hlx, hP⟩
   have HTT : Hid (sOf t.toList = t) := htt
   by_cases hsm : SameNds es es'
   ·have HQ : Hid (SameNds es es') := hsm
    have hlen : es.length = es'.length := hsm.1
    have r1 := H1.out.keep (Stays.below bw3 (fun k hk => hk))
    have r2 := (H2.out.keep (Stays.below bw3 (fun k hk => hk))).same hsm
    rw [hlen] at r1
    have HA : Hid (Calls Tryz.prog 49 #[.slice o es.length c, .slice so es'.length sc] w3 fun e w' => e = .returned (.bool true) ∧ Below w3.heap.size w3 w') := by
     rw [hlen]
     exact alike_any es' w3 S (From w2.heap.size) o so c sc ys ys' r1 r2 hrow hin
    clear hrow hin hlx hP htt hsm r1 r2 hlen
    go_wp2_with fail
    refine HA.out.mono ?_
    rintro e w4 ⟨rfl, b4⟩
    have bw4 := bw3.trans (b4.mono bw3.size)
    go_wp2
    go_ret2
    exact ⟨bw4, Or.inl ⟨t, l, es', j, rfl, ht6, HLP.out.1, HLP.out.2, HQ.out, HQT.out⟩⟩
   ·have HQ : Hid (¬ SameNds es es') := hsm
    have HA : Hid (Calls Tryz.prog 49 #[.slice o es.length c, .slice so es'.length sc] w3 (Tells (SameNds es es') w3)) := alike_is es es' w3 S (From w2.heap.size) o so c sc ys ys' (H1.out.keep (Stays.below bw3 (fun k hk => hk))) (H2.out.keep (Stays.below bw3 (fun k hk => hk))) hrow hin
    clear hrow hin hlx hP htt hsm
    go_wp2_with fail
    refine HA.out.mono ?_
    rintro e w4 ⟨r, rfl, hr, b4⟩
    have hS4 := cell_keep b4 hS3
    have bw4 := bw3.trans (b4.mono bw3.size)
    cases r with
    | true => exact absurd (hr rfl) HQ.out
    | false =>
     clear hr
     go_wp2
     go_quiet (fail)
     go_wp2
     go_ret2
     refine ⟨below_drewN bw4 nq, Or.inr ⟨rfl, fun z hz _ l2 es2 j2 hl2 hP2 hs2 => ?_⟩⟩
     rw [HQT.out] at hz
     cases hz
     rw [HTT.out] at hl2
     obtain ⟨rfl, _⟩ := hl2.one HLP.out.1
     have he := hP2.one HLP.out.2
     injection he with he _
     subst he
     exact HQ.out hs2
  ·have HB : Hid (Lexes t 0 l none ∧ Parse l (.nodes []) 0 0 (.bad j bd) ∧ sOf t.toList = t) := ⟨hlx, hP, htt⟩
   clear hlx hP htt
   go_wp2
   go_quiet (fail)
   go_wp2
   go_ret2
   refine ⟨below_drewN bw3 nq, Or.inr ⟨rfl, fun z hz _ l2 es2 j2 hl2 hP2 _ => ?_⟩⟩
   rw [HQT.out] at hz
   cases hz
   rw [HB.out.2.2] at hl2
   obtain ⟨rfl, _⟩ := hl2.one HB.out.1
   exact absurd (hP2.one HB.out.2.1) (by simp)
  ·have HB : Hid (Lexes t 0 l (some j) ∧ sOf t.toList = t) := ⟨hlx, htt⟩
   clear hlx htt
   go_wp2
   go_quiet (fail)
   go_wp2
   go_ret2
   refine ⟨below_drewN bw3 nq, Or.inr ⟨rfl, fun z hz _ l2 es2 j2 hl2 _ _ => ?_⟩⟩
   rw [HQT.out] at hz
   cases hz
   rw [HB.out.2] at hl2
   exact absurd (hl2.one HB.out.1).2 (by simp)
 ·have HR1 : Hid (Rsn False [] (progX es)) := hr1
  clear hr1
  go_wp2
  go_ret2
  refine ⟨bz.trans b1, Or.inr ⟨rfl, fun z hz hz6 _ _ _ _ _ _ => ?_⟩⟩
  rcases HR1.out with h | h
  ·exact h
  ·have := h z hz
   rw [List.nil_append] at this
   omega
end Go.Proofs.YtgbpccipdcajgaaGreatDoor
namespace Go.Proofs.YtgbpccipdcajgaaGreatDoor
open Go.RowKit
theorem RightP.text {es : List Ex} {z : List UInt8} (h : RightP es z) : ¬ NoText es := fun hn => by
 obtain ⟨l, hl, hg, _⟩ := prog_goesD h.txt h.ok
 obtain ⟨es', j, hP, hs⟩ := hg ⟨h.many, h.deep⟩
 exact hn z h.txt h.len l es' j hl hP hs
theorem text_right {es es' : List Ex} {t : ByteArray} {l : List Tk} {j : Nat} (h6 : t.size ≤ 6000) (hl : Lexes t 0 l none) (hP : Parse l (.nodes []) 0 0 (.ok es' j)) (hs : SameNds es es') (hx : progX es = some t.toList) : RightP es t.toList := by
 obtain ⟨h1, h2, h3⟩ := prog_rightD hx (by rw [sOf_bytes]; exact hl) hP hs
 exact ⟨hx, by rw [bytes_len]; exact h6, h1, h2, h3⟩
theorem wtext_doc (es : List Ex) (S : Nat → Prop) (o : Option Addr) (c : Nat) (ys : List Value) (w : World) (h1 : RowAt w S 5 (.slice o es.length c) es.length ys) (h2 : NdIn w S es ys) (pT pB pS : Addr) (ev : Value) (hS : w.cell? ⟨0, 0, none⟩ = some (.iface 235 (.pointer (some pS)))) (hT : w.cell? ⟨2, 0, none⟩ = some (.iface 235 (.pointer (some pT)))) (hB : w.cell? ⟨1, 0, none⟩ = some (.iface 235 (.pointer (some pB)))) (hv : w.cell? ⟨11, 0, none⟩ = some ev) (hev : ev = .nilIface ∨ ∃ te pe, ev = .iface te pe) (tab : TabAt w) (hgz : 13 < w.heap.size) :
  Calls Tryz.prog 19 #[.slice o es.length c] w fun e w' => Below w.heap.size w w' ∧ ((∃ t : ByteArray, e = .returned (.tuple #[.string t, .nilIface]) ∧ RightP es t.toList) ∨ (e = .returned (.tuple #[.string ⟨#[]⟩, .iface 235 (.pointer (some pS))]) ∧ NoRight es)) := by
 refine (wtext_full es S o c ys w h1 h2 pT pB pS ev hS hT hB hv hev tab hgz).mono ?_
 rintro e w' ⟨hb, ⟨t, l, es', j, rfl, h6, hl, hP, hs, hx⟩ | ⟨rfl, hn⟩⟩
 ·exact ⟨hb, Or.inl ⟨t, rfl, text_right h6 hl hP hs hx⟩⟩
 ·exact ⟨hb, Or.inr ⟨rfl, fun z hz => hz.text hn⟩⟩
end Go.Proofs.YtgbpccipdcajgaaGreatDoor
namespace Go.Proofs.YtgbpccipdcajgaaGreatDoor
open Go.RowKit
attribute [local go_sem ↓] Go.wp_at_zero Go.wp_at_succ
theorem cTrue_tx : tw 0 cTrue = some [116, 114, 117, 101] := by
 have ho : (⟨#[116, 114, 117, 101]⟩ : ByteArray).toList = [116, 114, 117, 101] := by rw [ByteArray.toList_eq]
 have hb : (b0 : ByteArray).toList = [] := by rw [ByteArray.toList_eq]
 have h := (bool_went (op := ⟨#[116, 114, 117, 101]⟩) (n := 0) (s := b0) (L := 0) (d := 0) (c := 0) (Or.inl ho) (by rw [ho, hb]; decide) (Nat.not_lt_zero _) (by omega) (by omega)).is
 rw [ho] at h
 exact h
theorem cProg : progX [cNode] = some cText.toList := by
 have hs : sSet.toList = [115, 101, 116] := by rw [ByteArray.toList_eq]; rfl
 have h1 : progX [cNode] = catX (nodeX ⟨#[97]⟩ [] [.mk ⟨#[120]⟩ 1 b0 []] [] [.mk sSet 0 b0 [lst [.mk ⟨#[120]⟩ 0 b0 []], cTrue]]) (some []) := rfl
 have h2 : eqTx (.mk sSet 0 b0 [lst [.mk ⟨#[120]⟩ 0 b0 []], cTrue]) = some [32, 32, 120, 32, 61, 32, 116, 114, 117, 101, 59, 10] := by
  show eqX sSet [.mk ⟨#[120]⟩ 0 b0 []] cTrue = _
  rw [eqX, if_pos hs, cTrue_tx]
  rfl
 have h3 : lstX (fun _ q => eqTx q) 0 [.mk sSet 0 b0 [lst [.mk ⟨#[120]⟩ 0 b0 []], cTrue]] = some [32, 32, 120, 32, 61, 32, 116, 114, 117, 101, 59, 10] := by
  show catX (eqTx _) (some []) = _
  rw [h2]
  rfl
 rw [h1, nodeX, h3, ByteArray.toList_eq]
 rfl
theorem cRight : RightP [cNode] cText.toList := by
 obtain ⟨j, hP⟩ := cTree
 refine text_right (by decide) cLex hP ⟨rfl, fun m h1 _ => ?_⟩ cProg
 obtain rfl : m = 0 := by simp at h1; omega
 exact ⟨_, _, _, _, _, _, _, _, _, rfl, rfl, rfl, rfl, rfl, rfl, fun k hk _ => by
  obtain rfl : k = 0 := by simp at hk; omega
  exact ⟨_, _, _, _, rfl, rfl, rfl⟩⟩
set_option maxRecDepth 100000 in
set_option maxHeartbeats 1000000 in
theorem pass_doc (w : World) (pT pB pS : Addr) (ev : Value) (E : Env pT pB pS ev w) :
  Calls Tryz.prog 12 #[] w fun e w' => e = .returned (.bool true) ∧ Below w.heap.size w w' := by
 have HE : Hid (Env pT pB pS ev w) := E
 go_enter Tryz.func12, Tryz.ntmps12
 go_wp2_with fail
 refine (read_any cText _ pT pB ev (by decide) E.hT E.hB E.hv E.hev).mono ?_
 rintro e w1 ⟨b1, hR⟩
 obtain ⟨jt, hPt⟩ := cTree
 rcases hR with ⟨l, es, j, v, hlx, hP, rfl, hN⟩ | ⟨l, j, p', bd, hlx, hP, _⟩ | ⟨l, j, p', hlx, _⟩
 ·obtain ⟨rfl, _⟩ := hlx.one cLex
  have hes := hP.one hPt
  injection hes with hes _
  subst hes
  obtain ⟨ys, hrow, hin⟩ := hN
  obtain ⟨so, sc, rfl⟩ := hrow.form
  have E1 := HE.out.below b1
  have HT : Hid (Calls Tryz.prog 19 #[.slice so 1 sc] w1 fun e w' => Below w1.heap.size w1 w' ∧ ((∃ t : ByteArray, e = .returned (.tuple #[.string t, .nilIface]) ∧ RightP [cNode] t.toList) ∨ (e = .returned (.tuple #[.string ⟨#[]⟩, .iface 235 (.pointer (some pS))]) ∧ NoRight [cNode]))) := wtext_doc [cNode] (From w.heap.size) so sc ys w1 hrow hin pT pB pS ev E1.hS E1.hT E1.hB E1.hv E1.hev E1.tab E1.hgz
  obtain ⟨name, ins, outs, owns, qs, o1, c1, o2, c2, o3, c3, o4, c4, zs, e, m0, m1, m2, m3, m4, _⟩ := hin.at (i := 0) (by simp)
  obtain ⟨p, f, rfl, _, g⟩ := row_get hrow (by have := hrow.1; rw [this]; simp)
  have hq : qs.length = 1 := by
   simp only [List.getElem_cons_zero, cNode, Ex.mk.injEq, lst, List.cons.injEq, and_true, true_and] at e
   rw [← e.2.2.2.2]
   rfl
  have x4 := g _ _ m4
  rw [hq] at x4
  clear hrow hin m0 m1 m2 m3 m4 g e hq E1 E hP hlx hPt
  simp only [List.length_cons, List.length_nil, Nat.zero_add]
  have hct : cText.toList = cText.data.toList := by rw [ByteArray.toList_eq]
  go_wp2_with fail
  refine HT.out.mono ?_
  rintro e w2 ⟨b2, ⟨t, rfl, hr⟩ | ⟨_, hn⟩⟩
  ·obtain rfl : t = cText := by
    have := Option.some.inj (hr.txt.symm.trans cRight.txt)
    rw [← sOf_bytes t, this, sOf_bytes]
   clear hr
   go_wp2
   go_ret
   exact ⟨rfl, b1.trans (b2.mono b1.size)⟩
  ·exact absurd cRight (hn _)
 ·obtain ⟨rfl, _⟩ := hlx.one cLex
  exact absurd (hP.one hPt) (by simp)
 ·exact absurd (hlx.one cLex).2 (by simp)
end Go.Proofs.YtgbpccipdcajgaaGreatDoor
namespace Go.Proofs.YtgbpccipdcajgaaGreatDoor
open Go.RowKit Go.Deep Go.WideShapes Go.ChangeShapes
abbrev AnyB : Nat → Prop := fun _ => True
theorem flat_len {g : Nat → List Value} {sz : Nat} : ∀ {n : Nat}, (∀ i, i < n → (g i).length = sz) → ((List.range n).flatMap g).length = n * sz
 | 0, _ => by simp
 | n + 1, hg => by
  rw [List.range_succ, List.flatMap_append, List.length_append, flat_len (fun i hi => hg i (by omega))]
  simp only [List.flatMap_cons, List.flatMap_nil, List.append_nil, hg n (by omega), Nat.add_mul, Nat.one_mul]
theorem flat_at {g : Nat → List Value} {sz : Nat} : ∀ {n : Nat}, (∀ i, i < n → (g i).length = sz) → ∀ {k : Nat} {x : Value}, ((List.range n).flatMap g)[k]? = some x → ∃ i j, i < n ∧ k = i * sz + j ∧ (g i)[j]? = some x
 | 0, _, k, x, h => by simp at h
 | n + 1, hg, k, x, h => by
  have hl := flat_len (n := n) (fun i hi => hg i (by omega))
  rw [List.range_succ, List.flatMap_append, List.getElem?_append] at h
  split at h
  ·obtain ⟨i, j, h1, h2, h3⟩ := flat_at (fun i hi => hg i (by omega)) h
   exact ⟨i, j, by omega, h2, h3⟩
  ·rw [hl] at h
   refine ⟨n, k - n * sz, by omega, by omega, ?_⟩
   simpa using h
theorem row_each {W : World} {a : Addr} {n cap sz : Nat} {g : Nat → List Value} (hsz : 0 < sz) (hn : n ≤ maxLen) (hg : ∀ i, i < n → (g i).length = sz) (hc : ∀ i, i < n → ∀ j x, (g i)[j]? = some x → W.cell? (a.add (i * sz + j)) = some x) : RowAt W AnyB sz (.slice (some a) n cap) n ((List.range n).flatMap g) := by
 refine ⟨flat_len hg, hn, some a, cap, rfl, fun k x hx => ?_⟩
 obtain ⟨i, j, hi, rfl, hx'⟩ := flat_at hg hx
 have h := hc i hi j x hx'
 obtain ⟨b, off, spot⟩ := a
 cases spot with
 | some k =>
  have h0 := hc 0 (by omega) 0 _ (List.getElem?_eq_getElem (by rw [hg 0 (by omega)]; exact hsz))
  simp [Addr.add, World.cell?] at h0
  split at h0 <;> simp at h0
 | none =>
  rw [add_plain] at h
  exact ⟨b, off, rfl, trivial, h⟩
section
variable {H : Type} {enc : TypeId × Value → H} {W : World} {sp : Nat → Bool}
end
theorem ExIn.range {W : World} {f : Nat → Ex} {g : Nat → List Value} : ∀ {n : Nat}, (∀ i, i < n → ExIn W AnyB [f i] (g i)) → ExIn W AnyB ((List.range n).map f) ((List.range n).flatMap g)
 | 0, _ => .nil
 | n + 1, h => by
  rw [List.range_succ, List.map_append, List.flatMap_append]
  exact (ExIn.range (fun i hi => h i (by omega))).append (by simpa using h n (by omega))
theorem EqIn.range {W : World} {f : Nat → Ex} {g : Nat → List Value} : ∀ {n : Nat}, (∀ i, i < n → EqIn W AnyB [f i] (g i)) → EqIn W AnyB ((List.range n).map f) ((List.range n).flatMap g)
 | 0, _ => .nil
 | n + 1, h => by
  rw [List.range_succ, List.map_append, List.flatMap_append]
  exact (EqIn.range (fun i hi => h i (by omega))).append (by simpa using h n (by omega))
theorem NdIn.range {W : World} {f : Nat → Ex} {g : Nat → List Value} : ∀ {n : Nat}, (∀ i, i < n → NdIn W AnyB [f i] (g i)) → NdIn W AnyB ((List.range n).map f) ((List.range n).flatMap g)
 | 0, _ => .nil
 | n + 1, h => by
  rw [List.range_succ, List.map_append, List.flatMap_append]
  exact (NdIn.range (fun i hi => h i (by omega))).append (by simpa using h n (by omega))
theorem Fit.range {N : Nat} {f : Nat → Ex} : ∀ {n : Nat}, (∀ i, i < n → Fit N [f i]) → Fit N ((List.range n).map f)
 | 0, _ => .nil
 | n + 1, h => by
  rw [List.range_succ, List.map_append]
  exact (Fit.range (fun i hi => h i (by omega))).append (by simpa using h n (by omega))
theorem varCells_range {f : Nat → Ex} {g : Nat → List Value} : ∀ {n : Nat}, (∀ i, i < n → g i = [.string (f i).op, .int .i64 (f i).n]) → (List.range n).flatMap g = varCells ((List.range n).map f)
 | 0, _ => rfl
 | n + 1, h => by
  have ih := varCells_range (n := n) (fun i hi => h i (by omega))
  unfold varCells at ih ⊢
  rw [List.range_succ, List.map_append, List.flatMap_append, List.flatMap_append, ih]
  simp [h n (by omega)]
theorem nameCells_range {f : Nat → Ex} {g : Nat → List Value} : ∀ {n : Nat}, (∀ i, i < n → g i = [.string (f i).op]) → (List.range n).flatMap g = nameCells ((List.range n).map f)
 | 0, _ => rfl
 | n + 1, h => by
  have ih := nameCells_range (n := n) (fun i hi => h i (by omega))
  unfold nameCells at ih ⊢
  rw [List.range_succ, List.map_append, List.flatMap_append, List.map_append, ih]
  simp [h n (by omega)]
theorem list4 {α : Type} {l : List α} (h : l.length = 4) : ∃ x y z u, l = [x, y, z, u] := by
 match l, h with
 | [x, y, z, u], _ => exact ⟨x, y, z, u, rfl⟩
theorem list2 {α : Type} {l : List α} (h : l.length = 2) : ∃ x y, l = [x, y] := by
 match l, h with
 | [x, y], _ => exact ⟨x, y, rfl⟩
theorem list5 {α : Type} {l : List α} (h : l.length = 5) : ∃ x y z u v, l = [x, y, z, u, v] := by
 match l, h with
 | [x, y, z, u, v], _ => exact ⟨x, y, z, u, v, rfl⟩
theorem list6 {α : Type} {l : List α} (h : l.length = 6) : ∃ x y z u v w, l = [x, y, z, u, v, w] := by
 match l, h with
 | [x, y, z, u, v, w], _ => exact ⟨x, y, z, u, v, w, rfl⟩
theorem cE : Tryz.prog.cellsOf 94 = 4 := by kernel_rfl
theorem cV : Tryz.prog.cellsOf 89 = 2 := by kernel_rfl
theorem cQ : Tryz.prog.cellsOf 96 = 6 := by kernel_rfl
theorem cN : Tryz.prog.cellsOf 86 = 5 := by kernel_rfl
theorem cS : Tryz.prog.cellsOf 9 = 1 := by kernel_rfl
theorem cI : Tryz.prog.cellsOf 3 = 1 := by kernel_rfl
theorem cLE : Tryz.prog.cellsOf 92 = 1 := by kernel_rfl
theorem cLV : Tryz.prog.cellsOf 83 = 1 := by kernel_rfl
theorem cLQ : Tryz.prog.cellsOf 84 = 1 := by kernel_rfl
theorem cLS : Tryz.prog.cellsOf 91 = 1 := by kernel_rfl
section
variable {H : Type} {enc : TypeId × Value → H} {W : World} {sp : Nat → Bool}
theorem trodS2 {P : Program} {t : TypeId} {f0 f1 : Field} {fuel : Nat} {cs : List Value} {x : DataW H × List MemPlace} (ht : P.underlying t = some (.struct #[f0, f1])) (h : DataW.trod enc P W 0 sp true fuel t cs = some x) :
  ∃ y0 y1 n, x.1 = .agg [y0.1, y1.1] ∧ cs.length = P.cellsOf t ∧ DataW.trod enc P W 0 sp true n f0.type ((cs.drop f0.offset).take (P.cellsOf f0.type)) = some y0 ∧ DataW.trod enc P W 0 sp true n f1.type ((cs.drop f1.offset).take (P.cellsOf f1.type)) = some y1 := by
 obtain ⟨xs, n, _, rfl, hl, hlen, hf⟩ := DataW.trod_struct ht h
 match xs, hlen with
 | [y0, y1], _ => exact ⟨y0, y1, n, by simp, hl, by simpa using hf 0 f0 rfl, by simpa using hf 1 f1 rfl⟩
theorem trodS3 {P : Program} {t : TypeId} {f0 f1 f2 : Field} {fuel : Nat} {cs : List Value} {x : DataW H × List MemPlace} (ht : P.underlying t = some (.struct #[f0, f1, f2])) (h : DataW.trod enc P W 0 sp true fuel t cs = some x) :
  ∃ y0 y1 y2 n, x.1 = .agg [y0.1, y1.1, y2.1] ∧ cs.length = P.cellsOf t ∧ DataW.trod enc P W 0 sp true n f0.type ((cs.drop f0.offset).take (P.cellsOf f0.type)) = some y0 ∧ DataW.trod enc P W 0 sp true n f1.type ((cs.drop f1.offset).take (P.cellsOf f1.type)) = some y1 ∧ DataW.trod enc P W 0 sp true n f2.type ((cs.drop f2.offset).take (P.cellsOf f2.type)) = some y2 := by
 obtain ⟨xs, n, _, rfl, hl, hlen, hf⟩ := DataW.trod_struct ht h
 match xs, hlen with
 | [y0, y1, y2], _ => exact ⟨y0, y1, y2, n, by simp, hl, by simpa using hf 0 f0 rfl, by simpa using hf 1 f1 rfl, by simpa using hf 2 f2 rfl⟩
theorem trodS4 {P : Program} {t : TypeId} {f0 f1 f2 f3 : Field} {fuel : Nat} {cs : List Value} {x : DataW H × List MemPlace} (ht : P.underlying t = some (.struct #[f0, f1, f2, f3])) (h : DataW.trod enc P W 0 sp true fuel t cs = some x) :
  ∃ y0 y1 y2 y3 n, x.1 = .agg [y0.1, y1.1, y2.1, y3.1] ∧ cs.length = P.cellsOf t ∧ DataW.trod enc P W 0 sp true n f0.type ((cs.drop f0.offset).take (P.cellsOf f0.type)) = some y0 ∧ DataW.trod enc P W 0 sp true n f1.type ((cs.drop f1.offset).take (P.cellsOf f1.type)) = some y1 ∧ DataW.trod enc P W 0 sp true n f2.type ((cs.drop f2.offset).take (P.cellsOf f2.type)) = some y2 ∧ DataW.trod enc P W 0 sp true n f3.type ((cs.drop f3.offset).take (P.cellsOf f3.type)) = some y3 := by
 obtain ⟨xs, n, _, rfl, hl, hlen, hf⟩ := DataW.trod_struct ht h
 match xs, hlen with
 | [y0, y1, y2, y3], _ => exact ⟨y0, y1, y2, y3, n, by simp, hl, by simpa using hf 0 f0 rfl, by simpa using hf 1 f1 rfl, by simpa using hf 2 f2 rfl, by simpa using hf 3 f3 rfl⟩
theorem trodS5 {P : Program} {t : TypeId} {f0 f1 f2 f3 f4 : Field} {fuel : Nat} {cs : List Value} {x : DataW H × List MemPlace} (ht : P.underlying t = some (.struct #[f0, f1, f2, f3, f4])) (h : DataW.trod enc P W 0 sp true fuel t cs = some x) :
  ∃ y0 y1 y2 y3 y4 n, x.1 = .agg [y0.1, y1.1, y2.1, y3.1, y4.1] ∧ cs.length = P.cellsOf t ∧ DataW.trod enc P W 0 sp true n f0.type ((cs.drop f0.offset).take (P.cellsOf f0.type)) = some y0 ∧ DataW.trod enc P W 0 sp true n f1.type ((cs.drop f1.offset).take (P.cellsOf f1.type)) = some y1 ∧ DataW.trod enc P W 0 sp true n f2.type ((cs.drop f2.offset).take (P.cellsOf f2.type)) = some y2 ∧ DataW.trod enc P W 0 sp true n f3.type ((cs.drop f3.offset).take (P.cellsOf f3.type)) = some y3 ∧ DataW.trod enc P W 0 sp true n f4.type ((cs.drop f4.offset).take (P.cellsOf f4.type)) = some y4 := by
 obtain ⟨xs, n, _, rfl, hl, hlen, hf⟩ := DataW.trod_struct ht h
 match xs, hlen with
 | [y0, y1, y2, y3, y4], _ => exact ⟨y0, y1, y2, y3, y4, n, by simp, hl, by simpa using hf 0 f0 rfl, by simpa using hf 1 f1 rfl, by simpa using hf 2 f2 rfl, by simpa using hf 3 f3 rfl, by simpa using hf 4 f4 rfl⟩
def FitQ1 (ex : Ex) : Prop := ∀ (kind : ByteArray) (ns : List Ex) (op : ByteArray) (x : Int) (tx : ByteArray) (es : List Ex), ex = .mk kind 0 b0 [lst ns, .mk op x tx es] → ns.length ≤ 8796093022208 ∧ es.length ≤ 2199023255552 ∧ Fit 2199023255552 es
def FitN1 (ex : Ex) : Prop := ∀ (name : ByteArray) (ins outs owns qs : List Ex), ex = .mk name 0 b0 [lst ins, lst outs, lst owns, lst qs] → ins.length ≤ 5864062014805 ∧ outs.length ≤ 5864062014805 ∧ owns.length ≤ 5864062014805 ∧ qs.length ≤ 1353245080339 ∧ FitQ qs
end
theorem bulk_pos {H : Type} (d : DataW H) : 1 ≤ Rows.uptoBulk d := by
 cases d with
 | lit l => cases l <;> simp [Rows.uptoBulk]
 | nil => simp [Rows.uptoBulk]
 | ptr d => simp [Rows.uptoBulk]
 | slice elems spare => simp [Rows.uptoBulk]
 | agg parts => simp [Rows.uptoBulk]
 | iface t d => simp [Rows.uptoBulk]
 | map entries => simp [Rows.uptoBulk]
 | held h => simp [Rows.uptoBulk]
theorem bulk_part {H : Type} {d : DataW H} {l : List (DataW H)} (h : d ∈ l) : Rows.uptoBulk d ≤ Rows.uptoBulkAll l := by
 induction l with
 | nil => cases h
 | cons x r ih =>
  simp only [Rows.uptoBulkAll]
  rcases List.mem_cons.1 h with e | e
  ·subst e; omega
  ·have := ih e; omega
theorem bulk_sum {H : Type} {D : Nat → DataW H} {m : Nat → Nat} : ∀ {n : Nat}, (∀ i, i < n → m i ≤ Rows.uptoBulk (D i)) → ((List.range n).map m).sum ≤ Rows.uptoBulkAll ((List.range n).map D)
 | 0, _ => by simp
 | n + 1, h => by
  have happ : ∀ l r : List (DataW H), Rows.uptoBulkAll (l ++ r) = Rows.uptoBulkAll l + Rows.uptoBulkAll r := fun l r => by
   induction l with
   | nil => simp [Rows.uptoBulkAll]
   | cons x l ih => simp only [List.cons_append, Rows.uptoBulkAll, ih]; omega
  have ih := bulk_sum (n := n) (fun i hi => h i (by omega))
  have hn := h n (by omega)
  rw [List.range_succ, List.map_append, List.map_append, happ, List.sum_append]
  simp only [List.map_cons, List.map_nil, List.sum_cons, List.sum_nil, Rows.uptoBulkAll]
  omega
section
variable {H : Type} {enc : TypeId × Value → H} {W : World} {sp : Nat → Bool}
theorem open_listB {t e : TypeId} {sz : Nat} {P : Ex → List Value → Prop} {M : Ex → Nat} {R : Ex → Prop} {N : Nat} (ht : Tryz.prog.underlying t = some (.slice e)) (hc : Tryz.prog.cellsOf e = sz) (hsz0 : 0 < sz)
  (elem : ∀ (fuel : Nat) (cs : List Value) (x : DataW H × List MemPlace), SizeOf.sizeOf x.1 < N → DataW.trod enc Tryz.prog W 0 sp true fuel e cs = some x → ∃ ex, P ex cs ∧ M ex + 1 ≤ Rows.uptoBulk x.1 ∧ (Rows.uptoBulk x.1 ≤ 1048576 → R ex))
  {fuel : Nat} {cs : List Value} {x : DataW H × List MemPlace} (h : DataW.trod enc Tryz.prog W 0 sp true fuel t cs = some x) (hN : SizeOf.sizeOf x.1 ≤ N) :
  ∃ (o : Option Addr) (n c : Nat) (f : Nat → Ex) (g : Nat → List Value), cs = [.slice o n c] ∧ RowAt W AnyB sz (.slice o n c) n ((List.range n).flatMap g) ∧ (∀ i, i < n → P (f i) (g i)) ∧ ((List.range n).map fun i => M (f i) + 1).sum ≤ Rows.uptoBulk x.1 ∧ (Rows.uptoBulk x.1 ≤ 1048576 → ∀ i, i < n → R (f i)) := by
 rcases open_slice ht h with ⟨rfl, rfl⟩ | ⟨a, len, cap, m, n, D, Pl, rfl, _, hl, hm, hmm, rfl, hx⟩
 ·exact ⟨none, 0, 0, fun _ => .mk ⟨#[]⟩ 0 ⟨#[]⟩ [], fun _ => [], rfl, ⟨by simp, by unfold maxLen; omega, none, 0, rfl, fun k x hx => by simp at hx⟩, fun i hi => absurd hi (Nat.not_lt_zero _), by simp, fun _ i hi => absurd hi (Nat.not_lt_zero _)⟩
 have hlm : len ≤ m := by rw [hmm]; split <;> omega
 have each : ∀ i, i < len → ∃ q : Ex × List Value, q.2.length = sz ∧ (∀ j x, q.2[j]? = some x → W.cell? (a.add (i * sz + j)) = some x) ∧ P q.1 q.2 ∧ M q.1 + 1 ≤ Rows.uptoBulk (D i) ∧ (Rows.uptoBulk (D i) ≤ 1048576 → R q.1) := by
  intro i hi
  obtain ⟨cs', h1, h2⟩ := hx i (by omega)
  rw [hc] at h1
  obtain ⟨_, hlen, hcell⟩ := World.cells?_some h1
  have hmem : D i ∈ (List.range len).map D := List.mem_map.2 ⟨i, List.mem_range.2 hi, rfl⟩
  have hsz : SizeOf.sizeOf (D i) < N := by
   have := List.sizeOf_lt_of_mem hmem
   simp only [DataW.slice.sizeOf_spec] at hN
   omega
  obtain ⟨ex, hP, hM, hR⟩ := elem n cs' (D i, Pl i) hsz h2
  refine ⟨(ex, cs'), hlen, fun j x hx => ?_, hP, hM, hR⟩
  have hj : j < sz := by rw [← hlen]; exact (List.getElem?_eq_some_iff.1 hx).1
  have := hcell j hj
  rw [add_add, hx] at this
  exact this
 have : Inhabited (Ex × List Value) := ⟨(.mk ⟨#[]⟩ 0 ⟨#[]⟩ [], [])⟩
 obtain ⟨q, hq⟩ := choose_lt each
 refine ⟨some a, len, cap, fun i => (q i).1, fun i => (q i).2, rfl, row_each hsz0 (by omega) (fun i hi => (hq i hi).1) (fun i hi => (hq i hi).2.1), fun i hi => (hq i hi).2.2.1, ?_, fun hw i hi => (hq i hi).2.2.2.2 ?_⟩
 ·have := bulk_sum (D := D) (m := fun i => M (q i).1 + 1) (fun i hi => (hq i hi).2.2.2.1)
  simp only [Rows.uptoBulk]
  omega
 ·have := bulk_part (List.mem_map.2 ⟨i, List.mem_range.2 hi, rfl⟩ : D i ∈ (List.range len).map D)
  simp only [Rows.uptoBulk] at hw
  omega
theorem sum_ge {n : Nat} {m : Nat → Nat} : n ≤ ((List.range n).map fun i => m i + 1).sum := by
 induction n with
 | zero => simp
 | succ n ih =>
  rw [List.range_succ, List.map_append, List.sum_append]
  simp only [List.map_cons, List.map_nil, List.sum_cons, List.sum_nil]
  omega
theorem size_bytes (s : ByteArray) : s.size = s.data.toList.length := by rw [← ByteArray.toList_eq, bytes_len]
theorem bulk_str {d : DataW H} {bytes : List UInt8} (h : d = .lit (.string bytes)) : Rows.uptoBulk d = bytes.length + 1 := by
 subst h
 simp [Rows.uptoBulk]
set_option maxRecDepth 100000 in
theorem open_termB : ∀ (N fuel : Nat) (cs : List Value) (x : DataW H × List MemPlace), SizeOf.sizeOf x.1 < N → DataW.trod enc Tryz.prog W 0 sp true fuel 94 cs = some x → ∃ ex, ExIn W AnyB [ex] cs ∧ 0 + 1 ≤ Rows.uptoBulk x.1 ∧ (Rows.uptoBulk x.1 ≤ 1048576 → NzT ex ∧ Fit 2199023255552 [ex])
 | 0, _, _, _, h, _ => absurd h (Nat.not_lt_zero _)
 | N + 1, fuel, cs, x, hN, h => by
  obtain ⟨y0, y1, y2, y3, n, hx, hl, u0, u1, u2, u3⟩ := trodS4 Tryz.underlying94 h
  rw [cE] at hl
  obtain ⟨v0, v1, v2, v3, rfl⟩ := list4 hl
  simp only [cS, cI, cLE, List.drop, List.take] at u0 u1 u2 u3
  rw [hx] at hN
  rw [hx]
  obtain ⟨s0, e0, _, _⟩ := DataW.trod_string Tryz.underlying9 u0
  obtain ⟨n1, e1, _, _⟩ := DataW.trod_int Tryz.underlying3 u1
  obtain ⟨s2, e2, hd2, _⟩ := DataW.trod_string Tryz.underlying9 u2
  have h3 : SizeOf.sizeOf y3.1 ≤ N := by
   simp only [DataW.agg.sizeOf_spec, List.cons.sizeOf_spec] at hN
   omega
  obtain ⟨o, m, c, f, g, e3, hrow, hP, hM, hR⟩ := open_listB (N := N) (M := fun _ => 0) (R := fun ex => NzT ex ∧ Fit 2199023255552 [ex]) Tryz.underlying92 cE (by omega) (fun fuel cs x hx h => open_termB N fuel cs x hx h) u3 h3
  simp only [List.cons.injEq, and_true] at e0 e1 e2 e3
  subst e0 e1 e2 e3
  have hm : ((List.range m).map f).length = m := by simp
  refine ⟨.mk s0 n1 s2 ((List.range m).map f), .cons s0 n1 s2 _ [] _ _ [] (by rw [hm]; exact hrow) (ExIn.range hP) .nil, bulk_pos _, fun hw => ?_⟩
  have hmm := sum_ge (n := m) (m := fun _ => 0)
  have hb2 := bulk_str (congrArg Prod.fst hd2)
  simp only [Rows.uptoBulk, Rows.uptoBulkAll] at hw
  have hRR := hR (by omega)
  refine ⟨.mk s0 n1 s2 _ (by rw [size_bytes]; omega) fun ex hex => ?_, .one (by rw [hm]; omega) (Fit.range fun i hi => (hRR i hi).2)⟩
  obtain ⟨i, hi, rfl⟩ := List.mem_map.1 hex
  exact (hRR i (List.mem_range.1 hi)).1
set_option maxRecDepth 100000 in
theorem open_varB (N fuel : Nat) (cs : List Value) (x : DataW H × List MemPlace) (_ : SizeOf.sizeOf x.1 < N) (h : DataW.trod enc Tryz.prog W 0 sp true fuel 89 cs = some x) : ∃ ex : Ex, cs = [.string ex.op, .int .i64 ex.n] ∧ ex.op.size + 1 ≤ Rows.uptoBulk x.1 ∧ (Rows.uptoBulk x.1 ≤ 1048576 → True) := by
 obtain ⟨y0, y1, n, hx, hl, u0, u1⟩ := trodS2 Tryz.underlying89 h
 rw [cV] at hl
 obtain ⟨v0, v1, rfl⟩ := list2 hl
 simp only [cS, cI, List.drop, List.take] at u0 u1
 obtain ⟨s0, e0, hd0, _⟩ := DataW.trod_string Tryz.underlying9 u0
 obtain ⟨n1, e1, _, _⟩ := DataW.trod_int Tryz.underlying3 u1
 simp only [List.cons.injEq, and_true] at e0 e1
 subst e0 e1
 have hb := bulk_str (congrArg Prod.fst hd0)
 refine ⟨.mk s0 n1 ⟨#[]⟩ [], rfl, ?_, fun _ => trivial⟩
 rw [hx]
 simp only [Rows.uptoBulk, Rows.uptoBulkAll]
 show s0.size + 1 ≤ _
 rw [size_bytes]
 omega
set_option maxRecDepth 100000 in
theorem open_nameB (N fuel : Nat) (cs : List Value) (x : DataW H × List MemPlace) (_ : SizeOf.sizeOf x.1 < N) (h : DataW.trod enc Tryz.prog W 0 sp true fuel 9 cs = some x) : ∃ ex : Ex, cs = [.string ex.op] ∧ ex.op.size + 1 ≤ Rows.uptoBulk x.1 ∧ (Rows.uptoBulk x.1 ≤ 1048576 → True) := by
 obtain ⟨s0, e0, hd0, _⟩ := DataW.trod_string Tryz.underlying9 h
 have hb := bulk_str (congrArg Prod.fst hd0)
 exact ⟨.mk s0 0 ⟨#[]⟩ [], e0, by show s0.size + 1 ≤ _; rw [size_bytes]; omega, fun _ => trivial⟩
def massL (vs : List Ex) : Nat := (vs.map fun v => v.op.size + 1).sum
theorem massL_range {f : Nat → Ex} {n : Nat} : massL ((List.range n).map f) = ((List.range n).map fun i => (f i).op.size + 1).sum := by
 unfold massL
 rw [List.map_map]
 rfl
theorem massL_mem {vs : List Ex} {v : Ex} (h : v ∈ vs) : v.op.size + 1 ≤ massL vs := by
 induction vs with
 | nil => cases h
 | cons a r ih =>
  have e : massL (a :: r) = a.op.size + 1 + massL r := rfl
  rw [e]
  rcases List.mem_cons.1 h with e | e
  ·subst e; omega
  ·have := ih e; omega
theorem massL_len (vs : List Ex) : vs.length ≤ massL vs := by
 induction vs with
 | nil => simp
 | cons a r ih =>
  have e : massL (a :: r) = a.op.size + 1 + massL r := rfl
  rw [e, List.length_cons]
  omega
theorem massL_take (vs : List Ex) (i : Nat) : massL (vs.take i) ≤ massL vs := by
 have h : massL vs = massL (vs.take i) + massL (vs.drop i) := by
  conv => lhs; rw [← List.take_append_drop i vs]
  unfold massL
  rw [List.map_append, List.sum_append]
 omega
theorem rOne_len (v : Ex) : (rOne v).length ≤ v.op.size + 6 := by
 rw [rOne, List.length_append, List.length_append, bytes_len]
 split <;> simp
theorem flat_rv (vs : List Ex) : (vs.flatMap fun u => [59, 32] ++ rOne u).length ≤ 8 * massL vs := by
 induction vs with
 | nil => simp
 | cons a r ih =>
  have e : massL (a :: r) = a.op.size + 1 + massL r := rfl
  have := rOne_len a
  rw [List.flatMap_cons, List.length_append, List.length_append, e]
  simp only [List.length_cons, List.length_nil]
  omega
theorem rv_len (vs : List Ex) : (rvTxt vs).length ≤ 8 * massL vs := by
 cases vs with
 | nil => simp [rvTxt]
 | cons a r =>
  have h1 := flat_rv r
  have h2 := rOne_len a
  have e : massL (a :: r) = a.op.size + 1 + massL r := rfl
  rw [rvTxt, List.length_append, e]
  omega
theorem nmJ_len {ns : List Ex} : ∀ j : Nat, j ≤ ns.length → (nmJ ns j).length ≤ 2 * massL (ns.take j)
 | 0, _ => by simp [nmJ]
 | j + 1, h => by
  have hj : j < ns.length := by omega
  have ih := nmJ_len (ns := ns) j (by omega)
  have e : ns.take (j + 1) = ns.take j ++ [ns[j]] := by rw [List.take_add_one, List.getElem?_eq_getElem hj]; rfl
  have em : massL (ns.take (j + 1)) = massL (ns.take j) + (ns[j].op.size + 1) := by
   rw [e]
   unfold massL
   rw [List.map_append, List.sum_append]
   simp
  rw [nmJ_at hj, List.length_append, List.length_append, bytes_len, em]
  have : (if 0 < j then [44, 32] else if 1 < ns.length then [40] else [] : List UInt8).length ≤ 2 := by
   split
   ·simp
   ·split <;> simp
  omega
theorem vars_bulk {vs : List Ex} (h : massL vs ≤ 1048576) : VarsB vs := by
 refine ⟨fun v hv => by have := massL_mem hv; omega, fun i => ?_⟩
 have h1 := rv_len (vs.take i)
 have h2 := massL_take vs i
 omega
theorem open_varsB {fuel : Nat} {cs : List Value} {x : DataW H × List MemPlace} (h : DataW.trod enc Tryz.prog W 0 sp true fuel 83 cs = some x) : ∃ (o : Option Addr) (c : Nat) (vs : List Ex), cs = [.slice o vs.length c] ∧ RowAt W AnyB 2 (.slice o vs.length c) vs.length (varCells vs) ∧ massL vs ≤ Rows.uptoBulk x.1 := by
 obtain ⟨o, n, c, f, g, e, hrow, hP, hM, _⟩ := open_listB (N := SizeOf.sizeOf x.1) (M := fun ex => ex.op.size) (R := fun _ => True) Tryz.underlying83 cV (by omega) (fun fuel cs x hx h => open_varB _ fuel cs x hx h) h (Nat.le_refl _)
 have hm : ((List.range n).map f).length = n := by simp
 refine ⟨o, c, (List.range n).map f, by rw [hm]; exact e, ?_, by rw [massL_range]; exact hM⟩
 rw [hm, ← varCells_range hP]; exact hrow
theorem open_namesB {fuel : Nat} {cs : List Value} {x : DataW H × List MemPlace} (h : DataW.trod enc Tryz.prog W 0 sp true fuel 91 cs = some x) : ∃ (o : Option Addr) (c : Nat) (vs : List Ex), cs = [.slice o vs.length c] ∧ RowAt W AnyB 1 (.slice o vs.length c) vs.length (nameCells vs) ∧ massL vs ≤ Rows.uptoBulk x.1 := by
 obtain ⟨o, n, c, f, g, e, hrow, hP, hM, _⟩ := open_listB (N := SizeOf.sizeOf x.1) (M := fun ex => ex.op.size) (R := fun _ => True) Tryz.underlying91 cS (by omega) (fun fuel cs x hx h => open_nameB _ fuel cs x hx h) h (Nat.le_refl _)
 have hm : ((List.range n).map f).length = n := by simp
 refine ⟨o, c, (List.range n).map f, by rw [hm]; exact e, ?_, by rw [massL_range]; exact hM⟩
 rw [hm, ← nameCells_range hP]; exact hrow
def BulkQ1 (ex : Ex) : Prop := FitQ1 ex ∧ ∀ kind ns e, ex = eqOf kind ns e → EqB kind ns e
def BulkN1 (ex : Ex) : Prop := FitN1 ex ∧ ∀ name ins outs owns qs, ex = ndOf name ins outs owns qs → NodeB name ins outs owns qs
set_option maxRecDepth 100000 in
theorem open_eqnB (N fuel : Nat) (cs : List Value) (x : DataW H × List MemPlace) (_ : SizeOf.sizeOf x.1 < N) (h : DataW.trod enc Tryz.prog W 0 sp true fuel 96 cs = some x) : ∃ ex : Ex, EqIn W AnyB [ex] cs ∧ 0 + 1 ≤ Rows.uptoBulk x.1 ∧ (Rows.uptoBulk x.1 ≤ 1048576 → BulkQ1 ex) := by
 obtain ⟨y0, y1, y2, n, hx, hl, u0, u1, u2⟩ := trodS3 Tryz.underlying96 h
 rw [cQ] at hl
 obtain ⟨v0, v1, v2, v3, v4, v5, rfl⟩ := list6 hl
 simp only [cS, cLS, cE, List.drop, List.take] at u0 u1 u2
 rw [hx]
 obtain ⟨s0, e0, hd0, _⟩ := DataW.trod_string Tryz.underlying9 u0
 obtain ⟨no, nc, ns, e1, hr1, hw1⟩ := open_namesB u1
 obtain ⟨ex, hE, _, hFE⟩ := open_termB _ _ _ _ (Nat.lt_succ_self _) u2
 simp only [List.cons.injEq, and_true] at e0 e1
 subst e0 e1
 refine ⟨.mk s0 0 b0 [lst ns, ex], .cons s0 ns ex [] _ _ [] hr1 hE .nil, bulk_pos _, fun hw => ?_⟩
 have hb0 := bulk_str (congrArg Prod.fst hd0)
 simp only [Rows.uptoBulk, Rows.uptoBulkAll] at hw
 obtain ⟨w1, w2⟩ := hFE (by omega)
 have hnl := massL_len ns
 refine ⟨?_, ?_⟩
 ·intro kind ns' op x tx es e
  simp only [Ex.mk.injEq, lst, List.cons.injEq, and_true, true_and] at e
  obtain ⟨_, rfl, rfl⟩ := e
  exact ⟨by omega, w2.at (i := 0) (by simp) rfl⟩
 ·intro kind ns' e' e
  simp only [eqOf, Ex.mk.injEq, lst, List.cons.injEq, and_true, true_and] at e
  obtain ⟨rfl, rfl, rfl⟩ := e
  refine ⟨by rw [size_bytes]; omega, fun v hv => by have := massL_mem hv; omega, fun j hj => ?_, w1⟩
  have h1 := nmJ_len (ns := ns) j hj
  have h2 := massL_take ns j
  omega
set_option maxRecDepth 100000 in
theorem open_nodeB (N fuel : Nat) (cs : List Value) (x : DataW H × List MemPlace) (_ : SizeOf.sizeOf x.1 < N) (h : DataW.trod enc Tryz.prog W 0 sp true fuel 86 cs = some x) : ∃ ex : Ex, NdIn W AnyB [ex] cs ∧ 0 + 1 ≤ Rows.uptoBulk x.1 ∧ (Rows.uptoBulk x.1 ≤ 1048576 → BulkN1 ex) := by
 obtain ⟨y0, y1, y2, y3, y4, n, hx, hl, u0, u1, u2, u3, u4⟩ := trodS5 Tryz.underlying86 h
 rw [cN] at hl
 obtain ⟨v0, v1, v2, v3, v4, rfl⟩ := list5 hl
 simp only [cS, cLV, cLQ, List.drop, List.take] at u0 u1 u2 u3 u4
 rw [hx]
 obtain ⟨s0, e0, hd0, _⟩ := DataW.trod_string Tryz.underlying9 u0
 obtain ⟨o1, c1, ins, e1, hr1, hw1⟩ := open_varsB u1
 obtain ⟨o2, c2, outs, e2, hr2, hw2⟩ := open_varsB u2
 obtain ⟨o3, c3, owns, e3, hr3, hw3⟩ := open_varsB u3
 obtain ⟨o4, n4, c4, f, g, e4, hr4, hP, hM, hR⟩ := open_listB (N := SizeOf.sizeOf y4.1) (P := fun ex cs => EqIn W AnyB [ex] cs) (M := fun _ => 0) (R := BulkQ1) Tryz.underlying84 cQ (by omega) (fun fuel cs x hx h => open_eqnB _ fuel cs x hx h) u4 (Nat.le_refl _)
 simp only [List.cons.injEq, and_true] at e0 e1 e2 e3 e4
 subst e0 e1 e2 e3 e4
 have hm : ((List.range n4).map f).length = n4 := by simp
 refine ⟨.mk s0 0 b0 [lst ins, lst outs, lst owns, lst ((List.range n4).map f)], .cons s0 ins outs owns _ [] _ _ _ _ _ [] hr1 hr2 hr3 (by rw [hm]; exact hr4) (EqIn.range hP) .nil, bulk_pos _, fun hw => ?_⟩
 have hb0 := bulk_str (congrArg Prod.fst hd0)
 have hq4 := sum_ge (n := n4) (m := fun _ => 0)
 simp only [Rows.uptoBulk, Rows.uptoBulkAll] at hw
 have a5 := hR (by omega)
 have l1 := massL_len ins
 have l2 := massL_len outs
 have l3 := massL_len owns
 refine ⟨?_, ?_⟩
 ·intro name ins' outs' owns' qs' e
  simp only [Ex.mk.injEq, lst, List.cons.injEq, and_true, true_and] at e
  obtain ⟨_, rfl, rfl, rfl, rfl⟩ := e
  refine ⟨by omega, by omega, by omega, by rw [hm]; omega, ?_⟩
  intro k hk kind ns op x tx es e
  rw [List.getElem_map, List.getElem_range] at e
  exact (a5 k (by rw [hm] at hk; exact hk)).1 kind ns op x tx es e
 ·intro name ins' outs' owns' qs' e
  simp only [ndOf, Ex.mk.injEq, lst, List.cons.injEq, and_true, true_and] at e
  obtain ⟨rfl, rfl, rfl, rfl, rfl⟩ := e
  refine ⟨by rw [size_bytes]; omega, vars_bulk (by omega), vars_bulk (by omega), vars_bulk (by omega), ?_⟩
  intro k hk kind ns e' e
  rw [List.getElem_map, List.getElem_range] at e
  exact (a5 k (by rw [hm] at hk; exact hk)).2 kind ns e' e
theorem open_nodesB {fuel : Nat} {cs : List Value} {x : DataW H × List MemPlace} (h : DataW.trod enc Tryz.prog W 0 sp true fuel 42 cs = some x) : ∃ (o : Option Addr) (c : Nat) (es : List Ex) (ys : List Value), cs = [.slice o es.length c] ∧ RowAt W AnyB 5 (.slice o es.length c) es.length ys ∧ NdIn W AnyB es ys ∧ (Rows.uptoBulk x.1 ≤ 1048576 → es.length ≤ 1256584717458 ∧ FitN es ∧ BulkN es) := by
 obtain ⟨o, n, c, f, g, e, hrow, hP, hM, hR⟩ := open_listB (N := SizeOf.sizeOf x.1) (P := fun ex cs => NdIn W AnyB [ex] cs) (M := fun _ => 0) (R := BulkN1) Tryz.underlying42 cN (by omega) (fun fuel cs x hx h => open_nodeB _ fuel cs x hx h) h (Nat.le_refl _)
 have hm : ((List.range n).map f).length = n := by simp
 refine ⟨o, c, (List.range n).map f, _, by rw [hm]; exact e, by rw [hm]; exact hrow, NdIn.range hP, fun hw => ?_⟩
 have hn := sum_ge (n := n) (m := fun _ => 0)
 have a5 := hR hw
 refine ⟨by rw [hm]; omega, ?_, ?_⟩
 ·intro i hi name ins outs owns qs e
  rw [List.getElem_map, List.getElem_range] at e
  exact (a5 i (by rw [hm] at hi; exact hi)).1 name ins outs owns qs e
 ·intro i hi name ins outs owns qs e
  rw [List.getElem_map, List.getElem_range] at e
  exact (a5 i (by rw [hm] at hi; exact hi)).2 name ins outs owns qs e
end
end Go.Proofs.YtgbpccipdcajgaaGreatDoor
