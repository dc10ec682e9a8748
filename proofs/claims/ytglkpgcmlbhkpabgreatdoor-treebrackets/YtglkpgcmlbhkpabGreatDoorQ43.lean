/-
  tree.Text BY ITS CONTRACT, to the byte: what is written is the program's text, is read, and the same.
-/
import Derived.Test.YtglkpgcmlbhkpabGreatDoorQ42
import Derived.Test.YtglkpgcmlbhkpabGreatDoorQ32
import Derived.Test.YtglkpgcmlbhkpabGreatDoorQ37
namespace Go.Proofs.YtglkpgcmlbhkpabGreatDoor
open Go.RowKit
attribute [local go_sem ↓] Go.wp_at_zero Go.wp_at_succ

set_option maxRecDepth 100000 in
set_option maxHeartbeats 1000000 in
theorem text1_x (B b : Nat) (pS : Addr) (lx : List UInt8) (w : World) (b3 b0 : Nat) (es : List Ex) (o : Option Addr) (c : Nat) (ys : List Value) (h : WStX B b 0 pS lx w) (r1 : RowAt w (fun k => k < B) 5 (.slice o es.length c) es.length ys) (r2 : NdIn w (fun k => k < B) es ys) (h3 : w.cell? ⟨b3, 0, none⟩ = some (.pointer (some ⟨b, 0, none⟩))) (h0 : w.cell? ⟨b0, 0, none⟩ = some (.slice o es.length c)) :
    Calls Tryz.prog 35 #[.pointer (some ⟨b3, 0, none⟩), .pointer (some ⟨b0, 0, none⟩)] w fun e w' => WAnyX False B b 0 pS lx (progX es) w e w' := by
  have HC : Hid (Calls Tryz.prog 36 #[.pointer (some ⟨b, 0, none⟩), .slice o es.length c] w fun e w' => WAnyX False B b 0 pS lx (progX es) w e w') := wprogram_x False B b pS lx w es o c ys h r1 r2
  clear r1 r2
  go_enter Tryz.func35, Tryz.ntmps35
  go_wp2_with fail
  refine HC.out.mono ?_
  rintro e w1 ⟨b1, k1, ⟨l1, rfl, u1, g1, hq⟩ | ⟨ht, hr⟩⟩
  · go_wp2
    go_end0
    exact ⟨b1, k1, Or.inl ⟨l1, rfl, u1, g1, hq⟩⟩
  · unfold WThrew at ht
    subst ht
    go_wp2
    exact ⟨rfl, b1, k1, Or.inr ⟨rfl, hr⟩⟩
set_option maxRecDepth 100000 in
set_option maxHeartbeats 1000000 in
theorem caught_x (B b : Nat) (pS : Addr) (lx : List UInt8) (w : World) (b3 b0 : Nat) (es : List Ex) (o : Option Addr) (c : Nat) (ys : List Value) (h : WStX B b 0 pS lx w) (r1 : RowAt w (fun k => k < B) 5 (.slice o es.length c) es.length ys) (r2 : NdIn w (fun k => k < B) es ys) (h3 : w.cell? ⟨b3, 0, none⟩ = some (.pointer (some ⟨b, 0, none⟩))) (h0 : w.cell? ⟨b0, 0, none⟩ = some (.slice o es.length c)) :
    Calls Tryz.prog 34 #[.func (.func 35) #[] #[.pointer (some ⟨b3, 0, none⟩), .pointer (some ⟨b0, 0, none⟩)]] w fun e w' => Below B w w' ∧ Kept b w w' ∧ ((∃ l, e = .returned .nilIface ∧ WT B b l 0 w' ∧ l.length ≤ 6000 ∧ Ok lx (progX es) l) ∨ (e = .returned (.iface 325 (.pointer (some pS))) ∧ Rsn False lx (progX es))) := by
  have hmf : ∀ (fn : Fn) (first cap : Array Value) (w : World), (Instr.makeFunc fn first cap).run Tryz.prog w = .ok (.func fn first cap) w := fun _ _ _ _ => rfl
  have hlt := h.lt
  have hle := h.le
  have hbA : Below w.heap.size w (w.alloc (.cells #[.nilIface] 26)) := (Below.refl _ _).alloc (Nat.le_refl _) _
  have HZ : Hid _ := heap_alloc_new w (.cells #[.nilIface] 26)
  have bz : Below B w (w.alloc (.cells #[.nilIface] 26)) := (Below.refl _ _).alloc (by omega) _
  have HC : Hid (Calls Tryz.prog 35 #[.pointer (some ⟨b3, 0, none⟩), .pointer (some ⟨b0, 0, none⟩)] (w.alloc (.cells #[.nilIface] 26)) fun e w' => WAnyX False B b 0 pS lx (progX es) (w.alloc (.cells #[.nilIface] 26)) e w') := text1_x B b pS lx _ b3 b0 es o c ys (h.alloc _) (below_row r1 bz) (below_nd r2 bz) (cell_keep hbA h3) (cell_keep hbA h0)
  clear r1 r2
  go_enter_defers Tryz.func34, Tryz.ntmps34
  go_wp2_with fail
  refine HC.out.mono ?_
  rintro e w1 ⟨b1, k1, ⟨l1, rfl, u1, g1, hq⟩ | ⟨ht, hr⟩⟩
  · have hr1 := kept_row k1 HZ.out (by omega) (by intro c fz e; injection e with _ e; exact absurd e (by decide))
    have c1 : w1.cell? ⟨w.heap.size, 0, none⟩ = some .nilIface := by simp [World.cell?, hr1]
    have f1 : w1.frozen? ⟨w.heap.size, 0, none⟩ = false := by simp [World.frozen?, hr1]
    have hlw : w.heap.size < w1.heap.size := lt_of_cell c1
    have HR1 : Hid _ := hr1
    clear hr1
    go_wp2
    refine leaves_cons (f := 84) (args := #[.pointer (some ⟨w.heap.size, 0, none⟩)]) (by simp) (by simp [go_sem]) ?_
    refine (catch_idle _ _).mono ?_
    rintro e u' w'' ⟨rfl, rfl, rfl⟩
    refine ⟨.nilIface, ?_, (bz.trans b1).setCell (by show B ≤ w.heap.size; omega) _, fun k o hk hb ho => ?_, Or.inl ⟨l1, rfl, u1.other HR1.out (by decide) (by omega) _, g1, hq⟩⟩
    · simp [results, Tryz.results34, go_sem, c1]
    · have hkl := (Array.getElem?_eq_some_iff.1 hk).1
      exact (Below.heap_setCell _ _ _ _ (by show k ≠ w.heap.size; omega)).trans (((Kept.alloc b w _).trans k1) k o hk hb ho)
  · unfold WThrew at ht
    subst ht
    have hr1 := kept_row k1 HZ.out (by omega) (by intro c fz e; injection e with _ e; exact absurd e (by decide))
    have c1 : w1.cell? ⟨w.heap.size, 0, none⟩ = some .nilIface := by simp [World.cell?, hr1]
    have f1 : w1.frozen? ⟨w.heap.size, 0, none⟩ = false := by simp [World.frozen?, hr1]
    have hlw : w.heap.size < w1.heap.size := lt_of_cell c1
    clear hr1
    go_wp2
    refine leaves_cons (f := 84) (args := #[.pointer (some ⟨w.heap.size, 0, none⟩)]) (by simp) (by simp [go_sem]) ?_
    refine (catch_thrownB w.heap.size pS .nilIface [] _ c1 f1).mono ?_
    rintro e u' w'' ⟨rfl, rfl, rfl⟩
    refine ⟨.iface 325 (.pointer (some pS)), ?_, ((bz.trans b1).setCell (by show B ≤ w.heap.size; omega) _).alloc (by simp; omega) _, fun k o hk hb ho => ?_, Or.inr ⟨rfl, hr⟩⟩
    · simp [results, Tryz.results34, go_sem, c1, hlw]
    · have hkl := (Array.getElem?_eq_some_iff.1 hk).1
      exact (heap_alloc_old _ _ (by simp; omega)).trans ((Below.heap_setCell _ _ _ _ (by show k ≠ w.heap.size; omega)).trans (((Kept.alloc b w _).trans k1) k o hk hb ho))
set_option maxRecDepth 100000 in
set_option maxHeartbeats 2000000 in
theorem wtext_x (es : List Ex) (S : Nat → Prop) (o : Option Addr) (c : Nat) (ys : List Value) (w : World) (h1 : RowAt w S 5 (.slice o es.length c) es.length ys) (h2 : NdIn w S es ys) (pT pB pS : Addr) (ev : Value) (hS : w.cell? ⟨0, 0, none⟩ = some (.iface 325 (.pointer (some pS)))) (hT : w.cell? ⟨1, 0, none⟩ = some (.iface 325 (.pointer (some pT)))) (hB : w.cell? ⟨2, 0, none⟩ = some (.iface 325 (.pointer (some pB)))) (hv : w.cell? ⟨11, 0, none⟩ = some ev) (hev : ev = .nilIface ∨ ∃ te pe, ev = .iface te pe) (tab : TabAt w) (hgz : 13 < w.heap.size) :
    Calls Tryz.prog 11 #[.slice o es.length c] w fun e w' => Below w.heap.size w w' ∧ ((∃ (t : ByteArray) (l : List Tk) (es' : List Ex) (j : Nat), e = .returned (.tuple #[.string t, .nilIface]) ∧ t.size ≤ 6000 ∧ Lexes t 0 l none ∧ Parse l (.nodes []) 0 0 (.ok es' j) ∧ SameNds es es' ∧ progX es = some t.toList) ∨ e = .returned (.tuple #[.string ⟨#[]⟩, .iface 325 (.pointer (some pS))])) := by
  have hmf : ∀ (fn : Fn) (first cap : Array Value) (w : World), (Instr.makeFunc fn first cap).run Tryz.prog w = .ok (.func fn first cap) w := fun _ _ _ _ => rfl
  have H1 : Hid (RowAt w S 5 (.slice o es.length c) es.length ys) := h1
  have H2 : Hid (NdIn w S es ys) := h2
  clear h1 h2
  have bz : Below w.heap.size w (((w.alloc (.cells #[.slice o es.length c] 29)).alloc (.cells #[.pointer none, .slice none 0 0, .int .i64 6000, .int .i64 0] 91)).alloc (.cells #[.pointer (some ⟨w.heap.size + 1, 0, none⟩)] 85)) := (((Below.refl _ _).alloc (Nat.le_refl _) _).alloc (by simp) _).alloc (by simp; omega) _
  have HL : Hid ((((w.alloc (.cells #[.slice o es.length c] 29)).alloc (.cells #[.pointer none, .slice none 0 0, .int .i64 6000, .int .i64 0] 91)).alloc (.cells #[.pointer (some ⟨w.heap.size + 1, 0, none⟩)] 85)).heap[w.heap.size]? = some (.cells #[.slice o es.length c] 29)) := alloc_row _ (alloc_row _ (heap_alloc_new w _))
  have hwr : (((w.alloc (.cells #[.slice o es.length c] 29)).alloc (.cells #[.pointer none, .slice none 0 0, .int .i64 6000, .int .i64 0] 91)).alloc (.cells #[.pointer (some ⟨w.heap.size + 1, 0, none⟩)] 85)).heap[w.heap.size + 1]? = some (.cells #[.pointer none, .slice none 0 0, .int .i64 6000, .int .i64 0] 91) := alloc_row _ (two_new w _ _)
  have HX : Hid ((((w.alloc (.cells #[.slice o es.length c] 29)).alloc (.cells #[.pointer none, .slice none 0 0, .int .i64 6000, .int .i64 0] 91)).alloc (.cells #[.pointer (some ⟨w.heap.size + 1, 0, none⟩)] 85)).heap[w.heap.size + 1 + 1]? = some (.cells #[.pointer (some ⟨w.heap.size + 1, 0, none⟩)] 85)) := heap_alloc_new' (by simp) _
  have h0 : WT w.heap.size (w.heap.size + 1) [] 0 (((w.alloc (.cells #[.slice o es.length c] 29)).alloc (.cells #[.pointer none, .slice none 0 0, .int .i64 6000, .int .i64 0] 91)).alloc (.cells #[.pointer (some ⟨w.heap.size + 1, 0, none⟩)] 85)) := Or.inl ⟨by omega, .slice none 0 0, hwr, World.ownsRow_nil _ _ _ _, by simp [Value.ownBlock]⟩
  have s0 : WStX w.heap.size (w.heap.size + 1) 0 pS [] (((w.alloc (.cells #[.slice o es.length c] 29)).alloc (.cells #[.pointer none, .slice none 0 0, .int .i64 6000, .int .i64 0] 91)).alloc (.cells #[.pointer (some ⟨w.heap.size + 1, 0, none⟩)] 85)) := ⟨h0, by simp, cell_keep bz hS, lt_of_cell hS, tab.keep (bz.block _ hgz), hgz⟩
  have HC : Hid (Calls Tryz.prog 34 #[.func (.func 35) #[] #[.pointer (some ⟨w.heap.size + 1 + 1, 0, none⟩), .pointer (some ⟨w.heap.size, 0, none⟩)]] (((w.alloc (.cells #[.slice o es.length c] 29)).alloc (.cells #[.pointer none, .slice none 0 0, .int .i64 6000, .int .i64 0] 91)).alloc (.cells #[.pointer (some ⟨w.heap.size + 1, 0, none⟩)] 85)) fun e w' => Below w.heap.size (((w.alloc (.cells #[.slice o es.length c] 29)).alloc (.cells #[.pointer none, .slice none 0 0, .int .i64 6000, .int .i64 0] 91)).alloc (.cells #[.pointer (some ⟨w.heap.size + 1, 0, none⟩)] 85)) w' ∧ Kept (w.heap.size + 1) (((w.alloc (.cells #[.slice o es.length c] 29)).alloc (.cells #[.pointer none, .slice none 0 0, .int .i64 6000, .int .i64 0] 91)).alloc (.cells #[.pointer (some ⟨w.heap.size + 1, 0, none⟩)] 85)) w' ∧ ((∃ l, e = .returned .nilIface ∧ WT w.heap.size (w.heap.size + 1) l 0 w' ∧ l.length ≤ 6000 ∧ Ok [] (progX es) l) ∨ (e = .returned (.iface 325 (.pointer (some pS))) ∧ Rsn False [] (progX es)))) := caught_x w.heap.size (w.heap.size + 1) pS [] _ (w.heap.size + 1 + 1) w.heap.size es o c ys s0 (below_row (H1.out.keep (stays_lt w)) bz) (below_nd (H2.out.keep (stays_lt w)) bz) (tblk1 HX.out).1 (tblk1 HL.out).1
  clear h0 hwr s0
  go_enter Tryz.func11, Tryz.ntmps11
  go_wp2_with fail
  refine HC.out.mono ?_
  rintro e w1 ⟨b1, k1, ⟨l1, rfl, u1, g1, hq1⟩ | ⟨rfl, hr1⟩⟩
  · have HQ1 : Hid (progX es = some l1) := (by obtain ⟨x, h1, h2⟩ := hq1; rw [h1, h2]; rfl : progX es = some l1)
    clear hq1
    have HX1 : Hid _ := kept_row k1 HX.out (by omega) (by intro c fz e; injection e with _ e; exact absurd e (by decide))
    have HL1 : Hid _ := kept_row k1 HL.out (by omega) (by intro c fz e; injection e with _ e; exact absurd e (by decide))
    have x1 := (tblk1 HX1.out).1
    have hx1 : w.heap.size + 1 + 1 < w1.heap.size := lt_of_cell x1
    have hStr : Calls Tryz.prog 37 #[.pointer (some ⟨w.heap.size + 1, 0, none⟩)] w1 fun e w' => e = .returned (.string ⟨l1.toArray⟩) ∧ Below w.heap.size w1 w' ∧ Kept (w.heap.size + 1) w1 w' := by
      by_cases hn : l1 = []
      · subst hn
        exact wString_none w.heap.size (w.heap.size + 1) 0 w1 u1
      · exact wString_any w.heap.size (w.heap.size + 1) l1 0 w1 u1 hn
    have HStr : Hid (Calls Tryz.prog 37 #[.pointer (some ⟨w.heap.size + 1, 0, none⟩)] w1 fun e w' => e = .returned (.string ⟨l1.toArray⟩) ∧ Below w.heap.size w1 w' ∧ Kept (w.heap.size + 1) w1 w') := hStr
    clear hStr u1
    go_wp2_with fail
    refine HStr.out.mono ?_
    rintro e w2 ⟨rfl, b2, k2⟩
    have bw2 := (bz.trans b1).trans b2
    have HL2 : Hid _ := kept_row k2 HL1.out (by omega) (by intro c fz e; injection e with _ e; exact absurd e (by decide))
    have hs2 := bw2.size
    have ht6 : (⟨l1.toArray⟩ : ByteArray).size ≤ 6000 := g1
    obtain ⟨t, ht⟩ : ∃ t : ByteArray, t = ⟨l1.toArray⟩ := ⟨_, rfl⟩
    rw [← ht] at ht6
    rw [← ht]
    have HQT : Hid (progX es = some t.toList) := (by rw [HQ1.out, ht, ByteArray.toList_eq] : progX es = some t.toList)
    clear x1 hx1 ht HQ1
    go_wp2_with fail
    refine (read_any t w2 pT pB ev ht6 (below_cell bw2 (lt_of_cell hT) hT) (below_cell bw2 (lt_of_cell hB) hB) (below_cell bw2 (lt_of_cell hv) hv) hev).mono ?_
    rintro e w3 ⟨b3, hR⟩
    have bw3 : Below w.heap.size w w3 := bw2.trans (b3.mono hs2)
    have hS3 := cell_keep bw3 hS
    rcases hR with ⟨l, es', j, v, hlx, hP, rfl, hN⟩ | ⟨l, j, p', bd, _, _, _, rfl, _⟩ | ⟨l, j, p', _, rfl, _⟩
    · obtain ⟨ys', hrow, hin⟩ := hN
      obtain ⟨so, sc, rfl⟩ := hrow.form
      have y0 := (tblk1 (row_keep b3 HL2.out)).1
      have hl3 : w.heap.size < w3.heap.size := lt_of_cell y0
      have HA : Hid (Calls Tryz.prog 38 #[.slice o es.length c, .slice so es'.length sc] w3 (Tells (SameNds es es') w3)) := alike_is es es' w3 S (From w2.heap.size) o so c sc ys ys' (H1.out.keep (Stays.below bw3 (fun k hk => hk))) (H2.out.keep (Stays.below bw3 (fun k hk => hk))) hrow hin
      have HLP : Hid (Lexes t 0 l none ∧ Parse l (.nodes []) 0 0 (.ok es' j)) := ⟨hlx, hP⟩
      clear hrow hin hlx hP
      go_wp2_with fail
      refine HA.out.mono ?_
      rintro e w4 ⟨r, rfl, hr, b4⟩
      have hS4 := cell_keep b4 hS3
      have bw4 := bw3.trans (b4.mono bw3.size)
      cases r with
      | true =>
        have HQ : Hid (SameNds es es') := hr rfl
        clear hr
        go_wp2
        go_ret2
        exact ⟨bw4, Or.inl ⟨t, l, es', j, rfl, ht6, HLP.out.1, HLP.out.2, HQ.out, HQT.out⟩⟩
      | false =>
        clear hr
        go_wp2
        go_quiet (fail)
        go_wp2
        go_ret2
        exact ⟨below_drewN bw4 nq, Or.inr rfl⟩
    · go_wp2
      go_quiet (fail)
      go_wp2
      go_ret2
      exact ⟨below_drewN bw3 nq, Or.inr rfl⟩
    · go_wp2
      go_quiet (fail)
      go_wp2
      go_ret2
      exact ⟨below_drewN bw3 nq, Or.inr rfl⟩
  · clear hr1
    go_wp2
    go_ret2
    exact ⟨bz.trans b1, Or.inr rfl⟩
end Go.Proofs.YtglkpgcmlbhkpabGreatDoor

/-
  lustrumlaw1.TreeBrackets, WALKED.
-/
namespace Go.Proofs.YtglkpgcmlbhkpabGreatDoor
open Go.RowKit
attribute [local go_sem ↓] Go.wp_at_zero Go.wp_at_succ

theorem row_of_blk {w : World} {S : Nat → Prop} {b size n : Nat} {cur : Array Value} {t : TypeId} (h : w.heap[b]? = some (.cells cur t (0, 0))) (hs : S b) (hn : cur.size = n * size) (hm : n ≤ maxLen) : RowAt w S size (.slice (some ⟨b, 0, none⟩) n n) n cur.toList :=
  ⟨by rw [Array.length_toList]; exact hn, hm, _, n, rfl, fun k x hx => ⟨b, 0, rfl, hs, by rw [Nat.zero_add, cell_of_row w b k cur t (0, 0) h]; simpa using hx⟩⟩
/-- A node with one check lies in memory. -/
theorem nodeB_in {w : World} {v q m : Nat} {op : ByteArray} {n : Int} {s : ByteArray} {l : List Ex} {o : Option Addr} {c : Nat} {ys : List Value} {t1 t2 t3 : TypeId} (r0 : w.heap[v]? = some (.cells #[.string ⟨#[120]⟩, .int .i64 1] t1 (0, 0))) (r1 : w.heap[q]? = some (.cells #[.string ⟨#[99, 104, 101, 99, 107]⟩, .slice none 0 0, .string op, .int .i64 n, .string s, .slice o l.length c] t2 (0, 0))) (r2 : w.heap[m]? = some (.cells #[.string ⟨#[97]⟩, .slice none 0 0, .slice (some ⟨v, 0, none⟩) 1 1, .slice none 0 0, .slice (some ⟨q, 0, none⟩) 1 1] t3 (0, 0))) (h1 : RowAt w (fun _ => True) 4 (.slice o l.length c) l.length ys) (h2 : ExIn w (fun _ => True) l ys) :
    RowAt w (fun _ => True) 5 (.slice (some ⟨m, 0, none⟩) 1 1) 1 [.string ⟨#[97]⟩, .slice none 0 0, .slice (some ⟨v, 0, none⟩) 1 1, .slice none 0 0, .slice (some ⟨q, 0, none⟩) 1 1] ∧ NdIn w (fun _ => True) [nodeB (.mk op n s l)] [.string ⟨#[97]⟩, .slice none 0 0, .slice (some ⟨v, 0, none⟩) 1 1, .slice none 0 0, .slice (some ⟨q, 0, none⟩) 1 1] := by
  have a0 : RowAt w (fun _ => True) 2 (.slice (some ⟨v, 0, none⟩) 1 1) 1 [.string ⟨#[120]⟩, .int .i64 1] := row_of_blk r0 trivial rfl (by unfold maxLen; omega)
  have a1 : RowAt w (fun _ => True) 6 (.slice (some ⟨q, 0, none⟩) 1 1) 1 [.string ⟨#[99, 104, 101, 99, 107]⟩, .slice none 0 0, .string op, .int .i64 n, .string s, .slice o l.length c] := row_of_blk r1 trivial rfl (by unfold maxLen; omega)
  have a2 : RowAt w (fun _ => True) 5 (.slice (some ⟨m, 0, none⟩) 1 1) 1 [.string ⟨#[97]⟩, .slice none 0 0, .slice (some ⟨v, 0, none⟩) 1 1, .slice none 0 0, .slice (some ⟨q, 0, none⟩) 1 1] := row_of_blk r2 trivial rfl (by unfold maxLen; omega)
  have e1 : EqIn w (fun _ => True) [.mk sCheck 0 b0 [lst [], .mk op n s l]] [.string sCheck, .slice none 0 0, .string op, .int .i64 n, .string s, .slice o l.length c] := .cons sCheck [] (.mk op n s l) [] (.slice none 0 0) [.string op, .int .i64 n, .string s, .slice o l.length c] [] RowAt.none (.cons op n s l [] _ ys [] h1 h2 .nil) .nil
  exact ⟨a2, .cons sA [] [.mk sX 1 b0 []] [] [.mk sCheck 0 b0 [lst [], .mk op n s l]] [] (.slice none 0 0) (.slice (some ⟨v, 0, none⟩) 1 1) (.slice none 0 0) (.slice (some ⟨q, 0, none⟩) 1 1) _ [] RowAt.none a0 RowAt.none a1 e1 .nil⟩
theorem nodeB_fit {op : ByteArray} {n : Int} {s : ByteArray} {l : List Ex} (h : l.length ≤ 2199023255552 ∧ Fit 2199023255552 l) : FitN [nodeB (.mk op n s l)] := by
  intro i hi name ins outs owns qs e
  obtain rfl : i = 0 := by simp at hi; omega
  have e' : nodeB (.mk op n s l) = .mk name 0 b0 [lst ins, lst outs, lst owns, lst qs] := e
  simp only [nodeB, Ex.mk.injEq, List.cons.injEq, lst] at e'
  obtain ⟨_, _, _, ⟨_, _, _, rfl⟩, ⟨_, _, _, rfl⟩, ⟨_, _, _, rfl⟩, ⟨_, _, _, rfl⟩, _⟩ := e'
  refine ⟨by simp, by simp, by simp, by simp, ?_⟩
  intro k hk kind ns op' x tx es eq
  obtain rfl : k = 0 := by simp at hk; omega
  have eq' : Ex.mk sCheck 0 b0 [lst [], .mk op n s l] = .mk kind 0 b0 [lst ns, .mk op' x tx es] := eq
  simp only [Ex.mk.injEq, List.cons.injEq, lst] at eq'
  obtain ⟨_, _, _, ⟨_, _, _, rfl⟩, ⟨_, _, _, rfl⟩, _⟩ := eq'
  exact ⟨by simp, h.1, h.2⟩
theorem sOf_app (x y : List UInt8) : sOf x ++ sOf y = sOf (x ++ y) := by
  apply ByteArray.ext
  rw [ByteArray.data_append]
  simp [sOf]
theorem brk_step (k : Nat) (x : List UInt8) : (⟨#[40]⟩ : ByteArray) ++ sOf (brkN k x) ++ (⟨#[41]⟩ : ByteArray) = sOf (brkN (k + 1) x) := by
  rw [show (⟨#[40]⟩ : ByteArray) = sOf [40] from rfl, show (⟨#[41]⟩ : ByteArray) = sOf [41] from rfl, sOf_app, sOf_app]
  rfl
theorem head_cut {t : ByteArray} {x : List UInt8} (h : t.toList = headL ++ (x ++ tailL)) (hl : t.size = 40 + x.length + 6) : t.extract 40 (t.size - 6) = sOf x := by
  have hH := Has.whole (headL ++ (x ++ tailL))
  rw [← h, sOf_bytes, h] at hH
  have h1 := hH.split.2.split.1
  have h2 := h1.text
  rw [show 0 + headL.length = 40 from rfl] at h2
  rw [hl, show 40 + x.length + 6 - 6 = 40 + x.length from by omega]
  exact h2
theorem whole_text (y : List UInt8) : (⟨#[110, 111, 100, 101, 32, 97, 40, 41, 32, 114, 101, 116, 117, 114, 110, 115, 32, 40, 120, 58, 32, 98, 111, 111, 108, 41, 59, 10, 108, 101, 116, 10, 32, 32, 99, 104, 101, 99, 107, 32]⟩ : ByteArray) ++ sOf y ++ (⟨#[59, 10, 116, 101, 108, 10]⟩ : ByteArray) = sOf (headL ++ (y ++ tailL)) := by
  rw [show (⟨#[110, 111, 100, 101, 32, 97, 40, 41, 32, 114, 101, 116, 117, 114, 110, 115, 32, 40, 120, 58, 32, 98, 111, 111, 108, 41, 59, 10, 108, 101, 116, 10, 32, 32, 99, 104, 101, 99, 107, 32]⟩ : ByteArray) = sOf headL from rfl, show (⟨#[59, 10, 116, 101, 108, 10]⟩ : ByteArray) = sOf tailL from rfl, sOf_app, sOf_app, List.append_assoc]
set_option maxRecDepth 100000 in
set_option maxHeartbeats 4000000 in
theorem brackets_walk (a : Nat → Addr) (ev : Value) (op : ByteArray) (n : Int) (s : ByteArray) (l : List Ex) (P : Nat → Prop) (o : Option Addr) (c : Nat) (ys : List Value) (many : Int) (w : World) (S : Sents a w) (E : Env (a 0) (a 1) (a 2) ev w) (h1 : RowAt w P 4 (.slice o l.length c) l.length ys) (h2 : ExIn w P l ys) (hlen : l.length ≤ 2199023255552) (hf : Fit 2199023255552 l) :
    Calls Tryz.prog 4 #[.agg #[.string op, .int .i64 n, .string s, .slice o l.length c], .int .i64 many] w fun e w' => e = .returned (.bool true) ∧ Below w.heap.size w w' := by
  obtain ⟨kw, hkw⟩ := weightOf_any (SizeOf.sizeOf l + 1) op n s l (by omega)
  have HE : Hid (Env (a 0) (a 1) (a 2) ev w) := E
  have HS : Hid (Sents a w) := S
  have H1 : Hid (RowAt w P 4 (.slice o l.length c) l.length ys) := h1
  have H2 : Hid (ExIn w P l ys) := h2
  have HF : Hid (l.length ≤ 2199023255552 ∧ Fit 2199023255552 l) := ⟨hlen, hf⟩
  have HP : Hid (∀ w', Below w.heap.size w w' → Calls Tryz.prog 9 #[] w' fun e w'' => e = .returned (.bool true) ∧ Below w'.heap.size w' w'') := fun w' hb => pass_any w' (a 0) (a 1) ev (E.below hb).hT (E.below hb).hB (E.below hb).hv (E.below hb).hev
  have HW : Hid (WeighIs kw op n s l) := hkw
  clear E S h1 h2 hlen hf hkw
  have bz : Below w.heap.size w (w.alloc (.cells #[.string op, .int .i64 n, .string s, .slice o l.length c] 38)) := (Below.refl _ _).alloc (Nat.le_refl _) _
  have HX : Hid _ := heap_alloc_new w (.cells #[.string op, .int .i64 n, .string s, .slice o l.length c] 38)
  go_enter Tryz.func4, Tryz.ntmps4
  go_wp2_with fail
  refine (HP.out _ bz).mono ?_
  rintro e w1 ⟨rfl, hb1'⟩
  have hb1 := bz.trans (hb1'.mono bz.size)
  have HX1 : Hid _ := row_keep hb1' HX.out
  obtain ⟨x0, x1, x2, x3, _⟩ := blk4 HX1.out
  have hl1 : w.heap.size < w1.heap.size := lt_of_cell x0
  have HW1 : Hid (Calls Tryz.prog 16 #[.agg #[.string op, .int .i64 n, .string s, .slice o l.length c]] w1 (NumIs kw w1)) := HW.out w1 P o c ys (H1.out.keep (Stays.below hb1 (fun k hk => hk))) (H2.out.keep (Stays.below hb1 (fun k hk => hk)))
  clear HP
  go_wp2_with fail
  refine HW1.out.mono ?_
  rintro e w2 ⟨rfl, hb2'⟩
  have hb2 := hb1.trans (hb2'.mono hb1.size)
  have HX2 : Hid _ := row_keep hb2' HX1.out
  clear x0 x1 x2 x3
  obtain ⟨x0, x1, x2, x3, _⟩ := blk4 HX2.out
  have hl2 : w.heap.size < w2.heap.size := lt_of_cell x0
  by_cases hkw : 500 < kw
  · go_wp2
    go_ret
    exact ⟨rfl, hb2⟩
  · by_cases hm0 : many < 0
    · go_wp2
      go_ret
      exact ⟨rfl, hb2⟩
    · by_cases hm4 : 4 < many
      · go_wp2
        go_ret
        exact ⟨rfl, hb2⟩
      · have hW : Below w2.heap.size w2 (((w2.alloc (.cells #[.string ⟨#[120]⟩, .int .i64 1] 41)).alloc (.cells #[.string ⟨#[99, 104, 101, 99, 107]⟩, .slice none 0 0, .string op, .int .i64 n, .string s, .slice o l.length c] 45)).alloc (.cells #[.string ⟨#[97]⟩, .slice none 0 0, .slice (some ⟨w2.heap.size, 0, none⟩) 1 1, .slice none 0 0, .slice (some ⟨w2.heap.size + 1, 0, none⟩) 1 1] 48)) := (((Below.refl _ _).alloc (Nat.le_refl _) _).alloc (by simp) _).alloc (by simp; omega) _
        have hbN := hb2.trans (hW.mono hb2.size)
        have R0 := alloc_row (.cells #[.string ⟨#[97]⟩, .slice none 0 0, .slice (some ⟨w2.heap.size, 0, none⟩) 1 1, .slice none 0 0, .slice (some ⟨w2.heap.size + 1, 0, none⟩) 1 1] 48) (alloc_row (.cells #[.string ⟨#[99, 104, 101, 99, 107]⟩, .slice none 0 0, .string op, .int .i64 n, .string s, .slice o l.length c] 45) (heap_alloc_new w2 (.cells #[.string ⟨#[120]⟩, .int .i64 1] 41)))
        have R1 := alloc_row (.cells #[.string ⟨#[97]⟩, .slice none 0 0, .slice (some ⟨w2.heap.size, 0, none⟩) 1 1, .slice none 0 0, .slice (some ⟨w2.heap.size + 1, 0, none⟩) 1 1] 48) (two_new w2 (.cells #[.string ⟨#[120]⟩, .int .i64 1] 41) (.cells #[.string ⟨#[99, 104, 101, 99, 107]⟩, .slice none 0 0, .string op, .int .i64 n, .string s, .slice o l.length c] 45))
        have R2 : (((w2.alloc (.cells #[.string ⟨#[120]⟩, .int .i64 1] 41)).alloc (.cells #[.string ⟨#[99, 104, 101, 99, 107]⟩, .slice none 0 0, .string op, .int .i64 n, .string s, .slice o l.length c] 45)).alloc (.cells #[.string ⟨#[97]⟩, .slice none 0 0, .slice (some ⟨w2.heap.size, 0, none⟩) 1 1, .slice none 0 0, .slice (some ⟨w2.heap.size + 1, 0, none⟩) 1 1] 48)).heap[w2.heap.size + 1 + 1]? = some (.cells #[.string ⟨#[97]⟩, .slice none 0 0, .slice (some ⟨w2.heap.size, 0, none⟩) 1 1, .slice none 0 0, .slice (some ⟨w2.heap.size + 1, 0, none⟩) 1 1] 48 (0, 0)) := heap_alloc_new' (by simp) _
        have HNB : Hid _ := nodeB_in R0 R1 R2 (H1.out.keep (fun b hb hl => ⟨trivial, hbN.block b hl⟩)) (H2.out.keep (fun b hb hl => ⟨trivial, hbN.block b hl⟩))
        clear R0 R1 R2
        go_wp2_with fail
        refine (nodesOf_any _ _ _ _ [nodeB (.mk op n s l)] _ HNB.out.1 HNB.out.2 (by simp) (nodeB_fit HF.out)).mono ?_
        rintro e w3 ⟨⟨so, sc, zs, rfl, hr3, hn3⟩, hb3'⟩
        have hb3 := hbN.trans (hb3'.mono hbN.size)
        have E3 := HE.out.below hb3
        have HT3 : Hid (Calls Tryz.prog 11 #[.slice so [nodeB (.mk op n s l)].length sc] w3 fun e w' => Below w3.heap.size w3 w' ∧ ((∃ (t : ByteArray) (l' : List Tk) (es' : List Ex) (j : Nat), e = .returned (.tuple #[.string t, .nilIface]) ∧ t.size ≤ 6000 ∧ Lexes t 0 l' none ∧ Parse l' (.nodes []) 0 0 (.ok es' j) ∧ SameNds [nodeB (.mk op n s l)] es' ∧ progX [nodeB (.mk op n s l)] = some t.toList) ∨ e = .returned (.tuple #[.string ⟨#[]⟩, .iface 325 (.pointer (some (a 2)))]))) := wtext_x [nodeB (.mk op n s l)] _ so sc zs w3 hr3 hn3 (a 0) (a 1) (a 2) ev E3.hS E3.hT E3.hB E3.hv E3.hev E3.tab E3.hgz
        clear hr3 hn3 E3
        go_wp2_with fail
        refine HT3.out.mono ?_
        rintro e w4 ⟨hb4', ⟨t, lt, es', j, rfl, ht6, hlx, hpr, hsame, hpx⟩ | rfl⟩
        rotate_left
        · have hb4 := hb3.trans (hb4'.mono hb3.size)
          go_wp2
          go_ret
          exact ⟨rfl, hb4⟩
        have hb4 := hb3.trans (hb4'.mono hb3.size)
        obtain ⟨kk, pp, xx, htx, hPr⟩ := brk_pr hpx hlx hpr hsame
        have htl : t.size = 40 + xx.length + 6 := by
          rw [← bytes_len, htx, List.length_append, List.length_append]
          show 40 + (xx.length + 6) = _
          omega
        have HPR : Hid (t.toList = headL ++ (xx ++ tailL) ∧ Pr 0 (.mk op n s l) kk pp xx) := ⟨htx, hPr⟩
        clear hlx hpr hsame hpx htx hPr
        by_cases ht3 : 3000 < t.size
        · have ht3' : (3000 : Int) < (t.size : Int) := by omega
          go_wp2
          go_ret
          exact ⟨rfl, hb4⟩
        · have ht3' : ¬ (3000 : Int) < (t.size : Int) := by omega
          have i1 : (40 : Int) ≤ (t.size : Int) - 6 := by omega
          have i2 : (t.size : Int) - 6 ≤ (t.size : Int) := by omega
          have HTL : Hid (t.size = 40 + xx.length + 6) := htl
          clear htl
          go_wp2
          rw [head_cut HPR.out.1 HTL.out]
          go_loopw [10, 11] (fun x i wr => ∃ k : Nat, (k : Int) ≤ many ∧ i = .int .i64 k ∧ x = .string (sOf (brkN k xx)) ∧ wr = w4) (fun _ i _ => many.toNat - (intOf i).toNat)
          case atStart => exact ⟨0, by omega, rfl, rfl, rfl⟩
          case round =>
            obtain ⟨k, hk, rfl, rfl, rfl⟩ := hrel
            have hsz0 : (sOf (brkN k xx)).size = xx.length + 2 * k := by rw [← bytes_len, sOf_list, brkN_len]
            have htl0 := HTL.out
            have e1 : ¬ 9223372036854775807 < 1 + (sOf (brkN k xx)).size := by omega
            have e2 : ¬ 9223372036854775807 < 1 + (sOf (brkN k xx)).size + 1 := by omega
            have e3 : ¬ 9223372036854775807 < 40 + (sOf (brkN k xx)).size := by omega
            have e4 : ¬ 9223372036854775807 < 40 + (sOf (brkN k xx)).size + 6 := by omega
            clear hsz0 htl0
            by_cases hkm : (k : Int) < many
            · go_wp2
              refine ⟨⟨k + 1, by omega, by go_num, ?_, trivial⟩, by simp [intOf]; omega⟩
              rw [brk_step]
            · have hsz : (sOf (headL ++ (brkN k xx ++ tailL))).size = 40 + (xx.length + 2 * k + 6) := by
                rw [← bytes_len, sOf_list, List.length_append, List.length_append, brkN_len]
                rfl
              have htl := HTL.out
              have hs6 : (sOf (headL ++ (brkN k xx ++ tailL))).size ≤ 6000 := by omega
              have HS6 : Hid ((sOf (headL ++ (brkN k xx ++ tailL))).size ≤ 6000) := hs6
              clear hs6 hsz htl
              obtain ⟨lb, hlb, hPb⟩ := brk_read HPR.out.2 k
              have HLB : Hid (Lexes (sOf (headL ++ (brkN k xx ++ tailL))) 0 lb none ∧ ((∃ j, Parse lb (.nodes []) 0 0 (.ok [nodeB (.mk op n s l)] j)) ∨ ∃ j, Parse lb (.nodes []) 0 0 (.bad j true))) := ⟨hlb, hPb⟩
              clear hlb hPb e1 e2
              go_wp2_with fail
              rw [whole_text]
              have EZ := HE.out.below hb4
              refine (read_any (sOf (headL ++ (brkN k xx ++ tailL))) wr (a 0) (a 1) ev HS6.out EZ.hT EZ.hB EZ.hv EZ.hev).mono ?_
              rintro e w5 ⟨hb5', hR⟩
              have hb5 := hb4.trans (hb5'.mono hb4.size)
              clear EZ e3 e4
              rcases hR with ⟨l', es2, j', v, hl', hP', rfl, hN⟩ | ⟨l', j', p, bd, hl', hP', _, rfl, hp0, hp1⟩ | ⟨l', j', p, hl', _, _⟩
              · obtain ⟨rfl, _⟩ := hl'.one HLB.out.1
                have hes : es2 = [nodeB (.mk op n s l)] := by
                  rcases HLB.out.2 with ⟨j, hj⟩ | ⟨j, hj⟩
                  · have := hP'.one hj
                    injection this
                  · exact absurd (hP'.one hj) (by simp)
                subst hes
                have hfit5 := known_fit (by have := HTL.out; rw [← bytes_len, sOf_list, List.length_append, List.length_append, brkN_len]; show 40 + (xx.length + 2 * k + 6) ≤ 6000; omega) hl' hP'
                obtain ⟨ys5, hr5, hn5⟩ := hN
                obtain ⟨so5, sc5, rfl⟩ := hr5.form
                have HBK : Hid (Calls Tryz.prog 15 #[.slice so5 [nodeB (.mk op n s l)].length sc5] w5 fun e w' => (∃ so sc ys', e = .returned (.slice so [nodeB (.mk op n s l)].length sc) ∧ RowAt w' (fun _ => True) 5 (.slice so [nodeB (.mk op n s l)].length sc) [nodeB (.mk op n s l)].length ys' ∧ NdIn w' (fun _ => True) [nodeB (.mk op n s l)] ys') ∧ Below w5.heap.size w5 w') := backNodes_any w5 _ so5 sc5 [nodeB (.mk op n s l)] ys5 hr5 hn5 hfit5.1 hfit5.2
                clear hr5 hn5 hfit5 hl' hP' HLB
                go_wp2_with fail
                refine HBK.out.mono ?_
                rintro e w6 ⟨⟨qo, qc, us, rfl, hq1, hq2⟩, hb6'⟩
                have hb6 := hb5.trans (hb6'.mono hb5.size)
                have hN6 := hb3'.trans ((hb4'.trans ((hb5'.trans (hb6'.mono hb5'.size)).mono hb4'.size)).mono hb3'.size)
                have HSK : Hid (Calls Tryz.prog 14 #[.slice qo [nodeB (.mk op n s l)].length qc, .slice (some ⟨w2.heap.size + 1 + 1, 0, none⟩) [nodeB (.mk op n s l)].length 1] w6 fun e w' => e = .returned (.bool true) ∧ Below w6.heap.size w6 w') := sameNodes_any w6 (fun _ => True) (fun _ => True) qo _ qc 1 [nodeB (.mk op n s l)] us _ hq1 hq2 (HNB.out.1.keep (Stays.below hN6 (fun k hk => hk))) (HNB.out.2.keep (Stays.below hN6 (fun k hk => hk)))
                clear hq1 hq2 hN6
                go_wp2_with fail
                refine HSK.out.mono ?_
                rintro e w7 ⟨rfl, hb7'⟩
                have hb7 := hb6.trans (hb7'.mono hb6.size)
                go_wp2
                go_ret
                exact ⟨rfl, hb7⟩
              · obtain ⟨rfl, _⟩ := hl'.one HLB.out.1
                have hbd : bd = true := by
                  rcases HLB.out.2 with ⟨j, hj⟩ | ⟨j, hj⟩
                  · exact absurd (hP'.one hj) (by simp)
                  · have := hP'.one hj
                    injection this
                subst hbd
                have S5 := HS.out.below hb5
                obtain ⟨cb, tb, hrow⟩ := S5.row 1 (by omega)
                have HCD : Hid (Calls Tryz.prog 17 #[.iface 111 (.pointer (some ⟨p, 0, none⟩))] w5 fun e w' => e = .returned (.tuple #[.int .i64 (codeOf 1), .int .i64 (tkp l' j')]) ∧ Below w5.heap.size w5 w') := code_fault a (a 1) 1 p _ cb tb w5 S5 hp0 (by simpa using hp1) hrow (by omega) (fun j hj => S5.inj 1 j (by omega) (by omega) (by omega)) (fun _ => rfl)
                rw [codeOf_in (by omega)] at HCD
                clear S5 hrow hl' hP' hp0 hp1 HLB
                go_wp2_with fail
                refine HCD.out.mono ?_
                rintro e w6 ⟨rfl, hb6'⟩
                have hb6 := hb5.trans (hb6'.mono hb5.size)
                go_wp2
                go_ret
                exact ⟨rfl, hb6⟩
              · exact absurd (hl'.one HLB.out.1).2 (by simp)
end Go.Proofs.YtglkpgcmlbhkpabGreatDoor
