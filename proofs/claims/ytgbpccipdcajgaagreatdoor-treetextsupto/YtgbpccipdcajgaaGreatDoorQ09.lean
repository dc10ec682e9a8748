/-
  package tree's READER OF TERMS: fromLeft BY ITS CONTRACTS: one for each method that is handed to it.
-/
import Derived.Test.YtgbpccipdcajgaaGreatDoorQ08
namespace Go.Proofs.YtgbpccipdcajgaaGreatDoor
open Go.RowKit
attribute [local go_sem ↓] Go.wp_at_zero Go.wp_at_succ
def posOf (w : World) (b : Nat) : Nat := match w.cell? ⟨b, 1, none⟩ with | some (.int _ k) => k.toNat | _ => 0
theorem Rd.pos {C : Rc} {i d : Nat} {w : World} (R : Rd C i d w) : posOf w C.b = i := by simp [posOf, R.c1]

theorem set_row {w : World} {N k : Nat} {v : Value} {cur : Array Value} {t : TypeId} (h : w.heap[N]? = some (.cells cur t (0, 0))) : (w.setCell ⟨N, k, none⟩ v).heap[N]? = some (.cells (cur.setIfInBounds k v) t (0, 0)) := by
 simp [World.setCell, Array.getElem?_modify, h]
theorem set4_row {w : World} {N : Nat} {a b c e x y z u : Value} {t : TypeId} (h : w.heap[N]? = some (.cells #[x, y, z, u] t (0, 0))) : (set4 w N a b c e).heap[N]? = some (.cells #[a, b, c, e] t (0, 0)) :=
 set_row (set_row (set_row (set_row h)))
theorem two_new (w : World) (o1 o2 : Obj) : ((w.alloc o1).alloc o2).heap[w.heap.size + 1]? = some o2 := by
 have := heap_alloc_new (w.alloc o1) o2
 rw [World.size_alloc] at this; exact this

set_option maxRecDepth 100000 in
set_option maxHeartbeats 1000000 in
theorem fromLeft_and (n : Nat) (hK : Fits 168 (Lv.part .or) n) (C : Rc) (i d : Nat) (w : World) (T : Tkl C.l) (R : Rd C i d w) (hn : C.l.length - i ≤ n) (q c m : Nat) (hq : w.heap[q]? = some (.cells (strCells (Lv.ops .or)) 9 (0, 0))) (hqb : q ≠ C.b) (hm : (Lv.ops .or).length = m) :
  Calls Tryz.prog 167 #[.pointer (some ⟨C.b, 0, none⟩), .func (.func 168) #[.pointer (some ⟨C.b, 0, none⟩)] #[], .slice (some ⟨q, 0, none⟩) m c] w (Ret C (.left .or) i d w (TermV w.heap.size)) := by
 have HK : Hid (Fits 168 (Lv.part .or) n) := hK
 have HQ : Hid _ := hq
 have HM : Hid ((Lv.ops .or).length = m) := hm
 clear hK hq hm
 have hm1000 : m ≤ 1000 := by rw [← HM.out]; decide
 have hbA : Below w.heap.size w (w.alloc (.cells #[.string ⟨#[]⟩, .int .i64 0, .string ⟨#[]⟩, .slice none 0 0] 105)) := (Below.refl _ _).alloc (Nat.le_refl _) _
 have hbl := R.blt
 have hql : q < w.heap.size := (Array.getElem?_eq_some_iff.1 HQ.out).1
 go_enter Tryz.func167, Tryz.ntmps167
 go_wp2_with fail
 refine (HK.out C i d _ T (R.below hbA) hn).mono ?_
 rintro e w1 ⟨hm1, h1⟩
 have hs1 := hm1.size
 simp only [World.size_alloc] at hs1
 rcases h1 with ⟨es, j, v, hp, rfl, ⟨ex, rfl, hv⟩, R1, hij⟩ | ⟨j, bd, hp, hj, p, rfl, q0, q1⟩
 ·obtain ⟨op, x, s, l, so, sc, ys, rfl, rfl, hrow, hin⟩ := hv.one
  have hr1 := alloc_row (.cells #[.string op, .int .i64 x, .string s, .slice so l.length sc] 105) (hm1.row (k := w.heap.size) (by omega) (heap_alloc_new w _))
  have hn1 := heap_alloc_new w1 (.cells #[.string op, .int .i64 x, .string s, .slice so l.length sc] 105)
  have HR1 : Hid _ := hr1
  have HN1 : Hid _ := hn1
  clear hr1 hn1
  have hbB : Below w1.heap.size w1 (w1.alloc (.cells #[.string op, .int .i64 x, .string s, .slice so l.length sc] 105)) := (Below.refl _ _).alloc (Nat.le_refl _) _
  have HP : Hid (∀ r, Parse C.l (.loop .or [.mk op x s l]) j d r → Parse C.l (.left .or) i d r) := fun r h => Parse.left .or hp h
  go_wp2
  go_loopw [] (fun wr => ∃ (op : ByteArray) (x : Int) (s : ByteArray) (l : List Ex) (so : Option Addr) (sc : Nat) (ys : List Value) (j : Nat), Rd C j d wr ∧ Hid (wr.heap[w1.heap.size]? = some (.cells #[.string op, .int .i64 x, .string s, .slice so l.length sc] 105 (0, 0))) ∧ Hid (wr.heap[w.heap.size]? = some (.cells #[.string ⟨#[]⟩, .int .i64 0, .string ⟨#[]⟩, .slice none 0 0] 105 (0, 0))) ∧ RowAt wr (fun k => w.heap.size < k ∧ k ≠ w1.heap.size) 4 (.slice so l.length sc) l.length ys ∧ ExIn wr (fun k => w.heap.size < k ∧ k ≠ w1.heap.size) l ys ∧ Mv C.b w wr ∧ i < j ∧ w1.heap.size < wr.heap.size ∧ Hid (∀ r, Parse C.l (.loop .or [.mk op x s l]) j d r → Parse C.l (.left .or) i d r)) (fun wr => C.l.length - posOf wr C.b)
  case atStart =>
   have St : Stays (From (w.heap.size + 1)) (fun k => w.heap.size < k ∧ k ≠ w1.heap.size) w1 (w1.alloc (.cells #[.string op, .int .i64 x, .string s, .slice so l.length sc] 105)) := fun k hk hl => ⟨⟨by unfold From at hk; omega, by omega⟩, hbB.block k hl⟩
   simp only [World.size_alloc] at hrow hin
   exact ⟨op, x, s, l, so, sc, ys, j, R1.below hbB, HN1, HR1, hrow.keep St, hin.keep St, ((Mv.of_below hbA).trans hm1).trans (Mv.of_below hbB), hij, by simp, HP⟩
  case round =>
   clear hrow hin hv hp HP R1 HN1 HR1 hbB
   obtain ⟨op, x, s, l, so, sc, ys, j, Rr, HN, HZ, hrow, hin, hmr, hijr, hszr, HP⟩ := hrel
   have hqr := hmr.row hqb HQ.out
   have HQr : Hid _ := hqr
   clear hqr
   by_cases h : txs C.l j (Lv.ops .or) = true
   ·have hj1 : j + 1 < C.l.length := T.next_txs Rr.lt (by decide) h
    go_wp2_with fail
    refine (is_any C j d _ Rr q m c (Lv.ops .or) HQr.out HM.out hm1000).mono ?_
    rintro e w2 ⟨rfl, hb2⟩
    go_wp2_with fail
    refine (take_any C j d _ (Rr.below hb2) hj1).mono ?_
    rintro e w3 ⟨rfl, R3, hm3⟩
    go_wp2_with fail
    refine (HK.out C (j + 1) d _ T R3 (by omega)).mono ?_
    rintro e w4 ⟨hm4, h4⟩
    rcases h4 with ⟨es, j', v, hp, rfl, ⟨ex, rfl, hv⟩, R4, hij'⟩ | ⟨j', bd, hp, hj', p, rfl, q0, q1⟩
    ·obtain ⟨op', x', s', l', so', sc', ys', rfl, rfl, hrow', hin'⟩ := hv.one
     have hs2 := hb2.size
     have hs3 := hm3.size
     have hs4 := hm4.size
     have hmm : Mv C.b wr w4 := ((Mv.of_below hb2).trans hm3).trans hm4
     obtain ⟨c0, c1, c2, c3, cf⟩ := blk4 (hmm.row (by omega) HN.out)
     have hlt4 : w1.heap.size < w4.heap.size := by omega
     have hne4 : w1.heap.size ≠ w4.heap.size := by omega
     have hn4 := hmm.row (k := w1.heap.size) (by omega) HN.out
     have hz4 := hmm.row (k := w.heap.size) (by omega) HZ.out
     have HN4 : Hid _ := hn4
     have HZ4 : Hid _ := hz4
     clear hn4 hz4
     go_wp2
     have hW0 : Below w.heap.size w4 (set4 w4 w1.heap.size (.string (tkx C.l j)) (.int .i64 0) (.string ⟨#[]⟩) (.slice (some ⟨w4.heap.size + 1, 0, none⟩) 2 2)) := set4_below (by omega)
     have hsz0 : (set4 w4 w1.heap.size (.string (tkx C.l j)) (.int .i64 0) (.string ⟨#[]⟩) (.slice (some ⟨w4.heap.size + 1, 0, none⟩) 2 2)).heap.size = w4.heap.size := set4_size
     have hP0 := set4_row (a := .string (tkx C.l j)) (b := .int .i64 0) (c := .string ⟨#[]⟩) (e := .slice (some ⟨w4.heap.size + 1, 0, none⟩) 2 2) HN4.out
     have hZ0 : (set4 w4 w1.heap.size (.string (tkx C.l j)) (.int .i64 0) (.string ⟨#[]⟩) (.slice (some ⟨w4.heap.size + 1, 0, none⟩) 2 2)).heap[w.heap.size]? = _ := (set4_block (by omega)).trans HZ4.out
     have St0 : Stays (fun k => w.heap.size < k ∧ k ≠ w1.heap.size) (fun k => w.heap.size < k ∧ k ≠ w1.heap.size) wr (set4 w4 w1.heap.size (.string (tkx C.l j)) (.int .i64 0) (.string ⟨#[]⟩) (.slice (some ⟨w4.heap.size + 1, 0, none⟩) 2 2)) := (Stays.mv hmm (fun k hk => ⟨by omega, hk⟩)).trans (set4_stays (fun k hk => ⟨hk.2, hk⟩)) (by omega)
     have St1 : Stays (From w3.heap.size) (fun k => w.heap.size < k ∧ k ≠ w1.heap.size) w4 (set4 w4 w1.heap.size (.string (tkx C.l j)) (.int .i64 0) (.string ⟨#[]⟩) (.slice (some ⟨w4.heap.size + 1, 0, none⟩) 2 2)) := set4_stays (fun k hk => by unfold From at hk; omega)
     have hnw := two_new (set4 w4 w1.heap.size (.string (tkx C.l j)) (.int .i64 0) (.string ⟨#[]⟩) (.slice (some ⟨w4.heap.size + 1, 0, none⟩) 2 2)) (.cells #[.string op', .int .i64 x', .string s', .slice so' l'.length sc'] 105) (.cells #[.string op, .int .i64 x, .string s, .slice so l.length sc, .string op', .int .i64 x', .string s', .slice so' l'.length sc'] 105)
     rw [hsz0] at hnw
     have hbW : Below w4.heap.size (set4 w4 w1.heap.size (.string (tkx C.l j)) (.int .i64 0) (.string ⟨#[]⟩) (.slice (some ⟨w4.heap.size + 1, 0, none⟩) 2 2)) (((set4 w4 w1.heap.size (.string (tkx C.l j)) (.int .i64 0) (.string ⟨#[]⟩) (.slice (some ⟨w4.heap.size + 1, 0, none⟩) 2 2)).alloc (.cells #[.string op', .int .i64 x', .string s', .slice so' l'.length sc'] 105)).alloc (.cells #[.string op, .int .i64 x, .string s, .slice so l.length sc, .string op', .int .i64 x', .string s', .slice so' l'.length sc'] 105)) := ((Below.refl _ _).alloc (by rw [hsz0]; exact Nat.le_refl _) _).alloc (by simp [hsz0]) _
     have St2 := St0.trans (Stays.below (S' := fun k => w.heap.size < k ∧ k ≠ w1.heap.size) (by rw [hsz0]; exact hbW) (fun k hk => hk)) (by rw [hsz0]; omega)
     have St3 := St1.trans (Stays.below (S' := fun k => w.heap.size < k ∧ k ≠ w1.heap.size) (by rw [hsz0]; exact hbW) (fun k hk => hk)) (by rw [hsz0]; omega)
     have hB : Below w.heap.size w4 _ := hW0.trans (hbW.mono (by omega))
     have R5 := R.upon R4 hB
     have hM := (hmr.trans hmm).upon hB
     have e1 := Rr.pos
     have e2 := R5.pos
     have l2 := R4.lt
     refine ⟨⟨tkx C.l j, 0, ⟨#[]⟩, [.mk op x s l, .mk op' x' s' l'], some ⟨w4.heap.size + 1, 0, none⟩, 2, [.string op, .int .i64 x, .string s, .slice so l.length sc, .string op', .int .i64 x', .string s', .slice so' l'.length sc'], j', R5, ?_, ?_, ?_, ?_, hM, by omega, ?_, ?_⟩, ?_⟩
     ·exact (hbW.block w1.heap.size (by omega)).trans hP0
     ·exact (hbW.block w.heap.size (by omega)).trans hZ0
     ·exact RowAt.blk hnw rfl rfl (by simp [maxLen]) ⟨by omega, by omega⟩
     ·exact .cons op x s l _ _ ys _ (hrow.keep St2) (hin.keep St2) (.cons op' x' s' l' _ _ ys' _ (hrow'.keep St3) (hin'.keep St3) .nil)
     ·have := hbW.size; rw [hsz0] at this; exact Nat.lt_of_lt_of_le hlt4 this
     ·exact fun r hr => HP.out _ (Parse.loopMore .or h hp hr)
     ·rw [e1]; exact Nat.lt_of_le_of_lt (Nat.sub_le_sub_left (Nat.le_of_eq e2.symm) _) (by omega)
    ·go_wp2
     exact ⟨rfl, hmr.trans (((Mv.of_below hb2).trans hm3).trans hm4), Or.inr ⟨j', bd, HP.out _ (Parse.loopBad .or h hp), hj', p, rfl, q0, q1⟩⟩
   ·have h' : txs C.l j (Lv.ops .or) = false := by simpa using h
    clear h
    go_wp2_with fail
    refine (is_any C j d _ Rr q m c (Lv.ops .or) HQr.out HM.out hm1000).mono ?_
    rintro e w2 ⟨rfl, hb2⟩
    have hs2 := hb2.size
    obtain ⟨c0, c1, c2, c3, cf⟩ := blk4 (row_keep hb2 HN.out)
    obtain ⟨z0, z1, z2, z3, zf⟩ := blk4 (row_keep hb2 HZ.out)
    go_wp2
    have hW : Below w.heap.size w2 (set4 w2 w.heap.size (.string op) (.int .i64 x) (.string s) (.slice so l.length sc)) := set4_below (Nat.le_refl _)
    have St : Stays (fun k => w.heap.size < k ∧ k ≠ w1.heap.size) (From w.heap.size) wr (set4 w2 w.heap.size (.string op) (.int .i64 x) (.string s) (.slice so l.length sc)) := (Stays.below hb2 (fun k hk => hk)).trans (set4_stays (fun k hk => ⟨by omega, by unfold From; omega⟩)) hs2
    exact bodyPost_ret (v := .agg #[.string op, .int .i64 x, .string s, .slice so l.length sc]) (by simp [results, Tryz.results167, go_sem, z0, z1, z2, z3]) rfl ⟨(hmr.trans (Mv.of_below hb2)).upon hW, Or.inl ⟨[.mk op x s l], j, _, HP.out _ (Parse.loopStop .or h'), rfl, ⟨_, rfl, .mk (hrow.keep St) (hin.keep St)⟩, R.upon (Rr.below hb2) hW, hijr⟩⟩
 ·go_wp2
  exact ⟨rfl, (Mv.of_below hbA).trans hm1, Or.inr ⟨j, bd, Run.stop hp, hj, p, rfl, q0, q1⟩⟩

set_option maxRecDepth 100000 in
set_option maxHeartbeats 1000000 in
theorem fromLeft_not (n : Nat) (hK : Fits 178 (Lv.part .and) n) (C : Rc) (i d : Nat) (w : World) (T : Tkl C.l) (R : Rd C i d w) (hn : C.l.length - i ≤ n) (q c m : Nat) (hq : w.heap[q]? = some (.cells (strCells (Lv.ops .and)) 9 (0, 0))) (hqb : q ≠ C.b) (hm : (Lv.ops .and).length = m) :
  Calls Tryz.prog 167 #[.pointer (some ⟨C.b, 0, none⟩), .func (.func 178) #[.pointer (some ⟨C.b, 0, none⟩)] #[], .slice (some ⟨q, 0, none⟩) m c] w (Ret C (.left .and) i d w (TermV w.heap.size)) := by
 have HK : Hid (Fits 178 (Lv.part .and) n) := hK
 have HQ : Hid _ := hq
 have HM : Hid ((Lv.ops .and).length = m) := hm
 clear hK hq hm
 have hm1000 : m ≤ 1000 := by rw [← HM.out]; decide
 have hbA : Below w.heap.size w (w.alloc (.cells #[.string ⟨#[]⟩, .int .i64 0, .string ⟨#[]⟩, .slice none 0 0] 105)) := (Below.refl _ _).alloc (Nat.le_refl _) _
 have hbl := R.blt
 have hql : q < w.heap.size := (Array.getElem?_eq_some_iff.1 HQ.out).1
 go_enter Tryz.func167, Tryz.ntmps167
 go_wp2_with fail
 refine (HK.out C i d _ T (R.below hbA) hn).mono ?_
 rintro e w1 ⟨hm1, h1⟩
 have hs1 := hm1.size
 simp only [World.size_alloc] at hs1
 rcases h1 with ⟨es, j, v, hp, rfl, ⟨ex, rfl, hv⟩, R1, hij⟩ | ⟨j, bd, hp, hj, p, rfl, q0, q1⟩
 ·obtain ⟨op, x, s, l, so, sc, ys, rfl, rfl, hrow, hin⟩ := hv.one
  have hr1 := alloc_row (.cells #[.string op, .int .i64 x, .string s, .slice so l.length sc] 105) (hm1.row (k := w.heap.size) (by omega) (heap_alloc_new w _))
  have hn1 := heap_alloc_new w1 (.cells #[.string op, .int .i64 x, .string s, .slice so l.length sc] 105)
  have HR1 : Hid _ := hr1
  have HN1 : Hid _ := hn1
  clear hr1 hn1
  have hbB : Below w1.heap.size w1 (w1.alloc (.cells #[.string op, .int .i64 x, .string s, .slice so l.length sc] 105)) := (Below.refl _ _).alloc (Nat.le_refl _) _
  have HP : Hid (∀ r, Parse C.l (.loop .and [.mk op x s l]) j d r → Parse C.l (.left .and) i d r) := fun r h => Parse.left .and hp h
  go_wp2
  go_loopw [] (fun wr => ∃ (op : ByteArray) (x : Int) (s : ByteArray) (l : List Ex) (so : Option Addr) (sc : Nat) (ys : List Value) (j : Nat), Rd C j d wr ∧ Hid (wr.heap[w1.heap.size]? = some (.cells #[.string op, .int .i64 x, .string s, .slice so l.length sc] 105 (0, 0))) ∧ Hid (wr.heap[w.heap.size]? = some (.cells #[.string ⟨#[]⟩, .int .i64 0, .string ⟨#[]⟩, .slice none 0 0] 105 (0, 0))) ∧ RowAt wr (fun k => w.heap.size < k ∧ k ≠ w1.heap.size) 4 (.slice so l.length sc) l.length ys ∧ ExIn wr (fun k => w.heap.size < k ∧ k ≠ w1.heap.size) l ys ∧ Mv C.b w wr ∧ i < j ∧ w1.heap.size < wr.heap.size ∧ Hid (∀ r, Parse C.l (.loop .and [.mk op x s l]) j d r → Parse C.l (.left .and) i d r)) (fun wr => C.l.length - posOf wr C.b)
  case atStart =>
   have St : Stays (From (w.heap.size + 1)) (fun k => w.heap.size < k ∧ k ≠ w1.heap.size) w1 (w1.alloc (.cells #[.string op, .int .i64 x, .string s, .slice so l.length sc] 105)) := fun k hk hl => ⟨⟨by unfold From at hk; omega, by omega⟩, hbB.block k hl⟩
   simp only [World.size_alloc] at hrow hin
   exact ⟨op, x, s, l, so, sc, ys, j, R1.below hbB, HN1, HR1, hrow.keep St, hin.keep St, ((Mv.of_below hbA).trans hm1).trans (Mv.of_below hbB), hij, by simp, HP⟩
  case round =>
   clear hrow hin hv hp HP R1 HN1 HR1 hbB
   obtain ⟨op, x, s, l, so, sc, ys, j, Rr, HN, HZ, hrow, hin, hmr, hijr, hszr, HP⟩ := hrel
   have hqr := hmr.row hqb HQ.out
   have HQr : Hid _ := hqr
   clear hqr
   by_cases h : txs C.l j (Lv.ops .and) = true
   ·have hj1 : j + 1 < C.l.length := T.next_txs Rr.lt (by decide) h
    go_wp2_with fail
    refine (is_any C j d _ Rr q m c (Lv.ops .and) HQr.out HM.out hm1000).mono ?_
    rintro e w2 ⟨rfl, hb2⟩
    go_wp2_with fail
    refine (take_any C j d _ (Rr.below hb2) hj1).mono ?_
    rintro e w3 ⟨rfl, R3, hm3⟩
    go_wp2_with fail
    refine (HK.out C (j + 1) d _ T R3 (by omega)).mono ?_
    rintro e w4 ⟨hm4, h4⟩
    rcases h4 with ⟨es, j', v, hp, rfl, ⟨ex, rfl, hv⟩, R4, hij'⟩ | ⟨j', bd, hp, hj', p, rfl, q0, q1⟩
    ·obtain ⟨op', x', s', l', so', sc', ys', rfl, rfl, hrow', hin'⟩ := hv.one
     have hs2 := hb2.size
     have hs3 := hm3.size
     have hs4 := hm4.size
     have hmm : Mv C.b wr w4 := ((Mv.of_below hb2).trans hm3).trans hm4
     obtain ⟨c0, c1, c2, c3, cf⟩ := blk4 (hmm.row (by omega) HN.out)
     have hlt4 : w1.heap.size < w4.heap.size := by omega
     have hne4 : w1.heap.size ≠ w4.heap.size := by omega
     have hn4 := hmm.row (k := w1.heap.size) (by omega) HN.out
     have hz4 := hmm.row (k := w.heap.size) (by omega) HZ.out
     have HN4 : Hid _ := hn4
     have HZ4 : Hid _ := hz4
     clear hn4 hz4
     go_wp2
     have hW0 : Below w.heap.size w4 (set4 w4 w1.heap.size (.string (tkx C.l j)) (.int .i64 0) (.string ⟨#[]⟩) (.slice (some ⟨w4.heap.size + 1, 0, none⟩) 2 2)) := set4_below (by omega)
     have hsz0 : (set4 w4 w1.heap.size (.string (tkx C.l j)) (.int .i64 0) (.string ⟨#[]⟩) (.slice (some ⟨w4.heap.size + 1, 0, none⟩) 2 2)).heap.size = w4.heap.size := set4_size
     have hP0 := set4_row (a := .string (tkx C.l j)) (b := .int .i64 0) (c := .string ⟨#[]⟩) (e := .slice (some ⟨w4.heap.size + 1, 0, none⟩) 2 2) HN4.out
     have hZ0 : (set4 w4 w1.heap.size (.string (tkx C.l j)) (.int .i64 0) (.string ⟨#[]⟩) (.slice (some ⟨w4.heap.size + 1, 0, none⟩) 2 2)).heap[w.heap.size]? = _ := (set4_block (by omega)).trans HZ4.out
     have St0 : Stays (fun k => w.heap.size < k ∧ k ≠ w1.heap.size) (fun k => w.heap.size < k ∧ k ≠ w1.heap.size) wr (set4 w4 w1.heap.size (.string (tkx C.l j)) (.int .i64 0) (.string ⟨#[]⟩) (.slice (some ⟨w4.heap.size + 1, 0, none⟩) 2 2)) := (Stays.mv hmm (fun k hk => ⟨by omega, hk⟩)).trans (set4_stays (fun k hk => ⟨hk.2, hk⟩)) (by omega)
     have St1 : Stays (From w3.heap.size) (fun k => w.heap.size < k ∧ k ≠ w1.heap.size) w4 (set4 w4 w1.heap.size (.string (tkx C.l j)) (.int .i64 0) (.string ⟨#[]⟩) (.slice (some ⟨w4.heap.size + 1, 0, none⟩) 2 2)) := set4_stays (fun k hk => by unfold From at hk; omega)
     have hnw := two_new (set4 w4 w1.heap.size (.string (tkx C.l j)) (.int .i64 0) (.string ⟨#[]⟩) (.slice (some ⟨w4.heap.size + 1, 0, none⟩) 2 2)) (.cells #[.string op', .int .i64 x', .string s', .slice so' l'.length sc'] 105) (.cells #[.string op, .int .i64 x, .string s, .slice so l.length sc, .string op', .int .i64 x', .string s', .slice so' l'.length sc'] 105)
     rw [hsz0] at hnw
     have hbW : Below w4.heap.size (set4 w4 w1.heap.size (.string (tkx C.l j)) (.int .i64 0) (.string ⟨#[]⟩) (.slice (some ⟨w4.heap.size + 1, 0, none⟩) 2 2)) (((set4 w4 w1.heap.size (.string (tkx C.l j)) (.int .i64 0) (.string ⟨#[]⟩) (.slice (some ⟨w4.heap.size + 1, 0, none⟩) 2 2)).alloc (.cells #[.string op', .int .i64 x', .string s', .slice so' l'.length sc'] 105)).alloc (.cells #[.string op, .int .i64 x, .string s, .slice so l.length sc, .string op', .int .i64 x', .string s', .slice so' l'.length sc'] 105)) := ((Below.refl _ _).alloc (by rw [hsz0]; exact Nat.le_refl _) _).alloc (by simp [hsz0]) _
     have St2 := St0.trans (Stays.below (S' := fun k => w.heap.size < k ∧ k ≠ w1.heap.size) (by rw [hsz0]; exact hbW) (fun k hk => hk)) (by rw [hsz0]; omega)
     have St3 := St1.trans (Stays.below (S' := fun k => w.heap.size < k ∧ k ≠ w1.heap.size) (by rw [hsz0]; exact hbW) (fun k hk => hk)) (by rw [hsz0]; omega)
     have hB : Below w.heap.size w4 _ := hW0.trans (hbW.mono (by omega))
     have R5 := R.upon R4 hB
     have hM := (hmr.trans hmm).upon hB
     have e1 := Rr.pos
     have e2 := R5.pos
     have l2 := R4.lt
     refine ⟨⟨tkx C.l j, 0, ⟨#[]⟩, [.mk op x s l, .mk op' x' s' l'], some ⟨w4.heap.size + 1, 0, none⟩, 2, [.string op, .int .i64 x, .string s, .slice so l.length sc, .string op', .int .i64 x', .string s', .slice so' l'.length sc'], j', R5, ?_, ?_, ?_, ?_, hM, by omega, ?_, ?_⟩, ?_⟩
     ·exact (hbW.block w1.heap.size (by omega)).trans hP0
     ·exact (hbW.block w.heap.size (by omega)).trans hZ0
     ·exact RowAt.blk hnw rfl rfl (by simp [maxLen]) ⟨by omega, by omega⟩
     ·exact .cons op x s l _ _ ys _ (hrow.keep St2) (hin.keep St2) (.cons op' x' s' l' _ _ ys' _ (hrow'.keep St3) (hin'.keep St3) .nil)
     ·have := hbW.size; rw [hsz0] at this; exact Nat.lt_of_lt_of_le hlt4 this
     ·exact fun r hr => HP.out _ (Parse.loopMore .and h hp hr)
     ·rw [e1]; exact Nat.lt_of_le_of_lt (Nat.sub_le_sub_left (Nat.le_of_eq e2.symm) _) (by omega)
    ·go_wp2
     exact ⟨rfl, hmr.trans (((Mv.of_below hb2).trans hm3).trans hm4), Or.inr ⟨j', bd, HP.out _ (Parse.loopBad .and h hp), hj', p, rfl, q0, q1⟩⟩
   ·have h' : txs C.l j (Lv.ops .and) = false := by simpa using h
    clear h
    go_wp2_with fail
    refine (is_any C j d _ Rr q m c (Lv.ops .and) HQr.out HM.out hm1000).mono ?_
    rintro e w2 ⟨rfl, hb2⟩
    have hs2 := hb2.size
    obtain ⟨c0, c1, c2, c3, cf⟩ := blk4 (row_keep hb2 HN.out)
    obtain ⟨z0, z1, z2, z3, zf⟩ := blk4 (row_keep hb2 HZ.out)
    go_wp2
    have hW : Below w.heap.size w2 (set4 w2 w.heap.size (.string op) (.int .i64 x) (.string s) (.slice so l.length sc)) := set4_below (Nat.le_refl _)
    have St : Stays (fun k => w.heap.size < k ∧ k ≠ w1.heap.size) (From w.heap.size) wr (set4 w2 w.heap.size (.string op) (.int .i64 x) (.string s) (.slice so l.length sc)) := (Stays.below hb2 (fun k hk => hk)).trans (set4_stays (fun k hk => ⟨by omega, by unfold From; omega⟩)) hs2
    exact bodyPost_ret (v := .agg #[.string op, .int .i64 x, .string s, .slice so l.length sc]) (by simp [results, Tryz.results167, go_sem, z0, z1, z2, z3]) rfl ⟨(hmr.trans (Mv.of_below hb2)).upon hW, Or.inl ⟨[.mk op x s l], j, _, HP.out _ (Parse.loopStop .and h'), rfl, ⟨_, rfl, .mk (hrow.keep St) (hin.keep St)⟩, R.upon (Rr.below hb2) hW, hijr⟩⟩
 ·go_wp2
  exact ⟨rfl, (Mv.of_below hbA).trans hm1, Or.inr ⟨j, bd, Run.stop hp, hj, p, rfl, q0, q1⟩⟩

set_option maxRecDepth 100000 in
set_option maxHeartbeats 1000000 in
theorem fromLeft_prod (n : Nat) (hK : Fits 195 (Lv.part .sum) n) (C : Rc) (i d : Nat) (w : World) (T : Tkl C.l) (R : Rd C i d w) (hn : C.l.length - i ≤ n) (q c m : Nat) (hq : w.heap[q]? = some (.cells (strCells (Lv.ops .sum)) 9 (0, 0))) (hqb : q ≠ C.b) (hm : (Lv.ops .sum).length = m) :
  Calls Tryz.prog 167 #[.pointer (some ⟨C.b, 0, none⟩), .func (.func 195) #[.pointer (some ⟨C.b, 0, none⟩)] #[], .slice (some ⟨q, 0, none⟩) m c] w (Ret C (.left .sum) i d w (TermV w.heap.size)) := by
 have HK : Hid (Fits 195 (Lv.part .sum) n) := hK
 have HQ : Hid _ := hq
 have HM : Hid ((Lv.ops .sum).length = m) := hm
 clear hK hq hm
 have hm1000 : m ≤ 1000 := by rw [← HM.out]; decide
 have hbA : Below w.heap.size w (w.alloc (.cells #[.string ⟨#[]⟩, .int .i64 0, .string ⟨#[]⟩, .slice none 0 0] 105)) := (Below.refl _ _).alloc (Nat.le_refl _) _
 have hbl := R.blt
 have hql : q < w.heap.size := (Array.getElem?_eq_some_iff.1 HQ.out).1
 go_enter Tryz.func167, Tryz.ntmps167
 go_wp2_with fail
 refine (HK.out C i d _ T (R.below hbA) hn).mono ?_
 rintro e w1 ⟨hm1, h1⟩
 have hs1 := hm1.size
 simp only [World.size_alloc] at hs1
 rcases h1 with ⟨es, j, v, hp, rfl, ⟨ex, rfl, hv⟩, R1, hij⟩ | ⟨j, bd, hp, hj, p, rfl, q0, q1⟩
 ·obtain ⟨op, x, s, l, so, sc, ys, rfl, rfl, hrow, hin⟩ := hv.one
  have hr1 := alloc_row (.cells #[.string op, .int .i64 x, .string s, .slice so l.length sc] 105) (hm1.row (k := w.heap.size) (by omega) (heap_alloc_new w _))
  have hn1 := heap_alloc_new w1 (.cells #[.string op, .int .i64 x, .string s, .slice so l.length sc] 105)
  have HR1 : Hid _ := hr1
  have HN1 : Hid _ := hn1
  clear hr1 hn1
  have hbB : Below w1.heap.size w1 (w1.alloc (.cells #[.string op, .int .i64 x, .string s, .slice so l.length sc] 105)) := (Below.refl _ _).alloc (Nat.le_refl _) _
  have HP : Hid (∀ r, Parse C.l (.loop .sum [.mk op x s l]) j d r → Parse C.l (.left .sum) i d r) := fun r h => Parse.left .sum hp h
  go_wp2
  go_loopw [] (fun wr => ∃ (op : ByteArray) (x : Int) (s : ByteArray) (l : List Ex) (so : Option Addr) (sc : Nat) (ys : List Value) (j : Nat), Rd C j d wr ∧ Hid (wr.heap[w1.heap.size]? = some (.cells #[.string op, .int .i64 x, .string s, .slice so l.length sc] 105 (0, 0))) ∧ Hid (wr.heap[w.heap.size]? = some (.cells #[.string ⟨#[]⟩, .int .i64 0, .string ⟨#[]⟩, .slice none 0 0] 105 (0, 0))) ∧ RowAt wr (fun k => w.heap.size < k ∧ k ≠ w1.heap.size) 4 (.slice so l.length sc) l.length ys ∧ ExIn wr (fun k => w.heap.size < k ∧ k ≠ w1.heap.size) l ys ∧ Mv C.b w wr ∧ i < j ∧ w1.heap.size < wr.heap.size ∧ Hid (∀ r, Parse C.l (.loop .sum [.mk op x s l]) j d r → Parse C.l (.left .sum) i d r)) (fun wr => C.l.length - posOf wr C.b)
  case atStart =>
   have St : Stays (From (w.heap.size + 1)) (fun k => w.heap.size < k ∧ k ≠ w1.heap.size) w1 (w1.alloc (.cells #[.string op, .int .i64 x, .string s, .slice so l.length sc] 105)) := fun k hk hl => ⟨⟨by unfold From at hk; omega, by omega⟩, hbB.block k hl⟩
   simp only [World.size_alloc] at hrow hin
   exact ⟨op, x, s, l, so, sc, ys, j, R1.below hbB, HN1, HR1, hrow.keep St, hin.keep St, ((Mv.of_below hbA).trans hm1).trans (Mv.of_below hbB), hij, by simp, HP⟩
  case round =>
   clear hrow hin hv hp HP R1 HN1 HR1 hbB
   obtain ⟨op, x, s, l, so, sc, ys, j, Rr, HN, HZ, hrow, hin, hmr, hijr, hszr, HP⟩ := hrel
   have hqr := hmr.row hqb HQ.out
   have HQr : Hid _ := hqr
   clear hqr
   by_cases h : txs C.l j (Lv.ops .sum) = true
   ·have hj1 : j + 1 < C.l.length := T.next_txs Rr.lt (by decide) h
    go_wp2_with fail
    refine (is_any C j d _ Rr q m c (Lv.ops .sum) HQr.out HM.out hm1000).mono ?_
    rintro e w2 ⟨rfl, hb2⟩
    go_wp2_with fail
    refine (take_any C j d _ (Rr.below hb2) hj1).mono ?_
    rintro e w3 ⟨rfl, R3, hm3⟩
    go_wp2_with fail
    refine (HK.out C (j + 1) d _ T R3 (by omega)).mono ?_
    rintro e w4 ⟨hm4, h4⟩
    rcases h4 with ⟨es, j', v, hp, rfl, ⟨ex, rfl, hv⟩, R4, hij'⟩ | ⟨j', bd, hp, hj', p, rfl, q0, q1⟩
    ·obtain ⟨op', x', s', l', so', sc', ys', rfl, rfl, hrow', hin'⟩ := hv.one
     have hs2 := hb2.size
     have hs3 := hm3.size
     have hs4 := hm4.size
     have hmm : Mv C.b wr w4 := ((Mv.of_below hb2).trans hm3).trans hm4
     obtain ⟨c0, c1, c2, c3, cf⟩ := blk4 (hmm.row (by omega) HN.out)
     have hlt4 : w1.heap.size < w4.heap.size := by omega
     have hne4 : w1.heap.size ≠ w4.heap.size := by omega
     have hn4 := hmm.row (k := w1.heap.size) (by omega) HN.out
     have hz4 := hmm.row (k := w.heap.size) (by omega) HZ.out
     have HN4 : Hid _ := hn4
     have HZ4 : Hid _ := hz4
     clear hn4 hz4
     go_wp2
     have hW0 : Below w.heap.size w4 (set4 w4 w1.heap.size (.string (tkx C.l j)) (.int .i64 0) (.string ⟨#[]⟩) (.slice (some ⟨w4.heap.size + 1, 0, none⟩) 2 2)) := set4_below (by omega)
     have hsz0 : (set4 w4 w1.heap.size (.string (tkx C.l j)) (.int .i64 0) (.string ⟨#[]⟩) (.slice (some ⟨w4.heap.size + 1, 0, none⟩) 2 2)).heap.size = w4.heap.size := set4_size
     have hP0 := set4_row (a := .string (tkx C.l j)) (b := .int .i64 0) (c := .string ⟨#[]⟩) (e := .slice (some ⟨w4.heap.size + 1, 0, none⟩) 2 2) HN4.out
     have hZ0 : (set4 w4 w1.heap.size (.string (tkx C.l j)) (.int .i64 0) (.string ⟨#[]⟩) (.slice (some ⟨w4.heap.size + 1, 0, none⟩) 2 2)).heap[w.heap.size]? = _ := (set4_block (by omega)).trans HZ4.out
     have St0 : Stays (fun k => w.heap.size < k ∧ k ≠ w1.heap.size) (fun k => w.heap.size < k ∧ k ≠ w1.heap.size) wr (set4 w4 w1.heap.size (.string (tkx C.l j)) (.int .i64 0) (.string ⟨#[]⟩) (.slice (some ⟨w4.heap.size + 1, 0, none⟩) 2 2)) := (Stays.mv hmm (fun k hk => ⟨by omega, hk⟩)).trans (set4_stays (fun k hk => ⟨hk.2, hk⟩)) (by omega)
     have St1 : Stays (From w3.heap.size) (fun k => w.heap.size < k ∧ k ≠ w1.heap.size) w4 (set4 w4 w1.heap.size (.string (tkx C.l j)) (.int .i64 0) (.string ⟨#[]⟩) (.slice (some ⟨w4.heap.size + 1, 0, none⟩) 2 2)) := set4_stays (fun k hk => by unfold From at hk; omega)
     have hnw := two_new (set4 w4 w1.heap.size (.string (tkx C.l j)) (.int .i64 0) (.string ⟨#[]⟩) (.slice (some ⟨w4.heap.size + 1, 0, none⟩) 2 2)) (.cells #[.string op', .int .i64 x', .string s', .slice so' l'.length sc'] 105) (.cells #[.string op, .int .i64 x, .string s, .slice so l.length sc, .string op', .int .i64 x', .string s', .slice so' l'.length sc'] 105)
     rw [hsz0] at hnw
     have hbW : Below w4.heap.size (set4 w4 w1.heap.size (.string (tkx C.l j)) (.int .i64 0) (.string ⟨#[]⟩) (.slice (some ⟨w4.heap.size + 1, 0, none⟩) 2 2)) (((set4 w4 w1.heap.size (.string (tkx C.l j)) (.int .i64 0) (.string ⟨#[]⟩) (.slice (some ⟨w4.heap.size + 1, 0, none⟩) 2 2)).alloc (.cells #[.string op', .int .i64 x', .string s', .slice so' l'.length sc'] 105)).alloc (.cells #[.string op, .int .i64 x, .string s, .slice so l.length sc, .string op', .int .i64 x', .string s', .slice so' l'.length sc'] 105)) := ((Below.refl _ _).alloc (by rw [hsz0]; exact Nat.le_refl _) _).alloc (by simp [hsz0]) _
     have St2 := St0.trans (Stays.below (S' := fun k => w.heap.size < k ∧ k ≠ w1.heap.size) (by rw [hsz0]; exact hbW) (fun k hk => hk)) (by rw [hsz0]; omega)
     have St3 := St1.trans (Stays.below (S' := fun k => w.heap.size < k ∧ k ≠ w1.heap.size) (by rw [hsz0]; exact hbW) (fun k hk => hk)) (by rw [hsz0]; omega)
     have hB : Below w.heap.size w4 _ := hW0.trans (hbW.mono (by omega))
     have R5 := R.upon R4 hB
     have hM := (hmr.trans hmm).upon hB
     have e1 := Rr.pos
     have e2 := R5.pos
     have l2 := R4.lt
     refine ⟨⟨tkx C.l j, 0, ⟨#[]⟩, [.mk op x s l, .mk op' x' s' l'], some ⟨w4.heap.size + 1, 0, none⟩, 2, [.string op, .int .i64 x, .string s, .slice so l.length sc, .string op', .int .i64 x', .string s', .slice so' l'.length sc'], j', R5, ?_, ?_, ?_, ?_, hM, by omega, ?_, ?_⟩, ?_⟩
     ·exact (hbW.block w1.heap.size (by omega)).trans hP0
     ·exact (hbW.block w.heap.size (by omega)).trans hZ0
     ·exact RowAt.blk hnw rfl rfl (by simp [maxLen]) ⟨by omega, by omega⟩
     ·exact .cons op x s l _ _ ys _ (hrow.keep St2) (hin.keep St2) (.cons op' x' s' l' _ _ ys' _ (hrow'.keep St3) (hin'.keep St3) .nil)
     ·have := hbW.size; rw [hsz0] at this; exact Nat.lt_of_lt_of_le hlt4 this
     ·exact fun r hr => HP.out _ (Parse.loopMore .sum h hp hr)
     ·rw [e1]; exact Nat.lt_of_le_of_lt (Nat.sub_le_sub_left (Nat.le_of_eq e2.symm) _) (by omega)
    ·go_wp2
     exact ⟨rfl, hmr.trans (((Mv.of_below hb2).trans hm3).trans hm4), Or.inr ⟨j', bd, HP.out _ (Parse.loopBad .sum h hp), hj', p, rfl, q0, q1⟩⟩
   ·have h' : txs C.l j (Lv.ops .sum) = false := by simpa using h
    clear h
    go_wp2_with fail
    refine (is_any C j d _ Rr q m c (Lv.ops .sum) HQr.out HM.out hm1000).mono ?_
    rintro e w2 ⟨rfl, hb2⟩
    have hs2 := hb2.size
    obtain ⟨c0, c1, c2, c3, cf⟩ := blk4 (row_keep hb2 HN.out)
    obtain ⟨z0, z1, z2, z3, zf⟩ := blk4 (row_keep hb2 HZ.out)
    go_wp2
    have hW : Below w.heap.size w2 (set4 w2 w.heap.size (.string op) (.int .i64 x) (.string s) (.slice so l.length sc)) := set4_below (Nat.le_refl _)
    have St : Stays (fun k => w.heap.size < k ∧ k ≠ w1.heap.size) (From w.heap.size) wr (set4 w2 w.heap.size (.string op) (.int .i64 x) (.string s) (.slice so l.length sc)) := (Stays.below hb2 (fun k hk => hk)).trans (set4_stays (fun k hk => ⟨by omega, by unfold From; omega⟩)) hs2
    exact bodyPost_ret (v := .agg #[.string op, .int .i64 x, .string s, .slice so l.length sc]) (by simp [results, Tryz.results167, go_sem, z0, z1, z2, z3]) rfl ⟨(hmr.trans (Mv.of_below hb2)).upon hW, Or.inl ⟨[.mk op x s l], j, _, HP.out _ (Parse.loopStop .sum h'), rfl, ⟨_, rfl, .mk (hrow.keep St) (hin.keep St)⟩, R.upon (Rr.below hb2) hW, hijr⟩⟩
 ·go_wp2
  exact ⟨rfl, (Mv.of_below hbA).trans hm1, Or.inr ⟨j, bd, Run.stop hp, hj, p, rfl, q0, q1⟩⟩

set_option maxRecDepth 100000 in
set_option maxHeartbeats 1000000 in
theorem fromLeft_un (n : Nat) (hK : Fits 198 (Lv.part .prod) n) (C : Rc) (i d : Nat) (w : World) (T : Tkl C.l) (R : Rd C i d w) (hn : C.l.length - i ≤ n) (q c m : Nat) (hq : w.heap[q]? = some (.cells (strCells (Lv.ops .prod)) 9 (0, 0))) (hqb : q ≠ C.b) (hm : (Lv.ops .prod).length = m) :
  Calls Tryz.prog 167 #[.pointer (some ⟨C.b, 0, none⟩), .func (.func 198) #[.pointer (some ⟨C.b, 0, none⟩)] #[], .slice (some ⟨q, 0, none⟩) m c] w (Ret C (.left .prod) i d w (TermV w.heap.size)) := by
 have HK : Hid (Fits 198 (Lv.part .prod) n) := hK
 have HQ : Hid _ := hq
 have HM : Hid ((Lv.ops .prod).length = m) := hm
 clear hK hq hm
 have hm1000 : m ≤ 1000 := by rw [← HM.out]; decide
 have hbA : Below w.heap.size w (w.alloc (.cells #[.string ⟨#[]⟩, .int .i64 0, .string ⟨#[]⟩, .slice none 0 0] 105)) := (Below.refl _ _).alloc (Nat.le_refl _) _
 have hbl := R.blt
 have hql : q < w.heap.size := (Array.getElem?_eq_some_iff.1 HQ.out).1
 go_enter Tryz.func167, Tryz.ntmps167
 go_wp2_with fail
 refine (HK.out C i d _ T (R.below hbA) hn).mono ?_
 rintro e w1 ⟨hm1, h1⟩
 have hs1 := hm1.size
 simp only [World.size_alloc] at hs1
 rcases h1 with ⟨es, j, v, hp, rfl, ⟨ex, rfl, hv⟩, R1, hij⟩ | ⟨j, bd, hp, hj, p, rfl, q0, q1⟩
 ·obtain ⟨op, x, s, l, so, sc, ys, rfl, rfl, hrow, hin⟩ := hv.one
  have hr1 := alloc_row (.cells #[.string op, .int .i64 x, .string s, .slice so l.length sc] 105) (hm1.row (k := w.heap.size) (by omega) (heap_alloc_new w _))
  have hn1 := heap_alloc_new w1 (.cells #[.string op, .int .i64 x, .string s, .slice so l.length sc] 105)
  have HR1 : Hid _ := hr1
  have HN1 : Hid _ := hn1
  clear hr1 hn1
  have hbB : Below w1.heap.size w1 (w1.alloc (.cells #[.string op, .int .i64 x, .string s, .slice so l.length sc] 105)) := (Below.refl _ _).alloc (Nat.le_refl _) _
  have HP : Hid (∀ r, Parse C.l (.loop .prod [.mk op x s l]) j d r → Parse C.l (.left .prod) i d r) := fun r h => Parse.left .prod hp h
  go_wp2
  go_loopw [] (fun wr => ∃ (op : ByteArray) (x : Int) (s : ByteArray) (l : List Ex) (so : Option Addr) (sc : Nat) (ys : List Value) (j : Nat), Rd C j d wr ∧ Hid (wr.heap[w1.heap.size]? = some (.cells #[.string op, .int .i64 x, .string s, .slice so l.length sc] 105 (0, 0))) ∧ Hid (wr.heap[w.heap.size]? = some (.cells #[.string ⟨#[]⟩, .int .i64 0, .string ⟨#[]⟩, .slice none 0 0] 105 (0, 0))) ∧ RowAt wr (fun k => w.heap.size < k ∧ k ≠ w1.heap.size) 4 (.slice so l.length sc) l.length ys ∧ ExIn wr (fun k => w.heap.size < k ∧ k ≠ w1.heap.size) l ys ∧ Mv C.b w wr ∧ i < j ∧ w1.heap.size < wr.heap.size ∧ Hid (∀ r, Parse C.l (.loop .prod [.mk op x s l]) j d r → Parse C.l (.left .prod) i d r)) (fun wr => C.l.length - posOf wr C.b)
  case atStart =>
   have St : Stays (From (w.heap.size + 1)) (fun k => w.heap.size < k ∧ k ≠ w1.heap.size) w1 (w1.alloc (.cells #[.string op, .int .i64 x, .string s, .slice so l.length sc] 105)) := fun k hk hl => ⟨⟨by unfold From at hk; omega, by omega⟩, hbB.block k hl⟩
   simp only [World.size_alloc] at hrow hin
   exact ⟨op, x, s, l, so, sc, ys, j, R1.below hbB, HN1, HR1, hrow.keep St, hin.keep St, ((Mv.of_below hbA).trans hm1).trans (Mv.of_below hbB), hij, by simp, HP⟩
  case round =>
   clear hrow hin hv hp HP R1 HN1 HR1 hbB
   obtain ⟨op, x, s, l, so, sc, ys, j, Rr, HN, HZ, hrow, hin, hmr, hijr, hszr, HP⟩ := hrel
   have hqr := hmr.row hqb HQ.out
   have HQr : Hid _ := hqr
   clear hqr
   by_cases h : txs C.l j (Lv.ops .prod) = true
   ·have hj1 : j + 1 < C.l.length := T.next_txs Rr.lt (by decide) h
    go_wp2_with fail
    refine (is_any C j d _ Rr q m c (Lv.ops .prod) HQr.out HM.out hm1000).mono ?_
    rintro e w2 ⟨rfl, hb2⟩
    go_wp2_with fail
    refine (take_any C j d _ (Rr.below hb2) hj1).mono ?_
    rintro e w3 ⟨rfl, R3, hm3⟩
    go_wp2_with fail
    refine (HK.out C (j + 1) d _ T R3 (by omega)).mono ?_
    rintro e w4 ⟨hm4, h4⟩
    rcases h4 with ⟨es, j', v, hp, rfl, ⟨ex, rfl, hv⟩, R4, hij'⟩ | ⟨j', bd, hp, hj', p, rfl, q0, q1⟩
    ·obtain ⟨op', x', s', l', so', sc', ys', rfl, rfl, hrow', hin'⟩ := hv.one
     have hs2 := hb2.size
     have hs3 := hm3.size
     have hs4 := hm4.size
     have hmm : Mv C.b wr w4 := ((Mv.of_below hb2).trans hm3).trans hm4
     obtain ⟨c0, c1, c2, c3, cf⟩ := blk4 (hmm.row (by omega) HN.out)
     have hlt4 : w1.heap.size < w4.heap.size := by omega
     have hne4 : w1.heap.size ≠ w4.heap.size := by omega
     have hn4 := hmm.row (k := w1.heap.size) (by omega) HN.out
     have hz4 := hmm.row (k := w.heap.size) (by omega) HZ.out
     have HN4 : Hid _ := hn4
     have HZ4 : Hid _ := hz4
     clear hn4 hz4
     go_wp2
     have hW0 : Below w.heap.size w4 (set4 w4 w1.heap.size (.string (tkx C.l j)) (.int .i64 0) (.string ⟨#[]⟩) (.slice (some ⟨w4.heap.size + 1, 0, none⟩) 2 2)) := set4_below (by omega)
     have hsz0 : (set4 w4 w1.heap.size (.string (tkx C.l j)) (.int .i64 0) (.string ⟨#[]⟩) (.slice (some ⟨w4.heap.size + 1, 0, none⟩) 2 2)).heap.size = w4.heap.size := set4_size
     have hP0 := set4_row (a := .string (tkx C.l j)) (b := .int .i64 0) (c := .string ⟨#[]⟩) (e := .slice (some ⟨w4.heap.size + 1, 0, none⟩) 2 2) HN4.out
     have hZ0 : (set4 w4 w1.heap.size (.string (tkx C.l j)) (.int .i64 0) (.string ⟨#[]⟩) (.slice (some ⟨w4.heap.size + 1, 0, none⟩) 2 2)).heap[w.heap.size]? = _ := (set4_block (by omega)).trans HZ4.out
     have St0 : Stays (fun k => w.heap.size < k ∧ k ≠ w1.heap.size) (fun k => w.heap.size < k ∧ k ≠ w1.heap.size) wr (set4 w4 w1.heap.size (.string (tkx C.l j)) (.int .i64 0) (.string ⟨#[]⟩) (.slice (some ⟨w4.heap.size + 1, 0, none⟩) 2 2)) := (Stays.mv hmm (fun k hk => ⟨by omega, hk⟩)).trans (set4_stays (fun k hk => ⟨hk.2, hk⟩)) (by omega)
     have St1 : Stays (From w3.heap.size) (fun k => w.heap.size < k ∧ k ≠ w1.heap.size) w4 (set4 w4 w1.heap.size (.string (tkx C.l j)) (.int .i64 0) (.string ⟨#[]⟩) (.slice (some ⟨w4.heap.size + 1, 0, none⟩) 2 2)) := set4_stays (fun k hk => by unfold From at hk; omega)
     have hnw := two_new (set4 w4 w1.heap.size (.string (tkx C.l j)) (.int .i64 0) (.string ⟨#[]⟩) (.slice (some ⟨w4.heap.size + 1, 0, none⟩) 2 2)) (.cells #[.string op', .int .i64 x', .string s', .slice so' l'.length sc'] 105) (.cells #[.string op, .int .i64 x, .string s, .slice so l.length sc, .string op', .int .i64 x', .string s', .slice so' l'.length sc'] 105)
     rw [hsz0] at hnw
     have hbW : Below w4.heap.size (set4 w4 w1.heap.size (.string (tkx C.l j)) (.int .i64 0) (.string ⟨#[]⟩) (.slice (some ⟨w4.heap.size + 1, 0, none⟩) 2 2)) (((set4 w4 w1.heap.size (.string (tkx C.l j)) (.int .i64 0) (.string ⟨#[]⟩) (.slice (some ⟨w4.heap.size + 1, 0, none⟩) 2 2)).alloc (.cells #[.string op', .int .i64 x', .string s', .slice so' l'.length sc'] 105)).alloc (.cells #[.string op, .int .i64 x, .string s, .slice so l.length sc, .string op', .int .i64 x', .string s', .slice so' l'.length sc'] 105)) := ((Below.refl _ _).alloc (by rw [hsz0]; exact Nat.le_refl _) _).alloc (by simp [hsz0]) _
     have St2 := St0.trans (Stays.below (S' := fun k => w.heap.size < k ∧ k ≠ w1.heap.size) (by rw [hsz0]; exact hbW) (fun k hk => hk)) (by rw [hsz0]; omega)
     have St3 := St1.trans (Stays.below (S' := fun k => w.heap.size < k ∧ k ≠ w1.heap.size) (by rw [hsz0]; exact hbW) (fun k hk => hk)) (by rw [hsz0]; omega)
     have hB : Below w.heap.size w4 _ := hW0.trans (hbW.mono (by omega))
     have R5 := R.upon R4 hB
     have hM := (hmr.trans hmm).upon hB
     have e1 := Rr.pos
     have e2 := R5.pos
     have l2 := R4.lt
     refine ⟨⟨tkx C.l j, 0, ⟨#[]⟩, [.mk op x s l, .mk op' x' s' l'], some ⟨w4.heap.size + 1, 0, none⟩, 2, [.string op, .int .i64 x, .string s, .slice so l.length sc, .string op', .int .i64 x', .string s', .slice so' l'.length sc'], j', R5, ?_, ?_, ?_, ?_, hM, by omega, ?_, ?_⟩, ?_⟩
     ·exact (hbW.block w1.heap.size (by omega)).trans hP0
     ·exact (hbW.block w.heap.size (by omega)).trans hZ0
     ·exact RowAt.blk hnw rfl rfl (by simp [maxLen]) ⟨by omega, by omega⟩
     ·exact .cons op x s l _ _ ys _ (hrow.keep St2) (hin.keep St2) (.cons op' x' s' l' _ _ ys' _ (hrow'.keep St3) (hin'.keep St3) .nil)
     ·have := hbW.size; rw [hsz0] at this; exact Nat.lt_of_lt_of_le hlt4 this
     ·exact fun r hr => HP.out _ (Parse.loopMore .prod h hp hr)
     ·rw [e1]; exact Nat.lt_of_le_of_lt (Nat.sub_le_sub_left (Nat.le_of_eq e2.symm) _) (by omega)
    ·go_wp2
     exact ⟨rfl, hmr.trans (((Mv.of_below hb2).trans hm3).trans hm4), Or.inr ⟨j', bd, HP.out _ (Parse.loopBad .prod h hp), hj', p, rfl, q0, q1⟩⟩
   ·have h' : txs C.l j (Lv.ops .prod) = false := by simpa using h
    clear h
    go_wp2_with fail
    refine (is_any C j d _ Rr q m c (Lv.ops .prod) HQr.out HM.out hm1000).mono ?_
    rintro e w2 ⟨rfl, hb2⟩
    have hs2 := hb2.size
    obtain ⟨c0, c1, c2, c3, cf⟩ := blk4 (row_keep hb2 HN.out)
    obtain ⟨z0, z1, z2, z3, zf⟩ := blk4 (row_keep hb2 HZ.out)
    go_wp2
    have hW : Below w.heap.size w2 (set4 w2 w.heap.size (.string op) (.int .i64 x) (.string s) (.slice so l.length sc)) := set4_below (Nat.le_refl _)
    have St : Stays (fun k => w.heap.size < k ∧ k ≠ w1.heap.size) (From w.heap.size) wr (set4 w2 w.heap.size (.string op) (.int .i64 x) (.string s) (.slice so l.length sc)) := (Stays.below hb2 (fun k hk => hk)).trans (set4_stays (fun k hk => ⟨by omega, by unfold From; omega⟩)) hs2
    exact bodyPost_ret (v := .agg #[.string op, .int .i64 x, .string s, .slice so l.length sc]) (by simp [results, Tryz.results167, go_sem, z0, z1, z2, z3]) rfl ⟨(hmr.trans (Mv.of_below hb2)).upon hW, Or.inl ⟨[.mk op x s l], j, _, HP.out _ (Parse.loopStop .prod h'), rfl, ⟨_, rfl, .mk (hrow.keep St) (hin.keep St)⟩, R.upon (Rr.below hb2) hW, hijr⟩⟩
 ·go_wp2
  exact ⟨rfl, (Mv.of_below hbA).trans hm1, Or.inr ⟨j, bd, Run.stop hp, hj, p, rfl, q0, q1⟩⟩
end Go.Proofs.YtgbpccipdcajgaaGreatDoor
