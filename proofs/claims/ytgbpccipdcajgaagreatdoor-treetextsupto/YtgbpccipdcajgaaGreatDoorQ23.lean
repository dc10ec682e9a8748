/-
  package tree's WRITER: put, between, kind BY THEIR CONTRACTS, to the byte: what stands behind what was written, or why it was given up.
-/
import Derived.Test.YtgbpccipdcajgaaGreatDoorQ16
import Derived.Test.YtgbpccipdcajgaaGreatDoorQ19
import Derived.Test.YtgbpccipdcajgaaGreatDoorQ22
import Derived.Test.YtgbpccipdcajgaaGreatDoorQ14
import Derived.Test.YtgbpccipdcajgaaGreatDoorQ15
import Derived.Test.YtgbpccipdcajgaaGreatDoorQ17
import Derived.Deep.RegionLaw
namespace Go.Proofs.YtgbpccipdcajgaaGreatDoor
open Go.RowKit
attribute [local go_sem ↓] Go.wp_at_zero Go.wp_at_succ
def WAnyX (K : Prop) (B b d : Nat) (pS : Addr) (lx : List UInt8) (t : Tx) (w : World) (e : Ending) (w' : World) : Prop := Below B w w' ∧ Kept b w w' ∧ ((∃ l, e = .returned (.tuple #[]) ∧ WT B b l d w' ∧ l.length ≤ 6000 ∧ Ok lx t l) ∨ (WThrew pS e ∧ Rsn K lx t))
structure WStX (B b d : Nat) (pS : Addr) (lx : List UInt8) (w : World) : Prop where
 wt : WT B b lx d w
 len : lx.length ≤ 6000
 err : w.cell? ⟨0, 0, none⟩ = some (.iface 235 (.pointer (some pS)))
 low : 0 < B
 tab : TabAt w
 low2 : 13 < B
theorem WStX.st {B b d : Nat} {pS : Addr} {lx : List UInt8} {w : World} (h : WStX B b d pS lx w) : WSt B b d pS w := ⟨⟨lx, h.wt, h.len⟩, h.err, h.low, h.tab, h.low2⟩
theorem WStX.lt {B b d : Nat} {pS : Addr} {lx : List UInt8} {w : World} (h : WStX B b d pS lx w) : b < w.heap.size := h.wt.lt
theorem WStX.le {B b d : Nat} {pS : Addr} {lx : List UInt8} {w : World} (h : WStX B b d pS lx w) : B ≤ b := h.wt.le
theorem WStX.alloc {B b d : Nat} {pS : Addr} {lx : List UInt8} {w : World} (h : WStX B b d pS lx w) (o : Obj) : WStX B b d pS lx (w.alloc o) := by
 have h' := h.st.alloc o
 exact ⟨h.wt.alloc _, h.len, h'.err, h'.low, h'.tab, h'.low2⟩
theorem WStX.next {B b d e : Nat} {pS : Addr} {lx : List UInt8} {w w' : World} {l : List UInt8} (h : WStX B b d pS lx w) (hb : Below B w w') (h1 : WT B b l e w') (h2 : l.length ≤ 6000) : WStX B b e pS l w' := by
 have h' := h.st.next hb h1 h2
 exact ⟨h1, h2, h'.err, h'.low, h'.tab, h'.low2⟩
set_option maxRecDepth 100000 in
set_option maxHeartbeats 1000000 in
theorem put_x (K : Prop) (B b d : Nat) (pS : Addr) (lx : List UInt8) (w : World) (q : Nat) (xs : List ByteArray) (n : Nat) (hn : xs.length = n) (h : WStX B b d pS lx w) (hq : w.heap[q]? = some (.cells (xs.map Value.string).toArray 9 (0, 0))) (hqb : q ≠ b) (hn1 : n ≤ 1000) :
  Calls Tryz.prog 118 #[.pointer (some ⟨b, 0, none⟩), .slice (some ⟨q, 0, none⟩) n n] w fun e w' => WAnyX K B b d pS lx (some (flat xs)) w e w' := by
 subst hn
 have HQ : Hid (w.heap[q]? = some (.cells (xs.map Value.string).toArray 9 (0, 0))) := hq
 have hB := h.le
 have hlt := h.lt
 clear hq
 go_enter Tryz.func118, Tryz.ntmps118
 go_wp2
 go_loopw [8] (fun t wr => ∃ i : Nat, i ≤ xs.length ∧ t = .int .i64 i ∧ WStX B b d pS (lx ++ flat (xs.take i)) wr ∧ Below B w wr ∧ Kept b w wr) (fun t _ => xs.length - (intOf t).toNat)
 case atStart => exact ⟨0, Nat.zero_le _, rfl, by rw [List.take_zero]; show WStX B b d pS (lx ++ []) _; rw [List.append_nil]; exact h, Below.refl _ _, Lib.OthersKept.refl _ _ _⟩
 case round =>
  obtain ⟨i, hi, rfl, hr, hb, hk⟩ := hrel
  by_cases hlt0 : i < xs.length
  ·have hqr := hk q _ HQ.out (by simpa using hqb) (by intro c fz e; injection e with _ e; exact absurd e (by decide))
   have c0 : wr.cell? ⟨q, i, none⟩ = some (.string xs[i]) := by simp [World.cell?, hqr, hlt0]
   have i0 : (0 : Int) ≤ (i : Int) := by omega
   have i1 : (i : Int) < (xs.length : Int) := by omega
   have hw := hr.wt
   have hl6 := hr.len
   obtain ⟨l, hl⟩ : ∃ l, l = lx ++ flat (xs.take i) := ⟨_, rfl⟩
   rw [← hl] at hw hl6 hr
   have HL : Hid (l = lx ++ flat (xs.take i)) := hl
   clear hl
   have hel : (Lib.byteCells l).length = l.length := Lib.byteCells_length l
   have c2 := Wr.most hw
   have hc := hr.err
   clear hqr
   by_cases h6 : 6000 < l.length + xs[i].size
   ·have e5 : (6000 : Int) - ((Lib.byteCells l).length : Int) < (xs[i].size : Int) := by omega
    go_wp2_with fail
    go_quiet (exact Calls.quiet_of_same (wlen_any B b _ d _ (Wr.drewN hw _)))
    go_wp2_with fail
    refine (wfail_any b pS (wr.drewN nq) hc).mono ?_
    rintro e w3 ⟨rfl, rfl⟩
    go_wp2
    refine ⟨rfl, below_drewN hb nq, hk, Or.inr ⟨rfl, Or.inr fun x hx => ?_⟩⟩
    cases hx
    have := flat_split hlt0
    rw [HL.out, List.length_append] at h6
    rw [List.length_append]
    omega
   ·have e5 : ¬ ((6000 : Int) - ((Lib.byteCells l).length : Int) < (xs[i].size : Int)) := by omega
    have hBw : B ≤ wr.heap.size := Nat.le_trans hB (Nat.le_of_lt hw.lt)
    go_wp2_with fail
    go_quiet (exact Calls.quiet_of_same (wlen_any B b _ d _ (Wr.drewN hw _)))
    go_wp2_with fail
    refine (wstr_any B b _ d xs[i] (wr.drewN nq) (Wr.drewN hw nq) (by omega) hBw).mono ?_
    rintro e w3 ⟨rfl, hr3, hb3', hk3'⟩
    have hb3 : Below B wr w3 := (below_drewN (Below.refl B wr) nq).trans hb3'
    have hk3 : Kept b wr w3 := hk3'
    have hr3' : WT B b (l ++ xs[i].data.toList) d w3 := by
     show Wr B b (Lib.byteCells (l ++ xs[i].data.toList)) d w3
     rw [byteCells_append]
     exact hr3
    have hlen : (l ++ xs[i].data.toList).length ≤ 6000 := by
     have : xs[i].data.toList.length = xs[i].size := rfl
     rw [List.length_append]; omega
    go_wp2
    exact ⟨⟨i + 1, by omega, by go_num, by rw [flat_take hlt0, ← List.append_assoc, ← HL.out]; exact hr.next hb3 hr3' hlen, hb.trans hb3, hk.trans hk3⟩, by simp [intOf]; omega⟩
  ·obtain rfl : i = xs.length := by omega
   rw [List.take_length] at hr
   have hw := hr.wt
   have hl6 := hr.len
   go_wp2
   go_end0
   exact ⟨hb, hk, Or.inl ⟨_, rfl, hw, hl6, Ok.this rfl⟩⟩
theorem put_newX (K : Prop) (B b d : Nat) (pS : Addr) (lx : List UInt8) (w : World) (xs : List ByteArray) (tx : List UInt8) (htx : flat xs = tx) (q n : Nat) (hq : w.heap.size = q) (hn : xs.length = n) (h : WStX B b d pS lx w) (hn1 : n ≤ 1000) (cur : Array Value) (hc : cur = (xs.map Value.string).toArray) :
  Calls Tryz.prog 118 #[.pointer (some ⟨b, 0, none⟩), .slice (some ⟨q, 0, none⟩) n n] (w.alloc (.cells cur 9)) fun e w' => WAnyX K B b d pS lx (some tx) w e w' := by
 subst hq hc htx
 have hlt := h.lt
 have hle := h.le
 refine (put_x K B b d pS lx _ w.heap.size xs n hn (h.alloc _) (heap_alloc_new w _) (by omega) hn1).mono ?_
 rintro e w' ⟨h1, h2, h3⟩
 exact ⟨((Below.refl _ _).alloc (by omega) _).trans h1, (Kept.alloc b w _).trans h2, h3⟩
set_option maxRecDepth 100000 in
set_option maxHeartbeats 1000000 in
theorem between_x (K : Prop) (B b d : Nat) (pS : Addr) (lx : List UInt8) (w : World) (i : Nat) (s : ByteArray) (h : WStX B b d pS lx w) :
  Calls Tryz.prog 142 #[.pointer (some ⟨b, 0, none⟩), .int .i64 i, .string s] w fun e w' => WAnyX K B b d pS lx (sepX s.data.toList i) w e w' := by
 by_cases hi : 0 < i
 ·have hi' : (0 : Int) < (i : Int) := by omega
  have ht0 : sepX s.data.toList i = some s.data.toList := by rw [sepX, if_pos hi]
  rw [ht0]
  clear ht0
  go_enter Tryz.func142, Tryz.ntmps142
  go_wp2_with fail
  refine (put_newX K B b d pS lx _ [s] s.data.toList (by simp [flat]) _ 1 rfl rfl h (by decide) _ rfl).mono ?_
  rintro e w' ⟨h1, h2, ⟨l, rfl, h3, h4, hq⟩ | ⟨ht, hr⟩⟩
  ·go_wp2
   go_end0
   exact ⟨h1, h2, Or.inl ⟨l, rfl, h3, h4, hq⟩⟩
  ·unfold WThrew at ht
   subst ht
   go_wp2
   exact ⟨rfl, h1, h2, Or.inr ⟨rfl, hr⟩⟩
 ·obtain rfl : i = 0 := by omega
  have h3 := h.wt
  have h4 := h.len
  go_enter Tryz.func142, Tryz.ntmps142
  go_wp2
  go_end0
  exact ⟨Below.refl _ _, Lib.OthersKept.refl _ _ _, Or.inl ⟨_, rfl, h3, h4, Ok.nil⟩⟩
set_option maxRecDepth 100000 in
set_option maxHeartbeats 1000000 in
theorem wkind_x (K : Prop) (B b d : Nat) (pS : Addr) (lx : List UInt8) (w : World) (k : Int) (h : WStX B b d pS lx w) :
  Calls Tryz.prog 143 #[.pointer (some ⟨b, 0, none⟩), .int .i64 k] w fun e w' => WAnyX K B b d pS lx (kindX k) w e w' := by
 by_cases h1 : k = 1
 ·subst h1
  go_enter Tryz.func143, Tryz.ntmps143
  go_wp2_with fail
  refine (put_newX K B b d pS lx _ [sBool] [98, 111, 111, 108] rfl _ 1 rfl rfl h (by decide) _ rfl).mono ?_
  rintro e w' ⟨h1, h2, ⟨l, rfl, h3, h4, hq⟩ | ⟨ht, hr⟩⟩
  ·go_wp2
   go_end0
   exact ⟨h1, h2, Or.inl ⟨l, rfl, h3, h4, hq⟩⟩
  ·unfold WThrew at ht
   subst ht
   go_wp2
   exact ⟨rfl, h1, h2, Or.inr ⟨rfl, hr⟩⟩
 ·by_cases h2 : k = 2
  ·subst h2
   go_enter Tryz.func143, Tryz.ntmps143
   go_wp2_with fail
   refine (put_newX K B b d pS lx _ [⟨#[105, 110, 116]⟩] [105, 110, 116] rfl _ 1 rfl rfl h (by decide) _ rfl).mono ?_
   rintro e w' ⟨h1, h2, ⟨l, rfl, h3, h4, hq⟩ | ⟨ht, hr⟩⟩
   ·go_wp2
    go_end0
    exact ⟨h1, h2, Or.inl ⟨l, rfl, h3, h4, hq⟩⟩
   ·unfold WThrew at ht
    subst ht
    go_wp2
    exact ⟨rfl, h1, h2, Or.inr ⟨rfl, hr⟩⟩
  ·have HN : Hid (kindX k = none) := (by rw [kindX, if_neg h1, if_neg h2] : kindX k = none)
   have e1 : (k == 1) = false := by simpa using h1
   have e2 : (k == 2) = false := by simpa using h2
   have hc := h.err
   clear h1 h2
   go_enter Tryz.func143, Tryz.ntmps143
   go_wp2_with fail
   refine (wfail_any b pS _ hc).mono ?_
   rintro e w3 ⟨ht, rfl⟩
   unfold WThrew at ht
   subst ht
   go_wp2
   exact ⟨rfl, Below.refl _ _, Lib.OthersKept.refl _ _ _, Or.inr ⟨rfl, HN.out ▸ Rsn.none K lx⟩⟩
abbrev TermX (K : Prop) (B b : Nat) (pS : Addr) (m : Nat) : Prop := ∀ (op : ByteArray) (n : Int) (s : ByteArray) (l : List Ex), SizeOf.sizeOf l < m → ∀ (lx : List UInt8) (w : World) (d : Nat) (o : Option Addr) (c : Nat) (ys : List Value) (least : Nat), d ≤ 6000 → (6000 < d + dpt (.mk op n s l) → K) → WStX B b d pS lx w → RowAt w (fun k => k < B) 4 (.slice o l.length c) l.length ys → ExIn w (fun k => k < B) l ys →
  Calls Tryz.prog 145 #[.pointer (some ⟨b, 0, none⟩), .agg #[.string op, .int .i64 n, .string s, .slice o l.length c], .int .i64 least] w fun e w' => WAnyX K B b d pS lx (tw least (.mk op n s l)) w e w'
set_option maxRecDepth 100000 in
set_option maxHeartbeats 4000000 in
theorem part_x (K : Prop) (B b : Nat) (pS : Addr) (m : Nat) (IH : TermX K B b pS m) (op : ByteArray) (n : Int) (s : ByteArray) (l : List Ex) (hm : SizeOf.sizeOf l < m + 1) (lx : List UInt8) (w : World) (d : Nat) (o : Option Addr) (c : Nat) (ys : List Value) (hd : d ≤ 6000) (hK : 6000 < d + dptL l → K) (h : WStX B b d pS lx w) (h1 : RowAt w (fun k => k < B) 4 (.slice o l.length c) l.length ys) (h2 : ExIn w (fun k => k < B) l ys) (bw be bs q : Nat) (lv : Int) (ps : List Nat) (i : Nat) (hi : i < l.length) (hp : i < ps.length)
  (r1 : w.heap[bw]? = some (.cells #[.pointer (some ⟨b, 0, none⟩)] 110 (0, 0))) (r2 : w.heap[be]? = some (teObj op n s (.slice o l.length c))) (r3 : w.heap[bs]? = some (shObj lv (.slice (some ⟨q, 0, none⟩) ps.length ps.length))) (r4 : w.heap[q]? = some (.cells (intCells ps).toArray 3 (0, 0))) :
  Calls Tryz.prog 172 #[.int .i64 i, .pointer (some ⟨bw, 0, none⟩), .pointer (some ⟨be, 0, none⟩), .pointer (some ⟨bs, 0, none⟩)] w fun e w' => WAnyX K B b d pS lx (tw ps[i] l[i]) w e w' := by
 obtain ⟨op', n', s', es, oo, cc, zs, e, x0, x1, x2, x3, t1, t2⟩ := h2.at hi
 obtain ⟨p, f, rfl, _, g⟩ := row_get h1 (by have := h1.1; omega)
 have x0 := g _ _ x0
 have x1 := g _ _ x1
 have x2 := g _ _ x2
 have x3 := g _ _ x3
 rw [← Nat.add_assoc] at x1 x2 x3
 have hsz := size_part hi e
 have i0 : (0 : Int) ≤ (i : Int) := by omega
 have i1 : (i : Int) < (l.length : Int) := by omega
 have i2 : (i : Int) < (ps.length : Int) := by omega
 have y1 := (tblk1 r1).1
 have y2 := (blk4 r2).2.2.2.1
 have y3 := (blk2 r3).2.1
 have y4 : w.cell? ⟨q, i, none⟩ = some (.int .i64 (ps[i] : Nat)) := by
  rw [cell_of_row w q i _ _ _ r4]; simpa using intCells_at hp
 have Hr : Hid (Calls Tryz.prog 145 #[.pointer (some ⟨b, 0, none⟩), .agg #[.string op', .int .i64 n', .string s', .slice oo es.length cc], .int .i64 (ps[i] : Nat)] w.drew fun e w' => WAnyX K B b d pS lx (tw ps[i] l[i]) w.drew e w') := e ▸ IH op' n' s' es (by omega) lx w.drew d oo cc zs ps[i] hd (fun hh => hK (by have := dpt_part l i hi; rw [e] at this; omega)) ⟨h.wt, h.len, h.err, h.low, h.tab, h.low2⟩ t1 (t2.keep (Stays.below (Below.drew (Below.refl _ _)) (fun _ hk => hk)))
 clear g r1 r2 r3 r4 h1 h2 IH t1 t2
 go_enter Tryz.func172, Tryz.ntmps172
 go_wp2
 go_region_law (refine step_call rfl 145 #[.pointer (some ⟨b, 0, none⟩), .agg #[.string op', .int .i64 n', .string s', .slice oo es.length cc], .int .i64 (ps[i] : Nat)] (by kernel_rfl) ?_; refine Hr.out.mono ?_; rintro e w4 ⟨b4, k4, h4⟩; rcases h4 with ⟨l4, rfl, h4, g4, hq⟩ | ⟨ht, hr⟩; rotate_left; (unfold WThrew at ht; subst ht; exact ⟨rfl, Below.trans (Below.drew (Below.refl B w)) b4, k4, Or.inr ⟨rfl, hr⟩⟩); dsimp only)
 all_goals
  go_wp2
  go_end0
  exact ⟨Below.trans (Below.drew (Below.refl B w)) b4, k4, Or.inl ⟨l4, rfl, h4, g4, hq⟩⟩
set_option maxRecDepth 100000 in
set_option maxHeartbeats 1000000 in
theorem wneg_x (K : Prop) (B b : Nat) (pS : Addr) (m : Nat) (IH : TermX K B b pS m) (op : ByteArray) (n : Int) (s : ByteArray) (l : List Ex) (hm : SizeOf.sizeOf l < m) (lx : List UInt8) (w : World) (d : Nat) (o : Option Addr) (c : Nat) (ys : List Value) (least : Nat) (hd : d ≤ 6000) (hK : 6000 < d + dpt (.mk op n s l) → K) (h : WStX B b d pS lx w) (h1 : RowAt w (fun k => k < B) 4 (.slice o l.length c) l.length ys) (h2 : ExIn w (fun k => k < B) l ys) :
  Calls Tryz.prog 174 #[.pointer (some ⟨b, 0, none⟩), .agg #[.string op, .int .i64 n, .string s, .slice o l.length c], .int .i64 least] w fun e w' => WAnyX K B b d pS lx (catX (some [45]) (tw (if op.toList = [110, 101, 103] then 8 else least) (.mk op n s l))) w e w' := by
 have hlt := h.lt
 have hle := h.le
 have bz : Below B w (w.alloc (teObj op n s (.slice o l.length c))) := (Below.refl _ _).alloc (by omega) _
 have HE : Hid _ := heap_alloc_new w (teObj op n s (.slice o l.length c))
 have s0 := h.alloc (teObj op n s (.slice o l.length c))
 have HT : Hid (∀ (lx' : List UInt8) (w' : World) (least' : Nat), Below B w w' → WStX B b d pS lx' w' → Calls Tryz.prog 145 #[.pointer (some ⟨b, 0, none⟩), .agg #[.string op, .int .i64 n, .string s, .slice o l.length c], .int .i64 least'] w' fun e w'' => WAnyX K B b d pS lx' (tw least' (.mk op n s l)) w' e w'') := fun lx' w' least' hb hw => IH op n s l hm lx' w' d o c ys least' hd hK hw (below_row h1 hb) (below_ex h2 hb)
 clear IH h1 h2
 by_cases hn : (op.toList == [110, 101, 103]) = true
 all_goals
  first | (have hn' : (op.toList == [110, 101, 103]) = true := hn; rw [if_pos (by simpa using hn)]; clear hn) | (have hn' : (op.toList == [110, 101, 103]) = false := (by simpa using hn); rw [if_neg (by simpa using hn)]; clear hn)
  go_enter Tryz.func174, Tryz.ntmps174
  go_wp2_with fail
  refine (put_newX K B b d pS _ _ [⟨#[45]⟩] [45] rfl _ 1 (by simp) rfl s0 (by decide) _ rfl).mono ?_
  rintro e w1 ⟨b1, k1, ⟨l1, rfl, h1, g1, y1, q1, rfl⟩ | ⟨ht, hr⟩⟩
  ·have s1 := s0.next b1 h1 g1
   have HE1 : Hid _ := kept_row k1 HE.out (by omega) (by intro c fz e; injection e with _ e; exact absurd e (by decide))
   obtain ⟨y0, y1, y2, y3, _⟩ := blk4 HE1.out
   go_wp2_with fail
   refine (HT.out _ _ _ (bz.trans b1) s1).mono ?_
   rintro e w2 ⟨b2, k2, ⟨l2, rfl, h2, g2, hq⟩ | ⟨ht, hr⟩⟩
   ·go_wp2
    go_end0
    exact ⟨(bz.trans b1).trans b2, ((Kept.alloc b w _).trans k1).trans k2, Or.inl ⟨l2, rfl, h2, g2, hq.lift q1⟩⟩
   ·unfold WThrew at ht
    subst ht
    go_wp2
    exact ⟨rfl, (bz.trans b1).trans b2, ((Kept.alloc b w _).trans k1).trans k2, Or.inr ⟨rfl, hr.lift q1⟩⟩
  ·unfold WThrew at ht
   subst ht
   go_wp2
   exact ⟨rfl, bz.trans b1, (Kept.alloc b w _).trans k1, Or.inr ⟨rfl, hr.more _⟩⟩
set_option maxRecDepth 100000 in
set_option maxHeartbeats 1000000 in
theorem wcall_x (K : Prop) (B b : Nat) (pS : Addr) (m : Nat) (IH : TermX K B b pS m) (op : ByteArray) (n : Int) (s : ByteArray) (l : List Ex) (hm : SizeOf.sizeOf l < m + 1) (lx : List UInt8) (w : World) (d : Nat) (o : Option Addr) (c : Nat) (ys : List Value) (hd : d ≤ 6000) (hK : 6000 < d + dptL l → K) (h : WStX B b d pS lx w) (h1 : RowAt w (fun k => k < B) 4 (.slice o l.length c) l.length ys) (h2 : ExIn w (fun k => k < B) l ys) :
  Calls Tryz.prog 173 #[.pointer (some ⟨b, 0, none⟩), .agg #[.string op, .int .i64 n, .string s, .slice o l.length c]] w fun e w' => WAnyX K B b d pS lx (catX (some (s.data.toList ++ [40])) (catX (lstX (fun i a => catX (sepX [44, 32] i) (tw 0 a)) 0 l) (some [41]))) w e w' := by
 have hl := h1.len
 unfold maxLen at hl
 have hlt := h.lt
 have hle := h.le
 have bz : Below B w (w.alloc (teObj op n s (.slice o l.length c))) := (Below.refl _ _).alloc (by omega) _
 have HE : Hid _ := heap_alloc_new w (teObj op n s (.slice o l.length c))
 have s0 := h.alloc (teObj op n s (.slice o l.length c))
 have H1 : Hid (RowAt w (fun k => k < B) 4 (.slice o l.length c) l.length ys) := h1
 have H2 : Hid (ExIn w (fun k => k < B) l ys) := h2
 have HI : Hid (TermX K B b pS m) := IH
 clear IH h1 h2
 go_enter Tryz.func173, Tryz.ntmps173
 go_wp2_with fail
 refine (put_newX K B b d pS _ _ [s, ⟨#[40]⟩] (s.data.toList ++ [40]) (by simp [flat]) _ 2 (by simp) rfl s0 (by decide) _ rfl).mono ?_
 rintro e w1 ⟨b1, k1, ⟨l1, rfl, h1, g1, y0, q0, rfl⟩ | ⟨ht, hr⟩⟩
 ·have s1 := s0.next b1 h1 g1
  have HE1 : Hid _ := kept_row k1 HE.out (by omega) (by intro c fz e; injection e with _ e; exact absurd e (by decide))
  obtain ⟨z0, z1, z2, z3, _⟩ := blk4 HE1.out
  have bb1 := bz.trans b1
  have kk1 := (Kept.alloc b w (teObj op n s (.slice o l.length c))).trans k1
  clear h1 k1 b1
  go_wp2
  go_loopw [14] (fun t wr => ∃ i : Nat, i ≤ l.length ∧ t = .int .i64 i ∧ (∃ x, WStX B b d pS (lx ++ y0 ++ x) wr ∧ lstX (fun i a => catX (sepX [44, 32] i) (tw 0 a)) 0 l = catX (some x) (lstX (fun i a => catX (sepX [44, 32] i) (tw 0 a)) i (l.drop i))) ∧ Below B w wr ∧ Kept b w wr) (fun t _ => l.length - (intOf t).toNat)
  case atStart => exact ⟨0, Nat.zero_le _, rfl, ⟨[], by rw [List.append_nil]; exact s1, by rw [catX_nil]; rfl⟩, bb1, kk1⟩
  case round =>
   clear s1 bb1 kk1 z0 z1 z2 z3
   obtain ⟨i, hi, rfl, ⟨x, hw, hx0⟩, hb, hk⟩ := hrel
   have HX : Hid (lstX (fun i a => catX (sepX [44, 32] i) (tw 0 a)) 0 l = catX (some x) (lstX (fun i a => catX (sepX [44, 32] i) (tw 0 a)) i (l.drop i))) := hx0
   clear hx0
   by_cases hlt : i < l.length
   ·obtain ⟨op', n', s', es, oo, cc, zs, e, x0, x1, x2, x3, t1, t2⟩ := H2.out.at hlt
    have hrr := below_row H1.out hb
    obtain ⟨q, off, rfl, _, g⟩ := row_get hrr (by have := hrr.1; omega)
    have x0 := g _ _ x0
    have x1 := g _ _ x1
    have x2 := g _ _ x2
    have x3 := g _ _ x3
    rw [← Nat.add_assoc] at x1 x2 x3
    have i0 : (0 : Int) ≤ (i : Int) := by omega
    have i1 : (i : Int) < (l.length : Int) := by omega
    have hsz := size_part hlt e
    have hwl := hw.lt
    have sA := hw.alloc (teObj op' n' s' (.slice oo es.length cc))
    have HN : Hid _ := heap_alloc_new wr (teObj op' n' s' (.slice oo es.length cc))
    have bA : Below B wr (wr.alloc (teObj op' n' s' (.slice oo es.length cc))) := (Below.refl _ _).alloc (by omega) _
    have hdp := dpt_part l i hlt
    rw [e] at hdp
    have HT : Hid (∀ (lx' : List UInt8) (w' : World), Below B w w' → WStX B b d pS lx' w' → Calls Tryz.prog 145 #[.pointer (some ⟨b, 0, none⟩), .agg #[.string op', .int .i64 n', .string s', .slice oo es.length cc], .int .i64 0] w' fun e w'' => WAnyX K B b d pS lx' (tw 0 l[i]) w' e w'') := e ▸ fun lx' w' hb hw => HI.out op' n' s' es (by omega) lx' w' d oo cc zs 0 hd (fun hh => hK (by omega)) hw (below_row t1 hb) (below_ex t2 hb)
    clear hrr g t1 t2 hsz hdp
    go_wp2_with fail
    refine (between_x K B b d pS _ _ i _ sA).mono ?_
    rintro e w2 ⟨b2, k2, ⟨l2, rfl, h2, g2, y2, q2, rfl⟩ | ⟨ht, hr⟩⟩
    ·have s2 := sA.next b2 h2 g2
     have HN2 : Hid _ := kept_row k2 HN.out (by omega) (by intro c fz e; injection e with _ e; exact absurd e (by decide))
     obtain ⟨z0, z1, z2, z3, _⟩ := blk4 HN2.out
     go_wp2_with fail
     refine (HT.out _ _ ((hb.trans bA).trans b2) s2).mono ?_
     rintro e w3 ⟨b3, k3, ⟨l3, rfl, h3, g3, y3, q3, rfl⟩ | ⟨ht, hr⟩⟩
     ·go_wp2
      exact ⟨⟨i + 1, by omega, by go_num, ⟨x ++ (y2 ++ y3), by have := s2.next b3 h3 g3; simpa only [List.append_assoc] using this, lst_next hlt HX.out (show catX (sepX [44, 32] i) (tw 0 l[i]) = some (y2 ++ y3) from by rw [show sepX [44, 32] i = some y2 from q2, q3]; rfl)⟩, ((hb.trans bA).trans b2).trans b3, ((hk.trans (Kept.alloc b wr _)).trans k2).trans k3⟩, by simp [intOf]; omega⟩
     ·unfold WThrew at ht
      subst ht
      go_wp2
      exact ⟨rfl, ((hb.trans bA).trans b2).trans b3, ((hk.trans (Kept.alloc b wr _)).trans k2).trans k3, Or.inr ⟨rfl, ((lst_rsn hlt HX.out (hr.lift q2)).more _).lift q0⟩⟩
    ·unfold WThrew at ht
     subst ht
     go_wp2
     exact ⟨rfl, (hb.trans bA).trans b2, (hk.trans (Kept.alloc b wr _)).trans k2, Or.inr ⟨rfl, ((lst_rsn hlt HX.out (hr.more _)).more _).lift q0⟩⟩
   ·go_wp2_with fail
    refine (put_newX K B b d pS _ _ [⟨#[41]⟩] [41] rfl _ 1 (by simp) rfl hw (by decide) _ rfl).mono ?_
    rintro e w2 ⟨b2, k2, ⟨l2, rfl, h2, g2, y2, q2, rfl⟩ | ⟨ht, hr⟩⟩
    ·go_wp2
     go_end0
     exact ⟨hb.trans b2, hk.trans k2, Or.inl ⟨_, rfl, h2, g2, (Ok.lift (Ok.this q2) (lst_done (by omega) HX.out)).lift q0⟩⟩
    ·unfold WThrew at ht
     subst ht
     go_wp2
     exact ⟨rfl, hb.trans b2, hk.trans k2, Or.inr ⟨rfl, (Rsn.lift hr (lst_done (by omega) HX.out)).lift q0⟩⟩
 ·unfold WThrew at ht
  subst ht
  go_wp2
  exact ⟨rfl, bz.trans b1, (Kept.alloc b w _).trans k1, Or.inr ⟨rfl, hr.more _⟩⟩
inductive VRel (l : List Tk) (d : Nat) : St → St → ByteArray → Int → Prop
 | ok (i j : Nat) (s : ByteArray) (x : Int) : Parse l .one i d (.ok [.mk s x b0 []] j) → i < j → VRel l d (.here i) (.here j) s x
 | fail (i j : Nat) (bd : Bool) (s : ByteArray) (x : Int) : Parse l .one i d (.bad j bd) → VRel l d (.here i) (.bad j bd) s x
 | stay (j : Nat) (bd : Bool) (s : ByteArray) (x : Int) : VRel l d (.bad j bd) (.bad j bd) s x
theorem VRel.int {l : List Tk} {d : Nat} {st : St} (h : ((st.name l).want l tColon).tx l tInt = true) : VRel l d st (((st.name l).want l tColon).pass l tInt) (st.nm l) 2 := by
 cases st with
 | bad j bd => cases h
 | here i =>
  cases h1 : isName l i with
  | false => simp [St.name, h1, St.want, St.tx] at h
  | true =>
   cases h2 : tx l (i + 1) tColon with
   | false => simp [St.name, h1, h2, St.want, St.tx] at h
   | true =>
    have h3 : tx l (i + 1 + 1) tInt = true := by simpa [St.name, h1, h2, St.want, St.tx] using h
    have e1 : (((St.here i).name l).want l tColon).pass l tInt = .here (i + 1 + 1 + 1) := by simp [St.name, h1, h2, h3, St.want, St.pass]
    have e2 : (St.here i).nm l = tkx l i := by simp [St.nm, h1]
    rw [e1, e2]
    exact .ok i _ _ _ (Run.ifT h1 (Run.exp h2 (Run.ifF (not_both h3 (by decide)) (Run.exp h3 Run.done)))) (by omega)
theorem VRel.bool {l : List Tk} {d : Nat} {st : St} (h : ((st.name l).want l tColon).tx l tInt = false) : VRel l d st ((((st.name l).want l tColon).pass l tInt).want l tBool) (st.nm l) 1 := by
 cases st with
 | bad j bd => exact .stay j bd _ _
 | here i =>
  cases h1 : isName l i with
  | false =>
   have e1 : ((((St.here i).name l).want l tColon).pass l tInt).want l tBool = .bad i false := by simp [St.name, h1, St.want, St.pass]
   rw [e1]
   exact .fail i i false _ _ (Run.ifF h1 (.ret _))
  | true =>
   have e2 : (St.here i).nm l = tkx l i := by simp [St.nm, h1]
   rw [e2]
   cases h2 : tx l (i + 1) tColon with
   | false =>
    have e1 : ((((St.here i).name l).want l tColon).pass l tInt).want l tBool = .bad (i + 1) false := by simp [St.name, h1, h2, St.want, St.pass]
    rw [e1]
    exact .fail i _ false _ _ (Run.ifT h1 (Run.unexp h2))
   | true =>
    have h3 : tx l (i + 1 + 1) tInt = false := by simpa [St.name, h1, h2, St.want, St.tx] using h
    cases h4 : tx l (i + 1 + 1) tBool with
    | true =>
     have e1 : ((((St.here i).name l).want l tColon).pass l tInt).want l tBool = .here (i + 1 + 1 + 1) := by simp [St.name, h1, h2, h3, h4, St.want, St.pass]
     rw [e1]
     exact .ok i _ _ _ (Run.ifT h1 (Run.exp h2 (Run.ifT h4 Run.done))) (by omega)
    | false =>
     have e1 : ((((St.here i).name l).want l tColon).pass l tInt).want l tBool = .bad (i + 1 + 1) false := by simp [St.name, h1, h2, h3, h4, St.want, St.pass]
     rw [e1]
     exact .fail i _ false _ _ (Run.ifT h1 (Run.exp h2 (Run.ifF h4 (Run.unexp h3))))
def varsN (l : List Tk) (no : Bool) (i d : Nat) (k : List Ex → Nat → Act) : Act := if no && tx l i tShut then k [] i else varsA i d k
inductive VsRel (l : List Tk) (no : Bool) (d : Nat) (base : Nat) (w' : World) : St → St → Option Addr → Nat → Nat → Prop
 | ok (i j : Nat) (es : List Ex) (so : Option Addr) (sc : Nat) : (∀ k r, Run l (k es j) r → Run l (varsN l no i d k) r) → i ≤ j → es.length ≤ j → RowAt w' (From base) 2 (.slice so es.length sc) es.length (varCells es) → VsRel l no d base w' (.here i) (.here j) so es.length sc
 | fail (i j : Nat) (bd : Bool) (so : Option Addr) (m sc : Nat) : (∀ k, Run l (varsN l no i d k) (.bad j bd)) → VsRel l no d base w' (.here i) (.bad j bd) so m sc
 | stay (j : Nat) (bd : Bool) (so : Option Addr) (m sc : Nat) : VsRel l no d base w' (.bad j bd) (.bad j bd) so m sc
theorem varCells_take (vs : List Ex) (i : Nat) (hi : i < vs.length) : varCells (vs.take (i + 1)) = varCells (vs.take i) ++ [.string vs[i].op, .int .i64 vs[i].n] := by
 rw [← varCells_snoc, List.take_succ_eq_append_getElem hi]
theorem Fit.at {N : Nat} {l : List Ex} (h : Fit N l) : ∀ {i : Nat} (hi : i < l.length) {op : ByteArray} {n : Int} {s : ByteArray} {es : List Ex}, l[i] = .mk op n s es → es.length ≤ N ∧ Fit N es := by
 induction h with
 | nil => intro i hi; simp at hi
 | cons op n s l es h1 h2 _ _ ih =>
  intro i hi op' n' s' es' e
  cases i with
  | zero =>
   simp only [List.getElem_cons_zero, Ex.mk.injEq] at e
   obtain ⟨_, _, _, rfl⟩ := e
   exact ⟨h1, h2⟩
  | succ i => exact ih (i := i) (by simpa using hi) (by simpa using e)
end Go.Proofs.YtgbpccipdcajgaaGreatDoor
namespace Go.Proofs.YtgbpccipdcajgaaGreatDoor
open Go.RowKit
inductive KRel (l : List Tk) (P : Res → Prop) (i : Nat) : St → (Nat → Act) → Prop
 | here (j : Nat) (k : Nat → Act) : (∀ r, Run l (k j) r → P r) → i ≤ j → KRel l P i (.here j) k
 | bad (j : Nat) (bd : Bool) (k : Nat → Act) : P (.bad j bd) → KRel l P i (.bad j bd) k
section
variable {l : List Tk} {P : Res → Prop} {i : Nat} {st : St}
theorem KRel.any {k k' : Nat → Act} (h : KRel l P i st k) (hs : st.isAt = false) : KRel l P i st k' := by
 cases h with
 | here j _ _ _ => cases hs
 | bad j bd _ hp => exact .bad j bd _ hp
theorem KRel.want {x : List UInt8} {k : Nat → Act} (h : KRel l P i st (fun j => expA l j x k)) : KRel l P i (st.want l x) k := by
 cases h with
 | bad j bd _ hp => exact .bad j bd _ hp
 | here j _ hp hij =>
  cases hx : tx l j x with
  | false =>
   rw [show (St.here j).want l x = .bad j false from by simp only [St.want, hx, Bool.false_eq_true, if_false]]
   exact .bad j false _ (hp _ (Run.unexp hx))
  | true =>
   rw [show (St.here j).want l x = .here (j + 1) from by simp only [St.want, hx, if_true]]
   exact .here (j + 1) _ (fun r hr => hp r (Run.exp hx hr)) (by omega)
theorem KRel.name {k : ByteArray → Nat → Act} (h : KRel l P i st (fun j => nameA l j (k (tkx l j)))) : KRel l P i (st.name l) (k (st.nm l)) := by
 cases h with
 | bad j bd _ hp => exact .bad j bd _ hp
 | here j _ hp hij =>
  cases hx : isName l j with
  | false =>
   rw [show (St.here j).name l = .bad j false from by simp [St.name, hx]]
   exact .bad j false _ (hp _ (Run.ifF hx (.ret _)))
  | true =>
   rw [show (St.here j).name l = .here (j + 1) from by simp [St.name, hx], show (St.here j).nm l = tkx l j from by simp [St.nm, hx]]
   exact .here (j + 1) _ (fun r hr => hp r (Run.ifT hx hr)) (by omega)
theorem KRel.vars {no : Bool} {e : Nat} {k : List Ex → Nat → Act} {st' : St} {base : Nat} {w' : World} {so : Option Addr} {m sc : Nat} (h : KRel l P i st (fun j => varsN l no j e k)) (q : VsRel l no e base w' st st' so m sc) :
  ∃ es, KRel l P i st' (k es) ∧ (st'.isAt = true → m = es.length ∧ RowAt w' (From base) 2 (.slice so m sc) m (varCells es)) := by
 cases h with
 | bad j bd _ hp =>
  cases q with
  | stay _ _ => exact ⟨[], .bad j bd _ hp, fun h => by cases h⟩
 | here j _ hp hij =>
  cases q with
  | ok _ j' es _ _ hq hjj hl hrow => exact ⟨es, .here j' _ (fun r hr => hp r (hq k r hr)) (by omega), fun _ => ⟨rfl, hrow⟩⟩
  | fail _ j' bd _ _ _ hq => exact ⟨[], .bad j' bd _ (hp _ (hq k)), fun h => by cases h⟩
theorem KRel.own {e : Nat} {a : List Ex} {k : List Ex → Nat → Act} {st1 : St} {s : ByteArray} {x : Int} (h : KRel l P i st (fun j => .call (.owns a) j e k)) (q : VRel l e st st1 s x) :
  KRel l P i (st1.want l tSemi) (fun j => if isName l j then .call (.owns (a ++ [.mk s x b0 []])) j e k else k (a ++ [.mk s x b0 []]) j) := by
 cases h with
 | bad j bd _ hp =>
  cases q with
  | stay _ _ => exact .bad j bd _ hp
 | here j _ hp hij =>
  cases q with
  | fail _ j' bd _ _ hq => exact .bad j' bd _ (hp _ (Run.stop (Run.stop hq)))
  | ok _ j' _ _ hq hjj =>
   cases hx : tx l j' tSemi with
   | false =>
    rw [show (St.here j').want l tSemi = .bad j' false from by simp only [St.want, hx, Bool.false_eq_true, if_false]]
    exact .bad j' false _ (hp _ (Run.stop (Run.then hq (Run.unexp hx))))
   | true =>
    rw [show (St.here j').want l tSemi = .here (j' + 1) from by simp only [St.want, hx, if_true]]
    refine .here (j' + 1) _ (fun r hr => hp r ?_) (by omega)
    cases hn : isName l (j' + 1) with
    | false =>
     simp only [hn, Bool.false_eq_true, if_false] at hr
     exact Run.then (Run.then hq (Run.exp hx (Run.ifF hn Run.done))) hr
    | true =>
     simp only [hn, if_true] at hr
     cases hr with
     | ok _ _ _ _ e j _ h3 h2 => exact Run.then (Run.then hq (Run.exp hx (Run.ifT hn (Run.tail h3)))) h2
     | bad _ _ _ _ j b h3 => exact Run.stop (Run.then hq (Run.exp hx (Run.ifT hn (Run.tail h3))))
end
section
variable {l : List Tk} {P : Res → Prop} {i : Nat} {st st' : St} {name : ByteArray} {ins outs owns qs : List Ex}
theorem KRel.end (h : KRel l P i st (fun j => retA [.mk name 0 b0 [lst ins, lst outs, lst owns, lst qs]] j)) :
  (∀ j, st = .here j → P (.ok [.mk name 0 b0 [lst ins, lst outs, lst owns, lst qs]] j) ∧ i ≤ j) ∧ ∀ j bd, st = .bad j bd → P (.bad j bd) := by
 cases h with
 | here j _ hp hij => exact ⟨fun j' e => by cases e; exact ⟨hp _ Run.done, hij⟩, fun _ _ e => by cases e⟩
 | bad j bd _ hp => exact ⟨fun _ e => by (cases e), fun _ _ e => by cases e; exact hp⟩
inductive PRel (l : List Tk) : St → List Ex → Prop
 | here (j : Nat) (es : List Ex) : (∀ r, Parse l (.nodes es) j 0 r → Parse l (.nodes []) 0 0 r) → es.length ≤ 12 → PRel l (.here j) es
 | bad (j : Nat) (bd : Bool) (es : List Ex) : Parse l (.nodes []) 0 0 (.bad j bd) → PRel l (.bad j bd) es
theorem PRel.start : PRel l (.here 0) [] := .here 0 [] (fun _ h => h) (by simp)
end
end Go.Proofs.YtgbpccipdcajgaaGreatDoor
namespace Go.Proofs.YtgbpccipdcajgaaGreatDoor
open Go.RowKit
attribute [local go_sem ↓] Go.wp_at_zero Go.wp_at_succ
abbrev tTerm : Obj := .cells #[.string ⟨#[]⟩, .int .i64 0, .string ⟨#[]⟩, .slice none 0 0] 105
set_option maxRecDepth 100000 in
set_option maxHeartbeats 1000000 in
theorem varsOf_any (w : World) (S : Nat → Prop) (o : Option Addr) (c : Nat) (vs : List Ex) (h : RowAt w S 2 (.slice o vs.length c) vs.length (varCells vs)) (hn : vs.length ≤ 5864062014805) :
  Calls Tryz.prog 50 #[.slice o vs.length c] w fun e w' => (∃ so sc, e = .returned (.slice so vs.length sc) ∧ RowAt w' (From w.heap.size) 2 (.slice so vs.length sc) vs.length (varCells vs)) ∧ Below w.heap.size w w' := by
 obtain ⟨i0, hi0, hz0, hz1, hz2⟩ := info_parts Tryz.infoVar
 have H : Hid (RowAt w S 2 (.slice o vs.length c) vs.length (varCells vs)) := h
 clear h
 go_enter Tryz.func50, Tryz.ntmps50
 go_wp2
 go_loopw [3, 4] (fun v t wr => ∃ (i : Nat) (so : Option Addr) (sc : Nat), i ≤ vs.length ∧ t = .int .i64 i ∧ v = .slice so i sc ∧ wr.ownsRow w.heap.size 149 2 (.slice so i sc) i (varCells (vs.take i)) ∧ Below w.heap.size w wr) (fun _ t _ => vs.length - (intOf t).toNat)
 case atStart => exact ⟨0, none, 0, Nat.zero_le _, rfl, rfl, World.ownsRow_nil _ _ _ _, Below.refl _ _⟩
 case round =>
  obtain ⟨i, so, sc, hi, rfl, rfl, hown, hb⟩ := hrel
  by_cases hlt : i < vs.length
  ·obtain ⟨b, off, rfl, _, g⟩ := row_get H.out (by rw [varCells_length]; omega)
   have c0 := cell_keep hb (g _ _ (varCells_at hlt).1)
   have c1 := cell_keep hb (g _ _ (varCells_at hlt).2)
   rw [← Nat.add_assoc] at c1
   have i0' : (0 : Int) ≤ (i : Int) := by omega
   have i1 : (i : Int) < (vs.length : Int) := by omega
   have hn63 : i + 1 ≤ maxLen := by unfold maxLen; omega
   have hby : (i + 1) * 24 ≤ 140737488355328 := by omega
   have hdr : (wr.drew).ownsRow w.heap.size 149 2 (.slice so i sc) i (varCells (vs.take i)) := hown
   have HO : Hid (∀ o, (wr.drew.alloc o).ownsRow w.heap.size 149 2 (.slice so i sc) i (varCells (vs.take i))) := fun o => hdr.alloc o
   have hnb : (wr.drew.alloc (.cells #[.string vs[i].op, .int .i64 vs[i].n] 149)).heap[wr.heap.size]? = some (.cells #[.string vs[i].op, .int .i64 vs[i].n] 149) := by
    show (wr.heap.push _)[wr.heap.size]? = _
    simp
   have HN' : Hid _ := World.news_of_block hnb
   have hrow : Hid (∀ k, (Value.slice so i sc).ownBlock = some k → w.heap.size ≤ k ∧ k < wr.heap.size) := fun k hk => ownsRow_block hown hk
   have hsz : w.heap.size ≤ (wr.drew.alloc (.cells #[.string vs[i].op, .int .i64 vs[i].n] 149)).heap.size := Nat.le_trans hb.size (by show _ ≤ (wr.heap.push _).size; simp)
   clear hnb hdr g
   go_wp2
   go_region_law (refine step_append_lies _ rfl (.tmp 11) (.tmp 23) 67 rfl w.heap.size 149 i0 _ 2 24 Tryz.underlying67 hi0 hz0 hz1 hz2 rfl (by omega) (.slice so i sc) i (varCells (vs.take i)) (by simp [Act.eval]) (HO.out _) ⟨wr.heap.size, 0, none⟩ 1 1 [.string vs[i].op, .int .i64 vs[i].n] (by simp [Act.eval]) rfl HN'.out (by simp [Value.oneCell']) (by omega) hn63 hby hsz _ rfl (fun g cap w3 hown3 hgrow hat hlt3 => ?_))
   all_goals
    rw [← varCells_take vs i hlt] at hown3
    have hB3 : Below w.heap.size w w3 := ((hb.alloc hb.size _).drew).grown hgrow (Nat.le_trans hb.size (by show _ ≤ (wr.heap.push _).size; simp)) (fun k hk => (hrow.out k hk).1)
    clear HO HN' hrow hsz hgrow hat hown c0 c1
    go_wp2
    exact ⟨⟨i + 1, some ⟨g, 0, none⟩, cap, by omega, by go_num, rfl, hown3, hB3⟩, by simp [intOf]; omega⟩
  ·go_wp2
   go_ret
   obtain rfl : i = vs.length := by omega
   rw [List.take_length] at hown
   exact ⟨⟨_, _, rfl, RowAt.of_owns hown⟩, hb⟩

set_option maxRecDepth 100000 in
set_option maxHeartbeats 1000000 in
theorem exprOf_any : ∀ (m : Nat) (op : ByteArray) (n : Int) (s : ByteArray) (l : List Ex), SizeOf.sizeOf l < m → l.length ≤ 2199023255552 → Fit 2199023255552 l → ∀ (w : World) (S : Nat → Prop) (o : Option Addr) (c : Nat) (ys : List Value), RowAt w S 4 (.slice o l.length c) l.length ys → ExIn w S l ys →
  Calls Tryz.prog 51 #[.agg #[.string op, .int .i64 n, .string s, .slice o l.length c]] w fun e w' => (∃ so sc ys', e = .returned (.agg #[.string op, .int .i64 n, .string s, .slice so l.length sc]) ∧ RowAt w' (From w.heap.size) 4 (.slice so l.length sc) l.length ys' ∧ ExIn w' (From w.heap.size) l ys') ∧ Below w.heap.size w w'
 | 0, _, _, _, _, h => absurd h (Nat.not_lt_zero _)
 | m + 1, op, n, s, l, hm => by
  intro hl hf w S o c ys h1 h2
  obtain ⟨i0, hi0, hz0, hz1, hz2⟩ := info_parts Tryz.infoExpr
  have IH := exprOf_any m
  have H1 : Hid (RowAt w S 4 (.slice o l.length c) l.length ys) := h1
  have H2 : Hid (ExIn w S l ys) := h2
  clear h1 h2
  go_enter Tryz.func51, Tryz.ntmps51
  have hbA : Below w.heap.size w (((w.alloc (.cells #[.string op, .int .i64 n, .string s, .slice o l.length c] 94)).alloc tTerm).alloc (teObj op n s (.slice none 0 0))) := (((Below.refl _ _).alloc (Nat.le_refl _) _).alloc (by simp) _).alloc (by simp; omega) _
  have HA : Hid ((((w.alloc (.cells #[.string op, .int .i64 n, .string s, .slice o l.length c] 94)).alloc tTerm).alloc (teObj op n s (.slice none 0 0))).heap[w.heap.size]? = some (.cells #[.string op, .int .i64 n, .string s, .slice o l.length c] 94)) := alloc_row _ (alloc_row _ (heap_alloc_new w _))
  have HB : Hid ((((w.alloc (.cells #[.string op, .int .i64 n, .string s, .slice o l.length c] 94)).alloc tTerm).alloc (teObj op n s (.slice none 0 0))).heap[w.heap.size + 1]? = some tTerm) := alloc_row _ (two_new w _ _)
  have HC : Hid ((((w.alloc (.cells #[.string op, .int .i64 n, .string s, .slice o l.length c] 94)).alloc tTerm).alloc (teObj op n s (.slice none 0 0))).heap[w.heap.size + 1 + 1]? = some (teObj op n s (.slice none 0 0))) := heap_alloc_new' (by simp) _
  go_wp2
  go_loopw [4] (fun t wr => ∃ (i : Nat) (so : Option Addr) (sc : Nat) (cells : List Value), i ≤ l.length ∧ t = .int .i64 i ∧ Below w.heap.size w wr ∧ w.heap.size + 1 + 1 + 1 ≤ wr.heap.size ∧ Hid (wr.heap[w.heap.size]? = some (.cells #[.string op, .int .i64 n, .string s, .slice o l.length c] 94)) ∧ Hid (wr.heap[w.heap.size + 1]? = some tTerm) ∧ Hid (wr.heap[w.heap.size + 1 + 1]? = some (teObj op n s (.slice so i sc))) ∧ Hid (wr.ownsRow (w.heap.size + 1 + 1 + 1) 105 4 (.slice so i sc) i cells) ∧ Hid (ExIn wr (fun k => w.heap.size + 1 + 1 + 1 ≤ k ∧ (Value.slice so i sc).ownBlock ≠ some k) (l.take i) cells)) (fun t _ => l.length - (intOf t).toNat)
  case atStart => exact ⟨0, none, 0, [], Nat.zero_le _, rfl, hbA, by simp, HA, HB, HC, World.ownsRow_nil _ _ _ _, .nil⟩
  case round =>
   clear HA HB HC hbA
   obtain ⟨i, so, sc, cells, hi, rfl, hb, hsz, HAr, HBr, HCr, HO, HI⟩ := hrel
   obtain ⟨_, _, _, a3, _⟩ := blk4 HAr.out
   obtain ⟨d0, d1, d2, d3, df⟩ := blk4 HCr.out
   by_cases hlt : i < l.length
   ·obtain ⟨op', n', s', es, oo, cc, zs, e, x0, x1, x2, x3, r1, r2⟩ := H2.out.at hlt
    obtain ⟨p, f, rfl, _, g⟩ := row_get H1.out (by have := H1.out.1; omega)
    have x0 := cell_keep hb (g _ _ x0)
    have x1 := cell_keep hb (g _ _ x1)
    have x2 := cell_keep hb (g _ _ x2)
    have x3 := cell_keep hb (g _ _ x3)
    rw [← Nat.add_assoc] at x1 x2 x3
    have i0' : (0 : Int) ≤ (i : Int) := by omega
    have i1 : (i : Int) < (l.length : Int) := by omega
    have hsp := size_part hlt e
    obtain ⟨hfl, hff⟩ := hf.at hlt e
    have Hr : Hid (Calls Tryz.prog 51 #[.agg #[.string op', .int .i64 n', .string s', .slice oo es.length cc]] wr.drew fun e w' => (∃ so sc ys', e = .returned (.agg #[.string op', .int .i64 n', .string s', .slice so es.length sc]) ∧ RowAt w' (From wr.drew.heap.size) 4 (.slice so es.length sc) es.length ys' ∧ ExIn w' (From wr.drew.heap.size) es ys') ∧ Below wr.drew.heap.size wr.drew w') := IH op' n' s' es (by omega) hfl hff wr.drew S oo cc zs (r1.keep (Stays.below hb.drew (fun k hk => hk))) (r2.keep (Stays.below hb.drew (fun k hk => hk)))
    have hn63 : i + 1 ≤ maxLen := by unfold maxLen; omega
    have hby : (i + 1) * 64 ≤ 140737488355328 := by omega
    have hrw : Hid (∀ k, (Value.slice so i sc).ownBlock = some k → w.heap.size + 1 + 1 + 1 ≤ k ∧ k < wr.heap.size) := fun k hk => ownsRow_block HO.out hk
    have e' : Hid (l[i] = .mk op' n' s' es) := e
    clear g r1 r2 IH hsp hfl hff e
    go_wp2
    go_region_law (first
     | (refine step_append_lies _ rfl (.tmp 20) (.tmp 27) 103 rfl (w.heap.size + 1 + 1 + 1) 105 i0 _ 4 64 Tryz.underlying103 hi0 hz0 hz1 hz2 rfl (by omega) (.slice so i sc) i cells (by simp [Act.eval]) HO4.out ⟨w4.heap.size, 0, none⟩ 1 1 [.string op', .int .i64 n', .string s', .slice so' es.length sc'] (by simp [Act.eval]) rfl HN'.out (by simp [Value.oneCell']) (by omega) hn63 hby (by rw [World.size_alloc]; omega) (w4.heap.size + 1) (by simp) ?_; intro g2 cap w5 hown5 hgrow hat hlt5; have HC5 : Hid _ := heap_grown hgrow (b := w.heap.size + 1 + 1) (fun hk => by have := (hrw.out _ hk).1; omega) (alloc_row _ HC4.out); have q3 := (blk4 HC5.out).2.2.2.1; have qf := (blk4 HC5.out).2.2.2.2 3)
     | (refine step_call rfl 51 #[.agg #[.string op', .int .i64 n', .string s', .slice oo es.length cc]] (by kernel_rfl) ?_; refine Hr.out.mono ?_; rintro e w4 ⟨⟨so', sc', ys', rfl, hrow', hin'⟩, hb4⟩; have hs4 : wr.heap.size ≤ w4.heap.size := hb4.size; have hb4' : Below wr.heap.size wr w4 := (Below.refl _ _).drew.trans hb4; have HC4 : Hid _ := row_keep hb4' HCr.out; obtain ⟨v0, v1, v2, v3, vf⟩ := blk4 HC4.out; have hltc : w.heap.size + 1 + 1 < w4.heap.size := (by omega); have HO4 : Hid _ := (ownsRow_mv (ba := w.heap.size + 1 + 1) HO.out (Mv.of_below hb4') (by omega)).alloc (.cells #[.string op', .int .i64 n', .string s', .slice so' es.length sc'] 105); have HN' : Hid _ := World.news_of_block (heap_alloc_new w4 (.cells #[.string op', .int .i64 n', .string s', .slice so' es.length sc'] 105)); dsimp only))
    all_goals
     have hbg : Below (w.heap.size + 1 + 1) w4 w5 := ((Below.refl _ _).alloc (by omega) _).grown hgrow (by simp; omega) (fun k hk => by have := (hrw.out k hk).1; omega)
     have hbs := hbg.size
     have HB5 : Hid ((w5.setCell ⟨w.heap.size + 1 + 1, 3, none⟩ (.slice (some ⟨g2, 0, none⟩) (i + 1) cap)).heap[w.heap.size + 1]? = some tTerm) := (Below.heap_setCell _ _ _ _ (by show w.heap.size + 1 ≠ w.heap.size + 1 + 1; omega)).trans (heap_grown hgrow (fun hk => by have := (hrw.out _ hk).1; omega) (alloc_row _ (row_keep hb4' HBr.out)))
     have HA5 : Hid ((w5.setCell ⟨w.heap.size + 1 + 1, 3, none⟩ (.slice (some ⟨g2, 0, none⟩) (i + 1) cap)).heap[w.heap.size]? = some (.cells #[.string op, .int .i64 n, .string s, .slice (some ⟨p, f, none⟩) l.length c] 94)) := (Below.heap_setCell _ _ _ _ (by show w.heap.size ≠ w.heap.size + 1 + 1; omega)).trans (heap_grown hgrow (fun hk => by have := (hrw.out _ hk).1; omega) (alloc_row _ (row_keep hb4' HAr.out)))
     have St0 := (grow_old (base := w.heap.size + 1 + 1 + 1) (b := w.heap.size + 1 + 1) (n := i + 1) (cap := cap) (Mv.of_below hb4') (by omega) hgrow hat).trans (Stays.set (S' := fun k => w.heap.size + 1 + 1 + 1 ≤ k ∧ (Value.slice (some ⟨g2, 0, none⟩) (i + 1) cap).ownBlock ≠ some k) (p := ⟨w.heap.size + 1 + 1, 3, none⟩) (.slice (some ⟨g2, 0, none⟩) (i + 1) cap) (fun k hk => ⟨by show k ≠ w.heap.size + 1 + 1; omega, hk⟩)) (by omega)
     have St1 := (grow_new (base := w.heap.size + 1 + 1 + 1) (H := wr.heap.size) (n := i + 1) (cap := cap) (by omega) (fun k hk => (hrw.out k hk).2) hgrow hat).trans (Stays.set (S' := fun k => w.heap.size + 1 + 1 + 1 ≤ k ∧ (Value.slice (some ⟨g2, 0, none⟩) (i + 1) cap).ownBlock ≠ some k) (p := ⟨w.heap.size + 1 + 1, 3, none⟩) (.slice (some ⟨g2, 0, none⟩) (i + 1) cap) (fun k hk => ⟨by show k ≠ w.heap.size + 1 + 1; omega, hk⟩)) (by omega)
     have hBf : Below w.heap.size w (w5.setCell ⟨w.heap.size + 1 + 1, 3, none⟩ (.slice (some ⟨g2, 0, none⟩) (i + 1) cap)) := (hb.trans ((hb4'.mono hb.size).trans (hbg.mono (by omega)))).setCell (by show w.heap.size ≤ w.heap.size + 1 + 1; omega) _
     have HI5 : Hid (ExIn (w5.setCell ⟨w.heap.size + 1 + 1, 3, none⟩ (.slice (some ⟨g2, 0, none⟩) (i + 1) cap)) (fun k => w.heap.size + 1 + 1 + 1 ≤ k ∧ (Value.slice (some ⟨g2, 0, none⟩) (i + 1) cap).ownBlock ≠ some k) (l.take (i + 1)) (cells ++ [.string op', .int .i64 n', .string s', .slice so' es.length sc'])) := by
      rw [List.take_succ_eq_append_getElem hlt, e'.out]
      exact (HI.out.keep St0).append (.cons _ _ _ es [] _ ys' [] (hrow'.keep St1) (hin'.keep St1) .nil)
     clear St0 St1 hrow' hin'
     go_wp2
     exact ⟨⟨i + 1, some ⟨g2, 0, none⟩, cap, _, by omega, by go_num, hBf, by simp; omega, HA5, HB5, set_row HC5.out, ownsRow_mv hown5 (Mv.setAt (w.heap.size + 1 + 1) 3 _ _) (by omega), HI5⟩, by simp [intOf]; omega⟩
   ·obtain ⟨z0, z1, z2, z3, zf⟩ := blk4 HBr.out
    have zf0 := zf 0
    have zf1 := zf 1
    have zf2 := zf 2
    have zf3 := zf 3
    obtain rfl : i = l.length := by omega
    go_wp2
    have hr := set4_row (a := .string op) (b := .int .i64 n) (c := .string s) (e := .slice so l.length sc) HBr.out
    obtain ⟨y0, y1, y2, y3, _⟩ := blk4 hr
    simp only [set4] at y0 y1 y2 y3
    have hin := HI.out
    rw [List.take_length] at hin
    have St : ∀ {S : Nat → Prop}, (∀ k, S k → w.heap.size + 1 + 1 + 1 ≤ k) → Stays S (From w.heap.size) wr (set4 wr (w.heap.size + 1) (.string op) (.int .i64 n) (.string s) (.slice so l.length sc)) := fun hs => set4_stays (fun k hk => by have := hs k hk; exact ⟨by omega, by unfold From; omega⟩)
    exact bodyPost_ret (v := .agg #[.string op, .int .i64 n, .string s, .slice so l.length sc]) (by simp [results, Tryz.results51, go_sem, y0, y1, y2, y3]) rfl ⟨⟨so, sc, cells, rfl, (RowAt.of_owns HO.out).keep (St (fun k hk => hk)), hin.keep (St (fun k hk => hk.1))⟩, hb.trans (set4_below (by omega))⟩
end Go.Proofs.YtgbpccipdcajgaaGreatDoor
