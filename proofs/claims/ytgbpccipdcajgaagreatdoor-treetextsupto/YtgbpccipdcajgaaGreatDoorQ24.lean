/-
  package tree's WRITER: bare, operator by operator, to the byte, by what is known of terms that are smaller.
-/
import Derived.Test.YtgbpccipdcajgaaGreatDoorQ23
import Derived.Test.YtgbpccipdcajgaaGreatDoorQ22
namespace Go.Proofs.YtgbpccipdcajgaaGreatDoor
open Go.RowKit
attribute [local go_sem ↓] Go.wp_at_zero Go.wp_at_succ
theorem part_tx {ps : List Nat} {l : List Ex} {i : Nat} (hi : i < l.length) (hp : i < ps.length) : (twP ps l).getD i none = tw ps[i] l[i] := by
 rw [twP_getD hi, List.getD_eq_getElem?_getD, List.getElem?_eq_getElem hp]; rfl
set_option maxRecDepth 100000 in
set_option maxHeartbeats 1000000 in
theorem xbare_two (K : Prop) (B b : Nat) (pS : Addr) (m : Nat) (IH : TermX K B b pS m) (op : ByteArray) (n : Int) (s : ByteArray) (l : List Ex) (hm : SizeOf.sizeOf l < m + 1) (lx : List UInt8) (w : World) (d : Nat) (o : Option Addr) (c : Nat) (ys : List Value) (hd : d ≤ 6000) (hK : 6000 < d + dptL l → K) (h : WStX B b d pS lx w) (h1 : RowAt w (fun k => k < B) 4 (.slice o l.length c) l.length ys) (h2 : ExIn w (fun k => k < B) l ys) (lv : Int) (ps : List Nat) (q : Nat) (r4 : w.heap[q]? = some (.cells (intCells ps).toArray 3 (0, 0))) (hqb : q ≠ b) (hpl : ps.length = l.length) (hn : 2 ≤ l.length) (t0 : (op.toList == [105, 110, 116]) = false) (t1 : (op.toList == [116, 114, 117, 101]) = false) (t2 : (op.toList == [102, 97, 108, 115, 101]) = false) (t3 : (op.toList == [110, 97, 109, 101]) = false) (t4 : (op.toList == [99, 97, 108, 108]) = false) (t5 : (op.toList == [105, 102]) = false) (t6 : (op.toList == [110, 101, 103]) = false) (t7 : (op.toList == [110, 111, 116]) = false) (t8 : (op.toList == [112, 114, 101]) = false) :
  Calls Tryz.prog 162 #[.pointer (some ⟨b, 0, none⟩), .agg #[.string op, .int .i64 n, .string s, .slice o l.length c], .agg #[.int .i64 lv, .slice (some ⟨q, 0, none⟩) ps.length ps.length]] w fun e w' => WAnyX K B b d pS lx (bareX op n s (twP ps l)) w e w' := by
 have ne : ∀ {y : List UInt8}, (op.toList == y) = false → op.toList ≠ y := fun h => beq_eq_false_iff_ne.1 h
 have HBX : bareX op n s (twP ps l) = catX ((twP ps l).getD 0 none) (catX (some (32 :: (op.data.toList ++ [32]))) ((twP ps l).getD 1 none)) := by
  rw [bareX, if_neg (ne t0), if_neg (ne t1), if_neg (ne t2), if_neg (ne t3), if_neg (ne t4), if_neg (ne t5), if_neg (ne t6), if_neg (fun h => h.elim (ne t7) (ne t8))]
 rw [HBX]
 clear HBX ne
 have hmf : ∀ (fn : Fn) (first cap : Array Value) (w : World), (Instr.makeFunc fn first cap).run Tryz.prog w = .ok (.func fn first cap) w := fun _ _ _ _ => rfl
 have hlt := h.lt
 have hle := h.le
 have hql : q < w.heap.size := (Array.getElem?_eq_some_iff.1 r4).1
 have s0 : WStX B b d pS lx (((w.alloc (.cells #[.pointer (some ⟨b, 0, none⟩)] 110)).alloc (teObj op n s (.slice o l.length c))).alloc (shObj lv (.slice (some ⟨q, 0, none⟩) ps.length ps.length))) := ((h.alloc _).alloc _).alloc _
 have b0 : Below B w (((w.alloc (.cells #[.pointer (some ⟨b, 0, none⟩)] 110)).alloc (teObj op n s (.slice o l.length c))).alloc (shObj lv (.slice (some ⟨q, 0, none⟩) ps.length ps.length))) := (((Below.refl _ _).alloc (by omega) _).alloc (by simp; omega) _).alloc (by simp; omega) _
 have k0 : Kept b w (((w.alloc (.cells #[.pointer (some ⟨b, 0, none⟩)] 110)).alloc (teObj op n s (.slice o l.length c))).alloc (shObj lv (.slice (some ⟨q, 0, none⟩) ps.length ps.length))) := (((Lib.OthersKept.refl _ _ _).alloc _).alloc _).alloc _
 have HR : Hid (∀ w', Kept b (((w.alloc (.cells #[.pointer (some ⟨b, 0, none⟩)] 110)).alloc (teObj op n s (.slice o l.length c))).alloc (shObj lv (.slice (some ⟨q, 0, none⟩) ps.length ps.length))) w' → w'.heap[w.heap.size]? = some (.cells #[.pointer (some ⟨b, 0, none⟩)] 110 (0, 0)) ∧ w'.heap[w.heap.size + 1]? = some (teObj op n s (.slice o l.length c)) ∧ w'.heap[w.heap.size + 1 + 1]? = some (shObj lv (.slice (some ⟨q, 0, none⟩) ps.length ps.length)) ∧ w'.heap[q]? = some (.cells (intCells ps).toArray 3 (0, 0))) := fun w' k => ⟨kept_row k (alloc_row _ (alloc_row _ (heap_alloc_new w _))) (by omega) (by intro c fz e; injection e with _ e; exact absurd e (by decide)), kept_row k (alloc_row _ (two_new w _ _)) (by omega) (by intro c fz e; injection e with _ e; exact absurd e (by decide)), kept_row k (heap_alloc_new' (by simp) _) (by omega) (by intro c fz e; injection e with _ e; exact absurd e (by decide)), kept_row k (alloc_row _ (alloc_row _ (alloc_row _ r4))) hqb (by intro c fz e; injection e with _ e; exact absurd e (by decide))⟩
 have HP : Hid (∀ (lx' : List UInt8) (w' : World) (i : Nat) (k : Int), k = Int.ofNat i → i < l.length → WStX B b d pS lx' w' → Below B w w' → Kept b (((w.alloc (.cells #[.pointer (some ⟨b, 0, none⟩)] 110)).alloc (teObj op n s (.slice o l.length c))).alloc (shObj lv (.slice (some ⟨q, 0, none⟩) ps.length ps.length))) w' → Calls Tryz.prog 172 #[.int .i64 k, .pointer (some ⟨w.heap.size, 0, none⟩), .pointer (some ⟨w.heap.size + 1, 0, none⟩), .pointer (some ⟨w.heap.size + 1 + 1, 0, none⟩)] w' fun e w'' => WAnyX K B b d pS lx' ((twP ps l).getD i none) w' e w'') := fun lx' w' i k ek hi hw hb hk => ek ▸ part_tx (ps := ps) (l := l) (i := i) hi (by omega) ▸ part_x K B b pS m IH op n s l hm lx' w' d o c ys hd hK hw (below_row h1 hb) (below_ex h2 hb) w.heap.size (w.heap.size + 1) (w.heap.size + 1 + 1) q lv ps i hi (by omega) (HR.out w' hk).1 (HR.out w' hk).2.1 (HR.out w' hk).2.2.1 (HR.out w' hk).2.2.2
 have kz : Kept b (((w.alloc (.cells #[.pointer (some ⟨b, 0, none⟩)] 110)).alloc (teObj op n s (.slice o l.length c))).alloc (shObj lv (.slice (some ⟨q, 0, none⟩) ps.length ps.length))) (((w.alloc (.cells #[.pointer (some ⟨b, 0, none⟩)] 110)).alloc (teObj op n s (.slice o l.length c))).alloc (shObj lv (.slice (some ⟨q, 0, none⟩) ps.length ps.length))) := Lib.OthersKept.refl _ _ _
 clear IH h1 h2 r4 hpl
 go_enter Tryz.func162, Tryz.ntmps162
 go_wp2_with fail
 refine (HP.out _ _ 0 0 rfl (by omega) s0 b0 kz).mono ?_
 rintro e v1 ⟨c1, j1, ⟨l1, rfl, u1, g1, x1, q1, rfl⟩ | ⟨ht, hr⟩⟩
 ·have s1 := WStX.next s0 c1 u1 g1
  obtain ⟨rw1, rr1, _, _⟩ := HR.out _ (kz.trans j1)
  have yw1 := (tblk1 rw1).1
  clear rw1
  obtain ⟨e10, _, _, _, _⟩ := blk4 rr1
  have hz1 : w.heap.size + 1 < v1.heap.size := lt_of_cell e10
  clear rr1
  go_wp2_with fail
  refine (put_newX K B b d pS _ _ [⟨#[32]⟩, op, ⟨#[32]⟩] (32 :: (op.data.toList ++ [32])) (by simp [flat]) _ 3 (by first | rfl | simp) rfl s1 (by decide) _ rfl).mono ?_
  rintro e v2 ⟨c2, j2, ⟨l2, rfl, u2, g2, x2, q2, rfl⟩ | ⟨ht, hr⟩⟩
  ·have s2 := WStX.next s1 c2 u2 g2
   obtain ⟨rw2, rr2, _, _⟩ := HR.out _ ((kz.trans j1).trans j2)
   have yw2 := (tblk1 rw2).1
   clear rw2
   obtain ⟨e20, _, _, _, _⟩ := blk4 rr2
   have hz2 : w.heap.size + 1 < v2.heap.size := lt_of_cell e20
   clear rr2
   go_wp2_with fail
   refine (HP.out _ _ 1 1 rfl (by omega) s2 ((b0.trans c1).trans c2) ((kz.trans j1).trans j2)).mono ?_
   rintro e v3 ⟨c3, j3, ⟨l3, rfl, u3, g3, x3, q3, rfl⟩ | ⟨ht, hr⟩⟩
   ·have s3 := WStX.next s2 c3 u3 g3
    obtain ⟨rw3, rr3, _, _⟩ := HR.out _ (((kz.trans j1).trans j2).trans j3)
    have yw3 := (tblk1 rw3).1
    clear rw3
    obtain ⟨e30, _, _, _, _⟩ := blk4 rr3
    have hz3 : w.heap.size + 1 < v3.heap.size := lt_of_cell e30
    clear rr3
    go_wp2
    go_end0
    exact ⟨(((b0.trans c1).trans c2).trans c3), (((k0.trans j1).trans j2).trans j3), Or.inl ⟨_, rfl, u3, g3, (((Ok.this q3).lift q2).lift q1)⟩⟩
   ·unfold WThrew at ht
    subst ht
    go_wp2
    exact ⟨rfl, (((b0.trans c1).trans c2).trans c3), (((k0.trans j1).trans j2).trans j3), Or.inr ⟨rfl, ((hr.lift q2).lift q1)⟩⟩
  ·unfold WThrew at ht
   subst ht
   go_wp2
   exact ⟨rfl, ((b0.trans c1).trans c2), ((k0.trans j1).trans j2), Or.inr ⟨rfl, ((hr.more _).lift q1)⟩⟩
 ·unfold WThrew at ht
  subst ht
  go_wp2
  exact ⟨rfl, (b0.trans c1), (k0.trans j1), Or.inr ⟨rfl, (hr.more _)⟩⟩
set_option maxRecDepth 100000 in
set_option maxHeartbeats 1000000 in
theorem xbare_not (K : Prop) (B b : Nat) (pS : Addr) (m : Nat) (IH : TermX K B b pS m) (op : ByteArray) (n : Int) (s : ByteArray) (l : List Ex) (hm : SizeOf.sizeOf l < m + 1) (lx : List UInt8) (w : World) (d : Nat) (o : Option Addr) (c : Nat) (ys : List Value) (hd : d ≤ 6000) (hK : 6000 < d + dptL l → K) (h : WStX B b d pS lx w) (h1 : RowAt w (fun k => k < B) 4 (.slice o l.length c) l.length ys) (h2 : ExIn w (fun k => k < B) l ys) (lv : Int) (ps : List Nat) (q : Nat) (r4 : w.heap[q]? = some (.cells (intCells ps).toArray 3 (0, 0))) (hqb : q ≠ b) (hpl : ps.length = l.length) (hn : 1 ≤ l.length) (tt : op.toList = [110, 111, 116]) :
  Calls Tryz.prog 162 #[.pointer (some ⟨b, 0, none⟩), .agg #[.string op, .int .i64 n, .string s, .slice o l.length c], .agg #[.int .i64 lv, .slice (some ⟨q, 0, none⟩) ps.length ps.length]] w fun e w' => WAnyX K B b d pS lx (bareX op n s (twP ps l)) w e w' := by
 have HBX : bareX op n s (twP ps l) = catX (some (op.data.toList ++ [32])) ((twP ps l).getD 0 none) := by
  rw [bareX, if_neg (by rw [tt]; decide), if_neg (by rw [tt]; decide), if_neg (by rw [tt]; decide), if_neg (by rw [tt]; decide), if_neg (by rw [tt]; decide), if_neg (by rw [tt]; decide), if_neg (by rw [tt]; decide), if_pos (by rw [tt]; decide)]
 rw [HBX]
 clear HBX
 have hmf : ∀ (fn : Fn) (first cap : Array Value) (w : World), (Instr.makeFunc fn first cap).run Tryz.prog w = .ok (.func fn first cap) w := fun _ _ _ _ => rfl
 have hlt := h.lt
 have hle := h.le
 have hql : q < w.heap.size := (Array.getElem?_eq_some_iff.1 r4).1
 have s0 : WStX B b d pS lx (((w.alloc (.cells #[.pointer (some ⟨b, 0, none⟩)] 110)).alloc (teObj op n s (.slice o l.length c))).alloc (shObj lv (.slice (some ⟨q, 0, none⟩) ps.length ps.length))) := ((h.alloc _).alloc _).alloc _
 have b0 : Below B w (((w.alloc (.cells #[.pointer (some ⟨b, 0, none⟩)] 110)).alloc (teObj op n s (.slice o l.length c))).alloc (shObj lv (.slice (some ⟨q, 0, none⟩) ps.length ps.length))) := (((Below.refl _ _).alloc (by omega) _).alloc (by simp; omega) _).alloc (by simp; omega) _
 have k0 : Kept b w (((w.alloc (.cells #[.pointer (some ⟨b, 0, none⟩)] 110)).alloc (teObj op n s (.slice o l.length c))).alloc (shObj lv (.slice (some ⟨q, 0, none⟩) ps.length ps.length))) := (((Lib.OthersKept.refl _ _ _).alloc _).alloc _).alloc _
 have HR : Hid (∀ w', Kept b (((w.alloc (.cells #[.pointer (some ⟨b, 0, none⟩)] 110)).alloc (teObj op n s (.slice o l.length c))).alloc (shObj lv (.slice (some ⟨q, 0, none⟩) ps.length ps.length))) w' → w'.heap[w.heap.size]? = some (.cells #[.pointer (some ⟨b, 0, none⟩)] 110 (0, 0)) ∧ w'.heap[w.heap.size + 1]? = some (teObj op n s (.slice o l.length c)) ∧ w'.heap[w.heap.size + 1 + 1]? = some (shObj lv (.slice (some ⟨q, 0, none⟩) ps.length ps.length)) ∧ w'.heap[q]? = some (.cells (intCells ps).toArray 3 (0, 0))) := fun w' k => ⟨kept_row k (alloc_row _ (alloc_row _ (heap_alloc_new w _))) (by omega) (by intro c fz e; injection e with _ e; exact absurd e (by decide)), kept_row k (alloc_row _ (two_new w _ _)) (by omega) (by intro c fz e; injection e with _ e; exact absurd e (by decide)), kept_row k (heap_alloc_new' (by simp) _) (by omega) (by intro c fz e; injection e with _ e; exact absurd e (by decide)), kept_row k (alloc_row _ (alloc_row _ (alloc_row _ r4))) hqb (by intro c fz e; injection e with _ e; exact absurd e (by decide))⟩
 have HP : Hid (∀ (lx' : List UInt8) (w' : World) (i : Nat) (k : Int), k = Int.ofNat i → i < l.length → WStX B b d pS lx' w' → Below B w w' → Kept b (((w.alloc (.cells #[.pointer (some ⟨b, 0, none⟩)] 110)).alloc (teObj op n s (.slice o l.length c))).alloc (shObj lv (.slice (some ⟨q, 0, none⟩) ps.length ps.length))) w' → Calls Tryz.prog 172 #[.int .i64 k, .pointer (some ⟨w.heap.size, 0, none⟩), .pointer (some ⟨w.heap.size + 1, 0, none⟩), .pointer (some ⟨w.heap.size + 1 + 1, 0, none⟩)] w' fun e w'' => WAnyX K B b d pS lx' ((twP ps l).getD i none) w' e w'') := fun lx' w' i k ek hi hw hb hk => ek ▸ part_tx (ps := ps) (l := l) (i := i) hi (by omega) ▸ part_x K B b pS m IH op n s l hm lx' w' d o c ys hd hK hw (below_row h1 hb) (below_ex h2 hb) w.heap.size (w.heap.size + 1) (w.heap.size + 1 + 1) q lv ps i hi (by omega) (HR.out w' hk).1 (HR.out w' hk).2.1 (HR.out w' hk).2.2.1 (HR.out w' hk).2.2.2
 have kz : Kept b (((w.alloc (.cells #[.pointer (some ⟨b, 0, none⟩)] 110)).alloc (teObj op n s (.slice o l.length c))).alloc (shObj lv (.slice (some ⟨q, 0, none⟩) ps.length ps.length))) (((w.alloc (.cells #[.pointer (some ⟨b, 0, none⟩)] 110)).alloc (teObj op n s (.slice o l.length c))).alloc (shObj lv (.slice (some ⟨q, 0, none⟩) ps.length ps.length))) := Lib.OthersKept.refl _ _ _
 clear IH h1 h2 r4 hpl
 go_enter Tryz.func162, Tryz.ntmps162
 go_wp2_with fail
 refine (put_newX K B b d pS _ _ [op, ⟨#[32]⟩] (op.data.toList ++ [32]) (by simp [flat]) _ 2 (by first | rfl | simp) rfl s0 (by decide) _ rfl).mono ?_
 rintro e v1 ⟨c1, j1, ⟨l1, rfl, u1, g1, x1, q1, rfl⟩ | ⟨ht, hr⟩⟩
 ·have s1 := WStX.next s0 c1 u1 g1
  obtain ⟨rw1, rr1, _, _⟩ := HR.out _ (kz.trans j1)
  have yw1 := (tblk1 rw1).1
  clear rw1
  obtain ⟨e10, _, _, _, _⟩ := blk4 rr1
  have hz1 : w.heap.size + 1 < v1.heap.size := lt_of_cell e10
  clear rr1
  go_wp2_with fail
  refine (HP.out _ _ 0 0 rfl (by omega) s1 (b0.trans c1) (kz.trans j1)).mono ?_
  rintro e v2 ⟨c2, j2, ⟨l2, rfl, u2, g2, x2, q2, rfl⟩ | ⟨ht, hr⟩⟩
  ·have s2 := WStX.next s1 c2 u2 g2
   obtain ⟨rw2, rr2, _, _⟩ := HR.out _ ((kz.trans j1).trans j2)
   have yw2 := (tblk1 rw2).1
   clear rw2
   obtain ⟨e20, _, _, _, _⟩ := blk4 rr2
   have hz2 : w.heap.size + 1 < v2.heap.size := lt_of_cell e20
   clear rr2
   go_wp2
   go_end0
   exact ⟨((b0.trans c1).trans c2), ((k0.trans j1).trans j2), Or.inl ⟨_, rfl, u2, g2, ((Ok.this q2).lift q1)⟩⟩
  ·unfold WThrew at ht
   subst ht
   go_wp2
   exact ⟨rfl, ((b0.trans c1).trans c2), ((k0.trans j1).trans j2), Or.inr ⟨rfl, (hr.lift q1)⟩⟩
 ·unfold WThrew at ht
  subst ht
  go_wp2
  exact ⟨rfl, (b0.trans c1), (k0.trans j1), Or.inr ⟨rfl, (hr.more _)⟩⟩
set_option maxRecDepth 100000 in
set_option maxHeartbeats 1000000 in
theorem xbare_pre (K : Prop) (B b : Nat) (pS : Addr) (m : Nat) (IH : TermX K B b pS m) (op : ByteArray) (n : Int) (s : ByteArray) (l : List Ex) (hm : SizeOf.sizeOf l < m + 1) (lx : List UInt8) (w : World) (d : Nat) (o : Option Addr) (c : Nat) (ys : List Value) (hd : d ≤ 6000) (hK : 6000 < d + dptL l → K) (h : WStX B b d pS lx w) (h1 : RowAt w (fun k => k < B) 4 (.slice o l.length c) l.length ys) (h2 : ExIn w (fun k => k < B) l ys) (lv : Int) (ps : List Nat) (q : Nat) (r4 : w.heap[q]? = some (.cells (intCells ps).toArray 3 (0, 0))) (hqb : q ≠ b) (hpl : ps.length = l.length) (hn : 1 ≤ l.length) (tt : op.toList = [112, 114, 101]) :
  Calls Tryz.prog 162 #[.pointer (some ⟨b, 0, none⟩), .agg #[.string op, .int .i64 n, .string s, .slice o l.length c], .agg #[.int .i64 lv, .slice (some ⟨q, 0, none⟩) ps.length ps.length]] w fun e w' => WAnyX K B b d pS lx (bareX op n s (twP ps l)) w e w' := by
 have HBX : bareX op n s (twP ps l) = catX (some (op.data.toList ++ [32])) ((twP ps l).getD 0 none) := by
  rw [bareX, if_neg (by rw [tt]; decide), if_neg (by rw [tt]; decide), if_neg (by rw [tt]; decide), if_neg (by rw [tt]; decide), if_neg (by rw [tt]; decide), if_neg (by rw [tt]; decide), if_neg (by rw [tt]; decide), if_pos (by rw [tt]; decide)]
 rw [HBX]
 clear HBX
 have hmf : ∀ (fn : Fn) (first cap : Array Value) (w : World), (Instr.makeFunc fn first cap).run Tryz.prog w = .ok (.func fn first cap) w := fun _ _ _ _ => rfl
 have hlt := h.lt
 have hle := h.le
 have hql : q < w.heap.size := (Array.getElem?_eq_some_iff.1 r4).1
 have s0 : WStX B b d pS lx (((w.alloc (.cells #[.pointer (some ⟨b, 0, none⟩)] 110)).alloc (teObj op n s (.slice o l.length c))).alloc (shObj lv (.slice (some ⟨q, 0, none⟩) ps.length ps.length))) := ((h.alloc _).alloc _).alloc _
 have b0 : Below B w (((w.alloc (.cells #[.pointer (some ⟨b, 0, none⟩)] 110)).alloc (teObj op n s (.slice o l.length c))).alloc (shObj lv (.slice (some ⟨q, 0, none⟩) ps.length ps.length))) := (((Below.refl _ _).alloc (by omega) _).alloc (by simp; omega) _).alloc (by simp; omega) _
 have k0 : Kept b w (((w.alloc (.cells #[.pointer (some ⟨b, 0, none⟩)] 110)).alloc (teObj op n s (.slice o l.length c))).alloc (shObj lv (.slice (some ⟨q, 0, none⟩) ps.length ps.length))) := (((Lib.OthersKept.refl _ _ _).alloc _).alloc _).alloc _
 have HR : Hid (∀ w', Kept b (((w.alloc (.cells #[.pointer (some ⟨b, 0, none⟩)] 110)).alloc (teObj op n s (.slice o l.length c))).alloc (shObj lv (.slice (some ⟨q, 0, none⟩) ps.length ps.length))) w' → w'.heap[w.heap.size]? = some (.cells #[.pointer (some ⟨b, 0, none⟩)] 110 (0, 0)) ∧ w'.heap[w.heap.size + 1]? = some (teObj op n s (.slice o l.length c)) ∧ w'.heap[w.heap.size + 1 + 1]? = some (shObj lv (.slice (some ⟨q, 0, none⟩) ps.length ps.length)) ∧ w'.heap[q]? = some (.cells (intCells ps).toArray 3 (0, 0))) := fun w' k => ⟨kept_row k (alloc_row _ (alloc_row _ (heap_alloc_new w _))) (by omega) (by intro c fz e; injection e with _ e; exact absurd e (by decide)), kept_row k (alloc_row _ (two_new w _ _)) (by omega) (by intro c fz e; injection e with _ e; exact absurd e (by decide)), kept_row k (heap_alloc_new' (by simp) _) (by omega) (by intro c fz e; injection e with _ e; exact absurd e (by decide)), kept_row k (alloc_row _ (alloc_row _ (alloc_row _ r4))) hqb (by intro c fz e; injection e with _ e; exact absurd e (by decide))⟩
 have HP : Hid (∀ (lx' : List UInt8) (w' : World) (i : Nat) (k : Int), k = Int.ofNat i → i < l.length → WStX B b d pS lx' w' → Below B w w' → Kept b (((w.alloc (.cells #[.pointer (some ⟨b, 0, none⟩)] 110)).alloc (teObj op n s (.slice o l.length c))).alloc (shObj lv (.slice (some ⟨q, 0, none⟩) ps.length ps.length))) w' → Calls Tryz.prog 172 #[.int .i64 k, .pointer (some ⟨w.heap.size, 0, none⟩), .pointer (some ⟨w.heap.size + 1, 0, none⟩), .pointer (some ⟨w.heap.size + 1 + 1, 0, none⟩)] w' fun e w'' => WAnyX K B b d pS lx' ((twP ps l).getD i none) w' e w'') := fun lx' w' i k ek hi hw hb hk => ek ▸ part_tx (ps := ps) (l := l) (i := i) hi (by omega) ▸ part_x K B b pS m IH op n s l hm lx' w' d o c ys hd hK hw (below_row h1 hb) (below_ex h2 hb) w.heap.size (w.heap.size + 1) (w.heap.size + 1 + 1) q lv ps i hi (by omega) (HR.out w' hk).1 (HR.out w' hk).2.1 (HR.out w' hk).2.2.1 (HR.out w' hk).2.2.2
 have kz : Kept b (((w.alloc (.cells #[.pointer (some ⟨b, 0, none⟩)] 110)).alloc (teObj op n s (.slice o l.length c))).alloc (shObj lv (.slice (some ⟨q, 0, none⟩) ps.length ps.length))) (((w.alloc (.cells #[.pointer (some ⟨b, 0, none⟩)] 110)).alloc (teObj op n s (.slice o l.length c))).alloc (shObj lv (.slice (some ⟨q, 0, none⟩) ps.length ps.length))) := Lib.OthersKept.refl _ _ _
 clear IH h1 h2 r4 hpl
 go_enter Tryz.func162, Tryz.ntmps162
 go_wp2_with fail
 refine (put_newX K B b d pS _ _ [op, ⟨#[32]⟩] (op.data.toList ++ [32]) (by simp [flat]) _ 2 (by first | rfl | simp) rfl s0 (by decide) _ rfl).mono ?_
 rintro e v1 ⟨c1, j1, ⟨l1, rfl, u1, g1, x1, q1, rfl⟩ | ⟨ht, hr⟩⟩
 ·have s1 := WStX.next s0 c1 u1 g1
  obtain ⟨rw1, rr1, _, _⟩ := HR.out _ (kz.trans j1)
  have yw1 := (tblk1 rw1).1
  clear rw1
  obtain ⟨e10, _, _, _, _⟩ := blk4 rr1
  have hz1 : w.heap.size + 1 < v1.heap.size := lt_of_cell e10
  clear rr1
  go_wp2_with fail
  refine (HP.out _ _ 0 0 rfl (by omega) s1 (b0.trans c1) (kz.trans j1)).mono ?_
  rintro e v2 ⟨c2, j2, ⟨l2, rfl, u2, g2, x2, q2, rfl⟩ | ⟨ht, hr⟩⟩
  ·have s2 := WStX.next s1 c2 u2 g2
   obtain ⟨rw2, rr2, _, _⟩ := HR.out _ ((kz.trans j1).trans j2)
   have yw2 := (tblk1 rw2).1
   clear rw2
   obtain ⟨e20, _, _, _, _⟩ := blk4 rr2
   have hz2 : w.heap.size + 1 < v2.heap.size := lt_of_cell e20
   clear rr2
   go_wp2
   go_end0
   exact ⟨((b0.trans c1).trans c2), ((k0.trans j1).trans j2), Or.inl ⟨_, rfl, u2, g2, ((Ok.this q2).lift q1)⟩⟩
  ·unfold WThrew at ht
   subst ht
   go_wp2
   exact ⟨rfl, ((b0.trans c1).trans c2), ((k0.trans j1).trans j2), Or.inr ⟨rfl, (hr.lift q1)⟩⟩
 ·unfold WThrew at ht
  subst ht
  go_wp2
  exact ⟨rfl, (b0.trans c1), (k0.trans j1), Or.inr ⟨rfl, (hr.more _)⟩⟩
set_option maxRecDepth 100000 in
set_option maxHeartbeats 1000000 in
theorem xbare_if (K : Prop) (B b : Nat) (pS : Addr) (m : Nat) (IH : TermX K B b pS m) (op : ByteArray) (n : Int) (s : ByteArray) (l : List Ex) (hm : SizeOf.sizeOf l < m + 1) (lx : List UInt8) (w : World) (d : Nat) (o : Option Addr) (c : Nat) (ys : List Value) (hd : d ≤ 6000) (hK : 6000 < d + dptL l → K) (h : WStX B b d pS lx w) (h1 : RowAt w (fun k => k < B) 4 (.slice o l.length c) l.length ys) (h2 : ExIn w (fun k => k < B) l ys) (lv : Int) (ps : List Nat) (q : Nat) (r4 : w.heap[q]? = some (.cells (intCells ps).toArray 3 (0, 0))) (hqb : q ≠ b) (hpl : ps.length = l.length) (hn : 3 ≤ l.length) (tt : op.toList = [105, 102]) :
  Calls Tryz.prog 162 #[.pointer (some ⟨b, 0, none⟩), .agg #[.string op, .int .i64 n, .string s, .slice o l.length c], .agg #[.int .i64 lv, .slice (some ⟨q, 0, none⟩) ps.length ps.length]] w fun e w' => WAnyX K B b d pS lx (bareX op n s (twP ps l)) w e w' := by
 have HBX : bareX op n s (twP ps l) = catX (some [105, 102, 32]) (catX ((twP ps l).getD 0 none) (catX (some [32, 116, 104, 101, 110, 32]) (catX ((twP ps l).getD 1 none) (catX (some [32, 101, 108, 115, 101, 32]) ((twP ps l).getD 2 none))))) := by
  rw [bareX, if_neg (by rw [tt]; decide), if_neg (by rw [tt]; decide), if_neg (by rw [tt]; decide), if_neg (by rw [tt]; decide), if_neg (by rw [tt]; decide), if_pos tt]
 rw [HBX]
 clear HBX
 have hmf : ∀ (fn : Fn) (first cap : Array Value) (w : World), (Instr.makeFunc fn first cap).run Tryz.prog w = .ok (.func fn first cap) w := fun _ _ _ _ => rfl
 have hlt := h.lt
 have hle := h.le
 have hql : q < w.heap.size := (Array.getElem?_eq_some_iff.1 r4).1
 have s0 : WStX B b d pS lx (((w.alloc (.cells #[.pointer (some ⟨b, 0, none⟩)] 110)).alloc (teObj op n s (.slice o l.length c))).alloc (shObj lv (.slice (some ⟨q, 0, none⟩) ps.length ps.length))) := ((h.alloc _).alloc _).alloc _
 have b0 : Below B w (((w.alloc (.cells #[.pointer (some ⟨b, 0, none⟩)] 110)).alloc (teObj op n s (.slice o l.length c))).alloc (shObj lv (.slice (some ⟨q, 0, none⟩) ps.length ps.length))) := (((Below.refl _ _).alloc (by omega) _).alloc (by simp; omega) _).alloc (by simp; omega) _
 have k0 : Kept b w (((w.alloc (.cells #[.pointer (some ⟨b, 0, none⟩)] 110)).alloc (teObj op n s (.slice o l.length c))).alloc (shObj lv (.slice (some ⟨q, 0, none⟩) ps.length ps.length))) := (((Lib.OthersKept.refl _ _ _).alloc _).alloc _).alloc _
 have HR : Hid (∀ w', Kept b (((w.alloc (.cells #[.pointer (some ⟨b, 0, none⟩)] 110)).alloc (teObj op n s (.slice o l.length c))).alloc (shObj lv (.slice (some ⟨q, 0, none⟩) ps.length ps.length))) w' → w'.heap[w.heap.size]? = some (.cells #[.pointer (some ⟨b, 0, none⟩)] 110 (0, 0)) ∧ w'.heap[w.heap.size + 1]? = some (teObj op n s (.slice o l.length c)) ∧ w'.heap[w.heap.size + 1 + 1]? = some (shObj lv (.slice (some ⟨q, 0, none⟩) ps.length ps.length)) ∧ w'.heap[q]? = some (.cells (intCells ps).toArray 3 (0, 0))) := fun w' k => ⟨kept_row k (alloc_row _ (alloc_row _ (heap_alloc_new w _))) (by omega) (by intro c fz e; injection e with _ e; exact absurd e (by decide)), kept_row k (alloc_row _ (two_new w _ _)) (by omega) (by intro c fz e; injection e with _ e; exact absurd e (by decide)), kept_row k (heap_alloc_new' (by simp) _) (by omega) (by intro c fz e; injection e with _ e; exact absurd e (by decide)), kept_row k (alloc_row _ (alloc_row _ (alloc_row _ r4))) hqb (by intro c fz e; injection e with _ e; exact absurd e (by decide))⟩
 have HP : Hid (∀ (lx' : List UInt8) (w' : World) (i : Nat) (k : Int), k = Int.ofNat i → i < l.length → WStX B b d pS lx' w' → Below B w w' → Kept b (((w.alloc (.cells #[.pointer (some ⟨b, 0, none⟩)] 110)).alloc (teObj op n s (.slice o l.length c))).alloc (shObj lv (.slice (some ⟨q, 0, none⟩) ps.length ps.length))) w' → Calls Tryz.prog 172 #[.int .i64 k, .pointer (some ⟨w.heap.size, 0, none⟩), .pointer (some ⟨w.heap.size + 1, 0, none⟩), .pointer (some ⟨w.heap.size + 1 + 1, 0, none⟩)] w' fun e w'' => WAnyX K B b d pS lx' ((twP ps l).getD i none) w' e w'') := fun lx' w' i k ek hi hw hb hk => ek ▸ part_tx (ps := ps) (l := l) (i := i) hi (by omega) ▸ part_x K B b pS m IH op n s l hm lx' w' d o c ys hd hK hw (below_row h1 hb) (below_ex h2 hb) w.heap.size (w.heap.size + 1) (w.heap.size + 1 + 1) q lv ps i hi (by omega) (HR.out w' hk).1 (HR.out w' hk).2.1 (HR.out w' hk).2.2.1 (HR.out w' hk).2.2.2
 have kz : Kept b (((w.alloc (.cells #[.pointer (some ⟨b, 0, none⟩)] 110)).alloc (teObj op n s (.slice o l.length c))).alloc (shObj lv (.slice (some ⟨q, 0, none⟩) ps.length ps.length))) (((w.alloc (.cells #[.pointer (some ⟨b, 0, none⟩)] 110)).alloc (teObj op n s (.slice o l.length c))).alloc (shObj lv (.slice (some ⟨q, 0, none⟩) ps.length ps.length))) := Lib.OthersKept.refl _ _ _
 clear IH h1 h2 r4 hpl
 go_enter Tryz.func162, Tryz.ntmps162
 go_wp2_with fail
 refine (put_newX K B b d pS _ _ [⟨#[105, 102, 32]⟩] [105, 102, 32] (by simp [flat]) _ 1 (by first | rfl | simp) rfl s0 (by decide) _ rfl).mono ?_
 rintro e v1 ⟨c1, j1, ⟨l1, rfl, u1, g1, x1, q1, rfl⟩ | ⟨ht, hr⟩⟩
 ·have s1 := WStX.next s0 c1 u1 g1
  obtain ⟨rw1, rr1, _, _⟩ := HR.out _ (kz.trans j1)
  have yw1 := (tblk1 rw1).1
  clear rw1
  obtain ⟨e10, _, _, _, _⟩ := blk4 rr1
  have hz1 : w.heap.size + 1 < v1.heap.size := lt_of_cell e10
  clear rr1
  go_wp2_with fail
  refine (HP.out _ _ 0 0 rfl (by omega) s1 (b0.trans c1) (kz.trans j1)).mono ?_
  rintro e v2 ⟨c2, j2, ⟨l2, rfl, u2, g2, x2, q2, rfl⟩ | ⟨ht, hr⟩⟩
  ·have s2 := WStX.next s1 c2 u2 g2
   obtain ⟨rw2, rr2, _, _⟩ := HR.out _ ((kz.trans j1).trans j2)
   have yw2 := (tblk1 rw2).1
   clear rw2
   obtain ⟨e20, _, _, _, _⟩ := blk4 rr2
   have hz2 : w.heap.size + 1 < v2.heap.size := lt_of_cell e20
   clear rr2
   go_wp2_with fail
   refine (put_newX K B b d pS _ _ [⟨#[32, 116, 104, 101, 110, 32]⟩] [32, 116, 104, 101, 110, 32] (by simp [flat]) _ 1 (by first | rfl | simp) rfl s2 (by decide) _ rfl).mono ?_
   rintro e v3 ⟨c3, j3, ⟨l3, rfl, u3, g3, x3, q3, rfl⟩ | ⟨ht, hr⟩⟩
   ·have s3 := WStX.next s2 c3 u3 g3
    obtain ⟨rw3, rr3, _, _⟩ := HR.out _ (((kz.trans j1).trans j2).trans j3)
    have yw3 := (tblk1 rw3).1
    clear rw3
    obtain ⟨e30, _, _, _, _⟩ := blk4 rr3
    have hz3 : w.heap.size + 1 < v3.heap.size := lt_of_cell e30
    clear rr3
    go_wp2_with fail
    refine (HP.out _ _ 1 1 rfl (by omega) s3 (((b0.trans c1).trans c2).trans c3) (((kz.trans j1).trans j2).trans j3)).mono ?_
    rintro e v4 ⟨c4, j4, ⟨l4, rfl, u4, g4, x4, q4, rfl⟩ | ⟨ht, hr⟩⟩
    ·have s4 := WStX.next s3 c4 u4 g4
     obtain ⟨rw4, rr4, _, _⟩ := HR.out _ ((((kz.trans j1).trans j2).trans j3).trans j4)
     have yw4 := (tblk1 rw4).1
     clear rw4
     obtain ⟨e40, _, _, _, _⟩ := blk4 rr4
     have hz4 : w.heap.size + 1 < v4.heap.size := lt_of_cell e40
     clear rr4
     go_wp2_with fail
     refine (put_newX K B b d pS _ _ [⟨#[32, 101, 108, 115, 101, 32]⟩] [32, 101, 108, 115, 101, 32] (by simp [flat]) _ 1 (by first | rfl | simp) rfl s4 (by decide) _ rfl).mono ?_
     rintro e v5 ⟨c5, j5, ⟨l5, rfl, u5, g5, x5, q5, rfl⟩ | ⟨ht, hr⟩⟩
     ·have s5 := WStX.next s4 c5 u5 g5
      obtain ⟨rw5, rr5, _, _⟩ := HR.out _ (((((kz.trans j1).trans j2).trans j3).trans j4).trans j5)
      have yw5 := (tblk1 rw5).1
      clear rw5
      obtain ⟨e50, _, _, _, _⟩ := blk4 rr5
      have hz5 : w.heap.size + 1 < v5.heap.size := lt_of_cell e50
      clear rr5
      go_wp2_with fail
      refine (HP.out _ _ 2 2 rfl (by omega) s5 (((((b0.trans c1).trans c2).trans c3).trans c4).trans c5) (((((kz.trans j1).trans j2).trans j3).trans j4).trans j5)).mono ?_
      rintro e v6 ⟨c6, j6, ⟨l6, rfl, u6, g6, x6, q6, rfl⟩ | ⟨ht, hr⟩⟩
      ·have s6 := WStX.next s5 c6 u6 g6
       obtain ⟨rw6, rr6, _, _⟩ := HR.out _ ((((((kz.trans j1).trans j2).trans j3).trans j4).trans j5).trans j6)
       have yw6 := (tblk1 rw6).1
       clear rw6
       obtain ⟨e60, _, _, _, _⟩ := blk4 rr6
       have hz6 : w.heap.size + 1 < v6.heap.size := lt_of_cell e60
       clear rr6
       go_wp2
       go_end0
       exact ⟨((((((b0.trans c1).trans c2).trans c3).trans c4).trans c5).trans c6), ((((((k0.trans j1).trans j2).trans j3).trans j4).trans j5).trans j6), Or.inl ⟨_, rfl, u6, g6, ((((((Ok.this q6).lift q5).lift q4).lift q3).lift q2).lift q1)⟩⟩
      ·unfold WThrew at ht
       subst ht
       go_wp2
       exact ⟨rfl, ((((((b0.trans c1).trans c2).trans c3).trans c4).trans c5).trans c6), ((((((k0.trans j1).trans j2).trans j3).trans j4).trans j5).trans j6), Or.inr ⟨rfl, (((((hr.lift q5).lift q4).lift q3).lift q2).lift q1)⟩⟩
     ·unfold WThrew at ht
      subst ht
      go_wp2
      exact ⟨rfl, (((((b0.trans c1).trans c2).trans c3).trans c4).trans c5), (((((k0.trans j1).trans j2).trans j3).trans j4).trans j5), Or.inr ⟨rfl, (((((hr.more _).lift q4).lift q3).lift q2).lift q1)⟩⟩
    ·unfold WThrew at ht
     subst ht
     go_wp2
     exact ⟨rfl, ((((b0.trans c1).trans c2).trans c3).trans c4), ((((k0.trans j1).trans j2).trans j3).trans j4), Or.inr ⟨rfl, ((((hr.more _).lift q3).lift q2).lift q1)⟩⟩
   ·unfold WThrew at ht
    subst ht
    go_wp2
    exact ⟨rfl, (((b0.trans c1).trans c2).trans c3), (((k0.trans j1).trans j2).trans j3), Or.inr ⟨rfl, (((hr.more _).lift q2).lift q1)⟩⟩
  ·unfold WThrew at ht
   subst ht
   go_wp2
   exact ⟨rfl, ((b0.trans c1).trans c2), ((k0.trans j1).trans j2), Or.inr ⟨rfl, ((hr.more _).lift q1)⟩⟩
 ·unfold WThrew at ht
  subst ht
  go_wp2
  exact ⟨rfl, (b0.trans c1), (k0.trans j1), Or.inr ⟨rfl, (hr.more _)⟩⟩
end Go.Proofs.YtgbpccipdcajgaaGreatDoor
