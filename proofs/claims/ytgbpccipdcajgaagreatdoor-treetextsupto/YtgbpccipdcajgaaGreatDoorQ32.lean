/-
  package tree's WRITER: equation, node, program BY THEIR CONTRACTS, to the byte.
-/
import Derived.Test.YtgbpccipdcajgaaGreatDoorQ30
import Derived.Test.YtgbpccipdcajgaaGreatDoorQ31
import Derived.Test.YtgbpccipdcajgaaGreatDoorQ19
namespace Go.Proofs.YtgbpccipdcajgaaGreatDoor
open Go.RowKit
attribute [local go_sem ↓] Go.wp_at_zero Go.wp_at_succ
set_option maxRecDepth 100000 in
set_option maxHeartbeats 1000000 in
theorem wequation_x (K : Prop) (B b : Nat) (pS : Addr) (lx : List UInt8) (w : World) (kind : ByteArray) (ns : List Ex) (no : Option Addr) (nc : Nat) (op : ByteArray) (n : Int) (s : ByteArray) (l : List Ex) (o : Option Addr) (c : Nat) (ys : List Value) (h : WStX B b 0 pS lx w) (hr : RowAt w (fun k => k < B) 1 (.slice no ns.length nc) ns.length (nameCells ns)) (h1 : RowAt w (fun k => k < B) 4 (.slice o l.length c) l.length ys) (h2 : ExIn w (fun k => k < B) l ys) :
  Calls Tryz.prog 120 #[.pointer (some ⟨b, 0, none⟩), .agg #[.string kind, .slice no ns.length nc, .string op, .int .i64 n, .string s, .slice o l.length c]] w fun e w' => WAnyX K B b 0 pS lx (eqX kind ns (.mk op n s l)) w e w' := by
 have hlt := h.lt
 have hle := h.le
 have bz : Below B w (w.alloc (.cells #[.string kind, .slice no ns.length nc, .string op, .int .i64 n, .string s, .slice o l.length c] 107)) := (Below.refl _ _).alloc (by omega) _
 have kz : Kept b w (w.alloc (.cells #[.string kind, .slice no ns.length nc, .string op, .int .i64 n, .string s, .slice o l.length c] 107)) := Kept.alloc b w _
 have HR0 : Hid _ := heap_alloc_new w (.cells #[.string kind, .slice no ns.length nc, .string op, .int .i64 n, .string s, .slice o l.length c] 107)
 have s0 := h.alloc (.cells #[.string kind, .slice no ns.length nc, .string op, .int .i64 n, .string s, .slice o l.length c] 107)
 have HT : Hid (∀ lx' w', 1 ≤ lx'.length → Below B w w' → WStX B b 0 pS lx' w' → Calls Tryz.prog 145 #[.pointer (some ⟨b, 0, none⟩), .agg #[.string op, .int .i64 n, .string s, .slice o l.length c], .int .i64 0] w' fun e w'' => WAnyX K B b 0 pS lx' (tw 0 (.mk op n s l)) w' e w'') := fun lx' w' hx hb hw => (wterm_x (6000 < 0 + dpt (.mk op n s l)) B b pS (SizeOf.sizeOf l + 1) op n s l (by omega) lx' w' 0 o c ys 0 (by omega) id hw (below_row h1 hb) (below_ex h2 hb)).mono fun _ _ ⟨a1, a2, a3⟩ => ⟨a1, a2, a3.imp id fun ⟨a4, a5⟩ => ⟨a4, a5.deep hx⟩⟩
 have HN : Hid (∀ lx' w', Below B w w' → WStX B b 0 pS lx' w' → Calls Tryz.prog 144 #[.pointer (some ⟨b, 0, none⟩), .slice no ns.length nc] w' fun e w'' => WAnyX K B b 0 pS lx' (namesX ns) w' e w'') := fun lx' w' hb hw => wnames_x K B b 0 pS lx' w' no nc ns hw (below_row hr hb)
 clear hr h1 h2
 by_cases hk : kind.toList = [115, 101, 116]
 ·
  have HTX : Hid (eqX kind ns (.mk op n s l) = catX (some [32, 32]) (catX (namesX ns) (catX (some [32, 61, 32]) (catX (tw 0 (.mk op n s l)) (some [59, 10]))))) := (by rw [eqX, if_pos hk, catX_assoc] : eqX kind ns (.mk op n s l) = catX (some [32, 32]) (catX (namesX ns) (catX (some [32, 61, 32]) (catX (tw 0 (.mk op n s l)) (some [59, 10])))))
  go_enter Tryz.func120, Tryz.ntmps120
  go_wp2_with fail
  refine (put_newX K B b 0 pS _ _ [⟨#[32, 32]⟩] [32, 32] (by simp [flat]) _ 1 (by first | rfl | simp) rfl s0 (by decide) _ rfl).mono ?_
  rintro e v1 ⟨c1, j1, ⟨l1, rfl, u1, g1, x1, q1, rfl⟩ | ⟨ht, hr⟩⟩
  ·have s1 := WStX.next s0 c1 u1 g1
   have HR1 : Hid _ := kept_row j1 HR0.out (by omega) (by intro c fz e; injection e with _ e; exact absurd e (by decide))
   obtain ⟨a10, a11, a12, a13, a14, a15, _⟩ := blk6 HR1.out
   have hz1 : w.heap.size < v1.heap.size := (Array.getElem?_eq_some_iff.1 HR1.out).1
   go_wp2_with fail
   refine (HN.out _ _ (bz.trans c1) s1).mono ?_
   rintro e v2 ⟨c2, j2, ⟨l2, rfl, u2, g2, x2, q2, rfl⟩ | ⟨ht, hr⟩⟩
   ·have s2 := WStX.next s1 c2 u2 g2
    have HR2 : Hid _ := kept_row j2 HR1.out (by omega) (by intro c fz e; injection e with _ e; exact absurd e (by decide))
    obtain ⟨a20, a21, a22, a23, a24, a25, _⟩ := blk6 HR2.out
    have hz2 : w.heap.size < v2.heap.size := (Array.getElem?_eq_some_iff.1 HR2.out).1
    clear a10 a11 a12 a13 a14 a15
    go_wp2_with fail
    refine (put_newX K B b 0 pS _ _ [⟨#[32, 61, 32]⟩] [32, 61, 32] (by simp [flat]) _ 1 (by first | rfl | simp) rfl s2 (by decide) _ rfl).mono ?_
    rintro e v3 ⟨c3, j3, ⟨l3, rfl, u3, g3, x3, q3, rfl⟩ | ⟨ht, hr⟩⟩
    ·have s3 := WStX.next s2 c3 u3 g3
     have HR3 : Hid _ := kept_row j3 HR2.out (by omega) (by intro c fz e; injection e with _ e; exact absurd e (by decide))
     obtain ⟨a30, a31, a32, a33, a34, a35, _⟩ := blk6 HR3.out
     have hz3 : w.heap.size < v3.heap.size := (Array.getElem?_eq_some_iff.1 HR3.out).1
     clear a20 a21 a22 a23 a24 a25
     go_wp2_with fail
     refine (HT.out _ _ (by cases q1; simp only [List.length_append, List.length_cons]; omega) (((bz.trans c1).trans c2).trans c3) s3).mono ?_
     rintro e v4 ⟨c4, j4, ⟨l4, rfl, u4, g4, x4, q4, rfl⟩ | ⟨ht, hr⟩⟩
     ·have s4 := WStX.next s3 c4 u4 g4
      have HR4 : Hid _ := kept_row j4 HR3.out (by omega) (by intro c fz e; injection e with _ e; exact absurd e (by decide))
      obtain ⟨a40, a41, a42, a43, a44, a45, _⟩ := blk6 HR4.out
      have hz4 : w.heap.size < v4.heap.size := (Array.getElem?_eq_some_iff.1 HR4.out).1
      clear a30 a31 a32 a33 a34 a35
      go_wp2_with fail
      refine (put_newX K B b 0 pS _ _ [⟨#[59, 10]⟩] [59, 10] (by simp [flat]) _ 1 (by first | rfl | simp) rfl s4 (by decide) _ rfl).mono ?_
      rintro e v5 ⟨c5, j5, ⟨l5, rfl, u5, g5, x5, q5, rfl⟩ | ⟨ht, hr⟩⟩
      ·have s5 := WStX.next s4 c5 u5 g5
       have HR5 : Hid _ := kept_row j5 HR4.out (by omega) (by intro c fz e; injection e with _ e; exact absurd e (by decide))
       obtain ⟨a50, a51, a52, a53, a54, a55, _⟩ := blk6 HR5.out
       have hz5 : w.heap.size < v5.heap.size := (Array.getElem?_eq_some_iff.1 HR5.out).1
       clear a40 a41 a42 a43 a44 a45
       go_wp2
       go_end0
       exact ⟨(((((bz.trans c1).trans c2).trans c3).trans c4).trans c5), (((((kz.trans j1).trans j2).trans j3).trans j4).trans j5), Or.inl ⟨_, rfl, u5, g5, by rw [HTX.out]; exact (((((Ok.this q5).lift q4).lift q3).lift q2).lift q1)⟩⟩
      ·unfold WThrew at ht
       subst ht
       go_wp2
       exact ⟨rfl, (((((bz.trans c1).trans c2).trans c3).trans c4).trans c5), (((((kz.trans j1).trans j2).trans j3).trans j4).trans j5), Or.inr ⟨rfl, by rw [HTX.out]; exact ((((hr.lift q4).lift q3).lift q2).lift q1)⟩⟩
     ·unfold WThrew at ht
      subst ht
      go_wp2
      exact ⟨rfl, ((((bz.trans c1).trans c2).trans c3).trans c4), ((((kz.trans j1).trans j2).trans j3).trans j4), Or.inr ⟨rfl, by rw [HTX.out]; exact ((((hr.more _).lift q3).lift q2).lift q1)⟩⟩
    ·unfold WThrew at ht
     subst ht
     go_wp2
     exact ⟨rfl, (((bz.trans c1).trans c2).trans c3), (((kz.trans j1).trans j2).trans j3), Or.inr ⟨rfl, by rw [HTX.out]; exact (((hr.more _).lift q2).lift q1)⟩⟩
   ·unfold WThrew at ht
    subst ht
    go_wp2
    exact ⟨rfl, ((bz.trans c1).trans c2), ((kz.trans j1).trans j2), Or.inr ⟨rfl, by rw [HTX.out]; exact ((hr.more _).lift q1)⟩⟩
  ·unfold WThrew at ht
   subst ht
   go_wp2
   exact ⟨rfl, (bz.trans c1), (kz.trans j1), Or.inr ⟨rfl, by rw [HTX.out]; exact (hr.more _)⟩⟩
 ·have hk0 : (kind.toList == [115, 101, 116]) = false := by simpa using hk
  have HK0 : Hid (kind.toList ≠ [115, 101, 116]) := hk
  clear hk
  by_cases hk : kind.toList = [97, 115, 115, 101, 114, 116]
  ·
   have HTX : Hid (eqX kind ns (.mk op n s l) = catX (some [32, 32]) (catX (some (kind.data.toList ++ [32])) (catX (tw 0 (.mk op n s l)) (some [59, 10])))) := (by rw [eqX, if_neg HK0.out, if_pos (Or.inl hk)] : eqX kind ns (.mk op n s l) = catX (some [32, 32]) (catX (some (kind.data.toList ++ [32])) (catX (tw 0 (.mk op n s l)) (some [59, 10]))))
   go_enter Tryz.func120, Tryz.ntmps120
   go_wp2_with fail
   refine (put_newX K B b 0 pS _ _ [⟨#[32, 32]⟩] [32, 32] (by simp [flat]) _ 1 (by first | rfl | simp) rfl s0 (by decide) _ rfl).mono ?_
   rintro e v1 ⟨c1, j1, ⟨l1, rfl, u1, g1, x1, q1, rfl⟩ | ⟨ht, hr⟩⟩
   ·have s1 := WStX.next s0 c1 u1 g1
    have HR1 : Hid _ := kept_row j1 HR0.out (by omega) (by intro c fz e; injection e with _ e; exact absurd e (by decide))
    obtain ⟨a10, a11, a12, a13, a14, a15, _⟩ := blk6 HR1.out
    have hz1 : w.heap.size < v1.heap.size := (Array.getElem?_eq_some_iff.1 HR1.out).1
    go_wp2_with fail
    refine (put_newX K B b 0 pS _ _ [kind, ⟨#[32]⟩] (kind.data.toList ++ [32]) (by simp [flat]) _ 2 (by first | rfl | simp) rfl s1 (by decide) _ rfl).mono ?_
    rintro e v2 ⟨c2, j2, ⟨l2, rfl, u2, g2, x2, q2, rfl⟩ | ⟨ht, hr⟩⟩
    ·have s2 := WStX.next s1 c2 u2 g2
     have HR2 : Hid _ := kept_row j2 HR1.out (by omega) (by intro c fz e; injection e with _ e; exact absurd e (by decide))
     obtain ⟨a20, a21, a22, a23, a24, a25, _⟩ := blk6 HR2.out
     have hz2 : w.heap.size < v2.heap.size := (Array.getElem?_eq_some_iff.1 HR2.out).1
     clear a10 a11 a12 a13 a14 a15
     go_wp2_with fail
     refine (HT.out _ _ (by cases q1; simp only [List.length_append, List.length_cons]; omega) ((bz.trans c1).trans c2) s2).mono ?_
     rintro e v3 ⟨c3, j3, ⟨l3, rfl, u3, g3, x3, q3, rfl⟩ | ⟨ht, hr⟩⟩
     ·have s3 := WStX.next s2 c3 u3 g3
      have HR3 : Hid _ := kept_row j3 HR2.out (by omega) (by intro c fz e; injection e with _ e; exact absurd e (by decide))
      obtain ⟨a30, a31, a32, a33, a34, a35, _⟩ := blk6 HR3.out
      have hz3 : w.heap.size < v3.heap.size := (Array.getElem?_eq_some_iff.1 HR3.out).1
      clear a20 a21 a22 a23 a24 a25
      go_wp2_with fail
      refine (put_newX K B b 0 pS _ _ [⟨#[59, 10]⟩] [59, 10] (by simp [flat]) _ 1 (by first | rfl | simp) rfl s3 (by decide) _ rfl).mono ?_
      rintro e v4 ⟨c4, j4, ⟨l4, rfl, u4, g4, x4, q4, rfl⟩ | ⟨ht, hr⟩⟩
      ·have s4 := WStX.next s3 c4 u4 g4
       have HR4 : Hid _ := kept_row j4 HR3.out (by omega) (by intro c fz e; injection e with _ e; exact absurd e (by decide))
       obtain ⟨a40, a41, a42, a43, a44, a45, _⟩ := blk6 HR4.out
       have hz4 : w.heap.size < v4.heap.size := (Array.getElem?_eq_some_iff.1 HR4.out).1
       clear a30 a31 a32 a33 a34 a35
       go_wp2
       go_end0
       exact ⟨((((bz.trans c1).trans c2).trans c3).trans c4), ((((kz.trans j1).trans j2).trans j3).trans j4), Or.inl ⟨_, rfl, u4, g4, by rw [HTX.out]; exact ((((Ok.this q4).lift q3).lift q2).lift q1)⟩⟩
      ·unfold WThrew at ht
       subst ht
       go_wp2
       exact ⟨rfl, ((((bz.trans c1).trans c2).trans c3).trans c4), ((((kz.trans j1).trans j2).trans j3).trans j4), Or.inr ⟨rfl, by rw [HTX.out]; exact (((hr.lift q3).lift q2).lift q1)⟩⟩
     ·unfold WThrew at ht
      subst ht
      go_wp2
      exact ⟨rfl, (((bz.trans c1).trans c2).trans c3), (((kz.trans j1).trans j2).trans j3), Or.inr ⟨rfl, by rw [HTX.out]; exact (((hr.more _).lift q2).lift q1)⟩⟩
    ·unfold WThrew at ht
     subst ht
     go_wp2
     exact ⟨rfl, ((bz.trans c1).trans c2), ((kz.trans j1).trans j2), Or.inr ⟨rfl, by rw [HTX.out]; exact ((hr.more _).lift q1)⟩⟩
   ·unfold WThrew at ht
    subst ht
    go_wp2
    exact ⟨rfl, (bz.trans c1), (kz.trans j1), Or.inr ⟨rfl, by rw [HTX.out]; exact (hr.more _)⟩⟩
  ·have hk1 : (kind.toList == [97, 115, 115, 101, 114, 116]) = false := by simpa using hk
   have HK1 : Hid (kind.toList ≠ [97, 115, 115, 101, 114, 116]) := hk
   clear hk
   by_cases hk : kind.toList = [99, 104, 101, 99, 107]
   ·
    have HTX : Hid (eqX kind ns (.mk op n s l) = catX (some [32, 32]) (catX (some (kind.data.toList ++ [32])) (catX (tw 0 (.mk op n s l)) (some [59, 10])))) := (by rw [eqX, if_neg HK0.out, if_pos (Or.inr hk)] : eqX kind ns (.mk op n s l) = catX (some [32, 32]) (catX (some (kind.data.toList ++ [32])) (catX (tw 0 (.mk op n s l)) (some [59, 10]))))
    go_enter Tryz.func120, Tryz.ntmps120
    go_wp2_with fail
    refine (put_newX K B b 0 pS _ _ [⟨#[32, 32]⟩] [32, 32] (by simp [flat]) _ 1 (by first | rfl | simp) rfl s0 (by decide) _ rfl).mono ?_
    rintro e v1 ⟨c1, j1, ⟨l1, rfl, u1, g1, x1, q1, rfl⟩ | ⟨ht, hr⟩⟩
    ·have s1 := WStX.next s0 c1 u1 g1
     have HR1 : Hid _ := kept_row j1 HR0.out (by omega) (by intro c fz e; injection e with _ e; exact absurd e (by decide))
     obtain ⟨a10, a11, a12, a13, a14, a15, _⟩ := blk6 HR1.out
     have hz1 : w.heap.size < v1.heap.size := (Array.getElem?_eq_some_iff.1 HR1.out).1
     go_wp2_with fail
     refine (put_newX K B b 0 pS _ _ [kind, ⟨#[32]⟩] (kind.data.toList ++ [32]) (by simp [flat]) _ 2 (by first | rfl | simp) rfl s1 (by decide) _ rfl).mono ?_
     rintro e v2 ⟨c2, j2, ⟨l2, rfl, u2, g2, x2, q2, rfl⟩ | ⟨ht, hr⟩⟩
     ·have s2 := WStX.next s1 c2 u2 g2
      have HR2 : Hid _ := kept_row j2 HR1.out (by omega) (by intro c fz e; injection e with _ e; exact absurd e (by decide))
      obtain ⟨a20, a21, a22, a23, a24, a25, _⟩ := blk6 HR2.out
      have hz2 : w.heap.size < v2.heap.size := (Array.getElem?_eq_some_iff.1 HR2.out).1
      clear a10 a11 a12 a13 a14 a15
      go_wp2_with fail
      refine (HT.out _ _ (by cases q1; simp only [List.length_append, List.length_cons]; omega) ((bz.trans c1).trans c2) s2).mono ?_
      rintro e v3 ⟨c3, j3, ⟨l3, rfl, u3, g3, x3, q3, rfl⟩ | ⟨ht, hr⟩⟩
      ·have s3 := WStX.next s2 c3 u3 g3
       have HR3 : Hid _ := kept_row j3 HR2.out (by omega) (by intro c fz e; injection e with _ e; exact absurd e (by decide))
       obtain ⟨a30, a31, a32, a33, a34, a35, _⟩ := blk6 HR3.out
       have hz3 : w.heap.size < v3.heap.size := (Array.getElem?_eq_some_iff.1 HR3.out).1
       clear a20 a21 a22 a23 a24 a25
       go_wp2_with fail
       refine (put_newX K B b 0 pS _ _ [⟨#[59, 10]⟩] [59, 10] (by simp [flat]) _ 1 (by first | rfl | simp) rfl s3 (by decide) _ rfl).mono ?_
       rintro e v4 ⟨c4, j4, ⟨l4, rfl, u4, g4, x4, q4, rfl⟩ | ⟨ht, hr⟩⟩
       ·have s4 := WStX.next s3 c4 u4 g4
        have HR4 : Hid _ := kept_row j4 HR3.out (by omega) (by intro c fz e; injection e with _ e; exact absurd e (by decide))
        obtain ⟨a40, a41, a42, a43, a44, a45, _⟩ := blk6 HR4.out
        have hz4 : w.heap.size < v4.heap.size := (Array.getElem?_eq_some_iff.1 HR4.out).1
        clear a30 a31 a32 a33 a34 a35
        go_wp2
        go_end0
        exact ⟨((((bz.trans c1).trans c2).trans c3).trans c4), ((((kz.trans j1).trans j2).trans j3).trans j4), Or.inl ⟨_, rfl, u4, g4, by rw [HTX.out]; exact ((((Ok.this q4).lift q3).lift q2).lift q1)⟩⟩
       ·unfold WThrew at ht
        subst ht
        go_wp2
        exact ⟨rfl, ((((bz.trans c1).trans c2).trans c3).trans c4), ((((kz.trans j1).trans j2).trans j3).trans j4), Or.inr ⟨rfl, by rw [HTX.out]; exact (((hr.lift q3).lift q2).lift q1)⟩⟩
      ·unfold WThrew at ht
       subst ht
       go_wp2
       exact ⟨rfl, (((bz.trans c1).trans c2).trans c3), (((kz.trans j1).trans j2).trans j3), Or.inr ⟨rfl, by rw [HTX.out]; exact (((hr.more _).lift q2).lift q1)⟩⟩
     ·unfold WThrew at ht
      subst ht
      go_wp2
      exact ⟨rfl, ((bz.trans c1).trans c2), ((kz.trans j1).trans j2), Or.inr ⟨rfl, by rw [HTX.out]; exact ((hr.more _).lift q1)⟩⟩
    ·unfold WThrew at ht
     subst ht
     go_wp2
     exact ⟨rfl, (bz.trans c1), (kz.trans j1), Or.inr ⟨rfl, by rw [HTX.out]; exact (hr.more _)⟩⟩
   ·have hk2 : (kind.toList == [99, 104, 101, 99, 107]) = false := by simpa using hk
    have HTX : Hid (eqX kind ns (.mk op n s l) = catX (some [32, 32]) none) := (by rw [eqX, if_neg HK0.out, if_neg (fun h => h.elim HK1.out hk), catX_none] : eqX kind ns (.mk op n s l) = catX (some [32, 32]) none)
    clear hk
    go_enter Tryz.func120, Tryz.ntmps120
    go_wp2_with fail
    refine (put_newX K B b 0 pS _ _ [⟨#[32, 32]⟩] [32, 32] (by simp [flat]) _ 1 (by first | rfl | simp) rfl s0 (by decide) _ rfl).mono ?_
    rintro e v1 ⟨c1, j1, ⟨l1, rfl, u1, g1, x1, q1, rfl⟩ | ⟨ht, hr⟩⟩
    ·have s1 := WStX.next s0 c1 u1 g1
     have HR1 : Hid _ := kept_row j1 HR0.out (by omega) (by intro c fz e; injection e with _ e; exact absurd e (by decide))
     obtain ⟨a10, a11, a12, a13, a14, a15, _⟩ := blk6 HR1.out
     have hz1 : w.heap.size < v1.heap.size := (Array.getElem?_eq_some_iff.1 HR1.out).1
     have hc := WStX.err s1
     go_wp2_with fail
     refine (wfail_any b pS _ hc).mono ?_
     rintro e w3 ⟨ht, rfl⟩
     unfold WThrew at ht
     subst ht
     go_wp2
     exact ⟨rfl, (bz.trans c1), (kz.trans j1), Or.inr ⟨rfl, by rw [HTX.out]; exact (Rsn.none _ _).lift q1⟩⟩
    ·unfold WThrew at ht
     subst ht
     go_wp2
     exact ⟨rfl, (bz.trans c1), (kz.trans j1), Or.inr ⟨rfl, by rw [HTX.out]; exact (hr.more _)⟩⟩
set_option maxRecDepth 100000 in
set_option maxHeartbeats 2000000 in
theorem wnode_x (K : Prop) (B b : Nat) (pS : Addr) (lx : List UInt8) (w : World) (name : ByteArray) (ins outs owns qs : List Ex) (o1 o2 o3 o4 : Option Addr) (c1 c2 c3 c4 : Nat) (ys : List Value) (h : WStX B b 0 pS lx w) (r1 : RowAt w (fun k => k < B) 2 (.slice o1 ins.length c1) ins.length (varCells ins)) (r2 : RowAt w (fun k => k < B) 2 (.slice o2 outs.length c2) outs.length (varCells outs)) (r3 : RowAt w (fun k => k < B) 2 (.slice o3 owns.length c3) owns.length (varCells owns)) (r4 : RowAt w (fun k => k < B) 6 (.slice o4 qs.length c4) qs.length ys) (r5 : EqIn w (fun k => k < B) qs ys) :
  Calls Tryz.prog 84 #[.pointer (some ⟨b, 0, none⟩), .agg #[.string name, .slice o1 ins.length c1, .slice o2 outs.length c2, .slice o3 owns.length c3, .slice o4 qs.length c4]] w fun e w' => WAnyX K B b 0 pS lx (nodeX name ins outs owns qs) w e w' := by
 have hlt := h.lt
 have hle := h.le
 have bz : Below B w (w.alloc (.cells #[.string name, .slice o1 ins.length c1, .slice o2 outs.length c2, .slice o3 owns.length c3, .slice o4 qs.length c4] 70)) := (Below.refl _ _).alloc (by omega) _
 have kz : Kept b w (w.alloc (.cells #[.string name, .slice o1 ins.length c1, .slice o2 outs.length c2, .slice o3 owns.length c3, .slice o4 qs.length c4] 70)) := Kept.alloc b w _
 have HR0 : Hid _ := heap_alloc_new w (.cells #[.string name, .slice o1 ins.length c1, .slice o2 outs.length c2, .slice o3 owns.length c3, .slice o4 qs.length c4] 70)
 have s0 := h.alloc (.cells #[.string name, .slice o1 ins.length c1, .slice o2 outs.length c2, .slice o3 owns.length c3, .slice o4 qs.length c4] 70)
 have hlen := r4.len
 unfold maxLen at hlen
 have hlen3 := r3.len
 unfold maxLen at hlen3
 have H1 : Hid (∀ lx' w', Below B w w' → WStX B b 0 pS lx' w' → Calls Tryz.prog 119 #[.pointer (some ⟨b, 0, none⟩), .slice o1 ins.length c1] w' fun e w'' => WAnyX K B b 0 pS lx' (lstX varX 0 ins) w' e w'') := fun lx' w' hb hw => wvars_x K B b 0 pS lx' w' o1 c1 ins hw (below_row r1 hb)
 have H2 : Hid (∀ lx' w', Below B w w' → WStX B b 0 pS lx' w' → Calls Tryz.prog 119 #[.pointer (some ⟨b, 0, none⟩), .slice o2 outs.length c2] w' fun e w'' => WAnyX K B b 0 pS lx' (lstX varX 0 outs) w' e w'') := fun lx' w' hb hw => wvars_x K B b 0 pS lx' w' o2 c2 outs hw (below_row r2 hb)
 have H3 : Hid (∀ lx' w', Below B w w' → WStX B b 0 pS lx' w' → Calls Tryz.prog 119 #[.pointer (some ⟨b, 0, none⟩), .slice o3 owns.length c3] w' fun e w'' => WAnyX K B b 0 pS lx' (lstX varX 0 owns) w' e w'') := fun lx' w' hb hw => wvars_x K B b 0 pS lx' w' o3 c3 owns hw (below_row r3 hb)
 have H4 : Hid (RowAt w (fun k => k < B) 6 (.slice o4 qs.length c4) qs.length ys) := r4
 have H5 : Hid (EqIn w (fun k => k < B) qs ys) := r5
 clear r1 r2 r3 r4 r5
 by_cases ho : owns.length = 0
 ·have ho' : ¬ ((0 : Int) < (owns.length : Int)) := by omega
  have HTX : Hid (nodeX name ins outs owns qs = catX (some ([110, 111, 100, 101, 32] ++ (name.data.toList ++ [40]))) (catX (lstX varX 0 ins) (catX (some [41, 32, 114, 101, 116, 117, 114, 110, 115, 32, 40]) (catX (lstX varX 0 outs) (catX (some [41, 59, 10]) (catX (some [108, 101, 116, 10]) (catX (lstX (fun _ q => eqTx q) 0 qs) (some [116, 101, 108, 10])))))))) := (by rw [nodeX, ownX, if_pos ho] : nodeX name ins outs owns qs = catX (some ([110, 111, 100, 101, 32] ++ (name.data.toList ++ [40]))) (catX (lstX varX 0 ins) (catX (some [41, 32, 114, 101, 116, 117, 114, 110, 115, 32, 40]) (catX (lstX varX 0 outs) (catX (some [41, 59, 10]) (catX (some [108, 101, 116, 10]) (catX (lstX (fun _ q => eqTx q) 0 qs) (some [116, 101, 108, 10]))))))))
  clear ho
  go_enter Tryz.func84, Tryz.ntmps84
  go_wp2_with fail
  refine (put_newX K B b 0 pS _ _ [⟨#[110, 111, 100, 101, 32]⟩, name, ⟨#[40]⟩] ([110, 111, 100, 101, 32] ++ (name.data.toList ++ [40])) (by simp [flat]) _ 3 (by first | rfl | simp) rfl s0 (by decide) _ rfl).mono ?_
  rintro e v1 ⟨c1, j1, ⟨l1, rfl, u1, g1, x1, q1, rfl⟩ | ⟨ht, hr⟩⟩
  ·have s1 := WStX.next s0 c1 u1 g1
   have HR1 : Hid _ := kept_row j1 HR0.out (by omega) (by intro c fz e; injection e with _ e; exact absurd e (by decide))
   obtain ⟨a10, a11, a12, a13, a14, _⟩ := blk5 HR1.out
   have hz1 : w.heap.size < v1.heap.size := (Array.getElem?_eq_some_iff.1 HR1.out).1
   go_wp2_with fail
   refine (H1.out _ _ (bz.trans c1) s1).mono ?_
   rintro e v2 ⟨c2, j2, ⟨l2, rfl, u2, g2, x2, q2, rfl⟩ | ⟨ht, hr⟩⟩
   ·have s2 := WStX.next s1 c2 u2 g2
    have HR2 : Hid _ := kept_row j2 HR1.out (by omega) (by intro c fz e; injection e with _ e; exact absurd e (by decide))
    obtain ⟨a20, a21, a22, a23, a24, _⟩ := blk5 HR2.out
    have hz2 : w.heap.size < v2.heap.size := (Array.getElem?_eq_some_iff.1 HR2.out).1
    clear a10 a11 a12 a13 a14
    go_wp2_with fail
    refine (put_newX K B b 0 pS _ _ [⟨#[41, 32, 114, 101, 116, 117, 114, 110, 115, 32, 40]⟩] [41, 32, 114, 101, 116, 117, 114, 110, 115, 32, 40] (by simp [flat]) _ 1 (by first | rfl | simp) rfl s2 (by decide) _ rfl).mono ?_
    rintro e v3 ⟨c3, j3, ⟨l3, rfl, u3, g3, x3, q3, rfl⟩ | ⟨ht, hr⟩⟩
    ·have s3 := WStX.next s2 c3 u3 g3
     have HR3 : Hid _ := kept_row j3 HR2.out (by omega) (by intro c fz e; injection e with _ e; exact absurd e (by decide))
     obtain ⟨a30, a31, a32, a33, a34, _⟩ := blk5 HR3.out
     have hz3 : w.heap.size < v3.heap.size := (Array.getElem?_eq_some_iff.1 HR3.out).1
     clear a20 a21 a22 a23 a24
     go_wp2_with fail
     refine (H2.out _ _ (((bz.trans c1).trans c2).trans c3) s3).mono ?_
     rintro e v4 ⟨c4, j4, ⟨l4, rfl, u4, g4, x4, q4, rfl⟩ | ⟨ht, hr⟩⟩
     ·have s4 := WStX.next s3 c4 u4 g4
      have HR4 : Hid _ := kept_row j4 HR3.out (by omega) (by intro c fz e; injection e with _ e; exact absurd e (by decide))
      obtain ⟨a40, a41, a42, a43, a44, _⟩ := blk5 HR4.out
      have hz4 : w.heap.size < v4.heap.size := (Array.getElem?_eq_some_iff.1 HR4.out).1
      clear a30 a31 a32 a33 a34
      go_wp2_with fail
      refine (put_newX K B b 0 pS _ _ [⟨#[41, 59, 10]⟩] [41, 59, 10] (by simp [flat]) _ 1 (by first | rfl | simp) rfl s4 (by decide) _ rfl).mono ?_
      rintro e v5 ⟨c5, j5, ⟨l5, rfl, u5, g5, x5, q5, rfl⟩ | ⟨ht, hr⟩⟩
      ·have s5 := WStX.next s4 c5 u5 g5
       have HR5 : Hid _ := kept_row j5 HR4.out (by omega) (by intro c fz e; injection e with _ e; exact absurd e (by decide))
       obtain ⟨a50, a51, a52, a53, a54, _⟩ := blk5 HR5.out
       have hz5 : w.heap.size < v5.heap.size := (Array.getElem?_eq_some_iff.1 HR5.out).1
       clear a40 a41 a42 a43 a44
       go_wp2_with fail
       refine (put_newX K B b 0 pS _ _ [⟨#[108, 101, 116, 10]⟩] [108, 101, 116, 10] (by simp [flat]) _ 1 (by first | rfl | simp) rfl s5 (by decide) _ rfl).mono ?_
       rintro e v6 ⟨c6, j6, ⟨l6, rfl, u6, g6, x6, q6, rfl⟩ | ⟨ht, hr⟩⟩
       ·have s6 := WStX.next s5 c6 u6 g6
        have HR6 : Hid _ := kept_row j6 HR5.out (by omega) (by intro c fz e; injection e with _ e; exact absurd e (by decide))
        obtain ⟨a60, a61, a62, a63, a64, _⟩ := blk5 HR6.out
        have hz6 : w.heap.size < v6.heap.size := (Array.getElem?_eq_some_iff.1 HR6.out).1
        clear a50 a51 a52 a53 a54
        go_wp2
        clear a60 a61 a62 a63 a64
        go_loopw [45] (fun t wr => ∃ i : Nat, i ≤ qs.length ∧ t = .int .i64 i ∧ (∃ x, WStX B b 0 pS (lx ++ x1 ++ x2 ++ x3 ++ x4 ++ x5 ++ x6 ++ x) wr ∧ lstX (fun _ q => eqTx q) 0 qs = catX (some x) (lstX (fun _ q => eqTx q) i (qs.drop i))) ∧ Below B w wr ∧ Kept b w wr) (fun t _ => qs.length - (intOf t).toNat)
        case atStart => exact ⟨0, Nat.zero_le _, rfl, ⟨[], by rw [List.append_nil]; exact s6, by rw [catX_nil]; rfl⟩, ((((((bz.trans c1).trans c2).trans c3).trans c4).trans c5).trans c6), ((((((kz.trans j1).trans j2).trans j3).trans j4).trans j5).trans j6)⟩
        case round =>
         obtain ⟨i, hi, rfl, ⟨x, hw, hx0⟩, hb, hk⟩ := hrel
         have HX : Hid (lstX (fun _ q => eqTx q) 0 qs = catX (some x) (lstX (fun _ q => eqTx q) i (qs.drop i))) := hx0
         clear hx0
         by_cases hlt' : i < qs.length
         ·have hrr := below_row H4.out hb
          have hqq := below_eq H5.out hb
          obtain ⟨q, off, rfl, _, g⟩ := row_get hrr (by have := hrr.1; omega)
          obtain ⟨kind, ns, no, nc, op, n, s, l, o, c, zs, e, x0, x1', x2', x3', x4', x5', t1, t2, t3⟩ := hqq.at hlt'
          have x0 := g _ _ x0
          have x1' := g _ _ x1'
          have x2' := g _ _ x2'
          have x3' := g _ _ x3'
          have x4' := g _ _ x4'
          have x5' := g _ _ x5'
          rw [← Nat.add_assoc] at x1' x2' x3' x4' x5'
          have i0 : (0 : Int) ≤ (i : Int) := by omega
          have i1 : (i : Int) < (qs.length : Int) := by omega
          have hwl := hw.lt
          have sA := hw.alloc (.cells #[.string kind, .slice no ns.length nc, .string op, .int .i64 n, .string s, .slice o l.length c] 107)
          have bA : Below B wr (wr.alloc (.cells #[.string kind, .slice no ns.length nc, .string op, .int .i64 n, .string s, .slice o l.length c] 107)) := (Below.refl _ _).alloc (by omega) _
          have he : eqTx qs[i] = eqX kind ns (.mk op n s l) := by rw [e]; rfl
          have HQ : Hid (Calls Tryz.prog 120 #[.pointer (some ⟨b, 0, none⟩), .agg #[.string kind, .slice no ns.length nc, .string op, .int .i64 n, .string s, .slice o l.length c]] (wr.alloc (.cells #[.string kind, .slice no ns.length nc, .string op, .int .i64 n, .string s, .slice o l.length c] 107)) fun e w'' => WAnyX K B b 0 pS (lx ++ x1 ++ x2 ++ x3 ++ x4 ++ x5 ++ x6 ++ x) (eqTx qs[i]) (wr.alloc (.cells #[.string kind, .slice no ns.length nc, .string op, .int .i64 n, .string s, .slice o l.length c] 107)) e w'') := he ▸ wequation_x K B b pS _ _ kind ns no nc op n s l o c zs sA (below_row t1 bA) (below_row t2 bA) (below_ex t3 bA)
          clear hrr hqq g t1 t2 t3 e he
          go_wp2_with fail
          refine HQ.out.mono ?_
          rintro e w1 ⟨b1, k1, ⟨l1, rfl, h1, g1, y1, p1, rfl⟩ | ⟨ht, hr⟩⟩
          ·go_wp2
           exact ⟨⟨i + 1, by omega, by go_num, ⟨x ++ y1, by have := sA.next b1 h1 g1; simpa only [List.append_assoc] using this, lst_next hlt' HX.out p1⟩, (hb.trans bA).trans b1, (hk.trans (Kept.alloc b wr _)).trans k1⟩, by simp [intOf]; omega⟩
          ·unfold WThrew at ht
           subst ht
           go_wp2
           exact ⟨rfl, (hb.trans bA).trans b1, (hk.trans (Kept.alloc b wr _)).trans k1, Or.inr ⟨rfl, by rw [HTX.out]; exact ((((((((lst_rsn hlt' HX.out hr).more _).lift q6).lift q5).lift q4).lift q3).lift q2).lift q1)⟩⟩
         ·go_wp2_with fail
          refine (put_newX K B b 0 pS _ _ [⟨#[116, 101, 108, 10]⟩] [116, 101, 108, 10] rfl _ 1 (by first | rfl | simp) rfl hw (by decide) _ rfl).mono ?_
          rintro e w1 ⟨b1, k1, ⟨l1, rfl, h1, g1, y1, p1, rfl⟩ | ⟨ht, hr⟩⟩
          ·go_wp2
           go_end0
           exact ⟨hb.trans b1, hk.trans k1, Or.inl ⟨_, rfl, h1, g1, by rw [HTX.out]; exact (((((((Ok.lift (Ok.this p1) (lst_done (by omega) HX.out)).lift q6).lift q5).lift q4).lift q3).lift q2).lift q1)⟩⟩
          ·unfold WThrew at ht
           subst ht
           go_wp2
           exact ⟨rfl, hb.trans b1, hk.trans k1, Or.inr ⟨rfl, by rw [HTX.out]; exact (((((((Rsn.lift hr (lst_done (by omega) HX.out)).lift q6).lift q5).lift q4).lift q3).lift q2).lift q1)⟩⟩
       ·unfold WThrew at ht
        subst ht
        go_wp2
        exact ⟨rfl, ((((((bz.trans c1).trans c2).trans c3).trans c4).trans c5).trans c6), ((((((kz.trans j1).trans j2).trans j3).trans j4).trans j5).trans j6), Or.inr ⟨rfl, by rw [HTX.out]; exact ((((((hr.more _).lift q5).lift q4).lift q3).lift q2).lift q1)⟩⟩
      ·unfold WThrew at ht
       subst ht
       go_wp2
       exact ⟨rfl, (((((bz.trans c1).trans c2).trans c3).trans c4).trans c5), (((((kz.trans j1).trans j2).trans j3).trans j4).trans j5), Or.inr ⟨rfl, by rw [HTX.out]; exact (((((hr.more _).lift q4).lift q3).lift q2).lift q1)⟩⟩
     ·unfold WThrew at ht
      subst ht
      go_wp2
      exact ⟨rfl, ((((bz.trans c1).trans c2).trans c3).trans c4), ((((kz.trans j1).trans j2).trans j3).trans j4), Or.inr ⟨rfl, by rw [HTX.out]; exact ((((hr.more _).lift q3).lift q2).lift q1)⟩⟩
    ·unfold WThrew at ht
     subst ht
     go_wp2
     exact ⟨rfl, (((bz.trans c1).trans c2).trans c3), (((kz.trans j1).trans j2).trans j3), Or.inr ⟨rfl, by rw [HTX.out]; exact (((hr.more _).lift q2).lift q1)⟩⟩
   ·unfold WThrew at ht
    subst ht
    go_wp2
    exact ⟨rfl, ((bz.trans c1).trans c2), ((kz.trans j1).trans j2), Or.inr ⟨rfl, by rw [HTX.out]; exact ((hr.more _).lift q1)⟩⟩
  ·unfold WThrew at ht
   subst ht
   go_wp2
   exact ⟨rfl, (bz.trans c1), (kz.trans j1), Or.inr ⟨rfl, by rw [HTX.out]; exact (hr.more _)⟩⟩
 ·have ho' : (0 : Int) < (owns.length : Int) := by omega
  have HTX : Hid (nodeX name ins outs owns qs = catX (some ([110, 111, 100, 101, 32] ++ (name.data.toList ++ [40]))) (catX (lstX varX 0 ins) (catX (some [41, 32, 114, 101, 116, 117, 114, 110, 115, 32, 40]) (catX (lstX varX 0 outs) (catX (some [41, 59, 10]) (catX (some [118, 97, 114, 32]) (catX (lstX varX 0 owns) (catX (some [59, 10]) (catX (some [108, 101, 116, 10]) (catX (lstX (fun _ q => eqTx q) 0 qs) (some [116, 101, 108, 10]))))))))))) := (by rw [nodeX, ownX, if_neg ho] : nodeX name ins outs owns qs = catX (some ([110, 111, 100, 101, 32] ++ (name.data.toList ++ [40]))) (catX (lstX varX 0 ins) (catX (some [41, 32, 114, 101, 116, 117, 114, 110, 115, 32, 40]) (catX (lstX varX 0 outs) (catX (some [41, 59, 10]) (catX (some [118, 97, 114, 32]) (catX (lstX varX 0 owns) (catX (some [59, 10]) (catX (some [108, 101, 116, 10]) (catX (lstX (fun _ q => eqTx q) 0 qs) (some [116, 101, 108, 10])))))))))))
  clear ho
  go_enter Tryz.func84, Tryz.ntmps84
  go_wp2_with fail
  refine (put_newX K B b 0 pS _ _ [⟨#[110, 111, 100, 101, 32]⟩, name, ⟨#[40]⟩] ([110, 111, 100, 101, 32] ++ (name.data.toList ++ [40])) (by simp [flat]) _ 3 (by first | rfl | simp) rfl s0 (by decide) _ rfl).mono ?_
  rintro e v1 ⟨c1, j1, ⟨l1, rfl, u1, g1, x1, q1, rfl⟩ | ⟨ht, hr⟩⟩
  ·have s1 := WStX.next s0 c1 u1 g1
   have HR1 : Hid _ := kept_row j1 HR0.out (by omega) (by intro c fz e; injection e with _ e; exact absurd e (by decide))
   obtain ⟨a10, a11, a12, a13, a14, _⟩ := blk5 HR1.out
   have hz1 : w.heap.size < v1.heap.size := (Array.getElem?_eq_some_iff.1 HR1.out).1
   go_wp2_with fail
   refine (H1.out _ _ (bz.trans c1) s1).mono ?_
   rintro e v2 ⟨c2, j2, ⟨l2, rfl, u2, g2, x2, q2, rfl⟩ | ⟨ht, hr⟩⟩
   ·have s2 := WStX.next s1 c2 u2 g2
    have HR2 : Hid _ := kept_row j2 HR1.out (by omega) (by intro c fz e; injection e with _ e; exact absurd e (by decide))
    obtain ⟨a20, a21, a22, a23, a24, _⟩ := blk5 HR2.out
    have hz2 : w.heap.size < v2.heap.size := (Array.getElem?_eq_some_iff.1 HR2.out).1
    clear a10 a11 a12 a13 a14
    go_wp2_with fail
    refine (put_newX K B b 0 pS _ _ [⟨#[41, 32, 114, 101, 116, 117, 114, 110, 115, 32, 40]⟩] [41, 32, 114, 101, 116, 117, 114, 110, 115, 32, 40] (by simp [flat]) _ 1 (by first | rfl | simp) rfl s2 (by decide) _ rfl).mono ?_
    rintro e v3 ⟨c3, j3, ⟨l3, rfl, u3, g3, x3, q3, rfl⟩ | ⟨ht, hr⟩⟩
    ·have s3 := WStX.next s2 c3 u3 g3
     have HR3 : Hid _ := kept_row j3 HR2.out (by omega) (by intro c fz e; injection e with _ e; exact absurd e (by decide))
     obtain ⟨a30, a31, a32, a33, a34, _⟩ := blk5 HR3.out
     have hz3 : w.heap.size < v3.heap.size := (Array.getElem?_eq_some_iff.1 HR3.out).1
     clear a20 a21 a22 a23 a24
     go_wp2_with fail
     refine (H2.out _ _ (((bz.trans c1).trans c2).trans c3) s3).mono ?_
     rintro e v4 ⟨c4, j4, ⟨l4, rfl, u4, g4, x4, q4, rfl⟩ | ⟨ht, hr⟩⟩
     ·have s4 := WStX.next s3 c4 u4 g4
      have HR4 : Hid _ := kept_row j4 HR3.out (by omega) (by intro c fz e; injection e with _ e; exact absurd e (by decide))
      obtain ⟨a40, a41, a42, a43, a44, _⟩ := blk5 HR4.out
      have hz4 : w.heap.size < v4.heap.size := (Array.getElem?_eq_some_iff.1 HR4.out).1
      clear a30 a31 a32 a33 a34
      go_wp2_with fail
      refine (put_newX K B b 0 pS _ _ [⟨#[41, 59, 10]⟩] [41, 59, 10] (by simp [flat]) _ 1 (by first | rfl | simp) rfl s4 (by decide) _ rfl).mono ?_
      rintro e v5 ⟨c5, j5, ⟨l5, rfl, u5, g5, x5, q5, rfl⟩ | ⟨ht, hr⟩⟩
      ·have s5 := WStX.next s4 c5 u5 g5
       have HR5 : Hid _ := kept_row j5 HR4.out (by omega) (by intro c fz e; injection e with _ e; exact absurd e (by decide))
       obtain ⟨a50, a51, a52, a53, a54, _⟩ := blk5 HR5.out
       have hz5 : w.heap.size < v5.heap.size := (Array.getElem?_eq_some_iff.1 HR5.out).1
       clear a40 a41 a42 a43 a44
       go_wp2_with fail
       refine (put_newX K B b 0 pS _ _ [⟨#[118, 97, 114, 32]⟩] [118, 97, 114, 32] (by simp [flat]) _ 1 (by first | rfl | simp) rfl s5 (by decide) _ rfl).mono ?_
       rintro e v6 ⟨c6, j6, ⟨l6, rfl, u6, g6, x6, q6, rfl⟩ | ⟨ht, hr⟩⟩
       ·have s6 := WStX.next s5 c6 u6 g6
        have HR6 : Hid _ := kept_row j6 HR5.out (by omega) (by intro c fz e; injection e with _ e; exact absurd e (by decide))
        obtain ⟨a60, a61, a62, a63, a64, _⟩ := blk5 HR6.out
        have hz6 : w.heap.size < v6.heap.size := (Array.getElem?_eq_some_iff.1 HR6.out).1
        clear a50 a51 a52 a53 a54
        go_wp2_with fail
        refine (H3.out _ _ ((((((bz.trans c1).trans c2).trans c3).trans c4).trans c5).trans c6) s6).mono ?_
        rintro e v7 ⟨c7, j7, ⟨l7, rfl, u7, g7, x7, q7, rfl⟩ | ⟨ht, hr⟩⟩
        ·have s7 := WStX.next s6 c7 u7 g7
         have HR7 : Hid _ := kept_row j7 HR6.out (by omega) (by intro c fz e; injection e with _ e; exact absurd e (by decide))
         obtain ⟨a70, a71, a72, a73, a74, _⟩ := blk5 HR7.out
         have hz7 : w.heap.size < v7.heap.size := (Array.getElem?_eq_some_iff.1 HR7.out).1
         clear a60 a61 a62 a63 a64
         go_wp2_with fail
         refine (put_newX K B b 0 pS _ _ [⟨#[59, 10]⟩] [59, 10] (by simp [flat]) _ 1 (by first | rfl | simp) rfl s7 (by decide) _ rfl).mono ?_
         rintro e v8 ⟨c8, j8, ⟨l8, rfl, u8, g8, x8, q8, rfl⟩ | ⟨ht, hr⟩⟩
         ·have s8 := WStX.next s7 c8 u8 g8
          have HR8 : Hid _ := kept_row j8 HR7.out (by omega) (by intro c fz e; injection e with _ e; exact absurd e (by decide))
          obtain ⟨a80, a81, a82, a83, a84, _⟩ := blk5 HR8.out
          have hz8 : w.heap.size < v8.heap.size := (Array.getElem?_eq_some_iff.1 HR8.out).1
          clear a70 a71 a72 a73 a74
          go_wp2_with fail
          refine (put_newX K B b 0 pS _ _ [⟨#[108, 101, 116, 10]⟩] [108, 101, 116, 10] (by simp [flat]) _ 1 (by first | rfl | simp) rfl s8 (by decide) _ rfl).mono ?_
          rintro e v9 ⟨c9, j9, ⟨l9, rfl, u9, g9, x9, q9, rfl⟩ | ⟨ht, hr⟩⟩
          ·have s9 := WStX.next s8 c9 u9 g9
           have HR9 : Hid _ := kept_row j9 HR8.out (by omega) (by intro c fz e; injection e with _ e; exact absurd e (by decide))
           obtain ⟨a90, a91, a92, a93, a94, _⟩ := blk5 HR9.out
           have hz9 : w.heap.size < v9.heap.size := (Array.getElem?_eq_some_iff.1 HR9.out).1
           clear a80 a81 a82 a83 a84
           go_wp2
           clear a90 a91 a92 a93 a94
           go_loopw [45] (fun t wr => ∃ i : Nat, i ≤ qs.length ∧ t = .int .i64 i ∧ (∃ x, WStX B b 0 pS (lx ++ x1 ++ x2 ++ x3 ++ x4 ++ x5 ++ x6 ++ x7 ++ x8 ++ x9 ++ x) wr ∧ lstX (fun _ q => eqTx q) 0 qs = catX (some x) (lstX (fun _ q => eqTx q) i (qs.drop i))) ∧ Below B w wr ∧ Kept b w wr) (fun t _ => qs.length - (intOf t).toNat)
           case atStart => exact ⟨0, Nat.zero_le _, rfl, ⟨[], by rw [List.append_nil]; exact s9, by rw [catX_nil]; rfl⟩, (((((((((bz.trans c1).trans c2).trans c3).trans c4).trans c5).trans c6).trans c7).trans c8).trans c9), (((((((((kz.trans j1).trans j2).trans j3).trans j4).trans j5).trans j6).trans j7).trans j8).trans j9)⟩
           case round =>
            obtain ⟨i, hi, rfl, ⟨x, hw, hx0⟩, hb, hk⟩ := hrel
            have HX : Hid (lstX (fun _ q => eqTx q) 0 qs = catX (some x) (lstX (fun _ q => eqTx q) i (qs.drop i))) := hx0
            clear hx0
            by_cases hlt' : i < qs.length
            ·have hrr := below_row H4.out hb
             have hqq := below_eq H5.out hb
             obtain ⟨q, off, rfl, _, g⟩ := row_get hrr (by have := hrr.1; omega)
             obtain ⟨kind, ns, no, nc, op, n, s, l, o, c, zs, e, x0, x1', x2', x3', x4', x5', t1, t2, t3⟩ := hqq.at hlt'
             have x0 := g _ _ x0
             have x1' := g _ _ x1'
             have x2' := g _ _ x2'
             have x3' := g _ _ x3'
             have x4' := g _ _ x4'
             have x5' := g _ _ x5'
             rw [← Nat.add_assoc] at x1' x2' x3' x4' x5'
             have i0 : (0 : Int) ≤ (i : Int) := by omega
             have i1 : (i : Int) < (qs.length : Int) := by omega
             have hwl := hw.lt
             have sA := hw.alloc (.cells #[.string kind, .slice no ns.length nc, .string op, .int .i64 n, .string s, .slice o l.length c] 107)
             have bA : Below B wr (wr.alloc (.cells #[.string kind, .slice no ns.length nc, .string op, .int .i64 n, .string s, .slice o l.length c] 107)) := (Below.refl _ _).alloc (by omega) _
             have he : eqTx qs[i] = eqX kind ns (.mk op n s l) := by rw [e]; rfl
             have HQ : Hid (Calls Tryz.prog 120 #[.pointer (some ⟨b, 0, none⟩), .agg #[.string kind, .slice no ns.length nc, .string op, .int .i64 n, .string s, .slice o l.length c]] (wr.alloc (.cells #[.string kind, .slice no ns.length nc, .string op, .int .i64 n, .string s, .slice o l.length c] 107)) fun e w'' => WAnyX K B b 0 pS (lx ++ x1 ++ x2 ++ x3 ++ x4 ++ x5 ++ x6 ++ x7 ++ x8 ++ x9 ++ x) (eqTx qs[i]) (wr.alloc (.cells #[.string kind, .slice no ns.length nc, .string op, .int .i64 n, .string s, .slice o l.length c] 107)) e w'') := he ▸ wequation_x K B b pS _ _ kind ns no nc op n s l o c zs sA (below_row t1 bA) (below_row t2 bA) (below_ex t3 bA)
             clear hrr hqq g t1 t2 t3 e he
             go_wp2_with fail
             refine HQ.out.mono ?_
             rintro e w1 ⟨b1, k1, ⟨l1, rfl, h1, g1, y1, p1, rfl⟩ | ⟨ht, hr⟩⟩
             ·go_wp2
              exact ⟨⟨i + 1, by omega, by go_num, ⟨x ++ y1, by have := sA.next b1 h1 g1; simpa only [List.append_assoc] using this, lst_next hlt' HX.out p1⟩, (hb.trans bA).trans b1, (hk.trans (Kept.alloc b wr _)).trans k1⟩, by simp [intOf]; omega⟩
             ·unfold WThrew at ht
              subst ht
              go_wp2
              exact ⟨rfl, (hb.trans bA).trans b1, (hk.trans (Kept.alloc b wr _)).trans k1, Or.inr ⟨rfl, by rw [HTX.out]; exact (((((((((((lst_rsn hlt' HX.out hr).more _).lift q9).lift q8).lift q7).lift q6).lift q5).lift q4).lift q3).lift q2).lift q1)⟩⟩
            ·go_wp2_with fail
             refine (put_newX K B b 0 pS _ _ [⟨#[116, 101, 108, 10]⟩] [116, 101, 108, 10] rfl _ 1 (by first | rfl | simp) rfl hw (by decide) _ rfl).mono ?_
             rintro e w1 ⟨b1, k1, ⟨l1, rfl, h1, g1, y1, p1, rfl⟩ | ⟨ht, hr⟩⟩
             ·go_wp2
              go_end0
              exact ⟨hb.trans b1, hk.trans k1, Or.inl ⟨_, rfl, h1, g1, by rw [HTX.out]; exact ((((((((((Ok.lift (Ok.this p1) (lst_done (by omega) HX.out)).lift q9).lift q8).lift q7).lift q6).lift q5).lift q4).lift q3).lift q2).lift q1)⟩⟩
             ·unfold WThrew at ht
              subst ht
              go_wp2
              exact ⟨rfl, hb.trans b1, hk.trans k1, Or.inr ⟨rfl, by rw [HTX.out]; exact ((((((((((Rsn.lift hr (lst_done (by omega) HX.out)).lift q9).lift q8).lift q7).lift q6).lift q5).lift q4).lift q3).lift q2).lift q1)⟩⟩
          ·unfold WThrew at ht
           subst ht
           go_wp2
           exact ⟨rfl, (((((((((bz.trans c1).trans c2).trans c3).trans c4).trans c5).trans c6).trans c7).trans c8).trans c9), (((((((((kz.trans j1).trans j2).trans j3).trans j4).trans j5).trans j6).trans j7).trans j8).trans j9), Or.inr ⟨rfl, by rw [HTX.out]; exact (((((((((hr.more _).lift q8).lift q7).lift q6).lift q5).lift q4).lift q3).lift q2).lift q1)⟩⟩
         ·unfold WThrew at ht
          subst ht
          go_wp2
          exact ⟨rfl, ((((((((bz.trans c1).trans c2).trans c3).trans c4).trans c5).trans c6).trans c7).trans c8), ((((((((kz.trans j1).trans j2).trans j3).trans j4).trans j5).trans j6).trans j7).trans j8), Or.inr ⟨rfl, by rw [HTX.out]; exact ((((((((hr.more _).lift q7).lift q6).lift q5).lift q4).lift q3).lift q2).lift q1)⟩⟩
        ·unfold WThrew at ht
         subst ht
         go_wp2
         exact ⟨rfl, (((((((bz.trans c1).trans c2).trans c3).trans c4).trans c5).trans c6).trans c7), (((((((kz.trans j1).trans j2).trans j3).trans j4).trans j5).trans j6).trans j7), Or.inr ⟨rfl, by rw [HTX.out]; exact (((((((hr.more _).lift q6).lift q5).lift q4).lift q3).lift q2).lift q1)⟩⟩
       ·unfold WThrew at ht
        subst ht
        go_wp2
        exact ⟨rfl, ((((((bz.trans c1).trans c2).trans c3).trans c4).trans c5).trans c6), ((((((kz.trans j1).trans j2).trans j3).trans j4).trans j5).trans j6), Or.inr ⟨rfl, by rw [HTX.out]; exact ((((((hr.more _).lift q5).lift q4).lift q3).lift q2).lift q1)⟩⟩
      ·unfold WThrew at ht
       subst ht
       go_wp2
       exact ⟨rfl, (((((bz.trans c1).trans c2).trans c3).trans c4).trans c5), (((((kz.trans j1).trans j2).trans j3).trans j4).trans j5), Or.inr ⟨rfl, by rw [HTX.out]; exact (((((hr.more _).lift q4).lift q3).lift q2).lift q1)⟩⟩
     ·unfold WThrew at ht
      subst ht
      go_wp2
      exact ⟨rfl, ((((bz.trans c1).trans c2).trans c3).trans c4), ((((kz.trans j1).trans j2).trans j3).trans j4), Or.inr ⟨rfl, by rw [HTX.out]; exact ((((hr.more _).lift q3).lift q2).lift q1)⟩⟩
    ·unfold WThrew at ht
     subst ht
     go_wp2
     exact ⟨rfl, (((bz.trans c1).trans c2).trans c3), (((kz.trans j1).trans j2).trans j3), Or.inr ⟨rfl, by rw [HTX.out]; exact (((hr.more _).lift q2).lift q1)⟩⟩
   ·unfold WThrew at ht
    subst ht
    go_wp2
    exact ⟨rfl, ((bz.trans c1).trans c2), ((kz.trans j1).trans j2), Or.inr ⟨rfl, by rw [HTX.out]; exact ((hr.more _).lift q1)⟩⟩
  ·unfold WThrew at ht
   subst ht
   go_wp2
   exact ⟨rfl, (bz.trans c1), (kz.trans j1), Or.inr ⟨rfl, by rw [HTX.out]; exact (hr.more _)⟩⟩
set_option maxRecDepth 100000 in
set_option maxHeartbeats 1000000 in
theorem wprogram_x (K : Prop) (B b : Nat) (pS : Addr) (lx : List UInt8) (w : World) (es : List Ex) (o : Option Addr) (c : Nat) (ys : List Value) (h : WStX B b 0 pS lx w) (r1 : RowAt w (fun k => k < B) 5 (.slice o es.length c) es.length ys) (r2 : NdIn w (fun k => k < B) es ys) :
  Calls Tryz.prog 47 #[.pointer (some ⟨b, 0, none⟩), .slice o es.length c] w fun e w' => WAnyX K B b 0 pS lx (progX es) w e w' := by
 have hlen := r1.len
 unfold maxLen at hlen
 have H4 : Hid (RowAt w (fun k => k < B) 5 (.slice o es.length c) es.length ys) := r1
 have H5 : Hid (NdIn w (fun k => k < B) es ys) := r2
 have hle := h.le
 clear r1 r2
 go_enter Tryz.func47, Tryz.ntmps47
 go_wp2
 go_loopw [8] (fun t wr => ∃ i : Nat, i ≤ es.length ∧ t = .int .i64 i ∧ (∃ x, WStX B b 0 pS (lx ++ x) wr ∧ progX es = catX (some x) (lstX (fun _ n => nodeTx n) i (es.drop i))) ∧ Below B w wr ∧ Kept b w wr) (fun t _ => es.length - (intOf t).toNat)
 case atStart => exact ⟨0, Nat.zero_le _, rfl, ⟨[], by rw [List.append_nil]; exact h, by rw [catX_nil]; rfl⟩, Below.refl _ _, Lib.OthersKept.refl _ _ _⟩
 case round =>
  obtain ⟨i, hi, rfl, ⟨x, hw, hx0⟩, hb, hk⟩ := hrel
  have HX : Hid (progX es = catX (some x) (lstX (fun _ n => nodeTx n) i (es.drop i))) := hx0
  clear hx0
  by_cases hlt' : i < es.length
  ·have hrr := below_row H4.out hb
   have hqq := below_nd H5.out hb
   obtain ⟨q, off, rfl, _, g⟩ := row_get hrr (by have := hrr.1; omega)
   obtain ⟨name, ins, outs, owns, qs, o1, c1, o2, c2, o3, c3, o4, c4, zs, e, x0, x1, x2, x3, x4, t1, t2, t3, t4, t5⟩ := hqq.at hlt'
   have x0 := g _ _ x0
   have x1 := g _ _ x1
   have x2 := g _ _ x2
   have x3 := g _ _ x3
   have x4 := g _ _ x4
   rw [← Nat.add_assoc] at x1 x2 x3 x4
   have i0 : (0 : Int) ≤ (i : Int) := by omega
   have i1 : (i : Int) < (es.length : Int) := by omega
   have hwl := hw.lt
   have sA := hw.alloc (.cells #[.string name, .slice o1 ins.length c1, .slice o2 outs.length c2, .slice o3 owns.length c3, .slice o4 qs.length c4] 70)
   have bA : Below B wr (wr.alloc (.cells #[.string name, .slice o1 ins.length c1, .slice o2 outs.length c2, .slice o3 owns.length c3, .slice o4 qs.length c4] 70)) := (Below.refl _ _).alloc (by omega) _
   have he : nodeTx es[i] = nodeX name ins outs owns qs := by rw [e]; rfl
   have HQ : Hid (Calls Tryz.prog 84 #[.pointer (some ⟨b, 0, none⟩), .agg #[.string name, .slice o1 ins.length c1, .slice o2 outs.length c2, .slice o3 owns.length c3, .slice o4 qs.length c4]] (wr.alloc (.cells #[.string name, .slice o1 ins.length c1, .slice o2 outs.length c2, .slice o3 owns.length c3, .slice o4 qs.length c4] 70)) fun e w'' => WAnyX K B b 0 pS (lx ++ x) (nodeTx es[i]) (wr.alloc (.cells #[.string name, .slice o1 ins.length c1, .slice o2 outs.length c2, .slice o3 owns.length c3, .slice o4 qs.length c4] 70)) e w'') := he ▸ wnode_x K B b pS _ _ name ins outs owns qs o1 o2 o3 o4 c1 c2 c3 c4 zs sA (below_row t1 bA) (below_row t2 bA) (below_row t3 bA) (below_row t4 bA) (below_eq t5 bA)
   clear hrr hqq g t1 t2 t3 t4 t5 e he
   go_wp2_with fail
   refine HQ.out.mono ?_
   rintro e w1 ⟨b1, k1, ⟨l1, rfl, h1, g1, y1, p1, rfl⟩ | ⟨ht, hr⟩⟩
   ·go_wp2
    exact ⟨⟨i + 1, by omega, by go_num, ⟨x ++ y1, by have := sA.next b1 h1 g1; simpa only [List.append_assoc] using this, lst_next hlt' HX.out p1⟩, (hb.trans bA).trans b1, (hk.trans (Kept.alloc b wr _)).trans k1⟩, by simp [intOf]; omega⟩
   ·unfold WThrew at ht
    subst ht
    go_wp2
    exact ⟨rfl, (hb.trans bA).trans b1, (hk.trans (Kept.alloc b wr _)).trans k1, Or.inr ⟨rfl, lst_rsn hlt' HX.out hr⟩⟩
  ·have h1 := hw.wt
   have g1 := hw.len
   go_wp2
   go_end0
   exact ⟨hb, hk, Or.inl ⟨_, rfl, h1, g1, Ok.this (lst_done (by omega) HX.out)⟩⟩
end Go.Proofs.YtgbpccipdcajgaaGreatDoor
