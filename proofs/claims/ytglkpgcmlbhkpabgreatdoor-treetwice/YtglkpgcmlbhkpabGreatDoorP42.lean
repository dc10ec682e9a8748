/-
  package tree's WRITER: equation, node, program BY THEIR CONTRACTS, whatever they are given: it writes on, or it gives up.
-/
import Derived.Test.YtglkpgcmlbhkpabGreatDoorP41
namespace Go.Proofs.YtglkpgcmlbhkpabGreatDoor
open Go.RowKit
attribute [local go_sem ↓] Go.wp_at_zero Go.wp_at_succ

theorem below_eq {B : Nat} {w w' : World} {l : List Ex} {xs : List Value} (h : EqIn w (fun k => k < B) l xs) (hb : Below B w w') : EqIn w' (fun k => k < B) l xs := h.keep (fun k hk _ => ⟨hk, hb.block k hk⟩)
theorem below_nd {B : Nat} {w w' : World} {l : List Ex} {xs : List Value} (h : NdIn w (fun k => k < B) l xs) (hb : Below B w w') : NdIn w' (fun k => k < B) l xs := h.keep (fun k hk _ => ⟨hk, hb.block k hk⟩)
set_option maxRecDepth 100000 in
set_option maxHeartbeats 1000000 in
theorem wequation_any (B b d : Nat) (pS : Addr) (w : World) (kind : ByteArray) (ns : List Ex) (no : Option Addr) (nc : Nat) (op : ByteArray) (n : Int) (s : ByteArray) (l : List Ex) (o : Option Addr) (c : Nat) (ys : List Value) (hd : d ≤ 6000) (h : WSt B b d pS w) (hr : RowAt w (fun k => k < B) 1 (.slice no ns.length nc) ns.length (nameCells ns)) (h1 : RowAt w (fun k => k < B) 4 (.slice o l.length c) l.length ys) (h2 : ExIn w (fun k => k < B) l ys) :
    Calls Tryz.prog 131 #[.pointer (some ⟨b, 0, none⟩), .agg #[.string kind, .slice no ns.length nc, .string op, .int .i64 n, .string s, .slice o l.length c]] w fun e w' => WAny B b d pS w e w' := by
  have hlt := h.lt
  have hle := h.le
  have bz : Below B w (w.alloc (.cells #[.string kind, .slice no ns.length nc, .string op, .int .i64 n, .string s, .slice o l.length c] 98)) := (Below.refl _ _).alloc (by omega) _
  have kz : Kept b w (w.alloc (.cells #[.string kind, .slice no ns.length nc, .string op, .int .i64 n, .string s, .slice o l.length c] 98)) := Kept.alloc b w _
  have HR0 : Hid _ := heap_alloc_new w (.cells #[.string kind, .slice no ns.length nc, .string op, .int .i64 n, .string s, .slice o l.length c] 98)
  have s0 := h.alloc (.cells #[.string kind, .slice no ns.length nc, .string op, .int .i64 n, .string s, .slice o l.length c] 98)
  have HT : Hid (∀ w', Below B w w' → WSt B b d pS w' → Calls Tryz.prog 185 #[.pointer (some ⟨b, 0, none⟩), .agg #[.string op, .int .i64 n, .string s, .slice o l.length c], .int .i64 0] w' fun e w'' => WAny B b d pS w' e w'') := fun w' hb hw => wterm_any B b pS (SizeOf.sizeOf l + 1) op n s l (by omega) w' d o c ys 0 hd hw (below_row h1 hb) (below_ex h2 hb)
  have HN : Hid (∀ w', Below B w w' → WSt B b d pS w' → Calls Tryz.prog 184 #[.pointer (some ⟨b, 0, none⟩), .slice no ns.length nc] w' fun e w'' => WAny B b d pS w' e w'') := fun w' hb hw => wnames_any B b d pS w' no nc ns hw (below_row hr hb)
  clear hr h1 h2
  by_cases hk : kind.toList = [115, 101, 116]
  ·
    go_enter Tryz.func131, Tryz.ntmps131
    go_wp2_with fail
    refine (put_newA B b d pS _ [⟨#[32, 32]⟩] _ 1 (by first | rfl | simp) rfl s0 (by decide) _ rfl).mono ?_
    rintro e v1 ⟨c1, j1, ⟨l1, rfl, u1, g1⟩ | ht⟩
    · have s1 := WSt.next s0 c1 u1 g1
      have HR1 : Hid _ := kept_row j1 HR0.out (by omega) (by intro c fz e; injection e with _ e; exact absurd e (by decide))
      obtain ⟨a10, a11, a12, a13, a14, a15, _⟩ := blk6 HR1.out
      have hz1 : w.heap.size < v1.heap.size := (Array.getElem?_eq_some_iff.1 HR1.out).1
      go_wp2_with fail
      refine (HN.out _ (bz.trans c1) s1).mono ?_
      rintro e v2 ⟨c2, j2, ⟨l2, rfl, u2, g2⟩ | ht⟩
      · have s2 := WSt.next s1 c2 u2 g2
        have HR2 : Hid _ := kept_row j2 HR1.out (by omega) (by intro c fz e; injection e with _ e; exact absurd e (by decide))
        obtain ⟨a20, a21, a22, a23, a24, a25, _⟩ := blk6 HR2.out
        have hz2 : w.heap.size < v2.heap.size := (Array.getElem?_eq_some_iff.1 HR2.out).1
        clear a10 a11 a12 a13 a14 a15
        go_wp2_with fail
        refine (put_newA B b d pS _ [⟨#[32, 61, 32]⟩] _ 1 (by first | rfl | simp) rfl s2 (by decide) _ rfl).mono ?_
        rintro e v3 ⟨c3, j3, ⟨l3, rfl, u3, g3⟩ | ht⟩
        · have s3 := WSt.next s2 c3 u3 g3
          have HR3 : Hid _ := kept_row j3 HR2.out (by omega) (by intro c fz e; injection e with _ e; exact absurd e (by decide))
          obtain ⟨a30, a31, a32, a33, a34, a35, _⟩ := blk6 HR3.out
          have hz3 : w.heap.size < v3.heap.size := (Array.getElem?_eq_some_iff.1 HR3.out).1
          clear a20 a21 a22 a23 a24 a25
          go_wp2_with fail
          refine (HT.out _ (((bz.trans c1).trans c2).trans c3) s3).mono ?_
          rintro e v4 ⟨c4, j4, ⟨l4, rfl, u4, g4⟩ | ht⟩
          · have s4 := WSt.next s3 c4 u4 g4
            have HR4 : Hid _ := kept_row j4 HR3.out (by omega) (by intro c fz e; injection e with _ e; exact absurd e (by decide))
            obtain ⟨a40, a41, a42, a43, a44, a45, _⟩ := blk6 HR4.out
            have hz4 : w.heap.size < v4.heap.size := (Array.getElem?_eq_some_iff.1 HR4.out).1
            clear a30 a31 a32 a33 a34 a35
            go_wp2_with fail
            refine (put_newA B b d pS _ [⟨#[59, 10]⟩] _ 1 (by first | rfl | simp) rfl s4 (by decide) _ rfl).mono ?_
            rintro e v5 ⟨c5, j5, ⟨l5, rfl, u5, g5⟩ | ht⟩
            · have s5 := WSt.next s4 c5 u5 g5
              have HR5 : Hid _ := kept_row j5 HR4.out (by omega) (by intro c fz e; injection e with _ e; exact absurd e (by decide))
              obtain ⟨a50, a51, a52, a53, a54, a55, _⟩ := blk6 HR5.out
              have hz5 : w.heap.size < v5.heap.size := (Array.getElem?_eq_some_iff.1 HR5.out).1
              clear a40 a41 a42 a43 a44 a45
              go_wp2
              go_end0
              exact ⟨(((((bz.trans c1).trans c2).trans c3).trans c4).trans c5), (((((kz.trans j1).trans j2).trans j3).trans j4).trans j5), Or.inl ⟨l5, rfl, u5, g5⟩⟩
            · unfold WThrew at ht
              subst ht
              go_wp2
              exact ⟨rfl, (((((bz.trans c1).trans c2).trans c3).trans c4).trans c5), (((((kz.trans j1).trans j2).trans j3).trans j4).trans j5), Or.inr rfl⟩
          · unfold WThrew at ht
            subst ht
            go_wp2
            exact ⟨rfl, ((((bz.trans c1).trans c2).trans c3).trans c4), ((((kz.trans j1).trans j2).trans j3).trans j4), Or.inr rfl⟩
        · unfold WThrew at ht
          subst ht
          go_wp2
          exact ⟨rfl, (((bz.trans c1).trans c2).trans c3), (((kz.trans j1).trans j2).trans j3), Or.inr rfl⟩
      · unfold WThrew at ht
        subst ht
        go_wp2
        exact ⟨rfl, ((bz.trans c1).trans c2), ((kz.trans j1).trans j2), Or.inr rfl⟩
    · unfold WThrew at ht
      subst ht
      go_wp2
      exact ⟨rfl, (bz.trans c1), (kz.trans j1), Or.inr rfl⟩
  · have hk0 : (kind.toList == [115, 101, 116]) = false := by simpa using hk
    clear hk
    by_cases hk : kind.toList = [97, 115, 115, 101, 114, 116]
    ·
      go_enter Tryz.func131, Tryz.ntmps131
      go_wp2_with fail
      refine (put_newA B b d pS _ [⟨#[32, 32]⟩] _ 1 (by first | rfl | simp) rfl s0 (by decide) _ rfl).mono ?_
      rintro e v1 ⟨c1, j1, ⟨l1, rfl, u1, g1⟩ | ht⟩
      · have s1 := WSt.next s0 c1 u1 g1
        have HR1 : Hid _ := kept_row j1 HR0.out (by omega) (by intro c fz e; injection e with _ e; exact absurd e (by decide))
        obtain ⟨a10, a11, a12, a13, a14, a15, _⟩ := blk6 HR1.out
        have hz1 : w.heap.size < v1.heap.size := (Array.getElem?_eq_some_iff.1 HR1.out).1
        go_wp2_with fail
        refine (put_newA B b d pS _ [kind, ⟨#[32]⟩] _ 2 (by first | rfl | simp) rfl s1 (by decide) _ rfl).mono ?_
        rintro e v2 ⟨c2, j2, ⟨l2, rfl, u2, g2⟩ | ht⟩
        · have s2 := WSt.next s1 c2 u2 g2
          have HR2 : Hid _ := kept_row j2 HR1.out (by omega) (by intro c fz e; injection e with _ e; exact absurd e (by decide))
          obtain ⟨a20, a21, a22, a23, a24, a25, _⟩ := blk6 HR2.out
          have hz2 : w.heap.size < v2.heap.size := (Array.getElem?_eq_some_iff.1 HR2.out).1
          clear a10 a11 a12 a13 a14 a15
          go_wp2_with fail
          refine (HT.out _ ((bz.trans c1).trans c2) s2).mono ?_
          rintro e v3 ⟨c3, j3, ⟨l3, rfl, u3, g3⟩ | ht⟩
          · have s3 := WSt.next s2 c3 u3 g3
            have HR3 : Hid _ := kept_row j3 HR2.out (by omega) (by intro c fz e; injection e with _ e; exact absurd e (by decide))
            obtain ⟨a30, a31, a32, a33, a34, a35, _⟩ := blk6 HR3.out
            have hz3 : w.heap.size < v3.heap.size := (Array.getElem?_eq_some_iff.1 HR3.out).1
            clear a20 a21 a22 a23 a24 a25
            go_wp2_with fail
            refine (put_newA B b d pS _ [⟨#[59, 10]⟩] _ 1 (by first | rfl | simp) rfl s3 (by decide) _ rfl).mono ?_
            rintro e v4 ⟨c4, j4, ⟨l4, rfl, u4, g4⟩ | ht⟩
            · have s4 := WSt.next s3 c4 u4 g4
              have HR4 : Hid _ := kept_row j4 HR3.out (by omega) (by intro c fz e; injection e with _ e; exact absurd e (by decide))
              obtain ⟨a40, a41, a42, a43, a44, a45, _⟩ := blk6 HR4.out
              have hz4 : w.heap.size < v4.heap.size := (Array.getElem?_eq_some_iff.1 HR4.out).1
              clear a30 a31 a32 a33 a34 a35
              go_wp2
              go_end0
              exact ⟨((((bz.trans c1).trans c2).trans c3).trans c4), ((((kz.trans j1).trans j2).trans j3).trans j4), Or.inl ⟨l4, rfl, u4, g4⟩⟩
            · unfold WThrew at ht
              subst ht
              go_wp2
              exact ⟨rfl, ((((bz.trans c1).trans c2).trans c3).trans c4), ((((kz.trans j1).trans j2).trans j3).trans j4), Or.inr rfl⟩
          · unfold WThrew at ht
            subst ht
            go_wp2
            exact ⟨rfl, (((bz.trans c1).trans c2).trans c3), (((kz.trans j1).trans j2).trans j3), Or.inr rfl⟩
        · unfold WThrew at ht
          subst ht
          go_wp2
          exact ⟨rfl, ((bz.trans c1).trans c2), ((kz.trans j1).trans j2), Or.inr rfl⟩
      · unfold WThrew at ht
        subst ht
        go_wp2
        exact ⟨rfl, (bz.trans c1), (kz.trans j1), Or.inr rfl⟩
    · have hk1 : (kind.toList == [97, 115, 115, 101, 114, 116]) = false := by simpa using hk
      clear hk
      by_cases hk : kind.toList = [99, 104, 101, 99, 107]
      ·
        go_enter Tryz.func131, Tryz.ntmps131
        go_wp2_with fail
        refine (put_newA B b d pS _ [⟨#[32, 32]⟩] _ 1 (by first | rfl | simp) rfl s0 (by decide) _ rfl).mono ?_
        rintro e v1 ⟨c1, j1, ⟨l1, rfl, u1, g1⟩ | ht⟩
        · have s1 := WSt.next s0 c1 u1 g1
          have HR1 : Hid _ := kept_row j1 HR0.out (by omega) (by intro c fz e; injection e with _ e; exact absurd e (by decide))
          obtain ⟨a10, a11, a12, a13, a14, a15, _⟩ := blk6 HR1.out
          have hz1 : w.heap.size < v1.heap.size := (Array.getElem?_eq_some_iff.1 HR1.out).1
          go_wp2_with fail
          refine (put_newA B b d pS _ [kind, ⟨#[32]⟩] _ 2 (by first | rfl | simp) rfl s1 (by decide) _ rfl).mono ?_
          rintro e v2 ⟨c2, j2, ⟨l2, rfl, u2, g2⟩ | ht⟩
          · have s2 := WSt.next s1 c2 u2 g2
            have HR2 : Hid _ := kept_row j2 HR1.out (by omega) (by intro c fz e; injection e with _ e; exact absurd e (by decide))
            obtain ⟨a20, a21, a22, a23, a24, a25, _⟩ := blk6 HR2.out
            have hz2 : w.heap.size < v2.heap.size := (Array.getElem?_eq_some_iff.1 HR2.out).1
            clear a10 a11 a12 a13 a14 a15
            go_wp2_with fail
            refine (HT.out _ ((bz.trans c1).trans c2) s2).mono ?_
            rintro e v3 ⟨c3, j3, ⟨l3, rfl, u3, g3⟩ | ht⟩
            · have s3 := WSt.next s2 c3 u3 g3
              have HR3 : Hid _ := kept_row j3 HR2.out (by omega) (by intro c fz e; injection e with _ e; exact absurd e (by decide))
              obtain ⟨a30, a31, a32, a33, a34, a35, _⟩ := blk6 HR3.out
              have hz3 : w.heap.size < v3.heap.size := (Array.getElem?_eq_some_iff.1 HR3.out).1
              clear a20 a21 a22 a23 a24 a25
              go_wp2_with fail
              refine (put_newA B b d pS _ [⟨#[59, 10]⟩] _ 1 (by first | rfl | simp) rfl s3 (by decide) _ rfl).mono ?_
              rintro e v4 ⟨c4, j4, ⟨l4, rfl, u4, g4⟩ | ht⟩
              · have s4 := WSt.next s3 c4 u4 g4
                have HR4 : Hid _ := kept_row j4 HR3.out (by omega) (by intro c fz e; injection e with _ e; exact absurd e (by decide))
                obtain ⟨a40, a41, a42, a43, a44, a45, _⟩ := blk6 HR4.out
                have hz4 : w.heap.size < v4.heap.size := (Array.getElem?_eq_some_iff.1 HR4.out).1
                clear a30 a31 a32 a33 a34 a35
                go_wp2
                go_end0
                exact ⟨((((bz.trans c1).trans c2).trans c3).trans c4), ((((kz.trans j1).trans j2).trans j3).trans j4), Or.inl ⟨l4, rfl, u4, g4⟩⟩
              · unfold WThrew at ht
                subst ht
                go_wp2
                exact ⟨rfl, ((((bz.trans c1).trans c2).trans c3).trans c4), ((((kz.trans j1).trans j2).trans j3).trans j4), Or.inr rfl⟩
            · unfold WThrew at ht
              subst ht
              go_wp2
              exact ⟨rfl, (((bz.trans c1).trans c2).trans c3), (((kz.trans j1).trans j2).trans j3), Or.inr rfl⟩
          · unfold WThrew at ht
            subst ht
            go_wp2
            exact ⟨rfl, ((bz.trans c1).trans c2), ((kz.trans j1).trans j2), Or.inr rfl⟩
        · unfold WThrew at ht
          subst ht
          go_wp2
          exact ⟨rfl, (bz.trans c1), (kz.trans j1), Or.inr rfl⟩
      · have hk2 : (kind.toList == [99, 104, 101, 99, 107]) = false := by simpa using hk
        clear hk
        go_enter Tryz.func131, Tryz.ntmps131
        go_wp2_with fail
        refine (put_newA B b d pS _ [⟨#[32, 32]⟩] _ 1 (by first | rfl | simp) rfl s0 (by decide) _ rfl).mono ?_
        rintro e v1 ⟨c1, j1, ⟨l1, rfl, u1, g1⟩ | ht⟩
        · have s1 := WSt.next s0 c1 u1 g1
          have HR1 : Hid _ := kept_row j1 HR0.out (by omega) (by intro c fz e; injection e with _ e; exact absurd e (by decide))
          obtain ⟨a10, a11, a12, a13, a14, a15, _⟩ := blk6 HR1.out
          have hz1 : w.heap.size < v1.heap.size := (Array.getElem?_eq_some_iff.1 HR1.out).1
          have hc := WSt.err s1
          go_wp2_with fail
          refine (wfail_any b pS _ hc).mono ?_
          rintro e w3 ⟨ht, rfl⟩
          unfold WThrew at ht
          subst ht
          go_wp2
          exact ⟨rfl, (bz.trans c1), (kz.trans j1), Or.inr rfl⟩
        · unfold WThrew at ht
          subst ht
          go_wp2
          exact ⟨rfl, (bz.trans c1), (kz.trans j1), Or.inr rfl⟩
set_option maxRecDepth 100000 in
set_option maxHeartbeats 2000000 in
theorem wnode_any (B b d : Nat) (pS : Addr) (w : World) (name : ByteArray) (ins outs owns qs : List Ex) (o1 o2 o3 o4 : Option Addr) (c1 c2 c3 c4 : Nat) (ys : List Value) (hd : d ≤ 6000) (h : WSt B b d pS w) (r1 : RowAt w (fun k => k < B) 2 (.slice o1 ins.length c1) ins.length (varCells ins)) (r2 : RowAt w (fun k => k < B) 2 (.slice o2 outs.length c2) outs.length (varCells outs)) (r3 : RowAt w (fun k => k < B) 2 (.slice o3 owns.length c3) owns.length (varCells owns)) (r4 : RowAt w (fun k => k < B) 6 (.slice o4 qs.length c4) qs.length ys) (r5 : EqIn w (fun k => k < B) qs ys) :
    Calls Tryz.prog 85 #[.pointer (some ⟨b, 0, none⟩), .agg #[.string name, .slice o1 ins.length c1, .slice o2 outs.length c2, .slice o3 owns.length c3, .slice o4 qs.length c4]] w fun e w' => WAny B b d pS w e w' := by
  have hlt := h.lt
  have hle := h.le
  have bz : Below B w (w.alloc (.cells #[.string name, .slice o1 ins.length c1, .slice o2 outs.length c2, .slice o3 owns.length c3, .slice o4 qs.length c4] 84)) := (Below.refl _ _).alloc (by omega) _
  have kz : Kept b w (w.alloc (.cells #[.string name, .slice o1 ins.length c1, .slice o2 outs.length c2, .slice o3 owns.length c3, .slice o4 qs.length c4] 84)) := Kept.alloc b w _
  have HR0 : Hid _ := heap_alloc_new w (.cells #[.string name, .slice o1 ins.length c1, .slice o2 outs.length c2, .slice o3 owns.length c3, .slice o4 qs.length c4] 84)
  have s0 := h.alloc (.cells #[.string name, .slice o1 ins.length c1, .slice o2 outs.length c2, .slice o3 owns.length c3, .slice o4 qs.length c4] 84)
  have hlen := r4.len
  unfold maxLen at hlen
  have hlen3 := r3.len
  unfold maxLen at hlen3
  have H1 : Hid (∀ w', Below B w w' → WSt B b d pS w' → Calls Tryz.prog 130 #[.pointer (some ⟨b, 0, none⟩), .slice o1 ins.length c1] w' fun e w'' => WAny B b d pS w' e w'') := fun w' hb hw => wvars_any B b d pS w' o1 c1 ins hw (below_row r1 hb)
  have H2 : Hid (∀ w', Below B w w' → WSt B b d pS w' → Calls Tryz.prog 130 #[.pointer (some ⟨b, 0, none⟩), .slice o2 outs.length c2] w' fun e w'' => WAny B b d pS w' e w'') := fun w' hb hw => wvars_any B b d pS w' o2 c2 outs hw (below_row r2 hb)
  have H3 : Hid (∀ w', Below B w w' → WSt B b d pS w' → Calls Tryz.prog 130 #[.pointer (some ⟨b, 0, none⟩), .slice o3 owns.length c3] w' fun e w'' => WAny B b d pS w' e w'') := fun w' hb hw => wvars_any B b d pS w' o3 c3 owns hw (below_row r3 hb)
  have H4 : Hid (RowAt w (fun k => k < B) 6 (.slice o4 qs.length c4) qs.length ys) := r4
  have H5 : Hid (EqIn w (fun k => k < B) qs ys) := r5
  clear r1 r2 r3 r4 r5
  by_cases ho : owns.length = 0
  · have ho' : ¬ ((0 : Int) < (owns.length : Int)) := by omega
    clear ho
    go_enter Tryz.func85, Tryz.ntmps85
    go_wp2_with fail
    refine (put_newA B b d pS _ [⟨#[110, 111, 100, 101, 32]⟩, name, ⟨#[40]⟩] _ 3 (by first | rfl | simp) rfl s0 (by decide) _ rfl).mono ?_
    rintro e v1 ⟨c1, j1, ⟨l1, rfl, u1, g1⟩ | ht⟩
    · have s1 := WSt.next s0 c1 u1 g1
      have HR1 : Hid _ := kept_row j1 HR0.out (by omega) (by intro c fz e; injection e with _ e; exact absurd e (by decide))
      obtain ⟨a10, a11, a12, a13, a14, _⟩ := blk5 HR1.out
      have hz1 : w.heap.size < v1.heap.size := (Array.getElem?_eq_some_iff.1 HR1.out).1
      go_wp2_with fail
      refine (H1.out _ (bz.trans c1) s1).mono ?_
      rintro e v2 ⟨c2, j2, ⟨l2, rfl, u2, g2⟩ | ht⟩
      · have s2 := WSt.next s1 c2 u2 g2
        have HR2 : Hid _ := kept_row j2 HR1.out (by omega) (by intro c fz e; injection e with _ e; exact absurd e (by decide))
        obtain ⟨a20, a21, a22, a23, a24, _⟩ := blk5 HR2.out
        have hz2 : w.heap.size < v2.heap.size := (Array.getElem?_eq_some_iff.1 HR2.out).1
        clear a10 a11 a12 a13 a14
        go_wp2_with fail
        refine (put_newA B b d pS _ [⟨#[41, 32, 114, 101, 116, 117, 114, 110, 115, 32, 40]⟩] _ 1 (by first | rfl | simp) rfl s2 (by decide) _ rfl).mono ?_
        rintro e v3 ⟨c3, j3, ⟨l3, rfl, u3, g3⟩ | ht⟩
        · have s3 := WSt.next s2 c3 u3 g3
          have HR3 : Hid _ := kept_row j3 HR2.out (by omega) (by intro c fz e; injection e with _ e; exact absurd e (by decide))
          obtain ⟨a30, a31, a32, a33, a34, _⟩ := blk5 HR3.out
          have hz3 : w.heap.size < v3.heap.size := (Array.getElem?_eq_some_iff.1 HR3.out).1
          clear a20 a21 a22 a23 a24
          go_wp2_with fail
          refine (H2.out _ (((bz.trans c1).trans c2).trans c3) s3).mono ?_
          rintro e v4 ⟨c4, j4, ⟨l4, rfl, u4, g4⟩ | ht⟩
          · have s4 := WSt.next s3 c4 u4 g4
            have HR4 : Hid _ := kept_row j4 HR3.out (by omega) (by intro c fz e; injection e with _ e; exact absurd e (by decide))
            obtain ⟨a40, a41, a42, a43, a44, _⟩ := blk5 HR4.out
            have hz4 : w.heap.size < v4.heap.size := (Array.getElem?_eq_some_iff.1 HR4.out).1
            clear a30 a31 a32 a33 a34
            go_wp2_with fail
            refine (put_newA B b d pS _ [⟨#[41, 59, 10]⟩] _ 1 (by first | rfl | simp) rfl s4 (by decide) _ rfl).mono ?_
            rintro e v5 ⟨c5, j5, ⟨l5, rfl, u5, g5⟩ | ht⟩
            · have s5 := WSt.next s4 c5 u5 g5
              have HR5 : Hid _ := kept_row j5 HR4.out (by omega) (by intro c fz e; injection e with _ e; exact absurd e (by decide))
              obtain ⟨a50, a51, a52, a53, a54, _⟩ := blk5 HR5.out
              have hz5 : w.heap.size < v5.heap.size := (Array.getElem?_eq_some_iff.1 HR5.out).1
              clear a40 a41 a42 a43 a44
              go_wp2_with fail
              refine (put_newA B b d pS _ [⟨#[108, 101, 116, 10]⟩] _ 1 (by first | rfl | simp) rfl s5 (by decide) _ rfl).mono ?_
              rintro e v6 ⟨c6, j6, ⟨l6, rfl, u6, g6⟩ | ht⟩
              · have s6 := WSt.next s5 c6 u6 g6
                have HR6 : Hid _ := kept_row j6 HR5.out (by omega) (by intro c fz e; injection e with _ e; exact absurd e (by decide))
                obtain ⟨a60, a61, a62, a63, a64, _⟩ := blk5 HR6.out
                have hz6 : w.heap.size < v6.heap.size := (Array.getElem?_eq_some_iff.1 HR6.out).1
                clear a50 a51 a52 a53 a54
                go_wp2
                clear a60 a61 a62 a63 a64
                go_loopw [45] (fun t wr => ∃ i : Nat, i ≤ qs.length ∧ t = .int .i64 i ∧ WSt B b d pS wr ∧ Below B w wr ∧ Kept b w wr) (fun t _ => qs.length - (intOf t).toNat)
                case atStart => exact ⟨0, Nat.zero_le _, rfl, s6, ((((((bz.trans c1).trans c2).trans c3).trans c4).trans c5).trans c6), ((((((kz.trans j1).trans j2).trans j3).trans j4).trans j5).trans j6)⟩
                case round =>
                  obtain ⟨i, hi, rfl, hw, hb, hk⟩ := hrel
                  by_cases hlt' : i < qs.length
                  · have hrr := below_row H4.out hb
                    have hqq := below_eq H5.out hb
                    obtain ⟨q, off, rfl, _, g⟩ := row_get hrr (by have := hrr.1; omega)
                    obtain ⟨kind, ns, no, nc, op, n, s, l, o, c, zs, e, x0, x1, x2, x3, x4, x5, t1, t2, t3⟩ := hqq.at hlt'
                    have x0 := g _ _ x0
                    have x1 := g _ _ x1
                    have x2 := g _ _ x2
                    have x3 := g _ _ x3
                    have x4 := g _ _ x4
                    have x5 := g _ _ x5
                    rw [← Nat.add_assoc] at x1 x2 x3 x4 x5
                    have i0 : (0 : Int) ≤ (i : Int) := by omega
                    have i1 : (i : Int) < (qs.length : Int) := by omega
                    have hwl := hw.lt
                    have sA := hw.alloc (.cells #[.string kind, .slice no ns.length nc, .string op, .int .i64 n, .string s, .slice o l.length c] 98)
                    have bA : Below B wr (wr.alloc (.cells #[.string kind, .slice no ns.length nc, .string op, .int .i64 n, .string s, .slice o l.length c] 98)) := (Below.refl _ _).alloc (by omega) _
                    have HQ : Hid (Calls Tryz.prog 131 #[.pointer (some ⟨b, 0, none⟩), .agg #[.string kind, .slice no ns.length nc, .string op, .int .i64 n, .string s, .slice o l.length c]] (wr.alloc (.cells #[.string kind, .slice no ns.length nc, .string op, .int .i64 n, .string s, .slice o l.length c] 98)) fun e w'' => WAny B b d pS (wr.alloc (.cells #[.string kind, .slice no ns.length nc, .string op, .int .i64 n, .string s, .slice o l.length c] 98)) e w'') := wequation_any B b d pS _ kind ns no nc op n s l o c zs hd sA (below_row t1 bA) (below_row t2 bA) (below_ex t3 bA)
                    clear hrr hqq g t1 t2 t3 e
                    go_wp2_with fail
                    refine HQ.out.mono ?_
                    rintro e w1 ⟨b1, k1, ⟨l1, rfl, h1, g1⟩ | ht⟩
                    · go_wp2
                      exact ⟨⟨i + 1, by omega, by go_num, sA.next b1 h1 g1, (hb.trans bA).trans b1, (hk.trans (Kept.alloc b wr _)).trans k1⟩, by simp [intOf]; omega⟩
                    · unfold WThrew at ht
                      subst ht
                      go_wp2
                      exact ⟨rfl, (hb.trans bA).trans b1, (hk.trans (Kept.alloc b wr _)).trans k1, Or.inr rfl⟩
                  · go_wp2_with fail
                    refine (put_newA B b d pS _ [⟨#[116, 101, 108, 10]⟩] _ 1 (by first | rfl | simp) rfl hw (by decide) _ rfl).mono ?_
                    rintro e w1 ⟨b1, k1, ⟨l1, rfl, h1, g1⟩ | ht⟩
                    · go_wp2
                      go_end0
                      exact ⟨hb.trans b1, hk.trans k1, Or.inl ⟨l1, rfl, h1, g1⟩⟩
                    · unfold WThrew at ht
                      subst ht
                      go_wp2
                      exact ⟨rfl, hb.trans b1, hk.trans k1, Or.inr rfl⟩
              · unfold WThrew at ht
                subst ht
                go_wp2
                exact ⟨rfl, ((((((bz.trans c1).trans c2).trans c3).trans c4).trans c5).trans c6), ((((((kz.trans j1).trans j2).trans j3).trans j4).trans j5).trans j6), Or.inr rfl⟩
            · unfold WThrew at ht
              subst ht
              go_wp2
              exact ⟨rfl, (((((bz.trans c1).trans c2).trans c3).trans c4).trans c5), (((((kz.trans j1).trans j2).trans j3).trans j4).trans j5), Or.inr rfl⟩
          · unfold WThrew at ht
            subst ht
            go_wp2
            exact ⟨rfl, ((((bz.trans c1).trans c2).trans c3).trans c4), ((((kz.trans j1).trans j2).trans j3).trans j4), Or.inr rfl⟩
        · unfold WThrew at ht
          subst ht
          go_wp2
          exact ⟨rfl, (((bz.trans c1).trans c2).trans c3), (((kz.trans j1).trans j2).trans j3), Or.inr rfl⟩
      · unfold WThrew at ht
        subst ht
        go_wp2
        exact ⟨rfl, ((bz.trans c1).trans c2), ((kz.trans j1).trans j2), Or.inr rfl⟩
    · unfold WThrew at ht
      subst ht
      go_wp2
      exact ⟨rfl, (bz.trans c1), (kz.trans j1), Or.inr rfl⟩
  · have ho' : (0 : Int) < (owns.length : Int) := by omega
    clear ho
    go_enter Tryz.func85, Tryz.ntmps85
    go_wp2_with fail
    refine (put_newA B b d pS _ [⟨#[110, 111, 100, 101, 32]⟩, name, ⟨#[40]⟩] _ 3 (by first | rfl | simp) rfl s0 (by decide) _ rfl).mono ?_
    rintro e v1 ⟨c1, j1, ⟨l1, rfl, u1, g1⟩ | ht⟩
    · have s1 := WSt.next s0 c1 u1 g1
      have HR1 : Hid _ := kept_row j1 HR0.out (by omega) (by intro c fz e; injection e with _ e; exact absurd e (by decide))
      obtain ⟨a10, a11, a12, a13, a14, _⟩ := blk5 HR1.out
      have hz1 : w.heap.size < v1.heap.size := (Array.getElem?_eq_some_iff.1 HR1.out).1
      go_wp2_with fail
      refine (H1.out _ (bz.trans c1) s1).mono ?_
      rintro e v2 ⟨c2, j2, ⟨l2, rfl, u2, g2⟩ | ht⟩
      · have s2 := WSt.next s1 c2 u2 g2
        have HR2 : Hid _ := kept_row j2 HR1.out (by omega) (by intro c fz e; injection e with _ e; exact absurd e (by decide))
        obtain ⟨a20, a21, a22, a23, a24, _⟩ := blk5 HR2.out
        have hz2 : w.heap.size < v2.heap.size := (Array.getElem?_eq_some_iff.1 HR2.out).1
        clear a10 a11 a12 a13 a14
        go_wp2_with fail
        refine (put_newA B b d pS _ [⟨#[41, 32, 114, 101, 116, 117, 114, 110, 115, 32, 40]⟩] _ 1 (by first | rfl | simp) rfl s2 (by decide) _ rfl).mono ?_
        rintro e v3 ⟨c3, j3, ⟨l3, rfl, u3, g3⟩ | ht⟩
        · have s3 := WSt.next s2 c3 u3 g3
          have HR3 : Hid _ := kept_row j3 HR2.out (by omega) (by intro c fz e; injection e with _ e; exact absurd e (by decide))
          obtain ⟨a30, a31, a32, a33, a34, _⟩ := blk5 HR3.out
          have hz3 : w.heap.size < v3.heap.size := (Array.getElem?_eq_some_iff.1 HR3.out).1
          clear a20 a21 a22 a23 a24
          go_wp2_with fail
          refine (H2.out _ (((bz.trans c1).trans c2).trans c3) s3).mono ?_
          rintro e v4 ⟨c4, j4, ⟨l4, rfl, u4, g4⟩ | ht⟩
          · have s4 := WSt.next s3 c4 u4 g4
            have HR4 : Hid _ := kept_row j4 HR3.out (by omega) (by intro c fz e; injection e with _ e; exact absurd e (by decide))
            obtain ⟨a40, a41, a42, a43, a44, _⟩ := blk5 HR4.out
            have hz4 : w.heap.size < v4.heap.size := (Array.getElem?_eq_some_iff.1 HR4.out).1
            clear a30 a31 a32 a33 a34
            go_wp2_with fail
            refine (put_newA B b d pS _ [⟨#[41, 59, 10]⟩] _ 1 (by first | rfl | simp) rfl s4 (by decide) _ rfl).mono ?_
            rintro e v5 ⟨c5, j5, ⟨l5, rfl, u5, g5⟩ | ht⟩
            · have s5 := WSt.next s4 c5 u5 g5
              have HR5 : Hid _ := kept_row j5 HR4.out (by omega) (by intro c fz e; injection e with _ e; exact absurd e (by decide))
              obtain ⟨a50, a51, a52, a53, a54, _⟩ := blk5 HR5.out
              have hz5 : w.heap.size < v5.heap.size := (Array.getElem?_eq_some_iff.1 HR5.out).1
              clear a40 a41 a42 a43 a44
              go_wp2_with fail
              refine (put_newA B b d pS _ [⟨#[118, 97, 114, 32]⟩] _ 1 (by first | rfl | simp) rfl s5 (by decide) _ rfl).mono ?_
              rintro e v6 ⟨c6, j6, ⟨l6, rfl, u6, g6⟩ | ht⟩
              · have s6 := WSt.next s5 c6 u6 g6
                have HR6 : Hid _ := kept_row j6 HR5.out (by omega) (by intro c fz e; injection e with _ e; exact absurd e (by decide))
                obtain ⟨a60, a61, a62, a63, a64, _⟩ := blk5 HR6.out
                have hz6 : w.heap.size < v6.heap.size := (Array.getElem?_eq_some_iff.1 HR6.out).1
                clear a50 a51 a52 a53 a54
                go_wp2_with fail
                refine (H3.out _ ((((((bz.trans c1).trans c2).trans c3).trans c4).trans c5).trans c6) s6).mono ?_
                rintro e v7 ⟨c7, j7, ⟨l7, rfl, u7, g7⟩ | ht⟩
                · have s7 := WSt.next s6 c7 u7 g7
                  have HR7 : Hid _ := kept_row j7 HR6.out (by omega) (by intro c fz e; injection e with _ e; exact absurd e (by decide))
                  obtain ⟨a70, a71, a72, a73, a74, _⟩ := blk5 HR7.out
                  have hz7 : w.heap.size < v7.heap.size := (Array.getElem?_eq_some_iff.1 HR7.out).1
                  clear a60 a61 a62 a63 a64
                  go_wp2_with fail
                  refine (put_newA B b d pS _ [⟨#[59, 10]⟩] _ 1 (by first | rfl | simp) rfl s7 (by decide) _ rfl).mono ?_
                  rintro e v8 ⟨c8, j8, ⟨l8, rfl, u8, g8⟩ | ht⟩
                  · have s8 := WSt.next s7 c8 u8 g8
                    have HR8 : Hid _ := kept_row j8 HR7.out (by omega) (by intro c fz e; injection e with _ e; exact absurd e (by decide))
                    obtain ⟨a80, a81, a82, a83, a84, _⟩ := blk5 HR8.out
                    have hz8 : w.heap.size < v8.heap.size := (Array.getElem?_eq_some_iff.1 HR8.out).1
                    clear a70 a71 a72 a73 a74
                    go_wp2_with fail
                    refine (put_newA B b d pS _ [⟨#[108, 101, 116, 10]⟩] _ 1 (by first | rfl | simp) rfl s8 (by decide) _ rfl).mono ?_
                    rintro e v9 ⟨c9, j9, ⟨l9, rfl, u9, g9⟩ | ht⟩
                    · have s9 := WSt.next s8 c9 u9 g9
                      have HR9 : Hid _ := kept_row j9 HR8.out (by omega) (by intro c fz e; injection e with _ e; exact absurd e (by decide))
                      obtain ⟨a90, a91, a92, a93, a94, _⟩ := blk5 HR9.out
                      have hz9 : w.heap.size < v9.heap.size := (Array.getElem?_eq_some_iff.1 HR9.out).1
                      clear a80 a81 a82 a83 a84
                      go_wp2
                      clear a90 a91 a92 a93 a94
                      go_loopw [45] (fun t wr => ∃ i : Nat, i ≤ qs.length ∧ t = .int .i64 i ∧ WSt B b d pS wr ∧ Below B w wr ∧ Kept b w wr) (fun t _ => qs.length - (intOf t).toNat)
                      case atStart => exact ⟨0, Nat.zero_le _, rfl, s9, (((((((((bz.trans c1).trans c2).trans c3).trans c4).trans c5).trans c6).trans c7).trans c8).trans c9), (((((((((kz.trans j1).trans j2).trans j3).trans j4).trans j5).trans j6).trans j7).trans j8).trans j9)⟩
                      case round =>
                        obtain ⟨i, hi, rfl, hw, hb, hk⟩ := hrel
                        by_cases hlt' : i < qs.length
                        · have hrr := below_row H4.out hb
                          have hqq := below_eq H5.out hb
                          obtain ⟨q, off, rfl, _, g⟩ := row_get hrr (by have := hrr.1; omega)
                          obtain ⟨kind, ns, no, nc, op, n, s, l, o, c, zs, e, x0, x1, x2, x3, x4, x5, t1, t2, t3⟩ := hqq.at hlt'
                          have x0 := g _ _ x0
                          have x1 := g _ _ x1
                          have x2 := g _ _ x2
                          have x3 := g _ _ x3
                          have x4 := g _ _ x4
                          have x5 := g _ _ x5
                          rw [← Nat.add_assoc] at x1 x2 x3 x4 x5
                          have i0 : (0 : Int) ≤ (i : Int) := by omega
                          have i1 : (i : Int) < (qs.length : Int) := by omega
                          have hwl := hw.lt
                          have sA := hw.alloc (.cells #[.string kind, .slice no ns.length nc, .string op, .int .i64 n, .string s, .slice o l.length c] 98)
                          have bA : Below B wr (wr.alloc (.cells #[.string kind, .slice no ns.length nc, .string op, .int .i64 n, .string s, .slice o l.length c] 98)) := (Below.refl _ _).alloc (by omega) _
                          have HQ : Hid (Calls Tryz.prog 131 #[.pointer (some ⟨b, 0, none⟩), .agg #[.string kind, .slice no ns.length nc, .string op, .int .i64 n, .string s, .slice o l.length c]] (wr.alloc (.cells #[.string kind, .slice no ns.length nc, .string op, .int .i64 n, .string s, .slice o l.length c] 98)) fun e w'' => WAny B b d pS (wr.alloc (.cells #[.string kind, .slice no ns.length nc, .string op, .int .i64 n, .string s, .slice o l.length c] 98)) e w'') := wequation_any B b d pS _ kind ns no nc op n s l o c zs hd sA (below_row t1 bA) (below_row t2 bA) (below_ex t3 bA)
                          clear hrr hqq g t1 t2 t3 e
                          go_wp2_with fail
                          refine HQ.out.mono ?_
                          rintro e w1 ⟨b1, k1, ⟨l1, rfl, h1, g1⟩ | ht⟩
                          · go_wp2
                            exact ⟨⟨i + 1, by omega, by go_num, sA.next b1 h1 g1, (hb.trans bA).trans b1, (hk.trans (Kept.alloc b wr _)).trans k1⟩, by simp [intOf]; omega⟩
                          · unfold WThrew at ht
                            subst ht
                            go_wp2
                            exact ⟨rfl, (hb.trans bA).trans b1, (hk.trans (Kept.alloc b wr _)).trans k1, Or.inr rfl⟩
                        · go_wp2_with fail
                          refine (put_newA B b d pS _ [⟨#[116, 101, 108, 10]⟩] _ 1 (by first | rfl | simp) rfl hw (by decide) _ rfl).mono ?_
                          rintro e w1 ⟨b1, k1, ⟨l1, rfl, h1, g1⟩ | ht⟩
                          · go_wp2
                            go_end0
                            exact ⟨hb.trans b1, hk.trans k1, Or.inl ⟨l1, rfl, h1, g1⟩⟩
                          · unfold WThrew at ht
                            subst ht
                            go_wp2
                            exact ⟨rfl, hb.trans b1, hk.trans k1, Or.inr rfl⟩
                    · unfold WThrew at ht
                      subst ht
                      go_wp2
                      exact ⟨rfl, (((((((((bz.trans c1).trans c2).trans c3).trans c4).trans c5).trans c6).trans c7).trans c8).trans c9), (((((((((kz.trans j1).trans j2).trans j3).trans j4).trans j5).trans j6).trans j7).trans j8).trans j9), Or.inr rfl⟩
                  · unfold WThrew at ht
                    subst ht
                    go_wp2
                    exact ⟨rfl, ((((((((bz.trans c1).trans c2).trans c3).trans c4).trans c5).trans c6).trans c7).trans c8), ((((((((kz.trans j1).trans j2).trans j3).trans j4).trans j5).trans j6).trans j7).trans j8), Or.inr rfl⟩
                · unfold WThrew at ht
                  subst ht
                  go_wp2
                  exact ⟨rfl, (((((((bz.trans c1).trans c2).trans c3).trans c4).trans c5).trans c6).trans c7), (((((((kz.trans j1).trans j2).trans j3).trans j4).trans j5).trans j6).trans j7), Or.inr rfl⟩
              · unfold WThrew at ht
                subst ht
                go_wp2
                exact ⟨rfl, ((((((bz.trans c1).trans c2).trans c3).trans c4).trans c5).trans c6), ((((((kz.trans j1).trans j2).trans j3).trans j4).trans j5).trans j6), Or.inr rfl⟩
            · unfold WThrew at ht
              subst ht
              go_wp2
              exact ⟨rfl, (((((bz.trans c1).trans c2).trans c3).trans c4).trans c5), (((((kz.trans j1).trans j2).trans j3).trans j4).trans j5), Or.inr rfl⟩
          · unfold WThrew at ht
            subst ht
            go_wp2
            exact ⟨rfl, ((((bz.trans c1).trans c2).trans c3).trans c4), ((((kz.trans j1).trans j2).trans j3).trans j4), Or.inr rfl⟩
        · unfold WThrew at ht
          subst ht
          go_wp2
          exact ⟨rfl, (((bz.trans c1).trans c2).trans c3), (((kz.trans j1).trans j2).trans j3), Or.inr rfl⟩
      · unfold WThrew at ht
        subst ht
        go_wp2
        exact ⟨rfl, ((bz.trans c1).trans c2), ((kz.trans j1).trans j2), Or.inr rfl⟩
    · unfold WThrew at ht
      subst ht
      go_wp2
      exact ⟨rfl, (bz.trans c1), (kz.trans j1), Or.inr rfl⟩
set_option maxRecDepth 100000 in
set_option maxHeartbeats 1000000 in
theorem wprogram_any (B b d : Nat) (pS : Addr) (w : World) (es : List Ex) (o : Option Addr) (c : Nat) (ys : List Value) (hd : d ≤ 6000) (h : WSt B b d pS w) (r1 : RowAt w (fun k => k < B) 5 (.slice o es.length c) es.length ys) (r2 : NdIn w (fun k => k < B) es ys) :
    Calls Tryz.prog 36 #[.pointer (some ⟨b, 0, none⟩), .slice o es.length c] w fun e w' => WAny B b d pS w e w' := by
  have hlen := r1.len
  unfold maxLen at hlen
  have H4 : Hid (RowAt w (fun k => k < B) 5 (.slice o es.length c) es.length ys) := r1
  have H5 : Hid (NdIn w (fun k => k < B) es ys) := r2
  have hle := h.le
  clear r1 r2
  go_enter Tryz.func36, Tryz.ntmps36
  go_wp2
  go_loopw [8] (fun t wr => ∃ i : Nat, i ≤ es.length ∧ t = .int .i64 i ∧ WSt B b d pS wr ∧ Below B w wr ∧ Kept b w wr) (fun t _ => es.length - (intOf t).toNat)
  case atStart => exact ⟨0, Nat.zero_le _, rfl, h, Below.refl _ _, Lib.OthersKept.refl _ _ _⟩
  case round =>
    obtain ⟨i, hi, rfl, hw, hb, hk⟩ := hrel
    by_cases hlt' : i < es.length
    · have hrr := below_row H4.out hb
      have hqq := below_nd H5.out hb
      obtain ⟨q, off, rfl, _, g⟩ := row_get hrr (by have := hrr.1; omega)
      obtain ⟨name, ins, outs, owns, qs, o1, c1, o2, c2, o3, c3, o4, c4, zs, e, x0, x1, x2, x3, x4, t1, t2, t3, t4, t5⟩ := hqq.at hlt'
      have x0 := g _ _ x0
      have x1 := g _ _ x1
      have x2 := g _ _ x2
      have x3 := g _ _ x3
      have x4 := g _ _ x4
      rw [← Nat.add_assoc] at x1 x2 x3 x4
      have i0 : (0 : Int) ≤ (i : Int) := by omega
      have i1 : (i : Int) < (es.length : Int) := by omega
      have hwl := hw.lt
      have sA := hw.alloc (.cells #[.string name, .slice o1 ins.length c1, .slice o2 outs.length c2, .slice o3 owns.length c3, .slice o4 qs.length c4] 84)
      have bA : Below B wr (wr.alloc (.cells #[.string name, .slice o1 ins.length c1, .slice o2 outs.length c2, .slice o3 owns.length c3, .slice o4 qs.length c4] 84)) := (Below.refl _ _).alloc (by omega) _
      have HQ : Hid (Calls Tryz.prog 85 #[.pointer (some ⟨b, 0, none⟩), .agg #[.string name, .slice o1 ins.length c1, .slice o2 outs.length c2, .slice o3 owns.length c3, .slice o4 qs.length c4]] (wr.alloc (.cells #[.string name, .slice o1 ins.length c1, .slice o2 outs.length c2, .slice o3 owns.length c3, .slice o4 qs.length c4] 84)) fun e w'' => WAny B b d pS (wr.alloc (.cells #[.string name, .slice o1 ins.length c1, .slice o2 outs.length c2, .slice o3 owns.length c3, .slice o4 qs.length c4] 84)) e w'') := wnode_any B b d pS _ name ins outs owns qs o1 o2 o3 o4 c1 c2 c3 c4 zs hd sA (below_row t1 bA) (below_row t2 bA) (below_row t3 bA) (below_row t4 bA) (below_eq t5 bA)
      clear hrr hqq g t1 t2 t3 t4 t5 e
      go_wp2_with fail
      refine HQ.out.mono ?_
      rintro e w1 ⟨b1, k1, ⟨l1, rfl, h1, g1⟩ | ht⟩
      · go_wp2
        exact ⟨⟨i + 1, by omega, by go_num, sA.next b1 h1 g1, (hb.trans bA).trans b1, (hk.trans (Kept.alloc b wr _)).trans k1⟩, by simp [intOf]; omega⟩
      · unfold WThrew at ht
        subst ht
        go_wp2
        exact ⟨rfl, (hb.trans bA).trans b1, (hk.trans (Kept.alloc b wr _)).trans k1, Or.inr rfl⟩
    · obtain ⟨l1, h1, g1⟩ := hw.wt
      go_wp2
      go_end0
      exact ⟨hb, hk, Or.inl ⟨l1, rfl, h1, g1⟩⟩
end Go.Proofs.YtglkpgcmlbhkpabGreatDoor
