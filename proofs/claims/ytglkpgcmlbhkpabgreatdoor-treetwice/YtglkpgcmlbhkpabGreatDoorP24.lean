/-
  package tree's WRITER, on one program: equation, node, program.
-/
import Derived.Test.YtglkpgcmlbhkpabGreatDoorP23
import Derived.Test.YtglkpgcmlbhkpabGreatDoorP21
namespace Go.Proofs.YtglkpgcmlbhkpabGreatDoor
open Go.RowKit
attribute [local go_sem ↓] Go.wp_at_zero Go.wp_at_succ

def eqT (x : ByteArray) : List UInt8 := [32, 32] ++ x.data.toList ++ [32, 61, 32, 116, 114, 117, 101, 59, 10]
theorem eqT_length (x : ByteArray) : (eqT x).length = x.data.toList.length + 11 := by simp [eqT]
set_option maxRecDepth 100000 in
set_option maxHeartbeats 1000000 in
theorem equation_true (B b : Nat) (l : List UInt8) (d : Nat) (w : World) (q off c : Nat) (x : ByteArray) (o : Option Addr) (c' : Nat) (h : WT B b l d w) (hq : q < B) (c0 : w.cell? ⟨q, off, none⟩ = some (.string x)) (hl : l.length + x.size + 11 ≤ 6000) (hd : d < 6000) :
    Calls Tryz.prog 131 #[.pointer (some ⟨b, 0, none⟩), .agg #[.string sSet, .slice (some ⟨q, off, none⟩) 1 c, .string sTrue, .int .i64 0, .string sNone, .slice o 0 c']] w fun e w' => Writes B b l (eqT x) d w e w' := by
  have HX : Hid (x.size = x.data.toList.length) := rfl
  have hs : sSet.toList = [115, 101, 116] := by rw [ByteArray.toList_eq]; rfl
  have hlt := h.lt
  have hle := h.le
  have HR0 : Hid _ := heap_alloc_new w (.cells #[.string sSet, .slice (some ⟨q, off, none⟩) 1 c, .string sTrue, .int .i64 0, .string sNone, .slice o 0 c'] 98)
  have h0 : WT B b l d (w.alloc (.cells #[.string sSet, .slice (some ⟨q, off, none⟩) 1 c, .string sTrue, .int .i64 0, .string sNone, .slice o 0 c'] 98)) := h.alloc _
  have bz : Below B w (w.alloc (.cells #[.string sSet, .slice (some ⟨q, off, none⟩) 1 c, .string sTrue, .int .i64 0, .string sNone, .slice o 0 c'] 98)) := (Below.refl _ _).alloc (by omega) _
  go_enter Tryz.func131, Tryz.ntmps131
  go_wp2_with fail
  refine (put_new B b _ d _ [⟨#[32, 32]⟩] _ 1 (by simp) rfl h0 (by simp [cat]; have := HX.out; omega) (by decide) _ rfl).mono ?_
  rintro e v1 ⟨rfl, h1, b1, k1⟩
  have HR1 : Hid _ := kept_row k1 HR0.out (by omega) (by intro c fz e; injection e with _ e; exact absurd e (by decide))
  obtain ⟨a0, a1, a2, a3, a4, a5, _⟩ := blk6 HR1.out
  have hz1 : w.heap.size < v1.heap.size := (Array.getElem?_eq_some_iff.1 HR1.out).1
  have q1 := below_cell (bz.trans b1) hq c0
  go_wp2_with fail
  refine (wnames_one B b _ d _ q off c x h1 q1 (by simp [cat]; have := HX.out; omega)).mono ?_
  rintro e v2 ⟨rfl, h2, b2, k2⟩
  have HR2 : Hid _ := kept_row k2 HR1.out (by omega) (by intro c fz e; injection e with _ e; exact absurd e (by decide))
  obtain ⟨d0, d1, d2, d3, d4, d5, _⟩ := blk6 HR2.out
  have hz2 : w.heap.size < v2.heap.size := (Array.getElem?_eq_some_iff.1 HR2.out).1
  go_wp2_with fail
  refine (put_new B b _ d _ [⟨#[32, 61, 32]⟩] _ 1 (by simp) rfl h2 (by simp [cat]; have := HX.out; omega) (by decide) _ rfl).mono ?_
  rintro e v3 ⟨rfl, h3, b3, k3⟩
  have HR3 : Hid _ := kept_row k3 HR2.out (by omega) (by intro c fz e; injection e with _ e; exact absurd e (by decide))
  obtain ⟨e0, e1, e2, e3, e4, e5, _⟩ := blk6 HR3.out
  have hz3 : w.heap.size < v3.heap.size := (Array.getElem?_eq_some_iff.1 HR3.out).1
  go_wp2_with fail
  refine (term_true B b _ d _ o c' h3 (by simp [cat]; have := HX.out; omega) hd).mono ?_
  rintro e v4 ⟨rfl, h4, b4, k4⟩
  go_wp2_with fail
  refine (put_new B b _ d _ [⟨#[59, 10]⟩] _ 1 (by simp) rfl h4 (by simp [cat]; have := HX.out; omega) (by decide) _ rfl).mono ?_
  rintro e v5 ⟨rfl, h5, b5, k5⟩
  go_wp2
  go_end0
  refine ⟨rfl, ?_, ((((bz.trans b1).trans b2).trans b3).trans b4).trans b5, (((((Kept.alloc b w _).trans k1).trans k2).trans k3).trans k4).trans k5⟩
  have e1 : l ++ eqT x = ((((l ++ cat [⟨#[32, 32]⟩]) ++ x.data.toList) ++ cat [⟨#[32, 61, 32]⟩]) ++ [116, 114, 117, 101]) ++ cat [⟨#[59, 10]⟩] := by simp [cat, eqT]
  rw [e1]
  exact h5
def nodeT (nm x : ByteArray) : List UInt8 := [110, 111, 100, 101, 32] ++ nm.data.toList ++ [40, 41, 32, 114, 101, 116, 117, 114, 110, 115, 32, 40] ++ x.data.toList ++ [58, 32, 98, 111, 111, 108, 41, 59, 10, 108, 101, 116, 10, 32, 32] ++ x.data.toList ++ [32, 61, 32, 116, 114, 117, 101, 59, 10, 116, 101, 108, 10]
set_option maxRecDepth 100000 in
set_option maxHeartbeats 2000000 in
theorem node_true (B b : Nat) (l : List UInt8) (d : Nat) (w : World) (nm x : ByteArray) (io wo : Option Addr) (ic wc p f oc q g qc r ro rc : Nat) (o : Option Addr) (c' : Nat) (h : WT B b l d w) (hp : p < B) (hq : q < B) (hr : r < B) (p0 : w.cell? ⟨p, f, none⟩ = some (.string x)) (p1 : w.cell? ⟨p, f + 1, none⟩ = some (.int .i64 1))
    (q0 : w.cell? ⟨q, g, none⟩ = some (.string sSet)) (q1 : w.cell? ⟨q, g + 1, none⟩ = some (.slice (some ⟨r, ro, none⟩) 1 rc)) (q2 : w.cell? ⟨q, g + 2, none⟩ = some (.string sTrue)) (q3 : w.cell? ⟨q, g + 3, none⟩ = some (.int .i64 0)) (q4 : w.cell? ⟨q, g + 4, none⟩ = some (.string sNone)) (q5 : w.cell? ⟨q, g + 5, none⟩ = some (.slice o 0 c')) (r0 : w.cell? ⟨r, ro, none⟩ = some (.string x)) (hl : l.length + nm.size + x.size + x.size + 60 ≤ 6000) (hd : d < 6000) :
    Calls Tryz.prog 85 #[.pointer (some ⟨b, 0, none⟩), .agg #[.string nm, .slice io 0 ic, .slice (some ⟨p, f, none⟩) 1 oc, .slice wo 0 wc, .slice (some ⟨q, g, none⟩) 1 qc]] w fun e w' => Writes B b l (nodeT nm x) d w e w' := by
  have HX : Hid (x.size = x.data.toList.length) := rfl
  have HN : Hid (nm.size = nm.data.toList.length) := rfl
  have hlt := h.lt
  have hle := h.le
  have HR0 : Hid _ := heap_alloc_new w (.cells #[.string nm, .slice io 0 ic, .slice (some ⟨p, f, none⟩) 1 oc, .slice wo 0 wc, .slice (some ⟨q, g, none⟩) 1 qc] 84)
  have h0 : WT B b l d (w.alloc (.cells #[.string nm, .slice io 0 ic, .slice (some ⟨p, f, none⟩) 1 oc, .slice wo 0 wc, .slice (some ⟨q, g, none⟩) 1 qc] 84)) := h.alloc _
  have bz : Below B w (w.alloc (.cells #[.string nm, .slice io 0 ic, .slice (some ⟨p, f, none⟩) 1 oc, .slice wo 0 wc, .slice (some ⟨q, g, none⟩) 1 qc] 84)) := (Below.refl _ _).alloc (by omega) _
  have HC : Hid (∀ w', Below B w w' → w'.cell? ⟨p, f, none⟩ = some (.string x) ∧ w'.cell? ⟨p, f + 1, none⟩ = some (.int .i64 1) ∧ w'.cell? ⟨q, g, none⟩ = some (.string sSet) ∧ w'.cell? ⟨q, g + 1, none⟩ = some (.slice (some ⟨r, ro, none⟩) 1 rc) ∧ w'.cell? ⟨q, g + 2, none⟩ = some (.string sTrue) ∧ w'.cell? ⟨q, g + 3, none⟩ = some (.int .i64 0) ∧ w'.cell? ⟨q, g + 4, none⟩ = some (.string sNone) ∧ w'.cell? ⟨q, g + 5, none⟩ = some (.slice o 0 c') ∧ w'.cell? ⟨r, ro, none⟩ = some (.string x)) := fun w' hb => ⟨below_cell hb hp p0, below_cell hb hp p1, below_cell hb hq q0, below_cell hb hq q1, below_cell hb hq q2, below_cell hb hq q3, below_cell hb hq q4, below_cell hb hq q5, below_cell hb hr r0⟩
  clear p0 p1 q0 q1 q2 q3 q4 q5 r0
  go_enter Tryz.func85, Tryz.ntmps85
  go_wp2_with fail
  refine (put_new B b _ d _ [⟨#[110, 111, 100, 101, 32]⟩, nm, ⟨#[40]⟩] _ 3 (by simp) rfl h0 (by simp [cat]; have := HX.out; have := HN.out; omega) (by decide) _ rfl).mono ?_
  rintro e v1 ⟨rfl, h1, b1, k1⟩
  have HR1 : Hid _ := kept_row k1 HR0.out (by omega) (by intro c fz e; injection e with _ e; exact absurd e (by decide))
  obtain ⟨a0, a1, a2, a3, a4, _⟩ := blk5 HR1.out
  have hz1 : w.heap.size < v1.heap.size := (Array.getElem?_eq_some_iff.1 HR1.out).1
  have z1 := bz.trans b1
  go_wp2_with fail
  refine (wvars_nil B b _ d _ io ic h1).mono ?_
  rintro e v2 ⟨rfl, h2, b2, k2⟩
  have HR2 : Hid _ := kept_row k2 HR1.out (by omega) (by intro c fz e; injection e with _ e; exact absurd e (by decide))
  obtain ⟨a0', a1', a2', a3', a4', _⟩ := blk5 HR2.out
  have hz2 : w.heap.size < v2.heap.size := (Array.getElem?_eq_some_iff.1 HR2.out).1
  have z2 := z1.trans b2
  clear a0 a1 a2 a3 a4
  go_wp2_with fail
  refine (put_new B b _ d _ [⟨#[41, 32, 114, 101, 116, 117, 114, 110, 115, 32, 40]⟩] _ 1 (by simp) rfl h2 (by simp [cat]; have := HX.out; have := HN.out; omega) (by decide) _ rfl).mono ?_
  rintro e v3 ⟨rfl, h3, b3, k3⟩
  have HR3 : Hid _ := kept_row k3 HR2.out (by omega) (by intro c fz e; injection e with _ e; exact absurd e (by decide))
  obtain ⟨a0, a1, a2, a3, a4, _⟩ := blk5 HR3.out
  have hz3 : w.heap.size < v3.heap.size := (Array.getElem?_eq_some_iff.1 HR3.out).1
  have z3 := z2.trans b3
  clear a0' a1' a2' a3' a4'
  obtain ⟨t0, t1, _⟩ := HC.out _ z3
  go_wp2_with fail
  refine (wvars_one B b _ d _ p f oc x h3 t0 t1 (by simp [cat]; have := HX.out; have := HN.out; omega)).mono ?_
  rintro e v4 ⟨rfl, h4, b4, k4⟩
  have HR4 : Hid _ := kept_row k4 HR3.out (by omega) (by intro c fz e; injection e with _ e; exact absurd e (by decide))
  obtain ⟨a0', a1', a2', a3', a4', _⟩ := blk5 HR4.out
  have hz4 : w.heap.size < v4.heap.size := (Array.getElem?_eq_some_iff.1 HR4.out).1
  have z4 := z3.trans b4
  clear a0 a1 a2 a3 a4 t0 t1
  go_wp2_with fail
  refine (put_new B b _ d _ [⟨#[41, 59, 10]⟩] _ 1 (by simp) rfl h4 (by simp [cat]; have := HX.out; have := HN.out; omega) (by decide) _ rfl).mono ?_
  rintro e v5 ⟨rfl, h5, b5, k5⟩
  have HR5 : Hid _ := kept_row k5 HR4.out (by omega) (by intro c fz e; injection e with _ e; exact absurd e (by decide))
  obtain ⟨a0, a1, a2, a3, a4, _⟩ := blk5 HR5.out
  have hz5 : w.heap.size < v5.heap.size := (Array.getElem?_eq_some_iff.1 HR5.out).1
  have z5 := z4.trans b5
  clear a0' a1' a2' a3' a4'
  go_wp2_with fail
  refine (put_new B b _ d _ [⟨#[108, 101, 116, 10]⟩] _ 1 (by simp) rfl h5 (by simp [cat]; have := HX.out; have := HN.out; omega) (by decide) _ rfl).mono ?_
  rintro e v6 ⟨rfl, h6, b6, k6⟩
  have HR6 : Hid _ := kept_row k6 HR5.out (by omega) (by intro c fz e; injection e with _ e; exact absurd e (by decide))
  obtain ⟨a0', a1', a2', a3', a4', _⟩ := blk5 HR6.out
  have hz6 : w.heap.size < v6.heap.size := (Array.getElem?_eq_some_iff.1 HR6.out).1
  have z6 := z5.trans b6
  clear a0 a1 a2 a3 a4
  go_wp2
  go_loopw [45] (fun t wr => (t = .int .i64 0 ∧ wr = v6) ∨ (t = .int .i64 1 ∧ WT B b (((((((l ++ cat [⟨#[110, 111, 100, 101, 32]⟩, nm, ⟨#[40]⟩]) ++ []) ++ cat [⟨#[41, 32, 114, 101, 116, 117, 114, 110, 115, 32, 40]⟩]) ++ (x.data.toList ++ [58, 32, 98, 111, 111, 108])) ++ cat [⟨#[41, 59, 10]⟩]) ++ cat [⟨#[108, 101, 116, 10]⟩]) ++ eqT x) d wr ∧ Below B w wr ∧ Kept b v6 wr)) (fun t _ => 1 - (intOf t).toNat)
  case atStart => exact Or.inl ⟨rfl, rfl⟩
  case round =>
    clear a0' a1' a2' a3' a4'
    rcases hrel with ⟨rfl, rfl⟩ | ⟨rfl, h8, b8, k8⟩
    · obtain ⟨_, _, t0, t1, t2, t3, t4, t5, t6⟩ := HC.out _ z6
      have hlt6 := h6.lt
      have h7 : WT B b ((((((l ++ cat [⟨#[110, 111, 100, 101, 32]⟩, nm, ⟨#[40]⟩]) ++ []) ++ cat [⟨#[41, 32, 114, 101, 116, 117, 114, 110, 115, 32, 40]⟩]) ++ (x.data.toList ++ [58, 32, 98, 111, 111, 108])) ++ cat [⟨#[41, 59, 10]⟩]) ++ cat [⟨#[108, 101, 116, 10]⟩]) d (wr.alloc (.cells #[.string sSet, .slice (some ⟨r, ro, none⟩) 1 rc, .string sTrue, .int .i64 0, .string sNone, .slice o 0 c'] 98)) := h6.alloc _
      have bz6 : Below B w (wr.alloc (.cells #[.string sSet, .slice (some ⟨r, ro, none⟩) 1 rc, .string sTrue, .int .i64 0, .string sNone, .slice o 0 c'] 98)) := z6.alloc (by omega) _
      have s6 : wr.cell? ⟨r, ro, none⟩ = some (.string x) := t6
      clear t6
      go_wp2_with fail
      refine (equation_true B b _ d _ r ro rc x o c' h7 hr (cell_keep ((Below.refl _ _).alloc (Nat.le_refl _) _) s6) (by simp [cat]; have := HX.out; have := HN.out; omega) hd).mono ?_
      rintro e v8 ⟨rfl, h8, b8, k8⟩
      go_wp2
      exact ⟨Or.inr ⟨by go_num, h8, bz6.trans b8, (Kept.alloc b wr _).trans k8⟩, by simp [intOf]⟩
    · go_wp2_with fail
      refine (put_new B b _ d _ [⟨#[116, 101, 108, 10]⟩] _ 1 (by simp) rfl h8 (by simp [cat, eqT_length]; have := HX.out; have := HN.out; omega) (by decide) _ rfl).mono ?_
      rintro e v9 ⟨rfl, h9, b9, k9⟩
      go_wp2
      go_end0
      refine ⟨rfl, ?_, b8.trans b9, ((((((((Kept.alloc b w _).trans k1).trans k2).trans k3).trans k4).trans k5).trans k6).trans k8).trans k9⟩
      have e1 : l ++ nodeT nm x = (((((((l ++ cat [⟨#[110, 111, 100, 101, 32]⟩, nm, ⟨#[40]⟩]) ++ []) ++ cat [⟨#[41, 32, 114, 101, 116, 117, 114, 110, 115, 32, 40]⟩]) ++ (x.data.toList ++ [58, 32, 98, 111, 111, 108])) ++ cat [⟨#[41, 59, 10]⟩]) ++ cat [⟨#[108, 101, 116, 10]⟩]) ++ eqT x) ++ cat [⟨#[116, 101, 108, 10]⟩] := by simp [cat, nodeT, eqT]
      rw [e1]
      exact h9
end Go.Proofs.YtglkpgcmlbhkpabGreatDoor
