/-
  package tree's WRITER, on one program: vars, names, term, equation, node, program.
-/
import Derived.Test.YtglkpgcmlbhkpabGreatDoorQ17
import Derived.Test.YtglkpgcmlbhkpabGreatDoorQ18
namespace Go.Proofs.YtglkpgcmlbhkpabGreatDoor
open Go.RowKit
attribute [local go_sem ↓] Go.wp_at_zero Go.wp_at_succ

theorem below_cell {B : Nat} {w w' : World} (h : Below B w w') {p : Addr} {v : Value} (hp : p.block < B) (hc : w.cell? p = some v) : w'.cell? p = some v := by
  rw [World.cell?_of_block (w := w) (h.block p.block hp)]; exact hc
theorem Writes.then {B b : Nat} {l x y z : List UInt8} {d : Nat} {w w1 w' : World} {e : Ending} (h : WT B b (l ++ x) d w1 ∧ Below B w w1 ∧ Kept b w w1) (g : Writes B b (l ++ x) y d w1 e w') (hz : z = x ++ y) : Writes B b l z d w e w' := by
  obtain ⟨rfl, h1, h2, h3⟩ := g
  subst hz
  exact ⟨rfl, by rw [← List.append_assoc]; exact h1, h.2.1.trans h2, h.2.2.trans h3⟩
theorem kept_row {b k : Nat} {w w' : World} {o : Obj} (h : Kept b w w') (hr : w.heap[k]? = some o) (hk : k ≠ b) (ho : ∀ c fz, o ≠ .cells c 5 fz) : w'.heap[k]? = some o := h k o hr (fun e => hk (by injection e)) ho
set_option maxRecDepth 100000 in
set_option maxHeartbeats 1000000 in
theorem wvars_nil (B b : Nat) (l : List UInt8) (d : Nat) (w : World) (o : Option Addr) (c : Nat) (h : WT B b l d w) :
    Calls Tryz.prog 130 #[.pointer (some ⟨b, 0, none⟩), .slice o 0 c] w fun e w' => Writes B b l [] d w e w' := by
  go_enter Tryz.func130, Tryz.ntmps130
  go_wp2
  go_loopw [8] (fun t wr => t = .int .i64 0 ∧ wr = w) (fun t _ => 0)
  case atStart => exact ⟨rfl, rfl⟩
  case round =>
    obtain ⟨rfl, rfl⟩ := hrel
    go_wp2
    go_end0
    exact ⟨rfl, by simpa using h, Below.refl _ _, Lib.OthersKept.refl _ _ _⟩
set_option maxRecDepth 100000 in
set_option maxHeartbeats 1000000 in
theorem wvars_one (B b : Nat) (l : List UInt8) (d : Nat) (w : World) (q off c : Nat) (x : ByteArray) (h : WT B b l d w) (c0 : w.cell? ⟨q, off, none⟩ = some (.string x)) (c1 : w.cell? ⟨q, off + 1, none⟩ = some (.int .i64 1)) (hl : l.length + x.size + 6 ≤ 6000) :
    Calls Tryz.prog 130 #[.pointer (some ⟨b, 0, none⟩), .slice (some ⟨q, off, none⟩) 1 c] w fun e w' => Writes B b l (x.data.toList ++ [58, 32, 98, 111, 111, 108]) d w e w' := by
  have HX : Hid (x.size = x.data.toList.length) := rfl
  go_enter Tryz.func130, Tryz.ntmps130
  go_wp2
  go_loopw [8] (fun t wr => (t = .int .i64 0 ∧ wr = w) ∨ (t = .int .i64 1 ∧ WT B b (l ++ (x.data.toList ++ [58, 32, 98, 111, 111, 108])) d wr ∧ Below B w wr ∧ Kept b w wr)) (fun t _ => 1 - (intOf t).toNat)
  case atStart => exact Or.inl ⟨rfl, rfl⟩
  case round =>
    rcases hrel with ⟨rfl, rfl⟩ | ⟨rfl, h1, h2, h3⟩
    · have hlt := h.lt
      have hle := h.le
      have HN : Hid _ := heap_alloc_new wr (.cells #[.string x, .int .i64 1] 170)
      have h0 : WT B b l d (wr.alloc (.cells #[.string x, .int .i64 1] 170)) := h.alloc _
      go_wp2_with fail
      refine (between_first B b l d _ _ h0).mono ?_
      rintro e w1 ⟨rfl, h1, b1, k1⟩
      rw [List.append_nil] at h1
      have HN1 : Hid _ := kept_row k1 HN.out (by omega) (by intro c fz e; injection e with _ e; exact absurd e (by decide))
      obtain ⟨y0, y1, _⟩ := blk2 HN1.out
      have hl1 : wr.heap.size < w1.heap.size := lt_of_cell y0
      go_wp2_with fail
      refine (put_new B b l d _ [x, ⟨#[58, 32]⟩] _ 2 rfl rfl h1 (by simp [cat]; have := HX.out; omega) (by decide) _ rfl).mono ?_
      rintro e w2 ⟨rfl, h2, b2, k2⟩
      have HN2 : Hid _ := kept_row k2 HN1.out (by omega) (by intro c fz e; injection e with _ e; exact absurd e (by decide))
      obtain ⟨z0, z1, _⟩ := blk2 HN2.out
      go_wp2_with fail
      refine (kind_bool B b _ d _ h2 (by simp [cat]; have := HX.out; omega)).mono ?_
      rintro e w3 ⟨rfl, h3, b3, k3⟩
      go_wp2
      refine ⟨Or.inr ⟨by go_num, ?_, ((((Below.refl _ _).alloc (by omega) _).trans b1).trans b2).trans b3, (((Kept.alloc b wr _).trans k1).trans k2).trans k3⟩, by simp [intOf]⟩
      have e1 : l ++ (x.data.toList ++ [58, 32, 98, 111, 111, 108]) = (l ++ cat [x, ⟨#[58, 32]⟩]) ++ [98, 111, 111, 108] := by simp [cat]
      rw [e1]
      exact h3
    · go_wp2
      go_end0
      exact ⟨rfl, h1, h2, h3⟩

set_option maxRecDepth 100000 in
set_option maxHeartbeats 1000000 in
theorem wnames_one (B b : Nat) (l : List UInt8) (d : Nat) (w : World) (q off c : Nat) (x : ByteArray) (h : WT B b l d w) (c0 : w.cell? ⟨q, off, none⟩ = some (.string x)) (hl : l.length + x.size ≤ 6000) :
    Calls Tryz.prog 184 #[.pointer (some ⟨b, 0, none⟩), .slice (some ⟨q, off, none⟩) 1 c] w fun e w' => Writes B b l x.data.toList d w e w' := by
  go_enter Tryz.func184, Tryz.ntmps184
  go_wp2_with fail
  refine (put_new B b l d _ [x] _ 1 rfl rfl h (by simpa [cat] using hl) (by decide) _ rfl).mono ?_
  rintro e w1 ⟨rfl, h1, b1, k1⟩
  go_wp2
  go_end0
  exact ⟨rfl, by simpa [cat] using h1, b1, k1⟩
def sTrue : ByteArray := ⟨#[116, 114, 117, 101]⟩
set_option maxRecDepth 100000 in
set_option maxHeartbeats 1000000 in
theorem shapeOf_true (w : World) :
    Calls Tryz.prog 209 #[.string sTrue] w fun e w' => e = .returned (.tuple #[.agg #[.int .i64 8, .slice none 0 0], .bool true]) ∧ Below w.heap.size w w' := by
  have ht : sTrue.toList = [116, 114, 117, 101] := by rw [ByteArray.toList_eq]; rfl
  go_enter Tryz.func209, Tryz.ntmps209
  go_wp2
  exact bodyPost_ret (v := .tuple #[.agg #[.int .i64 8, .slice none 0 0], .bool true]) (by simp [results, Tryz.results209, go_sem]) rfl ⟨rfl, (Below.refl _ _).alloc (Nat.le_refl _) _⟩
abbrev sNone : ByteArray := ⟨#[]⟩
set_option maxRecDepth 100000 in
set_option maxHeartbeats 1000000 in
theorem formed_true (o : Option Addr) (c : Nat) (w : World) :
    Calls Tryz.prog 178 #[.agg #[.string sTrue, .int .i64 0, .string sNone, .slice o 0 c]] w fun e w' => e = .returned (.bool true) ∧ Below w.heap.size w w' := by
  have ht : sTrue.toList = [116, 114, 117, 101] := by rw [ByteArray.toList_eq]; rfl
  have hn : sNone.toList = [] := by rw [ByteArray.toList_eq]
  have hbA : Below w.heap.size w (w.alloc (.cells #[.string sTrue, .int .i64 0, .string sNone, .slice o 0 c] 62)) := (Below.refl _ _).alloc (Nat.le_refl _) _
  have HA : Hid _ := heap_alloc_new w (.cells #[.string sTrue, .int .i64 0, .string sNone, .slice o 0 c] 62)
  go_enter Tryz.func178, Tryz.ntmps178
  go_wp2_with fail
  refine (shapeOf_true _).mono ?_
  rintro e w1 ⟨rfl, hb1⟩
  obtain ⟨a0, a1, a2, a3, _⟩ := blk4 (row_keep hb1 HA.out)
  have hl1 : w.heap.size < w1.heap.size := lt_of_cell a0
  go_wp2
  exact bodyPost_ret (v := .bool true) (by simp [results, Tryz.results178, go_sem]) rfl ⟨rfl, (hbA.trans (hb1.mono (by simp))).alloc (by omega) _⟩
set_option maxRecDepth 100000 in
set_option maxHeartbeats 1000000 in
theorem shape_true (b : Nat) (o : Option Addr) (c : Nat) (w : World) :
    Calls Tryz.prog 211 #[.pointer (some ⟨b, 0, none⟩), .agg #[.string sTrue, .int .i64 0, .string sNone, .slice o 0 c]] w fun e w' => e = .returned (.agg #[.int .i64 8, .slice none 0 0]) ∧ Below w.heap.size w w' := by
  have ht : sTrue.toList = [116, 114, 117, 101] := by rw [ByteArray.toList_eq]; rfl
  have hbA : Below w.heap.size w ((w.alloc (.cells #[.string sTrue, .int .i64 0, .string sNone, .slice o 0 c] 62)).alloc (.cells #[.int .i64 0, .slice none 0 0] 299)) := ((Below.refl _ _).alloc (Nat.le_refl _) _).alloc (by simp) _
  have HA : Hid _ := alloc_row (.cells #[.int .i64 0, .slice none 0 0] 299) (heap_alloc_new w (.cells #[.string sTrue, .int .i64 0, .string sNone, .slice o 0 c] 62))
  have HB : Hid _ := two_new w (.cells #[.string sTrue, .int .i64 0, .string sNone, .slice o 0 c] 62) (.cells #[.int .i64 0, .slice none 0 0] 299)
  go_enter Tryz.func211, Tryz.ntmps211
  go_wp2_with fail
  refine (formed_true o c _).mono ?_
  rintro e w0 ⟨rfl, hb0⟩
  have HA0 : Hid _ := row_keep hb0 HA.out
  have HB0 : Hid _ := row_keep hb0 HB.out
  obtain ⟨x0, x1, x2, x3, _⟩ := blk4 HA0.out
  have hl0 : w.heap.size < w0.heap.size := lt_of_cell x0
  go_wp2_with fail
  refine (shapeOf_true _).mono ?_
  rintro e w1 ⟨rfl, hb1⟩
  obtain ⟨a0, a1, a2, a3, _⟩ := blk4 (row_keep hb1 HA0.out)
  obtain ⟨b0, b1, bf⟩ := blk2 (row_keep hb1 HB0.out)
  have bf0 := bf 0
  have bf1 := bf 1
  have hl1 : w.heap.size < w1.heap.size := lt_of_cell a0
  have hl2 : w.heap.size + 1 < w1.heap.size := lt_of_cell b0
  go_wp2
  have hr := alloc_row (.cells #[.int .i64 8, .slice none 0 0] 299) (set_row (k := 1) (v := .slice none 0 0) (set_row (k := 0) (v := .int .i64 8) (row_keep hb1 HB0.out)))
  obtain ⟨y0, y1, _⟩ := blk2 hr
  have hs0 := hb0.size
  simp only [World.size_alloc] at hs0
  exact bodyPost_ret (v := .agg #[.int .i64 8, .slice none 0 0]) (by simp [results, Tryz.results211, go_sem, y0, y1]) rfl ⟨rfl, ((((hbA.trans (hb0.mono (by simp; omega))).trans (hb1.mono (by omega))).setCell (by show w.heap.size ≤ w.heap.size + 1; omega) _).setCell (by show w.heap.size ≤ w.heap.size + 1; omega) _).alloc (by simp; omega) _⟩
set_option maxRecDepth 100000 in
set_option maxHeartbeats 1000000 in
theorem bare_true (B b : Nat) (l : List UInt8) (d : Nat) (w : World) (o : Option Addr) (c : Nat) (lv : Int) (sp : Value) (h : WT B b l d w) (hl : l.length + 4 ≤ 6000) :
    Calls Tryz.prog 212 #[.pointer (some ⟨b, 0, none⟩), .agg #[.string sTrue, .int .i64 0, .string sNone, .slice o 0 c], .agg #[.int .i64 lv, sp]] w fun e w' => Writes B b l [116, 114, 117, 101] d w e w' := by
  have ht : sTrue.toList = [116, 114, 117, 101] := by rw [ByteArray.toList_eq]; rfl
  have hmf : ∀ (fn : Fn) (first cap : Array Value) (w : World), (Instr.makeFunc fn first cap).run Tryz.prog w = .ok (.func fn first cap) w := fun _ _ _ _ => rfl
  go_enter Tryz.func212, Tryz.ntmps212
  have hlt := h.lt
  have hle := h.le
  go_wp2_with fail
  refine (put_new B b l d _ [sTrue] _ 1 (by simp) rfl (((h.alloc _).alloc _).alloc _) (by simpa [cat, sTrue] using hl) (by decide) _ rfl).mono ?_
  rintro e w1 ⟨rfl, h1, b1, k1⟩
  go_wp2
  go_end0
  exact ⟨rfl, h1, ((((Below.refl _ _).alloc (by omega) _).alloc (by simp; omega) _).alloc (by simp; omega) _).trans b1, ((((Lib.OthersKept.refl _ _ _).alloc _).alloc _).alloc _).trans k1⟩
theorem WT.deep {B b : Nat} {l : List UInt8} {d : Nat} {w : World} (h : WT B b l d w) : w.cell? ⟨b, 3, none⟩ = some (.int .i64 d) ∧ w.frozen? ⟨b, 3, none⟩ = false := by
  obtain ⟨p, _, _, v, hb, _⟩ := Wr.of h
  exact ⟨by simp [World.cell?, hb], by simp [World.frozen?, hb]⟩
theorem WT.set {B b : Nat} {l : List UInt8} {d : Nat} {w : World} (h : WT B b l d w) (e : Nat) {x : Int} (hx : x = (e : Int)) : WT B b l e (w.setCell ⟨b, 3, none⟩ (.int .i64 x)) := by
  subst hx
  have K : ∀ p, WrAt B b p (Lib.byteCells l) d w → WrAt B b p (Lib.byteCells l) e (w.setCell ⟨b, 3, none⟩ (.int .i64 e)) := fun p ⟨hB, v, hb, hown, hne⟩ =>
    ⟨hB, v, set_row hb, hown.kept (row := some b) ⟨rfl, rfl, rfl, by simp [World.setCell], fun k _ hk => Below.heap_setCell _ _ _ _ (fun e => hk (by simp [e]))⟩ (Or.inr hne), hne⟩
  rcases h with h | h
  · exact Or.inl (K _ h)
  · exact Or.inr (K _ h)
theorem WT.below {B b : Nat} {l : List UInt8} {d : Nat} {w w' : World} (h : WT B b l d w) (hb : Below w.heap.size w w') : WT B b l d w' := by
  have K : ∀ p, WrAt B b p (Lib.byteCells l) d w → WrAt B b p (Lib.byteCells l) d w' := fun p ⟨hB, v, hr, hown, hne⟩ =>
    ⟨hB, v, row_keep hb hr, hown.kept (row := none) ⟨hb.os, hb.tape, hb.output, hb.size, fun k hk _ => hb.block k hk⟩ (by cases h : v.ownBlock with | none => exact Or.inl rfl | some k => exact Or.inr (by simp)), hne⟩
  rcases h with h | h
  · exact Or.inl (K _ h)
  · exact Or.inr (K _ h)
theorem Kept.below {b : Nat} {w w' : World} (hb : Below w.heap.size w w') : Kept b w w' := fun _ _ hk _ _ => row_keep hb hk
set_option maxRecDepth 100000 in
set_option maxHeartbeats 1000000 in
theorem term_true (B b : Nat) (l : List UInt8) (d : Nat) (w : World) (o : Option Addr) (c : Nat) (h : WT B b l d w) (hl : l.length + 4 ≤ 6000) (hd : d < 6000) :
    Calls Tryz.prog 185 #[.pointer (some ⟨b, 0, none⟩), .agg #[.string sTrue, .int .i64 0, .string sNone, .slice o 0 c], .int .i64 0] w fun e w' => Writes B b l [116, 114, 117, 101] d w e w' := by
  have hlt := h.lt
  have hle := h.le
  obtain ⟨c2, f2⟩ := h.deep
  have hd0 : ((d : Int) == 6000) = false := by simp; omega
  go_enter Tryz.func185, Tryz.ntmps185
  have h0 : WT B b l (d + 1) ((w.setCell ⟨b, 3, none⟩ (.int .i64 (d + 1))).alloc (.cells #[.string sTrue, .int .i64 0, .string sNone, .slice o 0 c] 62)) := (h.set (d + 1) (by omega)).alloc _
  have HE : Hid (((w.setCell ⟨b, 3, none⟩ (.int .i64 (d + 1))).alloc (.cells #[.string sTrue, .int .i64 0, .string sNone, .slice o 0 c] 62)).heap[w.heap.size]? = some (.cells #[.string sTrue, .int .i64 0, .string sNone, .slice o 0 c] 62)) := heap_alloc_new' (by simp) _
  have b0 : Below B w ((w.setCell ⟨b, 3, none⟩ (.int .i64 (d + 1))).alloc (.cells #[.string sTrue, .int .i64 0, .string sNone, .slice o 0 c] 62)) := ((Below.refl _ _).setCell (p := ⟨b, 3, none⟩) hle _).alloc (by simp; omega) _
  have k0 : Kept b w ((w.setCell ⟨b, 3, none⟩ (.int .i64 (d + 1))).alloc (.cells #[.string sTrue, .int .i64 0, .string sNone, .slice o 0 c] 62)) := ((Lib.OthersKept.refl _ _ _).setCell ⟨b, 3, none⟩ rfl _).alloc _
  go_wp2_with fail
  refine (shape_true b o c _).mono ?_
  rintro e w1 ⟨rfl, hb1⟩
  have HE1 : Hid _ := row_keep hb1 HE.out
  obtain ⟨e0, e1, e2, e3, _⟩ := blk4 HE1.out
  have hl1 : w.heap.size < w1.heap.size := lt_of_cell e0
  have h1 : WT B b l (d + 1) (w1.alloc (.cells #[.int .i64 8, .slice none 0 0] 299)) := (h0.below hb1).alloc _
  go_wp2_with fail
  refine (bare_true B b l (d + 1) _ o c 8 _ h1 hl).mono ?_
  rintro e w2 ⟨rfl, h2, b2, k2⟩
  obtain ⟨d2, g2⟩ := h2.deep
  have hlt2 := h2.lt
  go_wp2
  go_end0
  refine ⟨rfl, ?_, ?_, ?_⟩
  · exact h2.set d (by push_cast; omega)
  · exact ((((b0.trans (hb1.mono (by have := b0.size; omega))).alloc (by omega) _).trans b2).setCell (p := ⟨b, 3, none⟩) hle _)
  · exact ((k0.trans (Kept.below hb1)).alloc _ |>.trans k2).setCell ⟨b, 3, none⟩ rfl _
end Go.Proofs.YtglkpgcmlbhkpabGreatDoor

/-
  package tree's WRITER, on one program: equation, node, program.
-/
namespace Go.Proofs.YtglkpgcmlbhkpabGreatDoor
open Go.RowKit
attribute [local go_sem ↓] Go.wp_at_zero Go.wp_at_succ

def eqT (x : ByteArray) : List UInt8 := [32, 32] ++ x.data.toList ++ [32, 61, 32, 116, 114, 117, 101, 59, 10]
theorem eqT_length (x : ByteArray) : (eqT x).length = x.data.toList.length + 11 := by simp [eqT]
set_option maxRecDepth 100000 in
set_option maxHeartbeats 1000000 in
theorem equation_true (B b : Nat) (l : List UInt8) (d : Nat) (w : World) (q off c : Nat) (x : ByteArray) (o : Option Addr) (c' : Nat) (h : WT B b l d w) (hq : q < B) (c0 : w.cell? ⟨q, off, none⟩ = some (.string x)) (hl : l.length + x.size + 11 ≤ 6000) (hd : d < 6000) :
    Calls Tryz.prog 131 #[.pointer (some ⟨b, 0, none⟩), .agg #[.string sSet, .slice (some ⟨q, off, none⟩) 1 c, .string sTrue, .int .i64 0, .string sNone, .slice o 0 c']] w fun e w' => Writes B b l (eqT x) d w e w' := by
  have HX : Hid (x.size = x.data.toList.length) := rfl
  have hs : sSet.toList = [115, 101, 116] := by rw [ByteArray.toList_eq]; rfl
  have hlt := h.lt
  have hle := h.le
  have HR0 : Hid _ := heap_alloc_new w (.cells #[.string sSet, .slice (some ⟨q, off, none⟩) 1 c, .string sTrue, .int .i64 0, .string sNone, .slice o 0 c'] 98)
  have h0 : WT B b l d (w.alloc (.cells #[.string sSet, .slice (some ⟨q, off, none⟩) 1 c, .string sTrue, .int .i64 0, .string sNone, .slice o 0 c'] 98)) := h.alloc _
  have bz : Below B w (w.alloc (.cells #[.string sSet, .slice (some ⟨q, off, none⟩) 1 c, .string sTrue, .int .i64 0, .string sNone, .slice o 0 c'] 98)) := (Below.refl _ _).alloc (by omega) _
  go_enter Tryz.func131, Tryz.ntmps131
  go_wp2_with fail
  refine (put_new B b _ d _ [⟨#[32, 32]⟩] _ 1 (by simp) rfl h0 (by simp [cat]; have := HX.out; omega) (by decide) _ rfl).mono ?_
  rintro e v1 ⟨rfl, h1, b1, k1⟩
  have HR1 : Hid _ := kept_row k1 HR0.out (by omega) (by intro c fz e; injection e with _ e; exact absurd e (by decide))
  obtain ⟨a0, a1, a2, a3, a4, a5, _⟩ := blk6 HR1.out
  have hz1 : w.heap.size < v1.heap.size := (Array.getElem?_eq_some_iff.1 HR1.out).1
  have q1 := below_cell (bz.trans b1) hq c0
  go_wp2_with fail
  refine (wnames_one B b _ d _ q off c x h1 q1 (by simp [cat]; have := HX.out; omega)).mono ?_
  rintro e v2 ⟨rfl, h2, b2, k2⟩
  have HR2 : Hid _ := kept_row k2 HR1.out (by omega) (by intro c fz e; injection e with _ e; exact absurd e (by decide))
  obtain ⟨d0, d1, d2, d3, d4, d5, _⟩ := blk6 HR2.out
  have hz2 : w.heap.size < v2.heap.size := (Array.getElem?_eq_some_iff.1 HR2.out).1
  go_wp2_with fail
  refine (put_new B b _ d _ [⟨#[32, 61, 32]⟩] _ 1 (by simp) rfl h2 (by simp [cat]; have := HX.out; omega) (by decide) _ rfl).mono ?_
  rintro e v3 ⟨rfl, h3, b3, k3⟩
  have HR3 : Hid _ := kept_row k3 HR2.out (by omega) (by intro c fz e; injection e with _ e; exact absurd e (by decide))
  obtain ⟨e0, e1, e2, e3, e4, e5, _⟩ := blk6 HR3.out
  have hz3 : w.heap.size < v3.heap.size := (Array.getElem?_eq_some_iff.1 HR3.out).1
  go_wp2_with fail
  refine (term_true B b _ d _ o c' h3 (by simp [cat]; have := HX.out; omega) hd).mono ?_
  rintro e v4 ⟨rfl, h4, b4, k4⟩
  go_wp2_with fail
  refine (put_new B b _ d _ [⟨#[59, 10]⟩] _ 1 (by simp) rfl h4 (by simp [cat]; have := HX.out; omega) (by decide) _ rfl).mono ?_
  rintro e v5 ⟨rfl, h5, b5, k5⟩
  go_wp2
  go_end0
  refine ⟨rfl, ?_, ((((bz.trans b1).trans b2).trans b3).trans b4).trans b5, (((((Kept.alloc b w _).trans k1).trans k2).trans k3).trans k4).trans k5⟩
  have e1 : l ++ eqT x = ((((l ++ cat [⟨#[32, 32]⟩]) ++ x.data.toList) ++ cat [⟨#[32, 61, 32]⟩]) ++ [116, 114, 117, 101]) ++ cat [⟨#[59, 10]⟩] := by simp [cat, eqT]
  rw [e1]
  exact h5
def nodeT (nm x : ByteArray) : List UInt8 := [110, 111, 100, 101, 32] ++ nm.data.toList ++ [40, 41, 32, 114, 101, 116, 117, 114, 110, 115, 32, 40] ++ x.data.toList ++ [58, 32, 98, 111, 111, 108, 41, 59, 10, 108, 101, 116, 10, 32, 32] ++ x.data.toList ++ [32, 61, 32, 116, 114, 117, 101, 59, 10, 116, 101, 108, 10]
set_option maxRecDepth 100000 in
set_option maxHeartbeats 2000000 in
theorem node_true (B b : Nat) (l : List UInt8) (d : Nat) (w : World) (nm x : ByteArray) (io wo : Option Addr) (ic wc p f oc q g qc r ro rc : Nat) (o : Option Addr) (c' : Nat) (h : WT B b l d w) (hp : p < B) (hq : q < B) (hr : r < B) (p0 : w.cell? ⟨p, f, none⟩ = some (.string x)) (p1 : w.cell? ⟨p, f + 1, none⟩ = some (.int .i64 1))
    (q0 : w.cell? ⟨q, g, none⟩ = some (.string sSet)) (q1 : w.cell? ⟨q, g + 1, none⟩ = some (.slice (some ⟨r, ro, none⟩) 1 rc)) (q2 : w.cell? ⟨q, g + 2, none⟩ = some (.string sTrue)) (q3 : w.cell? ⟨q, g + 3, none⟩ = some (.int .i64 0)) (q4 : w.cell? ⟨q, g + 4, none⟩ = some (.string sNone)) (q5 : w.cell? ⟨q, g + 5, none⟩ = some (.slice o 0 c')) (r0 : w.cell? ⟨r, ro, none⟩ = some (.string x)) (hl : l.length + nm.size + x.size + x.size + 60 ≤ 6000) (hd : d < 6000) :
    Calls Tryz.prog 85 #[.pointer (some ⟨b, 0, none⟩), .agg #[.string nm, .slice io 0 ic, .slice (some ⟨p, f, none⟩) 1 oc, .slice wo 0 wc, .slice (some ⟨q, g, none⟩) 1 qc]] w fun e w' => Writes B b l (nodeT nm x) d w e w' := by
  have HX : Hid (x.size = x.data.toList.length) := rfl
  have HN : Hid (nm.size = nm.data.toList.length) := rfl
  have hlt := h.lt
  have hle := h.le
  have HR0 : Hid _ := heap_alloc_new w (.cells #[.string nm, .slice io 0 ic, .slice (some ⟨p, f, none⟩) 1 oc, .slice wo 0 wc, .slice (some ⟨q, g, none⟩) 1 qc] 84)
  have h0 : WT B b l d (w.alloc (.cells #[.string nm, .slice io 0 ic, .slice (some ⟨p, f, none⟩) 1 oc, .slice wo 0 wc, .slice (some ⟨q, g, none⟩) 1 qc] 84)) := h.alloc _
  have bz : Below B w (w.alloc (.cells #[.string nm, .slice io 0 ic, .slice (some ⟨p, f, none⟩) 1 oc, .slice wo 0 wc, .slice (some ⟨q, g, none⟩) 1 qc] 84)) := (Below.refl _ _).alloc (by omega) _
  have HC : Hid (∀ w', Below B w w' → w'.cell? ⟨p, f, none⟩ = some (.string x) ∧ w'.cell? ⟨p, f + 1, none⟩ = some (.int .i64 1) ∧ w'.cell? ⟨q, g, none⟩ = some (.string sSet) ∧ w'.cell? ⟨q, g + 1, none⟩ = some (.slice (some ⟨r, ro, none⟩) 1 rc) ∧ w'.cell? ⟨q, g + 2, none⟩ = some (.string sTrue) ∧ w'.cell? ⟨q, g + 3, none⟩ = some (.int .i64 0) ∧ w'.cell? ⟨q, g + 4, none⟩ = some (.string sNone) ∧ w'.cell? ⟨q, g + 5, none⟩ = some (.slice o 0 c') ∧ w'.cell? ⟨r, ro, none⟩ = some (.string x)) := fun w' hb => ⟨below_cell hb hp p0, below_cell hb hp p1, below_cell hb hq q0, below_cell hb hq q1, below_cell hb hq q2, below_cell hb hq q3, below_cell hb hq q4, below_cell hb hq q5, below_cell hb hr r0⟩
  clear p0 p1 q0 q1 q2 q3 q4 q5 r0
  go_enter Tryz.func85, Tryz.ntmps85
  go_wp2_with fail
  refine (put_new B b _ d _ [⟨#[110, 111, 100, 101, 32]⟩, nm, ⟨#[40]⟩] _ 3 (by simp) rfl h0 (by simp [cat]; have := HX.out; have := HN.out; omega) (by decide) _ rfl).mono ?_
  rintro e v1 ⟨rfl, h1, b1, k1⟩
  have HR1 : Hid _ := kept_row k1 HR0.out (by omega) (by intro c fz e; injection e with _ e; exact absurd e (by decide))
  obtain ⟨a0, a1, a2, a3, a4, _⟩ := blk5 HR1.out
  have hz1 : w.heap.size < v1.heap.size := (Array.getElem?_eq_some_iff.1 HR1.out).1
  have z1 := bz.trans b1
  go_wp2_with fail
  refine (wvars_nil B b _ d _ io ic h1).mono ?_
  rintro e v2 ⟨rfl, h2, b2, k2⟩
  have HR2 : Hid _ := kept_row k2 HR1.out (by omega) (by intro c fz e; injection e with _ e; exact absurd e (by decide))
  obtain ⟨a0', a1', a2', a3', a4', _⟩ := blk5 HR2.out
  have hz2 : w.heap.size < v2.heap.size := (Array.getElem?_eq_some_iff.1 HR2.out).1
  have z2 := z1.trans b2
  clear a0 a1 a2 a3 a4
  go_wp2_with fail
  refine (put_new B b _ d _ [⟨#[41, 32, 114, 101, 116, 117, 114, 110, 115, 32, 40]⟩] _ 1 (by simp) rfl h2 (by simp [cat]; have := HX.out; have := HN.out; omega) (by decide) _ rfl).mono ?_
  rintro e v3 ⟨rfl, h3, b3, k3⟩
  have HR3 : Hid _ := kept_row k3 HR2.out (by omega) (by intro c fz e; injection e with _ e; exact absurd e (by decide))
  obtain ⟨a0, a1, a2, a3, a4, _⟩ := blk5 HR3.out
  have hz3 : w.heap.size < v3.heap.size := (Array.getElem?_eq_some_iff.1 HR3.out).1
  have z3 := z2.trans b3
  clear a0' a1' a2' a3' a4'
  obtain ⟨t0, t1, _⟩ := HC.out _ z3
  go_wp2_with fail
  refine (wvars_one B b _ d _ p f oc x h3 t0 t1 (by simp [cat]; have := HX.out; have := HN.out; omega)).mono ?_
  rintro e v4 ⟨rfl, h4, b4, k4⟩
  have HR4 : Hid _ := kept_row k4 HR3.out (by omega) (by intro c fz e; injection e with _ e; exact absurd e (by decide))
  obtain ⟨a0', a1', a2', a3', a4', _⟩ := blk5 HR4.out
  have hz4 : w.heap.size < v4.heap.size := (Array.getElem?_eq_some_iff.1 HR4.out).1
  have z4 := z3.trans b4
  clear a0 a1 a2 a3 a4 t0 t1
  go_wp2_with fail
  refine (put_new B b _ d _ [⟨#[41, 59, 10]⟩] _ 1 (by simp) rfl h4 (by simp [cat]; have := HX.out; have := HN.out; omega) (by decide) _ rfl).mono ?_
  rintro e v5 ⟨rfl, h5, b5, k5⟩
  have HR5 : Hid _ := kept_row k5 HR4.out (by omega) (by intro c fz e; injection e with _ e; exact absurd e (by decide))
  obtain ⟨a0, a1, a2, a3, a4, _⟩ := blk5 HR5.out
  have hz5 : w.heap.size < v5.heap.size := (Array.getElem?_eq_some_iff.1 HR5.out).1
  have z5 := z4.trans b5
  clear a0' a1' a2' a3' a4'
  go_wp2_with fail
  refine (put_new B b _ d _ [⟨#[108, 101, 116, 10]⟩] _ 1 (by simp) rfl h5 (by simp [cat]; have := HX.out; have := HN.out; omega) (by decide) _ rfl).mono ?_
  rintro e v6 ⟨rfl, h6, b6, k6⟩
  have HR6 : Hid _ := kept_row k6 HR5.out (by omega) (by intro c fz e; injection e with _ e; exact absurd e (by decide))
  obtain ⟨a0', a1', a2', a3', a4', _⟩ := blk5 HR6.out
  have hz6 : w.heap.size < v6.heap.size := (Array.getElem?_eq_some_iff.1 HR6.out).1
  have z6 := z5.trans b6
  clear a0 a1 a2 a3 a4
  go_wp2
  go_loopw [45] (fun t wr => (t = .int .i64 0 ∧ wr = v6) ∨ (t = .int .i64 1 ∧ WT B b (((((((l ++ cat [⟨#[110, 111, 100, 101, 32]⟩, nm, ⟨#[40]⟩]) ++ []) ++ cat [⟨#[41, 32, 114, 101, 116, 117, 114, 110, 115, 32, 40]⟩]) ++ (x.data.toList ++ [58, 32, 98, 111, 111, 108])) ++ cat [⟨#[41, 59, 10]⟩]) ++ cat [⟨#[108, 101, 116, 10]⟩]) ++ eqT x) d wr ∧ Below B w wr ∧ Kept b v6 wr)) (fun t _ => 1 - (intOf t).toNat)
  case atStart => exact Or.inl ⟨rfl, rfl⟩
  case round =>
    clear a0' a1' a2' a3' a4'
    rcases hrel with ⟨rfl, rfl⟩ | ⟨rfl, h8, b8, k8⟩
    · obtain ⟨_, _, t0, t1, t2, t3, t4, t5, t6⟩ := HC.out _ z6
      have hlt6 := h6.lt
      have h7 : WT B b ((((((l ++ cat [⟨#[110, 111, 100, 101, 32]⟩, nm, ⟨#[40]⟩]) ++ []) ++ cat [⟨#[41, 32, 114, 101, 116, 117, 114, 110, 115, 32, 40]⟩]) ++ (x.data.toList ++ [58, 32, 98, 111, 111, 108])) ++ cat [⟨#[41, 59, 10]⟩]) ++ cat [⟨#[108, 101, 116, 10]⟩]) d (wr.alloc (.cells #[.string sSet, .slice (some ⟨r, ro, none⟩) 1 rc, .string sTrue, .int .i64 0, .string sNone, .slice o 0 c'] 98)) := h6.alloc _
      have bz6 : Below B w (wr.alloc (.cells #[.string sSet, .slice (some ⟨r, ro, none⟩) 1 rc, .string sTrue, .int .i64 0, .string sNone, .slice o 0 c'] 98)) := z6.alloc (by omega) _
      have s6 : wr.cell? ⟨r, ro, none⟩ = some (.string x) := t6
      clear t6
      go_wp2_with fail
      refine (equation_true B b _ d _ r ro rc x o c' h7 hr (cell_keep ((Below.refl _ _).alloc (Nat.le_refl _) _) s6) (by simp [cat]; have := HX.out; have := HN.out; omega) hd).mono ?_
      rintro e v8 ⟨rfl, h8, b8, k8⟩
      go_wp2
      exact ⟨Or.inr ⟨by go_num, h8, bz6.trans b8, (Kept.alloc b wr _).trans k8⟩, by simp [intOf]⟩
    · go_wp2_with fail
      refine (put_new B b _ d _ [⟨#[116, 101, 108, 10]⟩] _ 1 (by simp) rfl h8 (by simp [cat, eqT_length]; have := HX.out; have := HN.out; omega) (by decide) _ rfl).mono ?_
      rintro e v9 ⟨rfl, h9, b9, k9⟩
      go_wp2
      go_end0
      refine ⟨rfl, ?_, b8.trans b9, ((((((((Kept.alloc b w _).trans k1).trans k2).trans k3).trans k4).trans k5).trans k6).trans k8).trans k9⟩
      have e1 : l ++ nodeT nm x = (((((((l ++ cat [⟨#[110, 111, 100, 101, 32]⟩, nm, ⟨#[40]⟩]) ++ []) ++ cat [⟨#[41, 32, 114, 101, 116, 117, 114, 110, 115, 32, 40]⟩]) ++ (x.data.toList ++ [58, 32, 98, 111, 111, 108])) ++ cat [⟨#[41, 59, 10]⟩]) ++ cat [⟨#[108, 101, 116, 10]⟩]) ++ eqT x) ++ cat [⟨#[116, 101, 108, 10]⟩] := by simp [cat, nodeT, eqT]
      rw [e1]
      exact h9
end Go.Proofs.YtglkpgcmlbhkpabGreatDoor
