/-
  package tree's READER, ITS SMALL METHODS BY THEIR CONTRACTS: next, is, isName, take, fail, expect, name, enter, leave. Conditions: the reader and its tokens lie in memory as tree.Read lays them ('Rd').
-/
import Derived.Test.YtglkpgcmlbhkpabGreatDoorQ06
import Derived.Test.YtglkpgcmlbhkpabGreatDoorQ08
import Derived.WalkLawsBesides
namespace Go.Proofs.YtglkpgcmlbhkpabGreatDoor
open Go.RowKit
attribute [local go_sem ↓] Go.wp_at_zero Go.wp_at_succ

theorem fldK (a b c : Value) (w : World) : (Instr.field 174 (.agg #[a, b, c]) 0).run Tryz.prog w = .ok a w := by kernel_rfl
theorem fldX (a b c : Value) (w : World) : (Instr.field 174 (.agg #[a, b, c]) 1).run Tryz.prog w = .ok b w := by kernel_rfl
theorem fldP (a b c : Value) (w : World) : (Instr.field 174 (.agg #[a, b, c]) 2).run Tryz.prog w = .ok c w := by kernel_rfl
def tkp (l : List Tk) (i : Nat) : Nat := if h : i < l.length then l[i].pos else 0
/-- What a reader has that does not change: two errors, where it lies, its tokens and where they lie. -/
structure Rc where
  pT : Addr
  pB : Addr
  b : Nat
  g : Nat
  cap : Nat
  l : List Tk
/-- A reader: where it stands, how deep. -/
structure Rd (C : Rc) (i d : Nat) (w : World) : Prop where
  c0 : w.cell? ⟨C.b, 0, none⟩ = some (.slice (some ⟨C.g, 0, none⟩) C.l.length C.cap)
  c1 : w.cell? ⟨C.b, 1, none⟩ = some (.int .i64 i)
  c2 : w.cell? ⟨C.b, 2, none⟩ = some (.int .i64 d)
  fz : ∀ k, w.frozen? ⟨C.b, k, none⟩ = false
  row : ∀ k, k < C.l.length → w.cell? ⟨C.g, k * 3, none⟩ = some (.string (tkk C.l k)) ∧ w.cell? ⟨C.g, k * 3 + 1, none⟩ = some (.string (tkx C.l k)) ∧ w.cell? ⟨C.g, k * 3 + 2, none⟩ = some (.int .i64 (tkp C.l k))
  ne : C.g ≠ C.b
  lt : i < C.l.length
  len : C.l.length ≤ 6001
  dp : d ≤ 20
  hT : w.cell? ⟨1, 0, none⟩ = some (.iface 325 (.pointer (some C.pT)))
  hB : w.cell? ⟨2, 0, none⟩ = some (.iface 325 (.pointer (some C.pB)))
  nT : 1 ≠ C.b
  nB : 2 ≠ C.b
theorem Rd.blt {C : Rc} {i d : Nat} {w : World} (R : Rd C i d w) : C.b < w.heap.size := lt_of_cell R.c0
theorem Rd.go {C : Rc} {i d j e : Nat} {w w' : World} (R : Rd C i d w) (h : Mv C.b w w') (h1 : w'.cell? ⟨C.b, 1, none⟩ = some (.int .i64 j)) (h2 : w'.cell? ⟨C.b, 2, none⟩ = some (.int .i64 e)) (h0 : w'.cell? ⟨C.b, 0, none⟩ = some (.slice (some ⟨C.g, 0, none⟩) C.l.length C.cap)) (hf : ∀ k, w'.frozen? ⟨C.b, k, none⟩ = false) (hj : j < C.l.length) (he : e ≤ 20) : Rd C j e w' :=
  ⟨h0, h1, h2, hf, fun k hk => ⟨h.cell R.ne (R.row k hk).1, h.cell R.ne (R.row k hk).2.1, h.cell R.ne (R.row k hk).2.2⟩, R.ne, hj, R.len, he, h.cell R.nT R.hT, h.cell R.nB R.hB, R.nT, R.nB⟩
theorem Rd.below {C : Rc} {i d : Nat} {w w' : World} (R : Rd C i d w) (hb : Below w.heap.size w w') : Rd C i d w' :=
  R.go (Mv.of_below hb) (cell_keep hb R.c1) (cell_keep hb R.c2) (cell_keep hb R.c0) (fun k => by rw [hb.frozen (p := ⟨C.b, k, none⟩) R.blt]; exact R.fz k) R.lt R.dp
theorem addr_ne {b o p : Nat} (h : o ≠ p) : (⟨b, o, none⟩ : Addr) ≠ ⟨b, p, none⟩ := fun e => h (by injection e)
theorem Mv.setAt (b o : Nat) (w : World) (v : Value) : Mv b w (w.setCell ⟨b, o, none⟩ v) :=
  ⟨rfl, rfl, rfl, by simp [World.setCell], fun k _ hn => Below.heap_setCell _ _ _ _ (fun e => hn (by rw [e]))⟩
theorem Rd.set1 {C : Rc} {i d : Nat} {w : World} (R : Rd C i d w) {j : Nat} {x : Int} (hx : x = (j : Int)) (hj : j < C.l.length) : Rd C j d (w.setCell ⟨C.b, 1, none⟩ (.int .i64 x)) := by
  subst hx
  exact R.go (Mv.setAt _ _ _ _) (World.cell?_setCell_same _ _ _ R.c1) (by rw [World.cell?_setCell_other _ _ _ _ (addr_ne (by decide))]; exact R.c2) (by rw [World.cell?_setCell_other _ _ _ _ (addr_ne (by decide))]; exact R.c0) (fun k => by rw [World.frozen?_setCell]; exact R.fz k) hj R.dp
theorem Rd.set2 {C : Rc} {i d : Nat} {w : World} (R : Rd C i d w) {e : Nat} {x : Int} (hx : x = (e : Int)) (he : e ≤ 20) : Rd C i e (w.setCell ⟨C.b, 2, none⟩ (.int .i64 x)) := by
  subst hx
  exact R.go (Mv.setAt _ _ _ _) (by rw [World.cell?_setCell_other _ _ _ _ (addr_ne (by decide))]; exact R.c1) (World.cell?_setCell_same _ _ _ R.c2) (by rw [World.cell?_setCell_other _ _ _ _ (addr_ne (by decide))]; exact R.c0) (fun k => by rw [World.frozen?_setCell]; exact R.fz k) R.lt he

set_option maxRecDepth 100000 in
set_option maxHeartbeats 400000 in
theorem tnext_any (C : Rc) (i d : Nat) (w : World) (R : Rd C i d w) :
    Calls Tryz.prog 89 #[.pointer (some ⟨C.b, 0, none⟩)] w fun e w' => e = .returned (.agg #[.string (tkk C.l i), .string (tkx C.l i), .int .i64 (tkp C.l i)]) ∧ Below w.heap.size w w' := by
  have c0 := R.c0
  have c1 := R.c1
  obtain ⟨r0, r1, r2⟩ := R.row i R.lt
  have hlt := R.lt
  have hlen := R.len
  have i0 : (0 : Int) ≤ (i : Int) := by omega
  have i1 : (i : Int) < (C.l.length : Int) := by omega
  have hb := lt_of_cell c0
  have hg := lt_of_cell r0
  simp only at hb hg
  go_enter Tryz.func89, Tryz.ntmps89
  go_wp2
  go_region
  go_wp2
  exact bodyPost_ret (v := .agg #[.string (tkk C.l i), .string (tkx C.l i), .int .i64 (tkp C.l i)]) (by simp [results, Tryz.results89, go_sem]) rfl ⟨rfl, ((Below.refl _ _).alloc (Nat.le_refl _) _).drew⟩

set_option maxHeartbeats 400000 in
theorem sindex_any (b c : Nat) (ss : List (List UInt8)) (t : ByteArray) (w : World) (hc : ∀ k (h : k < ss.length), w.cell? ⟨b, k, none⟩ = some (.string ⟨ss[k].toArray⟩)) (hn : ss.length ≤ 1000) :
    Calls Tryz.prog 193 #[.slice (some ⟨b, 0, none⟩) ss.length c, .string t] w fun e w' => (∃ r : Int, e = .returned (.int .i64 r) ∧ decide (0 ≤ r) = amongB ss t) ∧ w' = w := by
  go_enter Tryz.func193, Tryz.ntmps193
  go_wp2
  go_loop [8] (fun t' => ∃ k : Nat, k ≤ ss.length ∧ t' = .int .i64 k ∧ Hid (∀ j (h : j < ss.length), j < k → (t.toList == ss[j]) = false)) (fun t' => ss.length - (intOf t').toNat)
  case atStart => exact ⟨0, Nat.zero_le _, rfl, fun j _ h => by omega⟩
  case round =>
    obtain ⟨k, hk, rfl, hall⟩ := hrel
    by_cases hlt : k < ss.length
    · have hck := hc k hlt
      have hi1 : (k : Int) < (ss.length : Int) := by omega
      by_cases hb : (t.toList == ss[k]) = true
      · go_wp2
        go_ret
        refine ⟨⟨k, rfl, ?_⟩, rfl⟩
        have h1 : amongB ss t = true := List.any_eq_true.2 ⟨ss[k], List.getElem_mem hlt, hb⟩
        rw [h1]; exact decide_eq_true (by omega)
      · have hb0 : (t.toList == ss[k]) = false := by
          cases h : (t.toList == ss[k]) with
          | true => exact absurd h hb
          | false => rfl
        clear hb
        go_wp2
        refine ⟨⟨k + 1, by omega, by go_num, ?_⟩, by simp [intOf]; omega⟩
        intro j hj hjk
        by_cases e : j = k
        · subst e; exact hb0
        · exact hall.out j hj (by omega)
    · obtain rfl : k = ss.length := by omega
      go_wp2
      go_ret
      refine ⟨⟨-1, rfl, ?_⟩, rfl⟩
      have h1 : amongB ss t = false := by
        rw [amongB, List.any_eq_false]
        intro x hx
        obtain ⟨j, hj, rfl⟩ := List.mem_iff_getElem.1 hx
        rw [hall.out j hj hj]
        exact Bool.false_ne_true
      rw [h1]; rfl
theorem scontains_any (b c m : Nat) (ss : List (List UInt8)) (t : ByteArray) (w : World) (hm : ss.length = m) (hc : w.heap[b]? = some (.cells (strCells ss) 9 (0, 0))) (hn : m ≤ 1000) :
    Calls Tryz.prog 150 #[.slice (some ⟨b, 0, none⟩) m c, .string t] w fun e w' => e = .returned (.bool (amongB ss t)) ∧ w' = w := by
  subst hm
  have hc' : ∀ k (h : k < ss.length), w.cell? ⟨b, k, none⟩ = some (.string ⟨ss[k].toArray⟩) := fun k h => by
    rw [cell_of_row w b k _ _ (0, 0) hc]; exact strCells_at ss k h
  clear hc
  go_enter Tryz.func150, Tryz.ntmps150
  go_wp2_with fail
  refine (sindex_any b c ss t _ hc' hn).mono ?_
  rintro e w1 ⟨⟨r, rfl, hr⟩, rfl⟩
  have HR : Hid (decide (0 ≤ r) = amongB ss t) := hr
  clear hr
  go_wp2
  go_ret
  exact ⟨ret_bool HR.out, rfl⟩

theorem txs_among (l : List Tk) (i : Nat) (xs : List (List UInt8)) : txs l i xs = amongB xs (tkx l i) := rfl
set_option maxRecDepth 100000 in
set_option maxHeartbeats 400000 in
theorem is_any (C : Rc) (i d : Nat) (w : World) (R : Rd C i d w) (q m c : Nat) (xs : List (List UInt8)) (hq : w.heap[q]? = some (.cells (strCells xs) 9 (0, 0))) (hm : xs.length = m) (hn : m ≤ 1000) :
    Calls Tryz.prog 90 #[.pointer (some ⟨C.b, 0, none⟩), .slice (some ⟨q, 0, none⟩) m c] w fun e w' => e = .returned (.bool (txs C.l i xs)) ∧ Below w.heap.size w w' := by
  have hfd := fldX
  go_enter Tryz.func90, Tryz.ntmps90
  go_wp2_with fail
  refine (tnext_any C i d _ R).mono ?_
  rintro e w1 ⟨rfl, hb⟩
  go_wp2_with fail
  refine (scontains_any q c m xs _ _ hm (row_keep hb hq) hn).mono ?_
  rintro e w2 ⟨rfl, rfl⟩
  go_wp2
  go_ret
  exact ⟨rfl, hb⟩
set_option maxRecDepth 100000 in
set_option maxHeartbeats 400000 in
theorem isName_any (C : Rc) (i d : Nat) (w : World) (R : Rd C i d w) :
    Calls Tryz.prog 195 #[.pointer (some ⟨C.b, 0, none⟩)] w fun e w' => e = .returned (.bool (isName C.l i)) ∧ Below w.heap.size w w' := by
  have hfd := fldK
  go_enter Tryz.func195, Tryz.ntmps195
  go_wp2_with fail
  refine (tnext_any C i d _ R).mono ?_
  rintro e w1 ⟨rfl, hb⟩
  go_wp2
  go_ret
  exact ⟨rfl, hb⟩

set_option maxHeartbeats 400000 in
theorem take_any (C : Rc) (i d : Nat) (w : World) (R : Rd C i d w) (hi : i + 1 < C.l.length) :
    Calls Tryz.prog 194 #[.pointer (some ⟨C.b, 0, none⟩)] w fun e w' => e = .returned (.string (tkx C.l i)) ∧ Rd C (i + 1) d w' ∧ Mv C.b w w' := by
  have hlen := R.len
  have hbl := R.blt
  go_enter Tryz.func194, Tryz.ntmps194
  go_wp2_with fail
  refine (tnext_any C i d _ R).mono ?_
  rintro e w1 ⟨rfl, hb⟩
  have Rb := R.below hb
  have c1 := Rb.c1
  have fz := Rb.fz 1
  have hbl1 := Rb.blt
  go_wp2
  go_ret
  have R2 := Rb.set1 (j := i + 1) (x := (i : Int) + 1) (by omega) hi
  exact ⟨rfl, R2.below ((Below.refl _ _).alloc (Nat.le_refl _) _), ((Mv.of_below hb).trans (Mv.setAt _ _ _ _)).trans (Mv.of_below ((Below.refl _ _).alloc (Nat.le_refl _) _))⟩

/-- It was given up: at this token, by this error. -/
def Threw (C : Rc) (j : Nat) (bd : Bool) (e : Ending) (w' : World) : Prop :=
  j < C.l.length ∧ ∃ p, e = .panicked [{ v := .iface 165 (.agg #[.iface 111 (.pointer (some ⟨p, 0, none⟩))]), recovered := false }] ∧ w'.cell? ⟨p, 0, none⟩ = some (.int .i64 (tkp C.l j)) ∧ w'.cell? ⟨p, 0 + 1, none⟩ = some (.iface 325 (.pointer (some (if bd then C.pB else C.pT))))

set_option maxRecDepth 100000 in
set_option maxHeartbeats 400000 in
theorem fail_any (C : Rc) (i d : Nat) (w : World) (R : Rd C i d w) (ev : Addr) (bd : Bool) (hev : ev = if bd then C.pB else C.pT) :
    Calls Tryz.prog 91 #[.pointer (some ⟨C.b, 0, none⟩), .iface 325 (.pointer (some ev))] w fun e w' => Threw C i bd e w' ∧ Below w.heap.size w w' := by
  have hfd := fldP
  have HE : Hid (ev = if bd then C.pB else C.pT) := hev
  clear hev
  go_enter Tryz.func91, Tryz.ntmps91
  go_wp2_with fail
  refine (tnext_any C i d _ R).mono ?_
  rintro e w1 ⟨rfl, hb⟩
  go_wp2
  have hs := hb.size
  refine ⟨rfl, ⟨R.lt, w1.heap.size, rfl, ?_, ?_⟩, hb.alloc (by omega) _⟩
  · rw [World.cell?_alloc_at _ _ _ _ rfl]; rfl
  · rw [World.cell?_alloc_at _ _ _ _ rfl, ← HE.out]; rfl

set_option maxRecDepth 100000 in
set_option maxHeartbeats 400000 in
theorem leave_any (C : Rc) (i d : Nat) (w : World) (R : Rd C i (d + 1) w) :
    Calls Tryz.prog 221 #[.pointer (some ⟨C.b, 0, none⟩)] w fun e w' => e = .returned (.tuple #[]) ∧ Rd C i d w' ∧ Mv C.b w w' := by
  have c2 := R.c2
  have fz := R.fz 2
  have hd := R.dp
  go_enter Tryz.func221, Tryz.ntmps221
  go_wp2
  go_end0
  exact ⟨rfl, R.set2 (by omega) (by omega), Mv.setAt _ _ _ _⟩

theorem txs_one (l : List Tk) (i : Nat) (x : List UInt8) : txs l i [x] = tx l i x := by simp [txs]
set_option maxRecDepth 100000 in
set_option maxHeartbeats 400000 in
theorem expect_any (C : Rc) (i d : Nat) (w : World) (R : Rd C i d w) (T : Tkl C.l) (x : List UInt8) (hx : x ≠ []) :
    Calls Tryz.prog 151 #[.pointer (some ⟨C.b, 0, none⟩), .string ⟨x.toArray⟩] w fun e w' => Mv C.b w w' ∧ ((tx C.l i x = true ∧ e = .returned (.tuple #[]) ∧ Rd C (i + 1) d w') ∨ (tx C.l i x = false ∧ Threw C i false e w')) := by
  have hbA : Below w.heap.size w (w.alloc (.cells #[.string ⟨x.toArray⟩] 9)) := (Below.refl _ _).alloc (Nat.le_refl _) _
  have hq : (w.alloc (.cells #[.string ⟨x.toArray⟩] 9)).heap[w.heap.size]? = some (.cells (strCells [x]) 9 (0, 0)) := heap_alloc_new w _
  have hRA := R.below hbA
  have HQ : Hid _ := hq
  clear hq
  by_cases h : txs C.l i [x] = true
  · have hi : i + 1 < C.l.length := T.next_txs R.lt (by simpa using Ne.symm hx) h
    go_enter Tryz.func151, Tryz.ntmps151
    go_wp2_with fail
    refine (is_any C i d _ hRA w.heap.size 1 1 [x] HQ.out rfl (by decide)).mono ?_
    rintro e w1 ⟨rfl, hb⟩
    go_wp2_with fail
    refine (take_any C i d _ (hRA.below hb) hi).mono ?_
    rintro e w2 ⟨rfl, R2, hm⟩
    go_wp2
    go_end0
    exact ⟨(Mv.of_below hbA).trans ((Mv.of_below hb).trans hm), Or.inl ⟨by rw [← txs_one]; exact h, rfl, R2⟩⟩
  · have h' : txs C.l i [x] = false := by simpa using h
    clear h
    have hT := (hRA).hT
    go_enter Tryz.func151, Tryz.ntmps151
    go_wp2_with fail
    refine (is_any C i d _ hRA w.heap.size 1 1 [x] HQ.out rfl (by decide)).mono ?_
    rintro e w1 ⟨rfl, hb⟩
    have hT1 := (hRA.below hb).hT
    go_wp2_with fail
    refine (fail_any C i d _ (hRA.below hb) _ false rfl).mono ?_
    rintro e w2 ⟨⟨hj, p, rfl, q0, q1⟩, hb2⟩
    go_wp2
    exact ⟨rfl, (Mv.of_below hbA).trans ((Mv.of_below hb).trans (Mv.of_below hb2)), Or.inr ⟨by rw [← txs_one]; exact h', hj, p, rfl, q0, q1⟩⟩

set_option maxRecDepth 100000 in
set_option maxHeartbeats 400000 in
theorem name_any (C : Rc) (i d : Nat) (w : World) (R : Rd C i d w) (T : Tkl C.l) :
    Calls Tryz.prog 152 #[.pointer (some ⟨C.b, 0, none⟩)] w fun e w' => Mv C.b w w' ∧ ((isName C.l i = true ∧ e = .returned (.string (tkx C.l i)) ∧ Rd C (i + 1) d w') ∨ (isName C.l i = false ∧ Threw C i false e w')) := by
  by_cases h : isName C.l i = true
  · have hi : i + 1 < C.l.length := T.next_name R.lt h
    go_enter Tryz.func152, Tryz.ntmps152
    go_wp2_with fail
    refine (isName_any C i d _ R).mono ?_
    rintro e w1 ⟨rfl, hb⟩
    go_wp2_with fail
    refine (take_any C i d _ (R.below hb) hi).mono ?_
    rintro e w2 ⟨rfl, R2, hm⟩
    go_wp2
    go_ret
    exact ⟨(Mv.of_below hb).trans hm, Or.inl ⟨h, rfl, R2⟩⟩
  · have h' : isName C.l i = false := by simpa using h
    clear h
    go_enter Tryz.func152, Tryz.ntmps152
    go_wp2_with fail
    refine (isName_any C i d _ R).mono ?_
    rintro e w1 ⟨rfl, hb⟩
    have hT1 := (R.below hb).hT
    go_wp2_with fail
    refine (fail_any C i d _ (R.below hb) _ false rfl).mono ?_
    rintro e w2 ⟨⟨hj, p, rfl, q0, q1⟩, hb2⟩
    go_wp2
    exact ⟨rfl, (Mv.of_below hb).trans (Mv.of_below hb2), Or.inr ⟨h', hj, p, rfl, q0, q1⟩⟩

set_option maxRecDepth 100000 in
set_option maxHeartbeats 400000 in
theorem enter_any (C : Rc) (i d : Nat) (w : World) (R : Rd C i d w) (hi : i + 1 < C.l.length) :
    Calls Tryz.prog 220 #[.pointer (some ⟨C.b, 0, none⟩)] w fun e w' => Mv C.b w w' ∧ ((d ≠ 20 ∧ e = .returned (.string (tkx C.l i)) ∧ Rd C (i + 1) (d + 1) w') ∨ (d = 20 ∧ Threw C i true e w')) := by
  have c2 := R.c2
  have hd := R.dp
  by_cases h : d = 20
  · subst h
    have hB := R.hB
    go_enter Tryz.func220, Tryz.ntmps220
    go_wp2_with fail
    refine (fail_any C i 20 _ R _ true rfl).mono ?_
    rintro e w2 ⟨⟨hj, p, rfl, q0, q1⟩, hb2⟩
    go_wp2
    exact ⟨rfl, Mv.of_below hb2, Or.inr ⟨trivial, hj, p, rfl, q0, q1⟩⟩
  · have hd0 : ((d : Int) == 20) = false := by simp; omega
    have fz := R.fz 2
    go_enter Tryz.func220, Tryz.ntmps220
    go_wp2_with fail
    have R1 := R.set2 (e := d + 1) (x := (d : Int) + 1) (by omega) (by omega)
    refine (take_any C i (d + 1) _ R1 hi).mono ?_
    rintro e w2 ⟨rfl, R2, hm⟩
    go_wp2
    go_ret
    exact ⟨(Mv.setAt _ _ _ _).trans hm, Or.inl ⟨h, rfl, R2⟩⟩
end Go.Proofs.YtglkpgcmlbhkpabGreatDoor

/-
  STEPS OF THE GRAMMAR, IN PLAIN MATHEMATICS: by which what is read is put together.
-/
namespace Go.Proofs.YtglkpgcmlbhkpabGreatDoor

section
variable {l : List Tk} {r : Res} {i d j : Nat} {a b : List Ex}
theorem Run.ifT {c : Bool} {x y : Act} (h : c = true) (p : Run l x r) : Run l (if c then x else y) r := by rw [if_pos h]; exact p
theorem Run.ifF {c : Bool} {x y : Act} (h : c = false) (p : Run l y r) : Run l (if c then x else y) r := by rw [if_neg (by rw [h]; exact Bool.false_ne_true)]; exact p
theorem Run.down {k : Act} (h : d ≠ 20) (p : Run l k r) : Run l (downA i d k) r := by rw [downA, if_neg h]; exact p
theorem Run.deep {k : Act} (h : d = 20) : Run l (downA i d k) (.bad i true) := by rw [downA, if_pos h]; exact .ret _
theorem Run.exp {x : List UInt8} {k : Nat → Act} (h : tx l i x = true) (p : Run l (k (i + 1)) r) : Run l (expA l i x k) r := by rw [expA, if_pos h]; exact p
theorem Run.unexp {x : List UInt8} {k : Nat → Act} (h : tx l i x = false) : Run l (expA l i x k) (.bad i false) := by rw [expA, if_neg (by rw [h]; exact Bool.false_ne_true)]; exact .ret _
theorem Run.nam {k : Nat → Act} (h : isName l i = true) (p : Run l (k (i + 1)) r) : Run l (nameA l i k) r := by rw [nameA, if_pos h]; exact p
theorem Run.unnam {k : Nat → Act} (h : isName l i = false) : Run l (nameA l i k) (.bad i false) := by rw [nameA, if_neg (by rw [h]; exact Bool.false_ne_true)]; exact .ret _
theorem Run.then {c : Cd} {k : List Ex → Nat → Act} (h : Parse l c i d (.ok a j)) (p : Run l (k a j) r) : Run l (.call c i d k) r := .ok c i d k a j r h p
theorem Run.stop {c : Cd} {k : List Ex → Nat → Act} {bd : Bool} (h : Parse l c i d (.bad j bd)) : Run l (.call c i d k) (.bad j bd) := .bad c i d k j bd h
theorem Run.done : Run l (retA a j) (.ok a j) := .ret _
theorem Parse.left (v : Lv) (h : Parse l v.part i d (.ok a j)) (p : Parse l (.loop v a) j d r) : Parse l (.left v) i d r := Run.then h (Run.tail p)
theorem Parse.loopMore (v : Lv) (h : txs l i v.ops = true) (p : Parse l v.part (i + 1) d (.ok b j)) (q : Parse l (.loop v [.mk (tkx l i) 0 b0 (a ++ b)]) j d r) : Parse l (.loop v a) i d r := Run.ifT h (Run.then p (Run.tail q))
theorem Parse.loopBad (v : Lv) {bd : Bool} (h : txs l i v.ops = true) (p : Parse l v.part (i + 1) d (.bad j bd)) : Parse l (.loop v a) i d (.bad j bd) := Run.ifT h (Run.stop p)
theorem Parse.loopStop (v : Lv) (h : txs l i v.ops = false) : Parse l (.loop v a) i d (.ok a i) := Run.ifF h Run.done
theorem Parse.notMore (h : tx l i tNot = true) (hd : d ≠ 20) (p : Parse l .not (i + 1) (d + 1) (.ok a j)) : Parse l .not i d (.ok [.mk ⟨tNot.toArray⟩ 0 b0 a] j) := Run.ifT h (Run.down hd (Run.then p Run.done))
theorem Parse.ifMore {c : List Ex} {i1 i2 i3 : Nat} (h : tx l i tIf = true) (hd : d ≠ 20) (p : Parse l .term (i + 1) (d + 1) (.ok a i1)) (h1 : tx l i1 tThen = true) (q : Parse l .term (i1 + 1) (d + 1) (.ok b i2)) (h2 : tx l i2 tElse = true) (s : Parse l .term (i2 + 1) (d + 1) (.ok c i3)) : Parse l .term i d (.ok [.mk (tkx l i) 0 b0 (a ++ b ++ c)] i3) :=
  Run.ifT h (Run.down hd (Run.then p (Run.exp h1 (Run.then q (Run.exp h2 (Run.then s Run.done))))))
end
end Go.Proofs.YtglkpgcmlbhkpabGreatDoor

/-
  package tree's READER OF TERMS: fromLeft, prefix BY THEIR CONTRACTS.
-/
namespace Go.Proofs.YtglkpgcmlbhkpabGreatDoor
open Go.RowKit
attribute [local go_sem ↓] Go.wp_at_zero Go.wp_at_succ

/-- What a method that reads answers. -/
def Ret (C : Rc) (c : Cd) (i d : Nat) (w : World) (V : World → List Ex → Value → Prop) (e : Ending) (w' : World) : Prop :=
  Mv C.b w w' ∧ ((∃ es j v, Parse C.l c i d (.ok es j) ∧ e = .returned v ∧ V w' es v ∧ Rd C j d w' ∧ i < j) ∨ (∃ j bd, Parse C.l c i d (.bad j bd) ∧ Threw C j bd e w'))
def TermV (base : Nat) (w' : World) (es : List Ex) (v : Value) : Prop := ∃ ex, es = [ex] ∧ ExV w' (From base) ex v
/-- A method reads this, where at most n tokens are left. -/
def Fits (f : FuncId) (c : Cd) (n : Nat) : Prop := ∀ (C : Rc) (i d : Nat) (w : World), Tkl C.l → Rd C i d w → C.l.length - i ≤ n → Calls Tryz.prog f #[.pointer (some ⟨C.b, 0, none⟩)] w (Ret C c i d w (TermV w.heap.size))

theorem Stays.mv {S S' : Nat → Prop} {b : Nat} {w w' : World} (h : Mv b w w') (hs : ∀ k, S k → k ≠ b ∧ S' k) : Stays S S' w w' := fun k hk hl => ⟨(hs k hk).2, h.block k hl (by intro e; injection e with e; exact (hs k hk).1 e)⟩
theorem Stays.below {S S' : Nat → Prop} {w w' : World} (h : Below w.heap.size w w') (hs : ∀ k, S k → S' k) : Stays S S' w w' := fun k hk hl => ⟨hs k hk, h.block k hl⟩
theorem Stays.alloc {S S' : Nat → Prop} {w : World} (o : Obj) (hs : ∀ k, S k → S' k) : Stays S S' w (w.alloc o) := Stays.below ((Below.refl _ _).alloc (Nat.le_refl _) _) hs
theorem Stays.set {S S' : Nat → Prop} {w : World} {p : Addr} (v : Value) (hs : ∀ k, S k → k ≠ p.block ∧ S' k) : Stays S S' w (w.setCell p v) := fun k hk _ => ⟨(hs k hk).2, Below.heap_setCell _ _ _ _ (hs k hk).1⟩

theorem blk4 {w : World} {b : Nat} {x y z u : Value} {t : TypeId} (h : w.heap[b]? = some (.cells #[x, y, z, u] t (0, 0))) : w.cell? ⟨b, 0, none⟩ = some x ∧ w.cell? ⟨b, 1, none⟩ = some y ∧ w.cell? ⟨b, 2, none⟩ = some z ∧ w.cell? ⟨b, 3, none⟩ = some u ∧ ∀ k, w.frozen? ⟨b, k, none⟩ = false :=
  ⟨by simp [World.cell?, h], by simp [World.cell?, h], by simp [World.cell?, h], by simp [World.cell?, h], fun k => by simp [World.frozen?, h]⟩
theorem Mv.row {b k : Nat} {w w' : World} {o : Obj} (h : Mv b w w') (hn : k ≠ b) (hr : w.heap[k]? = some o) : w'.heap[k]? = some o := by
  rw [h.block k (Array.getElem?_eq_some_iff.1 hr).1 (by intro e; injection e with e; exact hn e)]; exact hr
theorem alloc_row {k : Nat} {w : World} {o : Obj} (o' : Obj) (hr : w.heap[k]? = some o) : (w.alloc o').heap[k]? = some o := by
  rw [heap_alloc_old (h := (Array.getElem?_eq_some_iff.1 hr).1)]; exact hr

/-- Four cells of a block, written one behind the other. -/
def set4 (w : World) (N : Nat) (a b c e : Value) : World := (((w.setCell ⟨N, 0, none⟩ a).setCell ⟨N, 1, none⟩ b).setCell ⟨N, 2, none⟩ c).setCell ⟨N, 3, none⟩ e
section
variable {w : World} {N : Nat} {a b c e : Value}
theorem set4_block {k : Nat} (h : k ≠ N) : (set4 w N a b c e).heap[k]? = w.heap[k]? := by
  unfold set4
  rw [Below.heap_setCell _ _ _ _ h, Below.heap_setCell _ _ _ _ h, Below.heap_setCell _ _ _ _ h, Below.heap_setCell _ _ _ _ h]
theorem set4_size : (set4 w N a b c e).heap.size = w.heap.size := by simp [set4, World.setCell]
theorem set4_below {H : Nat} (h : H ≤ N) : Below H w (set4 w N a b c e) := ⟨rfl, rfl, rfl, by rw [set4_size]; exact Nat.le_refl _, fun k hk => set4_block (by omega)⟩
theorem set4_stays {S S' : Nat → Prop} (hs : ∀ k, S k → k ≠ N ∧ S' k) : Stays S S' w (set4 w N a b c e) := fun k hk _ => ⟨(hs k hk).2, set4_block (hs k hk).1⟩
end
theorem Stays.trans {S S' S'' : Nat → Prop} {a b c : World} (h : Stays S S' a b) (g : Stays S' S'' b c) (hs : a.heap.size ≤ b.heap.size) : Stays S S'' a c := fun k hk hl => by
  have h1 := h k hk hl
  have h2 := g k h1.1 (by omega)
  exact ⟨h2.1, h2.2.trans h1.2⟩
theorem RowAt.blk {w : World} {S : Nat → Prop} {size n g c : Nat} {cur : Array Value} {t : TypeId} {xs : List Value} (h : w.heap[g]? = some (.cells cur t (0, 0))) (hx : cur.toList = xs) (hl : xs.length = n * size) (hn : n ≤ maxLen) (hS : S g) : RowAt w S size (.slice (some ⟨g, 0, none⟩) n c) n xs := by
  refine ⟨hl, hn, _, c, rfl, fun k x hk => ⟨g, 0, rfl, hS, ?_⟩⟩
  rw [Nat.zero_add, cell_of_row w g k cur t (0, 0) h]
  rw [← hx] at hk; simpa using hk
theorem Mv.upon {b : Nat} {w w1 w2 : World} (h : Mv b w w1) (g : Below w.heap.size w1 w2) : Mv b w w2 :=
  ⟨g.os.trans h.os, g.tape.trans h.tape, g.output.trans h.output, Nat.le_trans h.size g.size, fun k hk hn => (g.block k hk).trans (h.block k hk hn)⟩
theorem Rd.upon {C : Rc} {i d j e : Nat} {w w1 w2 : World} (R : Rd C i d w) (R1 : Rd C j e w1) (g : Below w.heap.size w1 w2) : Rd C j e w2 := by
  have f : ∀ {p : Addr} {v : Value}, p.block < w.heap.size → w1.cell? p = some v → w2.cell? p = some v := fun {p} {v} hp hc => by
    rw [World.cell?_of_block (w := w1) (g.block p.block hp)]; exact hc
  have hb := R.blt
  have hg : C.g < w.heap.size := lt_of_cell (R.row i R.lt).1
  refine ⟨f hb R1.c0, f hb R1.c1, f hb R1.c2, fun k => ?_, fun k hk => ⟨f hg (R1.row k hk).1, f hg (R1.row k hk).2.1, f hg (R1.row k hk).2.2⟩, R1.ne, R1.lt, R1.len, R1.dp, f (lt_of_cell R.hT) R1.hT, f (lt_of_cell R.hB) R1.hB, R1.nT, R1.nB⟩
  rw [World.frozen?_of_block (w := w1) (g.block C.b hb)]; exact R1.fz k

set_option maxRecDepth 100000 in
set_option maxHeartbeats 400000 in
theorem prefix_not (n : Nat) (hK : Fits 242 .not n) (C : Rc) (i d : Nat) (w : World) (T : Tkl C.l) (R : Rd C i d w) (hi : i + 1 < C.l.length) (hn : C.l.length - (i + 1) ≤ n) (o : ByteArray) :
    Calls Tryz.prog 246 #[.pointer (some ⟨C.b, 0, none⟩), .string o, .func (.func 242) #[.pointer (some ⟨C.b, 0, none⟩)] #[]] w fun e w' => Mv C.b w w' ∧
      ((d = 20 ∧ Threw C i true e w') ∨ (d ≠ 20 ∧ ∃ ex j v, Parse C.l .not (i + 1) (d + 1) (.ok [ex] j) ∧ e = .returned v ∧ ExV w' (From w.heap.size) (.mk o 0 b0 [ex]) v ∧ Rd C j d w' ∧ i < j) ∨ (d ≠ 20 ∧ ∃ j bd, Parse C.l .not (i + 1) (d + 1) (.bad j bd) ∧ Threw C j bd e w')) := by
  have HK : Hid (Fits 242 .not n) := hK
  clear hK
  have hbA : Below w.heap.size w (w.alloc (.cells #[.string ⟨#[]⟩, .int .i64 0, .string ⟨#[]⟩, .slice none 0 0] 62)) := (Below.refl _ _).alloc (Nat.le_refl _) _
  have hbl := R.blt
  go_enter Tryz.func246, Tryz.ntmps246
  go_wp2_with fail
  refine (enter_any C i d _ (R.below hbA) hi).mono ?_
  rintro e w1 ⟨hm1, h1⟩
  rcases h1 with ⟨hd, rfl, R1⟩ | ⟨hd, hj, p, rfl, q0, q1⟩
  · have hs1 := hm1.size
    simp only [World.size_alloc] at hs1
    have hr1 := hm1.row (k := w.heap.size) (by omega) (heap_alloc_new w _)
    have HR1 : Hid _ := hr1
    clear hr1
    go_wp2_with fail
    refine (HK.out C (i + 1) (d + 1) _ T R1 hn).mono ?_
    rintro e w2 ⟨hm2, h2⟩
    rcases h2 with ⟨es, j, v, hp, rfl, ⟨ex, rfl, hv⟩, R2, hij⟩ | ⟨j, bd, hp, hj, p, rfl, q0, q1⟩
    · obtain ⟨op, x, s, l, so, sc, ys, rfl, rfl, hrow, hin⟩ := hv.one
      have hs2 := hm2.size
      have hr2 := alloc_row (.cells #[.string op, .int .i64 x, .string s, .slice so l.length sc] 62) (hm2.row (by omega) HR1.out)
      have hn2 := heap_alloc_new w2 (.cells #[.string op, .int .i64 x, .string s, .slice so l.length sc] 62)
      have HR2 : Hid _ := hr2
      have HN2 : Hid _ := hn2
      have hbB : Below w2.heap.size w2 (w2.alloc (.cells #[.string op, .int .i64 x, .string s, .slice so l.length sc] 62)) := (Below.refl _ _).alloc (Nat.le_refl _) _
      clear hr2 hn2
      go_wp2_with fail
      refine (leave_any C j d _ (R2.below hbB)).mono ?_
      rintro e w3 ⟨rfl, R3, hm3⟩
      have hs3 := hm3.size
      simp only [World.size_alloc] at hs3
      have hlt3 : w.heap.size < w3.heap.size := by omega
      have hne3 : w.heap.size ≠ w3.heap.size := by omega
      obtain ⟨c0, c1, c2, c3, _⟩ := blk4 (hm3.row (by omega) HN2.out)
      obtain ⟨z0, z1, z2, z3, zf⟩ := blk4 (hm3.row (by omega) HR2.out)
      go_wp2
      have hW : Below w.heap.size w3 ((set4 w3 w.heap.size (.string o) (.int .i64 0) (.string ⟨#[]⟩) (.slice (some ⟨w3.heap.size, 0, none⟩) 1 1)).alloc (.cells #[.string op, .int .i64 x, .string s, .slice so l.length sc] 62)) := (set4_below (Nat.le_refl _)).alloc (by rw [set4_size]; omega) _
      have hM : Mv C.b w w3 := (((Mv.of_below hbA).trans hm1).trans (hm2.trans (Mv.of_below hbB))).trans hm3
      have St : Stays (From w1.heap.size) (From w.heap.size) w2 ((set4 w3 w.heap.size (.string o) (.int .i64 0) (.string ⟨#[]⟩) (.slice (some ⟨w3.heap.size, 0, none⟩) 1 1)).alloc (.cells #[.string op, .int .i64 x, .string s, .slice so l.length sc] 62)) :=
        (((Stays.alloc _ (fun k hk => hk)).trans (Stays.mv (S' := From w1.heap.size) hm3 (fun k hk => ⟨by unfold From at hk; omega, hk⟩)) (by simp)).trans (set4_stays (S' := From w.heap.size) (fun k hk => by unfold From at *; omega)) (by omega)).trans (Stays.alloc _ (fun k hk => hk)) (by rw [set4_size]; omega)
      refine bodyPost_ret (v := .agg #[.string o, .int .i64 0, .string ⟨#[]⟩, .slice (some ⟨w3.heap.size, 0, none⟩) 1 1]) (by simp [results, Tryz.results246, go_sem, z0, z1, z2, z3, hlt3]) rfl ⟨hM.upon hW, Or.inr (Or.inl ⟨hd, _, j, _, hp, rfl, ?_, R.upon R3 hW, by omega⟩)⟩
      have hnew : ((set4 w3 w.heap.size (.string o) (.int .i64 0) (.string ⟨#[]⟩) (.slice (some ⟨w3.heap.size, 0, none⟩) 1 1)).alloc (.cells #[.string op, .int .i64 x, .string s, .slice so l.length sc] 62)).heap[w3.heap.size]? = some (.cells #[.string op, .int .i64 x, .string s, .slice so l.length sc] 62 (0, 0)) := by
        have := heap_alloc_new (set4 w3 w.heap.size (.string o) (.int .i64 0) (.string ⟨#[]⟩) (.slice (some ⟨w3.heap.size, 0, none⟩) 1 1)) (.cells #[.string op, .int .i64 x, .string s, .slice so l.length sc] 62)
        rw [set4_size] at this; exact this
      exact .mk (l := [.mk op x s l]) (RowAt.blk hnew rfl rfl (by unfold maxLen; decide) (by unfold From; omega)) (.cons op x s l [] _ ys [] (hrow.keep St) (hin.keep St) .nil)
    · go_wp2
      exact ⟨rfl, ((Mv.of_below hbA).trans hm1).trans hm2, Or.inr (Or.inr ⟨hd, j, bd, hp, hj, p, rfl, q0, q1⟩)⟩
  · go_wp2
    exact ⟨rfl, (Mv.of_below hbA).trans hm1, Or.inl ⟨hd, hj, p, rfl, q0, q1⟩⟩

set_option maxRecDepth 100000 in
set_option maxHeartbeats 400000 in
theorem prefix_un (n : Nat) (hK : Fits 261 .un n) (C : Rc) (i d : Nat) (w : World) (T : Tkl C.l) (R : Rd C i d w) (hi : i + 1 < C.l.length) (hn : C.l.length - (i + 1) ≤ n) (o : ByteArray) :
    Calls Tryz.prog 246 #[.pointer (some ⟨C.b, 0, none⟩), .string o, .func (.func 261) #[.pointer (some ⟨C.b, 0, none⟩)] #[]] w fun e w' => Mv C.b w w' ∧
      ((d = 20 ∧ Threw C i true e w') ∨ (d ≠ 20 ∧ ∃ ex j v, Parse C.l .un (i + 1) (d + 1) (.ok [ex] j) ∧ e = .returned v ∧ ExV w' (From w.heap.size) (.mk o 0 b0 [ex]) v ∧ Rd C j d w' ∧ i < j) ∨ (d ≠ 20 ∧ ∃ j bd, Parse C.l .un (i + 1) (d + 1) (.bad j bd) ∧ Threw C j bd e w')) := by
  have HK : Hid (Fits 261 .un n) := hK
  clear hK
  have hbA : Below w.heap.size w (w.alloc (.cells #[.string ⟨#[]⟩, .int .i64 0, .string ⟨#[]⟩, .slice none 0 0] 62)) := (Below.refl _ _).alloc (Nat.le_refl _) _
  have hbl := R.blt
  go_enter Tryz.func246, Tryz.ntmps246
  go_wp2_with fail
  refine (enter_any C i d _ (R.below hbA) hi).mono ?_
  rintro e w1 ⟨hm1, h1⟩
  rcases h1 with ⟨hd, rfl, R1⟩ | ⟨hd, hj, p, rfl, q0, q1⟩
  · have hs1 := hm1.size
    simp only [World.size_alloc] at hs1
    have hr1 := hm1.row (k := w.heap.size) (by omega) (heap_alloc_new w _)
    have HR1 : Hid _ := hr1
    clear hr1
    go_wp2_with fail
    refine (HK.out C (i + 1) (d + 1) _ T R1 hn).mono ?_
    rintro e w2 ⟨hm2, h2⟩
    rcases h2 with ⟨es, j, v, hp, rfl, ⟨ex, rfl, hv⟩, R2, hij⟩ | ⟨j, bd, hp, hj, p, rfl, q0, q1⟩
    · obtain ⟨op, x, s, l, so, sc, ys, rfl, rfl, hrow, hin⟩ := hv.one
      have hs2 := hm2.size
      have hr2 := alloc_row (.cells #[.string op, .int .i64 x, .string s, .slice so l.length sc] 62) (hm2.row (by omega) HR1.out)
      have hn2 := heap_alloc_new w2 (.cells #[.string op, .int .i64 x, .string s, .slice so l.length sc] 62)
      have HR2 : Hid _ := hr2
      have HN2 : Hid _ := hn2
      have hbB : Below w2.heap.size w2 (w2.alloc (.cells #[.string op, .int .i64 x, .string s, .slice so l.length sc] 62)) := (Below.refl _ _).alloc (Nat.le_refl _) _
      clear hr2 hn2
      go_wp2_with fail
      refine (leave_any C j d _ (R2.below hbB)).mono ?_
      rintro e w3 ⟨rfl, R3, hm3⟩
      have hs3 := hm3.size
      simp only [World.size_alloc] at hs3
      have hlt3 : w.heap.size < w3.heap.size := by omega
      have hne3 : w.heap.size ≠ w3.heap.size := by omega
      obtain ⟨c0, c1, c2, c3, _⟩ := blk4 (hm3.row (by omega) HN2.out)
      obtain ⟨z0, z1, z2, z3, zf⟩ := blk4 (hm3.row (by omega) HR2.out)
      go_wp2
      have hW : Below w.heap.size w3 ((set4 w3 w.heap.size (.string o) (.int .i64 0) (.string ⟨#[]⟩) (.slice (some ⟨w3.heap.size, 0, none⟩) 1 1)).alloc (.cells #[.string op, .int .i64 x, .string s, .slice so l.length sc] 62)) := (set4_below (Nat.le_refl _)).alloc (by rw [set4_size]; omega) _
      have hM : Mv C.b w w3 := (((Mv.of_below hbA).trans hm1).trans (hm2.trans (Mv.of_below hbB))).trans hm3
      have St : Stays (From w1.heap.size) (From w.heap.size) w2 ((set4 w3 w.heap.size (.string o) (.int .i64 0) (.string ⟨#[]⟩) (.slice (some ⟨w3.heap.size, 0, none⟩) 1 1)).alloc (.cells #[.string op, .int .i64 x, .string s, .slice so l.length sc] 62)) :=
        (((Stays.alloc _ (fun k hk => hk)).trans (Stays.mv (S' := From w1.heap.size) hm3 (fun k hk => ⟨by unfold From at hk; omega, hk⟩)) (by simp)).trans (set4_stays (S' := From w.heap.size) (fun k hk => by unfold From at *; omega)) (by omega)).trans (Stays.alloc _ (fun k hk => hk)) (by rw [set4_size]; omega)
      refine bodyPost_ret (v := .agg #[.string o, .int .i64 0, .string ⟨#[]⟩, .slice (some ⟨w3.heap.size, 0, none⟩) 1 1]) (by simp [results, Tryz.results246, go_sem, z0, z1, z2, z3, hlt3]) rfl ⟨hM.upon hW, Or.inr (Or.inl ⟨hd, _, j, _, hp, rfl, ?_, R.upon R3 hW, by omega⟩)⟩
      have hnew : ((set4 w3 w.heap.size (.string o) (.int .i64 0) (.string ⟨#[]⟩) (.slice (some ⟨w3.heap.size, 0, none⟩) 1 1)).alloc (.cells #[.string op, .int .i64 x, .string s, .slice so l.length sc] 62)).heap[w3.heap.size]? = some (.cells #[.string op, .int .i64 x, .string s, .slice so l.length sc] 62 (0, 0)) := by
        have := heap_alloc_new (set4 w3 w.heap.size (.string o) (.int .i64 0) (.string ⟨#[]⟩) (.slice (some ⟨w3.heap.size, 0, none⟩) 1 1)) (.cells #[.string op, .int .i64 x, .string s, .slice so l.length sc] 62)
        rw [set4_size] at this; exact this
      exact .mk (l := [.mk op x s l]) (RowAt.blk hnew rfl rfl (by unfold maxLen; decide) (by unfold From; omega)) (.cons op x s l [] _ ys [] (hrow.keep St) (hin.keep St) .nil)
    · go_wp2
      exact ⟨rfl, ((Mv.of_below hbA).trans hm1).trans hm2, Or.inr (Or.inr ⟨hd, j, bd, hp, hj, p, rfl, q0, q1⟩)⟩
  · go_wp2
    exact ⟨rfl, (Mv.of_below hbA).trans hm1, Or.inl ⟨hd, hj, p, rfl, q0, q1⟩⟩

end Go.Proofs.YtglkpgcmlbhkpabGreatDoor
