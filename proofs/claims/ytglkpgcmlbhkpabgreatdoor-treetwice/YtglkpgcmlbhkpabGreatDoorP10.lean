/-
  package tree's READER, ITS SMALL METHODS BY THEIR CONTRACTS: next, is, isName, take, fail, expect, name, enter, leave. Conditions: the reader and its tokens lie in memory as tree.Read lays them ('Rd').
-/
import Derived.Test.YtglkpgcmlbhkpabGreatDoorP06
import Derived.Test.YtglkpgcmlbhkpabGreatDoorP09
import Derived.Test.YtglkpgcmlbhkpabGreatDoorP08
import Derived.WalkLawsBesides
namespace Go.Proofs.YtglkpgcmlbhkpabGreatDoor
open Go.RowKit
attribute [local go_sem ↓] Go.wp_at_zero Go.wp_at_succ

theorem fldK (a b c : Value) (w : World) : (Instr.field 174 (.agg #[a, b, c]) 0).run Tryz.prog w = .ok a w := by kernel_rfl
theorem fldX (a b c : Value) (w : World) : (Instr.field 174 (.agg #[a, b, c]) 1).run Tryz.prog w = .ok b w := by kernel_rfl
theorem fldP (a b c : Value) (w : World) : (Instr.field 174 (.agg #[a, b, c]) 2).run Tryz.prog w = .ok c w := by kernel_rfl
def tkp (l : List Tk) (i : Nat) : Nat := if h : i < l.length then l[i].pos else 0
/-- What a reader has that does not change: two errors, where it lies, its tokens and where they lie. -/
structure Rc where
  pT : Addr
  pB : Addr
  b : Nat
  g : Nat
  cap : Nat
  l : List Tk
/-- A reader: where it stands, how deep. -/
structure Rd (C : Rc) (i d : Nat) (w : World) : Prop where
  c0 : w.cell? ⟨C.b, 0, none⟩ = some (.slice (some ⟨C.g, 0, none⟩) C.l.length C.cap)
  c1 : w.cell? ⟨C.b, 1, none⟩ = some (.int .i64 i)
  c2 : w.cell? ⟨C.b, 2, none⟩ = some (.int .i64 d)
  fz : ∀ k, w.frozen? ⟨C.b, k, none⟩ = false
  row : ∀ k, k < C.l.length → w.cell? ⟨C.g, k * 3, none⟩ = some (.string (tkk C.l k)) ∧ w.cell? ⟨C.g, k * 3 + 1, none⟩ = some (.string (tkx C.l k)) ∧ w.cell? ⟨C.g, k * 3 + 2, none⟩ = some (.int .i64 (tkp C.l k))
  ne : C.g ≠ C.b
  lt : i < C.l.length
  len : C.l.length ≤ 6001
  dp : d ≤ 20
  hT : w.cell? ⟨1, 0, none⟩ = some (.iface 325 (.pointer (some C.pT)))
  hB : w.cell? ⟨2, 0, none⟩ = some (.iface 325 (.pointer (some C.pB)))
  nT : 1 ≠ C.b
  nB : 2 ≠ C.b
theorem Rd.blt {C : Rc} {i d : Nat} {w : World} (R : Rd C i d w) : C.b < w.heap.size := lt_of_cell R.c0
theorem Rd.go {C : Rc} {i d j e : Nat} {w w' : World} (R : Rd C i d w) (h : Mv C.b w w') (h1 : w'.cell? ⟨C.b, 1, none⟩ = some (.int .i64 j)) (h2 : w'.cell? ⟨C.b, 2, none⟩ = some (.int .i64 e)) (h0 : w'.cell? ⟨C.b, 0, none⟩ = some (.slice (some ⟨C.g, 0, none⟩) C.l.length C.cap)) (hf : ∀ k, w'.frozen? ⟨C.b, k, none⟩ = false) (hj : j < C.l.length) (he : e ≤ 20) : Rd C j e w' :=
  ⟨h0, h1, h2, hf, fun k hk => ⟨h.cell R.ne (R.row k hk).1, h.cell R.ne (R.row k hk).2.1, h.cell R.ne (R.row k hk).2.2⟩, R.ne, hj, R.len, he, h.cell R.nT R.hT, h.cell R.nB R.hB, R.nT, R.nB⟩
theorem Rd.below {C : Rc} {i d : Nat} {w w' : World} (R : Rd C i d w) (hb : Below w.heap.size w w') : Rd C i d w' :=
  R.go (Mv.of_below hb) (cell_keep hb R.c1) (cell_keep hb R.c2) (cell_keep hb R.c0) (fun k => by rw [hb.frozen (p := ⟨C.b, k, none⟩) R.blt]; exact R.fz k) R.lt R.dp
theorem addr_ne {b o p : Nat} (h : o ≠ p) : (⟨b, o, none⟩ : Addr) ≠ ⟨b, p, none⟩ := fun e => h (by injection e)
theorem Mv.setAt (b o : Nat) (w : World) (v : Value) : Mv b w (w.setCell ⟨b, o, none⟩ v) :=
  ⟨rfl, rfl, rfl, by simp [World.setCell], fun k _ hn => Below.heap_setCell _ _ _ _ (fun e => hn (by rw [e]))⟩
theorem Rd.set1 {C : Rc} {i d : Nat} {w : World} (R : Rd C i d w) {j : Nat} {x : Int} (hx : x = (j : Int)) (hj : j < C.l.length) : Rd C j d (w.setCell ⟨C.b, 1, none⟩ (.int .i64 x)) := by
  subst hx
  exact R.go (Mv.setAt _ _ _ _) (World.cell?_setCell_same _ _ _ R.c1) (by rw [World.cell?_setCell_other _ _ _ _ (addr_ne (by decide))]; exact R.c2) (by rw [World.cell?_setCell_other _ _ _ _ (addr_ne (by decide))]; exact R.c0) (fun k => by rw [World.frozen?_setCell]; exact R.fz k) hj R.dp
theorem Rd.set2 {C : Rc} {i d : Nat} {w : World} (R : Rd C i d w) {e : Nat} {x : Int} (hx : x = (e : Int)) (he : e ≤ 20) : Rd C i e (w.setCell ⟨C.b, 2, none⟩ (.int .i64 x)) := by
  subst hx
  exact R.go (Mv.setAt _ _ _ _) (by rw [World.cell?_setCell_other _ _ _ _ (addr_ne (by decide))]; exact R.c1) (World.cell?_setCell_same _ _ _ R.c2) (by rw [World.cell?_setCell_other _ _ _ _ (addr_ne (by decide))]; exact R.c0) (fun k => by rw [World.frozen?_setCell]; exact R.fz k) R.lt he

set_option maxRecDepth 100000 in
set_option maxHeartbeats 400000 in
theorem tnext_any (C : Rc) (i d : Nat) (w : World) (R : Rd C i d w) :
    Calls Tryz.prog 89 #[.pointer (some ⟨C.b, 0, none⟩)] w fun e w' => e = .returned (.agg #[.string (tkk C.l i), .string (tkx C.l i), .int .i64 (tkp C.l i)]) ∧ Below w.heap.size w w' := by
  have c0 := R.c0
  have c1 := R.c1
  obtain ⟨r0, r1, r2⟩ := R.row i R.lt
  have hlt := R.lt
  have hlen := R.len
  have i0 : (0 : Int) ≤ (i : Int) := by omega
  have i1 : (i : Int) < (C.l.length : Int) := by omega
  have hb := lt_of_cell c0
  have hg := lt_of_cell r0
  simp only at hb hg
  go_enter Tryz.func89, Tryz.ntmps89
  go_wp2
  go_region
  go_wp2
  exact bodyPost_ret (v := .agg #[.string (tkk C.l i), .string (tkx C.l i), .int .i64 (tkp C.l i)]) (by simp [results, Tryz.results89, go_sem]) rfl ⟨rfl, ((Below.refl _ _).alloc (Nat.le_refl _) _).drew⟩

set_option maxHeartbeats 400000 in
theorem sindex_any (b c : Nat) (ss : List (List UInt8)) (t : ByteArray) (w : World) (hc : ∀ k (h : k < ss.length), w.cell? ⟨b, k, none⟩ = some (.string ⟨ss[k].toArray⟩)) (hn : ss.length ≤ 1000) :
    Calls Tryz.prog 193 #[.slice (some ⟨b, 0, none⟩) ss.length c, .string t] w fun e w' => (∃ r : Int, e = .returned (.int .i64 r) ∧ decide (0 ≤ r) = amongB ss t) ∧ w' = w := by
  go_enter Tryz.func193, Tryz.ntmps193
  go_wp2
  go_loop [8] (fun t' => ∃ k : Nat, k ≤ ss.length ∧ t' = .int .i64 k ∧ Hid (∀ j (h : j < ss.length), j < k → (t.toList == ss[j]) = false)) (fun t' => ss.length - (intOf t').toNat)
  case atStart => exact ⟨0, Nat.zero_le _, rfl, fun j _ h => by omega⟩
  case round =>
    obtain ⟨k, hk, rfl, hall⟩ := hrel
    by_cases hlt : k < ss.length
    · have hck := hc k hlt
      have hi1 : (k : Int) < (ss.length : Int) := by omega
      by_cases hb : (t.toList == ss[k]) = true
      · go_wp2
        go_ret
        refine ⟨⟨k, rfl, ?_⟩, rfl⟩
        have h1 : amongB ss t = true := List.any_eq_true.2 ⟨ss[k], List.getElem_mem hlt, hb⟩
        rw [h1]; exact decide_eq_true (by omega)
      · have hb0 : (t.toList == ss[k]) = false := by
          cases h : (t.toList == ss[k]) with
          | true => exact absurd h hb
          | false => rfl
        clear hb
        go_wp2
        refine ⟨⟨k + 1, by omega, by go_num, ?_⟩, by simp [intOf]; omega⟩
        intro j hj hjk
        by_cases e : j = k
        · subst e; exact hb0
        · exact hall.out j hj (by omega)
    · obtain rfl : k = ss.length := by omega
      go_wp2
      go_ret
      refine ⟨⟨-1, rfl, ?_⟩, rfl⟩
      have h1 : amongB ss t = false := by
        rw [amongB, List.any_eq_false]
        intro x hx
        obtain ⟨j, hj, rfl⟩ := List.mem_iff_getElem.1 hx
        rw [hall.out j hj hj]
        exact Bool.false_ne_true
      rw [h1]; rfl
theorem scontains_any (b c m : Nat) (ss : List (List UInt8)) (t : ByteArray) (w : World) (hm : ss.length = m) (hc : w.heap[b]? = some (.cells (strCells ss) 9 (0, 0))) (hn : m ≤ 1000) :
    Calls Tryz.prog 150 #[.slice (some ⟨b, 0, none⟩) m c, .string t] w fun e w' => e = .returned (.bool (amongB ss t)) ∧ w' = w := by
  subst hm
  have hc' : ∀ k (h : k < ss.length), w.cell? ⟨b, k, none⟩ = some (.string ⟨ss[k].toArray⟩) := fun k h => by
    rw [cell_of_row w b k _ _ (0, 0) hc]; exact strCells_at ss k h
  clear hc
  go_enter Tryz.func150, Tryz.ntmps150
  go_wp2_with fail
  refine (sindex_any b c ss t _ hc' hn).mono ?_
  rintro e w1 ⟨⟨r, rfl, hr⟩, rfl⟩
  have HR : Hid (decide (0 ≤ r) = amongB ss t) := hr
  clear hr
  go_wp2
  go_ret
  exact ⟨ret_bool HR.out, rfl⟩

theorem txs_among (l : List Tk) (i : Nat) (xs : List (List UInt8)) : txs l i xs = amongB xs (tkx l i) := rfl
set_option maxRecDepth 100000 in
set_option maxHeartbeats 400000 in
theorem is_any (C : Rc) (i d : Nat) (w : World) (R : Rd C i d w) (q m c : Nat) (xs : List (List UInt8)) (hq : w.heap[q]? = some (.cells (strCells xs) 9 (0, 0))) (hm : xs.length = m) (hn : m ≤ 1000) :
    Calls Tryz.prog 90 #[.pointer (some ⟨C.b, 0, none⟩), .slice (some ⟨q, 0, none⟩) m c] w fun e w' => e = .returned (.bool (txs C.l i xs)) ∧ Below w.heap.size w w' := by
  have hfd := fldX
  go_enter Tryz.func90, Tryz.ntmps90
  go_wp2_with fail
  refine (tnext_any C i d _ R).mono ?_
  rintro e w1 ⟨rfl, hb⟩
  go_wp2_with fail
  refine (scontains_any q c m xs _ _ hm (row_keep hb hq) hn).mono ?_
  rintro e w2 ⟨rfl, rfl⟩
  go_wp2
  go_ret
  exact ⟨rfl, hb⟩
set_option maxRecDepth 100000 in
set_option maxHeartbeats 400000 in
theorem isName_any (C : Rc) (i d : Nat) (w : World) (R : Rd C i d w) :
    Calls Tryz.prog 195 #[.pointer (some ⟨C.b, 0, none⟩)] w fun e w' => e = .returned (.bool (isName C.l i)) ∧ Below w.heap.size w w' := by
  have hfd := fldK
  go_enter Tryz.func195, Tryz.ntmps195
  go_wp2_with fail
  refine (tnext_any C i d _ R).mono ?_
  rintro e w1 ⟨rfl, hb⟩
  go_wp2
  go_ret
  exact ⟨rfl, hb⟩

set_option maxHeartbeats 400000 in
theorem take_any (C : Rc) (i d : Nat) (w : World) (R : Rd C i d w) (hi : i + 1 < C.l.length) :
    Calls Tryz.prog 194 #[.pointer (some ⟨C.b, 0, none⟩)] w fun e w' => e = .returned (.string (tkx C.l i)) ∧ Rd C (i + 1) d w' ∧ Mv C.b w w' := by
  have hlen := R.len
  have hbl := R.blt
  go_enter Tryz.func194, Tryz.ntmps194
  go_wp2_with fail
  refine (tnext_any C i d _ R).mono ?_
  rintro e w1 ⟨rfl, hb⟩
  have Rb := R.below hb
  have c1 := Rb.c1
  have fz := Rb.fz 1
  have hbl1 := Rb.blt
  go_wp2
  go_ret
  have R2 := Rb.set1 (j := i + 1) (x := (i : Int) + 1) (by omega) hi
  exact ⟨rfl, R2.below ((Below.refl _ _).alloc (Nat.le_refl _) _), ((Mv.of_below hb).trans (Mv.setAt _ _ _ _)).trans (Mv.of_below ((Below.refl _ _).alloc (Nat.le_refl _) _))⟩

/-- It was given up: at this token, by this error. -/
def Threw (C : Rc) (j : Nat) (bd : Bool) (e : Ending) (w' : World) : Prop :=
  j < C.l.length ∧ ∃ p, e = .panicked [{ v := .iface 165 (.agg #[.iface 111 (.pointer (some ⟨p, 0, none⟩))]), recovered := false }] ∧ w'.cell? ⟨p, 0, none⟩ = some (.int .i64 (tkp C.l j)) ∧ w'.cell? ⟨p, 0 + 1, none⟩ = some (.iface 325 (.pointer (some (if bd then C.pB else C.pT))))

set_option maxRecDepth 100000 in
set_option maxHeartbeats 400000 in
theorem fail_any (C : Rc) (i d : Nat) (w : World) (R : Rd C i d w) (ev : Addr) (bd : Bool) (hev : ev = if bd then C.pB else C.pT) :
    Calls Tryz.prog 91 #[.pointer (some ⟨C.b, 0, none⟩), .iface 325 (.pointer (some ev))] w fun e w' => Threw C i bd e w' ∧ Below w.heap.size w w' := by
  have hfd := fldP
  have HE : Hid (ev = if bd then C.pB else C.pT) := hev
  clear hev
  go_enter Tryz.func91, Tryz.ntmps91
  go_wp2_with fail
  refine (tnext_any C i d _ R).mono ?_
  rintro e w1 ⟨rfl, hb⟩
  go_wp2
  have hs := hb.size
  refine ⟨rfl, ⟨R.lt, w1.heap.size, rfl, ?_, ?_⟩, hb.alloc (by omega) _⟩
  · rw [World.cell?_alloc_at _ _ _ _ rfl]; rfl
  · rw [World.cell?_alloc_at _ _ _ _ rfl, ← HE.out]; rfl

set_option maxRecDepth 100000 in
set_option maxHeartbeats 400000 in
theorem leave_any (C : Rc) (i d : Nat) (w : World) (R : Rd C i (d + 1) w) :
    Calls Tryz.prog 221 #[.pointer (some ⟨C.b, 0, none⟩)] w fun e w' => e = .returned (.tuple #[]) ∧ Rd C i d w' ∧ Mv C.b w w' := by
  have c2 := R.c2
  have fz := R.fz 2
  have hd := R.dp
  go_enter Tryz.func221, Tryz.ntmps221
  go_wp2
  go_end0
  exact ⟨rfl, R.set2 (by omega) (by omega), Mv.setAt _ _ _ _⟩

theorem txs_one (l : List Tk) (i : Nat) (x : List UInt8) : txs l i [x] = tx l i x := by simp [txs]
set_option maxRecDepth 100000 in
set_option maxHeartbeats 400000 in
theorem expect_any (C : Rc) (i d : Nat) (w : World) (R : Rd C i d w) (T : Tkl C.l) (x : List UInt8) (hx : x ≠ []) :
    Calls Tryz.prog 151 #[.pointer (some ⟨C.b, 0, none⟩), .string ⟨x.toArray⟩] w fun e w' => Mv C.b w w' ∧ ((tx C.l i x = true ∧ e = .returned (.tuple #[]) ∧ Rd C (i + 1) d w') ∨ (tx C.l i x = false ∧ Threw C i false e w')) := by
  have hbA : Below w.heap.size w (w.alloc (.cells #[.string ⟨x.toArray⟩] 9)) := (Below.refl _ _).alloc (Nat.le_refl _) _
  have hq : (w.alloc (.cells #[.string ⟨x.toArray⟩] 9)).heap[w.heap.size]? = some (.cells (strCells [x]) 9 (0, 0)) := heap_alloc_new w _
  have hRA := R.below hbA
  have HQ : Hid _ := hq
  clear hq
  by_cases h : txs C.l i [x] = true
  · have hi : i + 1 < C.l.length := T.next_txs R.lt (by simpa using Ne.symm hx) h
    go_enter Tryz.func151, Tryz.ntmps151
    go_wp2_with fail
    refine (is_any C i d _ hRA w.heap.size 1 1 [x] HQ.out rfl (by decide)).mono ?_
    rintro e w1 ⟨rfl, hb⟩
    go_wp2_with fail
    refine (take_any C i d _ (hRA.below hb) hi).mono ?_
    rintro e w2 ⟨rfl, R2, hm⟩
    go_wp2
    go_end0
    exact ⟨(Mv.of_below hbA).trans ((Mv.of_below hb).trans hm), Or.inl ⟨by rw [← txs_one]; exact h, rfl, R2⟩⟩
  · have h' : txs C.l i [x] = false := by simpa using h
    clear h
    have hT := (hRA).hT
    go_enter Tryz.func151, Tryz.ntmps151
    go_wp2_with fail
    refine (is_any C i d _ hRA w.heap.size 1 1 [x] HQ.out rfl (by decide)).mono ?_
    rintro e w1 ⟨rfl, hb⟩
    have hT1 := (hRA.below hb).hT
    go_wp2_with fail
    refine (fail_any C i d _ (hRA.below hb) _ false rfl).mono ?_
    rintro e w2 ⟨⟨hj, p, rfl, q0, q1⟩, hb2⟩
    go_wp2
    exact ⟨rfl, (Mv.of_below hbA).trans ((Mv.of_below hb).trans (Mv.of_below hb2)), Or.inr ⟨by rw [← txs_one]; exact h', hj, p, rfl, q0, q1⟩⟩

set_option maxRecDepth 100000 in
set_option maxHeartbeats 400000 in
theorem name_any (C : Rc) (i d : Nat) (w : World) (R : Rd C i d w) (T : Tkl C.l) :
    Calls Tryz.prog 152 #[.pointer (some ⟨C.b, 0, none⟩)] w fun e w' => Mv C.b w w' ∧ ((isName C.l i = true ∧ e = .returned (.string (tkx C.l i)) ∧ Rd C (i + 1) d w') ∨ (isName C.l i = false ∧ Threw C i false e w')) := by
  by_cases h : isName C.l i = true
  · have hi : i + 1 < C.l.length := T.next_name R.lt h
    go_enter Tryz.func152, Tryz.ntmps152
    go_wp2_with fail
    refine (isName_any C i d _ R).mono ?_
    rintro e w1 ⟨rfl, hb⟩
    go_wp2_with fail
    refine (take_any C i d _ (R.below hb) hi).mono ?_
    rintro e w2 ⟨rfl, R2, hm⟩
    go_wp2
    go_ret
    exact ⟨(Mv.of_below hb).trans hm, Or.inl ⟨h, rfl, R2⟩⟩
  · have h' : isName C.l i = false := by simpa using h
    clear h
    go_enter Tryz.func152, Tryz.ntmps152
    go_wp2_with fail
    refine (isName_any C i d _ R).mono ?_
    rintro e w1 ⟨rfl, hb⟩
    have hT1 := (R.below hb).hT
    go_wp2_with fail
    refine (fail_any C i d _ (R.below hb) _ false rfl).mono ?_
    rintro e w2 ⟨⟨hj, p, rfl, q0, q1⟩, hb2⟩
    go_wp2
    exact ⟨rfl, (Mv.of_below hb).trans (Mv.of_below hb2), Or.inr ⟨h', hj, p, rfl, q0, q1⟩⟩

set_option maxRecDepth 100000 in
set_option maxHeartbeats 400000 in
theorem enter_any (C : Rc) (i d : Nat) (w : World) (R : Rd C i d w) (hi : i + 1 < C.l.length) :
    Calls Tryz.prog 220 #[.pointer (some ⟨C.b, 0, none⟩)] w fun e w' => Mv C.b w w' ∧ ((d ≠ 20 ∧ e = .returned (.string (tkx C.l i)) ∧ Rd C (i + 1) (d + 1) w') ∨ (d = 20 ∧ Threw C i true e w')) := by
  have c2 := R.c2
  have hd := R.dp
  by_cases h : d = 20
  · subst h
    have hB := R.hB
    go_enter Tryz.func220, Tryz.ntmps220
    go_wp2_with fail
    refine (fail_any C i 20 _ R _ true rfl).mono ?_
    rintro e w2 ⟨⟨hj, p, rfl, q0, q1⟩, hb2⟩
    go_wp2
    exact ⟨rfl, Mv.of_below hb2, Or.inr ⟨trivial, hj, p, rfl, q0, q1⟩⟩
  · have hd0 : ((d : Int) == 20) = false := by simp; omega
    have fz := R.fz 2
    go_enter Tryz.func220, Tryz.ntmps220
    go_wp2_with fail
    have R1 := R.set2 (e := d + 1) (x := (d : Int) + 1) (by omega) (by omega)
    refine (take_any C i (d + 1) _ R1 hi).mono ?_
    rintro e w2 ⟨rfl, R2, hm⟩
    go_wp2
    go_ret
    exact ⟨(Mv.setAt _ _ _ _).trans hm, Or.inl ⟨h, rfl, R2⟩⟩
end Go.Proofs.YtglkpgcmlbhkpabGreatDoor

/-
  STEPS OF THE GRAMMAR, IN PLAIN MATHEMATICS: by which what is read is put together.
-/
namespace Go.Proofs.YtglkpgcmlbhkpabGreatDoor

section
variable {l : List Tk} {r : Res} {i d j : Nat} {a b : List Ex}
theorem Run.ifT {c : Bool} {x y : Act} (h : c = true) (p : Run l x r) : Run l (if c then x else y) r := by rw [if_pos h]; exact p
theorem Run.ifF {c : Bool} {x y : Act} (h : c = false) (p : Run l y r) : Run l (if c then x else y) r := by rw [if_neg (by rw [h]; exact Bool.false_ne_true)]; exact p
theorem Run.down {k : Act} (h : d ≠ 20) (p : Run l k r) : Run l (downA i d k) r := by rw [downA, if_neg h]; exact p
theorem Run.deep {k : Act} (h : d = 20) : Run l (downA i d k) (.bad i true) := by rw [downA, if_pos h]; exact .ret _
theorem Run.exp {x : List UInt8} {k : Nat → Act} (h : tx l i x = true) (p : Run l (k (i + 1)) r) : Run l (expA l i x k) r := by rw [expA, if_pos h]; exact p
theorem Run.unexp {x : List UInt8} {k : Nat → Act} (h : tx l i x = false) : Run l (expA l i x k) (.bad i false) := by rw [expA, if_neg (by rw [h]; exact Bool.false_ne_true)]; exact .ret _
theorem Run.nam {k : Nat → Act} (h : isName l i = true) (p : Run l (k (i + 1)) r) : Run l (nameA l i k) r := by rw [nameA, if_pos h]; exact p
theorem Run.unnam {k : Nat → Act} (h : isName l i = false) : Run l (nameA l i k) (.bad i false) := by rw [nameA, if_neg (by rw [h]; exact Bool.false_ne_true)]; exact .ret _
theorem Run.then {c : Cd} {k : List Ex → Nat → Act} (h : Parse l c i d (.ok a j)) (p : Run l (k a j) r) : Run l (.call c i d k) r := .ok c i d k a j r h p
theorem Run.stop {c : Cd} {k : List Ex → Nat → Act} {bd : Bool} (h : Parse l c i d (.bad j bd)) : Run l (.call c i d k) (.bad j bd) := .bad c i d k j bd h
theorem Run.done : Run l (retA a j) (.ok a j) := .ret _
theorem Parse.left (v : Lv) (h : Parse l v.part i d (.ok a j)) (p : Parse l (.loop v a) j d r) : Parse l (.left v) i d r := Run.then h (Run.tail p)
theorem Parse.loopMore (v : Lv) (h : txs l i v.ops = true) (p : Parse l v.part (i + 1) d (.ok b j)) (q : Parse l (.loop v [.mk (tkx l i) 0 b0 (a ++ b)]) j d r) : Parse l (.loop v a) i d r := Run.ifT h (Run.then p (Run.tail q))
theorem Parse.loopBad (v : Lv) {bd : Bool} (h : txs l i v.ops = true) (p : Parse l v.part (i + 1) d (.bad j bd)) : Parse l (.loop v a) i d (.bad j bd) := Run.ifT h (Run.stop p)
theorem Parse.loopStop (v : Lv) (h : txs l i v.ops = false) : Parse l (.loop v a) i d (.ok a i) := Run.ifF h Run.done
theorem Parse.notMore (h : tx l i tNot = true) (hd : d ≠ 20) (p : Parse l .not (i + 1) (d + 1) (.ok a j)) : Parse l .not i d (.ok [.mk ⟨tNot.toArray⟩ 0 b0 a] j) := Run.ifT h (Run.down hd (Run.then p Run.done))
theorem Parse.ifMore {c : List Ex} {i1 i2 i3 : Nat} (h : tx l i tIf = true) (hd : d ≠ 20) (p : Parse l .term (i + 1) (d + 1) (.ok a i1)) (h1 : tx l i1 tThen = true) (q : Parse l .term (i1 + 1) (d + 1) (.ok b i2)) (h2 : tx l i2 tElse = true) (s : Parse l .term (i2 + 1) (d + 1) (.ok c i3)) : Parse l .term i d (.ok [.mk (tkx l i) 0 b0 (a ++ b ++ c)] i3) :=
  Run.ifT h (Run.down hd (Run.then p (Run.exp h1 (Run.then q (Run.exp h2 (Run.then s Run.done))))))
end
end Go.Proofs.YtglkpgcmlbhkpabGreatDoor
