/-
  package word: bitOf, isInt, bitsOf, numberOf, Const BY CONTRACT; rows of ints that are filled.
-/
import Derived.Test.YtpiglmaojonbnaaDoorP14
namespace Go.Proofs.YtpiglmaojonbnaaDoor
open Go.RowKit Go.Maps

theorem bits_low_any (a : Int) : bits .and .i64 a 1 = a % 2 := by
  have h1 : ((BitVec.ofInt 64 a).toNat : Int) = a % 18446744073709551616 := by simp [BitVec.toNat_ofInt]; omega
  show IntKind.i64.wrap ((BitVec.ofInt 64 a &&& BitVec.ofInt 64 1).toNat : Int) = _
  have h3 : (BitVec.ofInt 64 (1 : Int)).toNat = 1 := by decide
  rw [BitVec.toNat_and, h3, Nat.and_one_is_mod, IntKind.wrap_i64]
  omega
set_option maxRecDepth 100000 in
theorem bitOf_any (n : Int) (i : Nat) (hi : i < 64) (w : World) : Calls Tryd.prog 18 #[.int .i64 n, .int .i64 i] w fun e w' => e = .returned (.int .i64 (bitI n i)) ∧ w' = w := by
  have hl := bits_low_any (n / 2 ^ i)
  have h0 : (0 : Int) ≤ (i : Int) := by omega
  have h1 : (i : Int) ≤ 64 := by omega
  have h2 : ((i : Int)).toNat = i := by omega
  go_enter Tryd.func18, Tryd.ntmps18
  go_wp2
  go_ret
  exact ⟨rfl, rfl⟩
/-- An int that is one of the language's. -/
def isB (n : Int) : Bool := decide (-128 ≤ n) && decide (n < 128)
set_option maxRecDepth 100000 in
theorem isInt_any (n : Int) (w : World) : Calls Tryd.prog 17 #[.int .i64 n] w fun e w' => e = .returned (.bool (isB n)) ∧ w' = w := by
  by_cases h : -128 ≤ n
  · have E : Hid (isB n = decide (n < 128)) := by unfold Hid isB; simp [h]
    have d : ((-128 : Int) ≤ n) = True := eq_true h
    clear h
    go_enter Tryd.func17, Tryd.ntmps17
    go_wp2
    go_ret
    exact ⟨by rw [E.out]; rfl, rfl⟩
  · have E : Hid (isB n = false) := by unfold Hid isB; simp [h]
    have d : ((-128 : Int) ≤ n) = False := eq_false h
    clear h
    go_enter Tryd.func17, Tryd.ntmps17
    go_wp2
    go_ret
    exact ⟨by rw [E.out]; rfl, rfl⟩

/-- A row of ints; what is there so far, and zeros. -/
def rowI (l : List Int) : Array Value := (l.map (Value.int .i64)).toArray
def rowP (os : List Int) (m : Nat) : List Int := os ++ List.replicate (m - os.length) 0
theorem rowI_get {l : List Int} {k : Nat} {x : Int} (h : l[k]? = some x) : (rowI l)[k]? = some (.int .i64 x) := by simp [rowI, h]
theorem rowI_set (l : List Int) (k : Nat) (x : Int) : (rowI l).setIfInBounds k (.int .i64 x) = rowI (l.set k x) := by simp [rowI, List.map_set]
theorem rowP_zero (m : Nat) : rowP [] m = List.replicate m 0 := by simp [rowP]
theorem rowP_all {os : List Int} {m : Nat} (h : os.length = m) : rowP os m = os := by simp [rowP, h]
theorem rowP_length {os : List Int} {m : Nat} (h : os.length ≤ m) : (rowP os m).length = m := by simp [rowP]; omega
theorem rowP_at {os : List Int} {m : Nat} (h : os.length < m) : (rowP os m)[os.length]? = some 0 := by
  unfold rowP
  rw [List.getElem?_append_right (Nat.le_refl _), Nat.sub_self, List.getElem?_replicate, if_pos (by omega)]
theorem rowP_set {os : List Int} {m : Nat} (h : os.length < m) (x : Int) : (rowP os m).set os.length x = rowP (os ++ [x]) m := by
  unfold rowP
  rw [List.set_append_right _ _ (Nat.le_refl _), Nat.sub_self]
  have : m - os.length = (m - (os ++ [x]).length) + 1 := by simp; omega
  rw [this, List.replicate_succ]
  simp
theorem rowP_store {w : World} {V : Nat} {os : List Int} {m : Nat} {t : TypeId} (hV : w.heap[V]? = some (.cells (rowI (rowP os m)) t (0, 0))) (h : os.length < m) (x : Int) :
    (w.setCell ⟨V, os.length, none⟩ (.int .i64 x)).heap[V]? = some (.cells (rowI (rowP (os ++ [x]) m)) t (0, 0)) := by
  rw [heap_setCell_at hV, rowI_set, rowP_set h]
theorem rowP_cell {w : World} {V : Nat} {os : List Int} {m : Nat} {t : TypeId} (hV : w.heap[V]? = some (.cells (rowI (rowP os m)) t (0, 0))) (h : os.length < m) : w.cell? ⟨V, os.length, none⟩ = some (.int .i64 0) := by
  rw [cell_of_row w V _ _ t (0, 0) hV]; exact rowI_get (rowP_at h)
theorem made_lits {w : World} {V n : Nat} (h : w.ownsRow 0 34 1 (.slice (some ⟨V, 0, none⟩) n n) n (madeCells (Value.int .i64 0).cells (n * 1)).toList) : w.heap[V]? = some (.cells (rowI (rowP [] n)) 34 (0, 0)) := by
  obtain ⟨_, h2⟩ := h
  rcases h2 with ⟨h2, _⟩ | ⟨g, cap, cur, e, _, hg, _, _, hs, ht⟩
  · cases h2
  · obtain ⟨rfl, rfl⟩ : V = g ∧ n = cap := by simpa using e
    rw [hg]
    have e1 : (madeCells (Value.int .i64 0).cells (n * 1)).toList = List.replicate n (.int .i64 0) := by rw [Nat.mul_one]; exact toList_madeCells_one _ _
    rw [e1] at ht
    have e2 : cur.toList = List.replicate n (.int .i64 0) := by rw [← ht, List.take_of_length_le (by simp [hs])]
    have : cur = rowI (rowP [] n) := by
      apply Array.toList_inj.1
      rw [e2]
      simp [rowI, rowP]
    rw [this]
theorem ints_of_row {w : World} {V : Nat} {l : List Int} {t : TypeId} {c : Nat} (hV : w.heap[V]? = some (.cells (rowI l) t (0, 0))) (hl : l.length ≤ maxLen) : IntsAt w (.slice (some ⟨V, 0, none⟩) l.length c) l :=
  ⟨hl, _, c, rfl, fun k x hk => ⟨V, 0, rfl, by rw [Nat.zero_add, cell_of_row w V _ _ t (0, 0) hV]; exact rowI_get hk⟩⟩
theorem bools_of_row {w : World} {V : Nat} {l : List Bool} {t : TypeId} {c : Nat} (hV : w.heap[V]? = some (.cells (rowB l) t (0, 0))) (hl : l.length ≤ maxLen) : BoolsAt w (.slice (some ⟨V, 0, none⟩) l.length c) l :=
  ⟨hl, _, c, rfl, fun k x hk => ⟨V, 0, rfl, by rw [Nat.zero_add, cell_of_row w V _ _ t (0, 0) hV]; exact rowB_get hk⟩⟩

/-- A number's word, its bits. -/
def wordI (n : Int) (m : Nat) : List Int := (List.range m).map (bitI n)
theorem wordI_succ (n : Int) (m : Nat) : wordI n (m + 1) = wordI n m ++ [bitI n m] := by simp [wordI, List.range_succ]
theorem wordI_length (n : Int) (m : Nat) : (wordI n m).length = m := by simp [wordI]
set_option maxRecDepth 100000 in
set_option maxHeartbeats 1000000 in
theorem const_ok (n : Int) (hn : isB n = true) (w : World) :
    Calls Tryd.prog 8 #[.int .i64 n] w fun e w' => e = .returned (.tuple #[.slice (some ⟨w.heap.size, 0, none⟩) 8 8, .nilIface]) ∧ w'.heap[w.heap.size]? = some (.cells (rowI (wordI n 8)) 34 (0, 0)) ∧ Below w.heap.size w w' := by
  obtain ⟨i0, hi0, hz0, hz1, hz2⟩ := info_parts Tryd.infoLit
  have HBY : Hid (i0.bytes * 8 ≤ 281474976710656) := by unfold Hid; rw [hz2]; omega
  have HMX : Hid (8 ≤ maxLen) := by unfold Hid maxLen; omega
  go_enter Tryd.func8, Tryd.ntmps8
  go_wp2_with (first
    | (go_at_call 17; refine (isInt_any _ _).mono ?_; rintro e w' ⟨rfl, hw⟩; have hw2 := hw.symm; subst hw2)
    | (at_make; refine wpList_make_full _ rfl _ _ 31 rfl 0 34 i0 _ 1 Tryd.underlying31 hi0 hz0 hz1 .i64 .i64 _ _ 8 rfl rfl (by simp) (by simp) HBY.out HMX.out (Nat.zero_le _) ?_; intro w1 hown1 hgr1)
    | go_in)
  have hV1 := made_lits hown1
  have HR1 : Hid (w1.heap[w.heap.size]? = some (.cells (rowI (rowP (wordI n 0) 8)) 34 (0, 0))) := hV1
  have HB1 : Hid (Below w.heap.size w w1) := ⟨hgr1.os, hgr1.tape, hgr1.output, hgr1.size, fun k hk => hgr1.block k hk (by simp)⟩
  clear hown1 hgr1 hV1 hi0 hz0 hz1 hz2 HBY HMX
  go_loopw [13] (fun t wr => ∃ j : Nat, j ≤ 8 ∧ t = .int .i64 j ∧ wr.heap[w.heap.size]? = some (.cells (rowI (rowP (wordI n j) 8)) 34 (0, 0)) ∧ Below w.heap.size w wr) (fun t _ => 8 - (intOf t).toNat)
  case atStart => exact ⟨0, Nat.zero_le _, rfl, HR1.out, HB1.out⟩
  case round =>
    obtain ⟨j, hj, rfl, hrow, hb⟩ := hrel
    have HR : Hid (wr.heap[w.heap.size]? = some (.cells (rowI (rowP (wordI n j) 8)) 34 (0, 0))) := hrow
    have HW : Hid (Below w.heap.size w wr) := hb
    by_cases hjl : j < 8
    · have hlj : (wordI n j).length < 8 := by rw [wordI_length]; exact hjl
      have c0 := rowP_cell hrow hlj
      have f0 : wr.frozen? ⟨w.heap.size, j, none⟩ = false := frozen_row hrow
      have hst := rowP_store hrow hlj (bitI n j)
      rw [wordI_length] at c0 hst
      rw [← wordI_succ] at hst
      have HST : Hid _ := hst
      have i0' : (0 : Int) ≤ (j : Int) := by omega
      have i1' : (j : Int) < 8 := by omega
      have HJ : Hid (j < 8) := hjl
      have HJ6 : Hid (j < 64) := by unfold Hid; omega
      clear hj hrow hb hjl hlj hst
      go_wp2_with (go_at_call 18; refine (bitOf_any n j HJ6.out _).mono ?_; rintro e w' ⟨rfl, hw⟩; have hw2 := hw.symm; subst hw2)
      exact ⟨⟨j + 1, HJ.out, rfl, HST.out, HW.out.setCell (Nat.le_refl _) _⟩, by have := HJ.out; simp [intOf]; omega⟩
    · obtain rfl : j = 8 := by omega
      rw [rowP_all (wordI_length n 8)] at hrow
      have HR' : Hid _ := hrow
      clear hrow hb HR
      go_wp2
      go_ret2
      exact ⟨rfl, HR'.out, HW.out⟩
set_option maxRecDepth 100000 in
theorem const_bad (n : Int) (hn : isB n = false) (w : World) (v : Value) (he : w.cell? ⟨0, 0, none⟩ = some v) :
    Calls Tryd.prog 8 #[.int .i64 n] w fun e w' => e = .returned (.tuple #[.slice none 0 0, v]) ∧ Below w.heap.size w w' := by
  go_enter Tryd.func8, Tryd.ntmps8
  go_wp2_with (go_at_call 17; refine (isInt_any _ _).mono ?_; rintro e w' ⟨rfl, hw⟩; have hw2 := hw.symm; subst hw2)
  go_region
  all_goals go_wp2
  all_goals go_ret2
  all_goals exact ⟨rfl, (Below.refl _ _).drew⟩
end Go.Proofs.YtpiglmaojonbnaaDoor
