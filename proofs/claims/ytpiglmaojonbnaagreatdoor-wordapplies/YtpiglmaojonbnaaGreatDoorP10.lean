/-
  package word: bitOf, isInt, bitsOf, numberOf, Const BY CONTRACT; rows of ints that are filled.
-/
import Derived.Test.YtpiglmaojonbnaaGreatDoorP09
import Derived.Deep.RegionHeld3
namespace Go.Proofs.YtpiglmaojonbnaaGreatDoor
open Go.RowKit Go.Maps

theorem bits_low_any (a : Int) : bits .and .i64 a 1 = a % 2 := by
  have h1 : ((BitVec.ofInt 64 a).toNat : Int) = a % 18446744073709551616 := by simp [BitVec.toNat_ofInt]; omega
  show IntKind.i64.wrap ((BitVec.ofInt 64 a &&& BitVec.ofInt 64 1).toNat : Int) = _
  have h3 : (BitVec.ofInt 64 (1 : Int)).toNat = 1 := by decide
  rw [BitVec.toNat_and, h3, Nat.and_one_is_mod, IntKind.wrap_i64]
  omega
set_option maxRecDepth 100000 in
theorem bitOf_any (n : Int) (i : Nat) (hi : i < 64) (w : World) : Calls Tryz.prog 31 #[.int .i64 n, .int .i64 i] w fun e w' => e = .returned (.int .i64 (bitI n i)) ∧ w' = w := by
  have hl := bits_low_any (n / 2 ^ i)
  have h0 : (0 : Int) ≤ (i : Int) := by omega
  have h1 : (i : Int) ≤ 64 := by omega
  have h2 : ((i : Int)).toNat = i := by omega
  go_enter Tryz.func31, Tryz.ntmps31
  go_wp2
  go_ret
  exact ⟨rfl, rfl⟩
/-- An int that is one of the language's. -/
def isB (n : Int) : Bool := decide (-128 ≤ n) && decide (n < 128)
set_option maxRecDepth 100000 in
theorem isInt_any (n : Int) (w : World) : Calls Tryz.prog 16 #[.int .i64 n] w fun e w' => e = .returned (.bool (isB n)) ∧ w' = w := by
  by_cases h : -128 ≤ n
  · have E : Hid (isB n = decide (n < 128)) := by unfold Hid isB; simp [h]
    have d : ((-128 : Int) ≤ n) = True := eq_true h
    clear h
    go_enter Tryz.func16, Tryz.ntmps16
    go_wp2
    go_ret
    exact ⟨by rw [E.out]; rfl, rfl⟩
  · have E : Hid (isB n = false) := by unfold Hid isB; simp [h]
    have d : ((-128 : Int) ≤ n) = False := eq_false h
    clear h
    go_enter Tryz.func16, Tryz.ntmps16
    go_wp2
    go_ret
    exact ⟨by rw [E.out]; rfl, rfl⟩

/-- A row of ints; what is there so far, and zeros. -/
def rowI (l : List Int) : Array Value := (l.map (Value.int .i64)).toArray
def rowP (os : List Int) (m : Nat) : List Int := os ++ List.replicate (m - os.length) 0
theorem rowI_get {l : List Int} {k : Nat} {x : Int} (h : l[k]? = some x) : (rowI l)[k]? = some (.int .i64 x) := by simp [rowI, h]
theorem rowI_set (l : List Int) (k : Nat) (x : Int) : (rowI l).setIfInBounds k (.int .i64 x) = rowI (l.set k x) := by simp [rowI, List.map_set]
theorem rowP_zero (m : Nat) : rowP [] m = List.replicate m 0 := by simp [rowP]
theorem rowP_all {os : List Int} {m : Nat} (h : os.length = m) : rowP os m = os := by simp [rowP, h]
theorem rowP_length {os : List Int} {m : Nat} (h : os.length ≤ m) : (rowP os m).length = m := by simp [rowP]; omega
theorem rowP_at {os : List Int} {m : Nat} (h : os.length < m) : (rowP os m)[os.length]? = some 0 := by
  unfold rowP
  rw [List.getElem?_append_right (Nat.le_refl _), Nat.sub_self, List.getElem?_replicate, if_pos (by omega)]
theorem rowP_set {os : List Int} {m : Nat} (h : os.length < m) (x : Int) : (rowP os m).set os.length x = rowP (os ++ [x]) m := by
  unfold rowP
  rw [List.set_append_right _ _ (Nat.le_refl _), Nat.sub_self]
  have : m - os.length = (m - (os ++ [x]).length) + 1 := by simp; omega
  rw [this, List.replicate_succ]
  simp
theorem rowP_store {w : World} {V : Nat} {os : List Int} {m : Nat} {t : TypeId} (hV : w.heap[V]? = some (.cells (rowI (rowP os m)) t (0, 0))) (h : os.length < m) (x : Int) :
    (w.setCell ⟨V, os.length, none⟩ (.int .i64 x)).heap[V]? = some (.cells (rowI (rowP (os ++ [x]) m)) t (0, 0)) := by
  rw [heap_setCell_at hV, rowI_set, rowP_set h]
theorem rowP_cell {w : World} {V : Nat} {os : List Int} {m : Nat} {t : TypeId} (hV : w.heap[V]? = some (.cells (rowI (rowP os m)) t (0, 0))) (h : os.length < m) : w.cell? ⟨V, os.length, none⟩ = some (.int .i64 0) := by
  rw [cell_of_row w V _ _ t (0, 0) hV]; exact rowI_get (rowP_at h)
theorem made_lits {w : World} {V n : Nat} (h : w.ownsRow 0 39 1 (.slice (some ⟨V, 0, none⟩) n n) n (madeCells (Value.int .i64 0).cells (n * 1)).toList) : w.heap[V]? = some (.cells (rowI (rowP [] n)) 39 (0, 0)) := by
  obtain ⟨_, h2⟩ := h
  rcases h2 with ⟨h2, _⟩ | ⟨g, cap, cur, e, _, hg, _, _, hs, ht⟩
  · cases h2
  · obtain ⟨rfl, rfl⟩ : V = g ∧ n = cap := by simpa using e
    rw [hg]
    have e1 : (madeCells (Value.int .i64 0).cells (n * 1)).toList = List.replicate n (.int .i64 0) := by rw [Nat.mul_one]; exact toList_madeCells_one _ _
    rw [e1] at ht
    have e2 : cur.toList = List.replicate n (.int .i64 0) := by rw [← ht, List.take_of_length_le (by simp [hs])]
    have : cur = rowI (rowP [] n) := by
      apply Array.toList_inj.1
      rw [e2]
      simp [rowI, rowP]
    rw [this]
theorem ints_of_row {w : World} {V : Nat} {l : List Int} {t : TypeId} {c : Nat} (hV : w.heap[V]? = some (.cells (rowI l) t (0, 0))) (hl : l.length ≤ maxLen) : IntsAt w (.slice (some ⟨V, 0, none⟩) l.length c) l :=
  ⟨hl, _, c, rfl, fun k x hk => ⟨V, 0, rfl, by rw [Nat.zero_add, cell_of_row w V _ _ t (0, 0) hV]; exact rowI_get hk⟩⟩
theorem bools_of_row {w : World} {V : Nat} {l : List Bool} {t : TypeId} {c : Nat} (hV : w.heap[V]? = some (.cells (rowB l) t (0, 0))) (hl : l.length ≤ maxLen) : BoolsAt w (.slice (some ⟨V, 0, none⟩) l.length c) l :=
  ⟨hl, _, c, rfl, fun k x hk => ⟨V, 0, rfl, by rw [Nat.zero_add, cell_of_row w V _ _ t (0, 0) hV]; exact rowB_get hk⟩⟩

/-- A number's word, its bits. -/
def wordI (n : Int) (m : Nat) : List Int := (List.range m).map (bitI n)
theorem wordI_succ (n : Int) (m : Nat) : wordI n (m + 1) = wordI n m ++ [bitI n m] := by simp [wordI, List.range_succ]
theorem wordI_length (n : Int) (m : Nat) : (wordI n m).length = m := by simp [wordI]
set_option maxRecDepth 100000 in
set_option maxHeartbeats 1000000 in
theorem const_ok (n : Int) (hn : isB n = true) (w : World) :
    Calls Tryz.prog 14 #[.int .i64 n] w fun e w' => e = .returned (.tuple #[.slice (some ⟨w.heap.size, 0, none⟩) 8 8, .nilIface]) ∧ w'.heap[w.heap.size]? = some (.cells (rowI (wordI n 8)) 39 (0, 0)) ∧ Below w.heap.size w w' := by
  obtain ⟨i0, hi0, hz0, hz1, hz2⟩ := info_parts Tryz.infoLit
  have HBY : Hid (i0.bytes * 8 ≤ 281474976710656) := by unfold Hid; rw [hz2]; omega
  have HMX : Hid (8 ≤ maxLen) := by unfold Hid maxLen; omega
  go_enter Tryz.func14, Tryz.ntmps14
  go_wp2_with (first
    | (go_at_call 16; refine (isInt_any _ _).mono ?_; rintro e w' ⟨rfl, hw⟩; have hw2 := hw.symm; subst hw2)
    | (at_make; refine wpList_make_full _ rfl _ _ 38 rfl 0 39 i0 _ 1 Tryz.underlying38 hi0 hz0 hz1 .i64 .i64 _ _ 8 rfl rfl (by simp) (by simp) HBY.out HMX.out (Nat.zero_le _) ?_; intro w1 hown1 hgr1)
    | go_in)
  have hV1 := made_lits hown1
  have HR1 : Hid (w1.heap[w.heap.size]? = some (.cells (rowI (rowP (wordI n 0) 8)) 39 (0, 0))) := hV1
  have HB1 : Hid (Below w.heap.size w w1) := ⟨hgr1.os, hgr1.tape, hgr1.output, hgr1.size, fun k hk => hgr1.block k hk (by simp)⟩
  clear hown1 hgr1 hV1 hi0 hz0 hz1 hz2 HBY HMX
  go_loopw [13] (fun t wr => ∃ j : Nat, j ≤ 8 ∧ t = .int .i64 j ∧ wr.heap[w.heap.size]? = some (.cells (rowI (rowP (wordI n j) 8)) 39 (0, 0)) ∧ Below w.heap.size w wr) (fun t _ => 8 - (intOf t).toNat)
  case atStart => exact ⟨0, Nat.zero_le _, rfl, HR1.out, HB1.out⟩
  case round =>
    obtain ⟨j, hj, rfl, hrow, hb⟩ := hrel
    have HR : Hid (wr.heap[w.heap.size]? = some (.cells (rowI (rowP (wordI n j) 8)) 39 (0, 0))) := hrow
    have HW : Hid (Below w.heap.size w wr) := hb
    by_cases hjl : j < 8
    · have hlj : (wordI n j).length < 8 := by rw [wordI_length]; exact hjl
      have c0 := rowP_cell hrow hlj
      have f0 : wr.frozen? ⟨w.heap.size, j, none⟩ = false := frozen_row hrow
      have hst := rowP_store hrow hlj (bitI n j)
      rw [wordI_length] at c0 hst
      rw [← wordI_succ] at hst
      have HST : Hid _ := hst
      have i0' : (0 : Int) ≤ (j : Int) := by omega
      have i1' : (j : Int) < 8 := by omega
      have HJ : Hid (j < 8) := hjl
      have HJ6 : Hid (j < 64) := by unfold Hid; omega
      clear hj hrow hb hjl hlj hst
      go_wp2_with (go_at_call 31; refine (bitOf_any n j HJ6.out _).mono ?_; rintro e w' ⟨rfl, hw⟩; have hw2 := hw.symm; subst hw2)
      exact ⟨⟨j + 1, HJ.out, rfl, HST.out, HW.out.setCell (Nat.le_refl _) _⟩, by have := HJ.out; simp [intOf]; omega⟩
    · obtain rfl : j = 8 := by omega
      rw [rowP_all (wordI_length n 8)] at hrow
      have HR' : Hid _ := hrow
      clear hrow hb HR
      go_wp2
      go_ret2
      exact ⟨rfl, HR'.out, HW.out⟩
set_option maxRecDepth 100000 in
theorem const_bad (n : Int) (hn : isB n = false) (w : World) (v : Value) (he : w.cell? ⟨2, 0, none⟩ = some v) :
    Calls Tryz.prog 14 #[.int .i64 n] w fun e w' => e = .returned (.tuple #[.slice none 0 0, v]) ∧ Below w.heap.size w w' := by
  go_enter Tryz.func14, Tryz.ntmps14
  go_wp2_with (go_at_call 16; refine (isInt_any _ _).mono ?_; rintro e w' ⟨rfl, hw⟩; have hw2 := hw.symm; subst hw2)
  go_region
  all_goals go_wp2
  all_goals go_ret2
  all_goals exact ⟨rfl, (Below.refl _ _).drew⟩
end Go.Proofs.YtpiglmaojonbnaaGreatDoor

/-
  package word: a maker's and, or, xor BY CONTRACT: what they make comes to what it must.
-/
namespace Go.Proofs.YtpiglmaojonbnaaGreatDoor
open Go.RowKit Go.Maps

/-- A literal was made: with so many gates more at most; what it comes to. -/
structure Mad (gs gs' : List (Int × Int)) (k : Nat) (x : Int) (f : List Bool → Bool) : Prop where
  ext : Ext gs gs'
  len : gs'.length ≤ gs.length + k
  has : HasL gs' x
  val : ∀ inp, valL gs' inp x = f inp
theorem Mad.and {gs : List (Int × Int)} (h : Gs gs) {a b : Int} (ha : HasL gs a) (hb : HasL gs b) : Mad gs (andG gs a b) 1 (andL gs a b) (fun inp => valL gs inp a && valL gs inp b) :=
  ⟨andG_ext _ _ _, (andG_length gs a b).2, andL_has ha hb, fun inp => val_and h inp ha hb⟩
theorem Mad.or {gs : List (Int × Int)} (h : Gs gs) {a b : Int} (ha : HasL gs a) (hb : HasL gs b) : Mad gs (orG gs a b) 1 (orL gs a b) (fun inp => valL gs inp a || valL gs inp b) :=
  ⟨orG_ext _ _ _, (orG_length gs a b).2, orL_has ha hb, fun inp => val_or h inp ha hb⟩
theorem Mad.ite {gs : List (Int × Int)} (h : Gs gs) {c a b : Int} (hc : HasL gs c) (ha : HasL gs a) (hb : HasL gs b) : Mad gs (ifG gs c a b) 3 (ifL gs c a b) (fun inp => if valL gs inp c = true then valL gs inp a else valL gs inp b) := by
  obtain ⟨e, v⟩ := either_val h hc ha hc.turn hb
  refine ⟨e, (eitherG_length gs c a (turnL c) b).2, either_has hc ha hc.turn hb, fun inp => ?_⟩
  show valL (eitherG _ _ _ _ _) inp (eitherL _ _ _ _ _) = _
  rw [v inp, val_turn]
  cases valL gs inp c <;> simp
theorem Mad.xorn {gs : List (Int × Int)} (h : Gs gs) {a b : Int} (ha : HasL gs a) (hb : HasL gs b) : Mad gs (xorG gs a (turnL b)) 3 (turnL (xorL gs a (turnL b))) (fun inp => valL gs inp a ^^ valL gs inp b) := by
  obtain ⟨e, v⟩ := either_val h ha hb.turn.turn ha.turn hb.turn
  refine ⟨e, (eitherG_length gs a (turnL (turnL b)) (turnL a) (turnL b)).2, (either_has ha hb.turn.turn ha.turn hb.turn).turn, fun inp => ?_⟩
  show valL (eitherG _ _ _ _ _) inp (turnL (eitherL _ _ _ _ _)) = _
  rw [val_turn, v inp]
  simp only [val_turn]
  cases valL gs inp a <;> cases valL gs inp b <;> rfl
theorem Mvd.alloc {F F' : Nat → Prop} {w w' : World} (h : Mvd F F' w w') (o : Obj) : Mvd F F' w (w'.alloc o) :=
  h.trans (Mvd.of_below ((Below.refl _ _).alloc (Nat.le_refl _) _))
theorem Mvd.set {F F' : Nat → Prop} {w w' : World} (h : Mvd F F' w w') {V i : Nat} (hV : w.heap.size ≤ V) (u : Value) : Mvd F F' w (w'.setCell ⟨V, i, none⟩ u) :=
  ⟨h.os, h.tape, h.output, by rw [size_setCell]; exact h.size, fun k hk hn => by rw [Below.heap_setCell _ _ _ _ (fun e => by have : k = V := e; omega)]; exact h.block k hk hn, fun k hk => by rw [size_setCell]; exact h.more k hk⟩
theorem GrAt.set {G : Nat} {gs : List (Int × Int)} {ins : Nat} {F : Nat → Prop} {w : World} (h : GrAt G gs ins F w) {V : Nat} (hV : ¬ F V) (i : Nat) (u : Value) : GrAt G gs ins F (w.setCell ⟨V, i, none⟩ u) :=
  h.keep (fun k hk => Below.heap_setCell _ _ _ _ (fun e => hV (by have e' : k = V := e; rw [← e']; exact hk))) (fun _ hk => hk) (fun k hk => by rw [size_setCell]; exact h.2.2.1 k hk)
/-- A block that is none of the graph's is as it was. -/
theorem Mvd.rowKept {F F' : Nat → Prop} {w w' : World} (h : Mvd F F' w w') {k : Nat} {o : Obj} (hk : w.heap[k]? = some o) (hn : ¬ F k) : w'.heap[k]? = some o ∧ ¬ F' k := by
  have hl := (Array.getElem?_eq_some_iff.1 hk).1
  refine ⟨by rw [h.block k hl hn]; exact hk, fun hf => ?_⟩
  rcases h.more k hf with h1 | h1
  · exact hn h1
  · omega
theorem Mvd.cell {F F' : Nat → Prop} {w w' : World} (h : Mvd F F' w w') {p : Addr} {v : Value} (hc : w.cell? p = some v) (hn : ¬ F p.block) : w'.cell? p = some v ∧ ¬ F' p.block := by
  have hl : p.block < w.heap.size := by
    rcases Nat.lt_or_ge p.block w.heap.size with h | h
    · exact h
    · simp [World.cell?, Array.getElem?_eq_none h] at hc
  have e : w'.cell? p = w.cell? p := by simp only [World.cell?, h.block _ hl hn]
  refine ⟨by rw [e]; exact hc, fun hf => ?_⟩
  rcases h.more _ hf with h1 | h1
  · exact hn h1
  · omega
theorem Mvd.undrew {F F' : Nat → Prop} {w w' : World} (h : Mvd F F' w.drew w') : Mvd F F' w w' := ⟨h.os, h.tape, h.output, h.size, h.block, h.more⟩
set_option maxRecDepth 100000 in
theorem made_any (x : Int) (w : World) : Calls Tryz.prog 55 #[.int .i64 x, .nilIface] w fun e w' => e = .returned (.int .i64 x) ∧ w' = w := by
  go_enter Tryz.func55, Tryz.ntmps55
  go_wp2
  go_ret
  exact ⟨rfl, rfl⟩
set_option maxRecDepth 100000 in
theorem mand_any {G : Nat} {gs : List (Int × Int)} {ins : Nat} {F : Nat → Prop} {w : World} (h : GrAt G gs ins F w) (hl : gs.length < 89000) (a b : Int) (ha : HasL gs a) (hb : HasL gs b) :
    Calls Tryz.prog 36 #[.agg #[.pointer (some ⟨G, 0, none⟩)], .int .i64 a, .int .i64 b] w fun e w' => ∃ x gs' F', e = .returned (.int .i64 x) ∧ GrAt G gs' ins F' w' ∧ Mvd F F' w w' ∧ Mad gs gs' 1 x (fun inp => valL gs inp a && valL gs inp b) := by
  have hb1 : Below w.heap.size w (w.alloc (.cells #[.pointer (some ⟨G, 0, none⟩)] 60)) := (Below.refl _ _).alloc (Nat.le_refl _) _
  have H1 : Hid (GrAt G gs ins F (w.alloc (.cells #[.pointer (some ⟨G, 0, none⟩)] 60))) := h.below hb1
  have HM : Hid (Mvd F F w (w.alloc (.cells #[.pointer (some ⟨G, 0, none⟩)] 60))) := Mvd.of_below hb1
  have HG : Hid (Mad gs (andG gs a b) 1 (andL gs a b) (fun inp => valL gs inp a && valL gs inp b)) := Mad.and h.1 ha hb
  have HL : Hid (gs.length < 90000) := by unfold Hid; omega
  have HA : Hid (HasL gs a) := ha
  have HB : Hid (HasL gs b) := hb
  clear h hl ha hb hb1
  go_enter Tryz.func36, Tryz.ntmps36
  go_wp2_with (first
    | (go_at_call 56; refine (and_ok H1.out HL.out _ _ HA.out HB.out).mono ?_; rintro e w' ⟨rfl, F', hG, hm⟩)
    | (go_at_call 55; refine (made_any _ _).mono ?_; rintro e w' ⟨rfl, rfl⟩))
  go_ret
  exact ⟨_, _, F', rfl, hG, HM.out.trans hm, HG.out⟩
set_option maxRecDepth 100000 in
theorem mor_any {G : Nat} {gs : List (Int × Int)} {ins : Nat} {F : Nat → Prop} {w : World} (h : GrAt G gs ins F w) (hl : gs.length < 89000) (a b : Int) (ha : HasL gs a) (hb : HasL gs b) :
    Calls Tryz.prog 59 #[.agg #[.pointer (some ⟨G, 0, none⟩)], .int .i64 a, .int .i64 b] w fun e w' => ∃ x gs' F', e = .returned (.int .i64 x) ∧ GrAt G gs' ins F' w' ∧ Mvd F F' w w' ∧ Mad gs gs' 1 x (fun inp => valL gs inp a || valL gs inp b) := by
  have hb1 : Below w.heap.size w (w.alloc (.cells #[.pointer (some ⟨G, 0, none⟩)] 60)) := (Below.refl _ _).alloc (Nat.le_refl _) _
  have H1 : Hid (GrAt G gs ins F (w.alloc (.cells #[.pointer (some ⟨G, 0, none⟩)] 60))) := h.below hb1
  have HM : Hid (Mvd F F w (w.alloc (.cells #[.pointer (some ⟨G, 0, none⟩)] 60))) := Mvd.of_below hb1
  have HG : Hid (Mad gs (orG gs a b) 1 (orL gs a b) (fun inp => valL gs inp a || valL gs inp b)) := Mad.or h.1 ha hb
  have HL : Hid (gs.length < 90000) := by unfold Hid; omega
  have HA : Hid (HasL gs a) := ha
  have HB : Hid (HasL gs b) := hb
  clear h hl ha hb hb1
  go_enter Tryz.func59, Tryz.ntmps59
  go_wp2_with (first
    | (go_at_call 78; refine (or_ok H1.out HL.out _ _ HA.out HB.out).mono ?_; rintro e w' ⟨rfl, F', hG, hm⟩)
    | (go_at_call 55; refine (made_any _ _).mono ?_; rintro e w' ⟨rfl, rfl⟩))
  go_ret
  exact ⟨_, _, F', rfl, hG, HM.out.trans hm, HG.out⟩
set_option maxRecDepth 100000 in
set_option maxHeartbeats 1000000 in
theorem mxor_any {G : Nat} {gs : List (Int × Int)} {ins : Nat} {F : Nat → Prop} {w : World} (h : GrAt G gs ins F w) (hl : gs.length < 89000) (a b : Int) (ha : HasL gs a) (hb : HasL gs b) :
    Calls Tryz.prog 58 #[.agg #[.pointer (some ⟨G, 0, none⟩)], .int .i64 a, .int .i64 b] w fun e w' => ∃ x gs' F', e = .returned (.int .i64 x) ∧ GrAt G gs' ins F' w' ∧ Mvd F F' w w' ∧ Mad gs gs' 3 x (fun inp => valL gs inp a ^^ valL gs inp b) := by
  have hb1 : Below w.heap.size w (w.alloc (.cells #[.pointer (some ⟨G, 0, none⟩)] 60)) := (Below.refl _ _).alloc (Nat.le_refl _) _
  have HMD := Mad.xorn h.1 ha hb
  have H1 : Hid (GrAt G gs ins F (w.alloc (.cells #[.pointer (some ⟨G, 0, none⟩)] 60))) := h.below hb1
  have HM : Hid (Mvd F F w (w.alloc (.cells #[.pointer (some ⟨G, 0, none⟩)] 60))) := Mvd.of_below hb1
  have HG : Hid (Mad gs (xorG gs a (turnL b)) 3 (turnL (xorL gs a (turnL b))) (fun inp => valL gs inp a ^^ valL gs inp b)) := HMD
  have HL : Hid (gs.length < 89990) := by unfold Hid; omega
  have HA : Hid (HasL gs a) := ha
  have HB : Hid (HasL gs (turnL b)) := hb.turn
  have HF : Hid (¬ F w.heap.size) := fun hf => by have := h.2.2.1 _ hf; omega
  have ib : I64 b := hb.i64 (by omega)
  have ix : I64 (xorL gs a (turnL b)) := by
    have := HMD.has.turn
    rw [(turnL_eq _).2.1] at this
    exact this.i64 (by have := HMD.len; omega)
  clear h hl ha hb HMD
  obtain ⟨w1, hw1⟩ : ∃ w1, w1 = w.alloc (.cells #[.pointer (some ⟨G, 0, none⟩)] 60) := ⟨_, rfl⟩
  have c0 : w1.cell? ⟨w.heap.size, 0, none⟩ = some (.pointer (some ⟨G, 0, none⟩)) := by rw [hw1]; simp
  have HW : Hid (w1 = w.alloc (.cells #[.pointer (some ⟨G, 0, none⟩)] 60)) := hw1
  rw [← hw1] at H1 HM
  clear hw1 hb1
  go_enter Tryz.func58, Tryz.ntmps58
  go_wp2
  rw [← HW.out]
  go_region_held3 (fun w' => w'.cell? ⟨w.heap.size, 0, none⟩ = some (.pointer (some ⟨G, 0, none⟩))) ((first | go_keep | assumption))
    (first
      | (go_at_call 60; refine (not_any _ _ (by assumption)).mono ?_; rintro e w' ⟨rfl, rfl⟩)
      | (go_at_call 77; refine (xor_ok (by exact H1.out) HL.out _ _ HA.out HB.out).mono ?_; rintro e w2 ⟨rfl, F', hG, hm⟩; have c2 := (hm.cell (by exact c0) HF.out).1)
      | (go_at_call 55; refine (made_any _ _).mono ?_; rintro e w' ⟨rfl, rfl⟩))
  go_wp2
  go_ret
  exact ⟨_, _, F', rfl, hG, HM.out.trans hm.undrew, HG.out⟩
end Go.Proofs.YtpiglmaojonbnaaGreatDoor
