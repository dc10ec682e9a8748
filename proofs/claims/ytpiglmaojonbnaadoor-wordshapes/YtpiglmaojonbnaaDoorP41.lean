/-
  lustrumlaw3: five, WordConst, WALKED: they answer true.
-/
import Derived.Test.YtpiglmaojonbnaaDoorP40
import Derived.Deep.Cut
import Derived.Deep.CutRange
import Derived.Deep.DeepCutAuto
import Derived.Test.YtpiglmaojonbnaaDoorP24
import Derived.Test.YtpiglmaojonbnaaDoorP12
import Derived.Test.YtpiglmaojonbnaaDoorP03
namespace Go.Proofs.YtpiglmaojonbnaaDoor
open Go.RowKit Go.Maps

theorem word_five : rowI (wordI 5 8) = #[.int .i64 1, .int .i64 0, .int .i64 1, .int .i64 0, .int .i64 0, .int .i64 0, .int .i64 0, .int .i64 0] := by
  have : wordI 5 8 = [1, 0, 1, 0, 0, 0, 0, 0] := by decide
  rw [this]; rfl
set_option maxRecDepth 100000 in
set_option maxHeartbeats 1000000 in
theorem five_any (w : World) : Calls Tryd.prog 4 #[] w fun e w' => e = .returned (.bool true) ∧ Below w.heap.size w w' := by
  have h5 : Hid (isB 5 = true) := (by decide : isB 5 = true)
  go_enter Tryd.func4, Tryd.ntmps4
  go_wp2_with fail
  refine (const_ok 5 h5.out _).mono ?_
  rw [word_five]
  rintro e w1 ⟨rfl, hV, hb⟩
  have c0 := cell_of_row w1 w.heap.size 0 _ _ (0, 0) hV
  have c1 := cell_of_row w1 w.heap.size 1 _ _ (0, 0) hV
  have c2 := cell_of_row w1 w.heap.size 2 _ _ (0, 0) hV
  have HB : Hid (Below w.heap.size w w1) := hb
  clear hV hb
  simp at c0 c1 c2
  go_wp2
  go_ret
  exact ⟨rfl, HB.out⟩

/-- What is left of a number behind so many bits. -/
def kj (n : Int) (j : Nat) : Int := n % 256 / 2 ^ j
theorem kj_zero (n : Int) : kj n 0 = n % 256 := by simp [kj]
theorem kj_nonneg (n : Int) (j : Nat) : 0 ≤ kj n j := Int.ediv_nonneg (by omega) (Int.le_of_lt (two_pos j))
theorem kj_le (n : Int) (j : Nat) : kj n j ≤ 255 := by
  have := Int.ediv_le_self (a := n % 256) (2 ^ j) (by omega)
  unfold kj
  omega
theorem kj_succ (n : Int) (j : Nat) : kj n (j + 1) = (kj n j).tdiv 2 := by
  rw [Int.tdiv_eq_ediv_of_nonneg (kj_nonneg n j)]
  unfold kj
  rw [Int.pow_succ, Int.ediv_ediv_of_nonneg (Int.le_of_lt (two_pos j))]
theorem kj_bit (n : Int) {j : Nat} (hj : j < 8) : (kj n j).tmod 2 = bitI n j := by
  rw [Int.tmod_eq_emod_of_nonneg (kj_nonneg n j)]
  unfold kj bitI
  rcases (by omega : j = 0 ∨ j = 1 ∨ j = 2 ∨ j = 3 ∨ j = 4 ∨ j = 5 ∨ j = 6 ∨ j = 7) with rfl | rfl | rfl | rfl | rfl | rfl | rfl | rfl <;> omega
theorem around_kj {n : Int} (h1 : -128 ≤ n) (h2 : n < 128) : aroundI n = n := by unfold aroundI; omega
/-- Bits, and the value of them, are each other's. -/
theorem val_word {k n : Int} {m : Nat} (h : k = 1 ∧ m = 1 ∧ (n = 0 ∨ n = 1) ∨ k = 2 ∧ m = 8 ∧ -128 ≤ n ∧ n < 128) : valK (wordB n m) = k ∧ valI (wordB n m) = n := by
  have e : natF (fun i => (wordB n m).getD i false) m = natF (bitB n) m := by
    exact natF_congr fun i hi => wordB_get hi
  unfold valK valI
  simp only [wordB_length, e]
  rcases h with ⟨rfl, rfl, h⟩ | ⟨rfl, rfl, h1, h2⟩
  · rw [natF_bits1 n h]
    exact ⟨rfl, rfl⟩
  · rw [natF_bits8]
    refine ⟨rfl, ?_⟩
    split <;> omega
theorem val_right {l : List Bool} (h : l.length = 1 ∨ l.length = 8) : rightB (valK l) (valI l) (valK l) = true := by
  have hlt := natF_lt (fun i => l.getD i false) l.length
  unfold rightB valK valI
  rcases h with h | h
  · rw [h] at hlt ⊢
    simp at hlt ⊢
    omega
  · rw [h] at hlt ⊢
    simp at hlt ⊢
    split <;> omega
theorem bits_val {l : List Bool} {m : Nat} (h : l.length = 1 ∨ l.length = 8) (hm : valK l = 1 ∧ m = 1 ∧ (valI l = 0 ∨ valI l = 1) ∨ valK l = 2 ∧ m = 8 ∧ -128 ≤ valI l ∧ valI l < 128) : m = l.length ∧ ∀ (i : Nat) (x : Bool), l[i]? = some x → (wordB (valI l) m)[i]? = some x := by
  have hlt := natF_lt (fun i => l.getD i false) l.length
  have hml : m = l.length := by
    unfold valK at hm
    rcases h with h | h
    · rw [if_pos h] at hm; omega
    · rw [if_neg (by omega)] at hm; omega
  refine ⟨hml, fun i x hi => ?_⟩
  have hil := (List.getElem?_eq_some_iff.1 hi).1
  have hx : l.getD i false = x := by rw [List.getD_eq_getElem?_getD, hi]; rfl
  have hb := bitI_natF (fun i => l.getD i false) hil
  simp only [hx] at hb
  have key : bitI (valI l) i = bI x := by
    rw [← hb]
    unfold valI
    simp only
    split
    · rename_i h8
      rw [h8.1] at hil
      obtain ⟨p, hp⟩ : ∃ p, p = natF (fun i => l.getD i false) l.length := ⟨_, rfl⟩
      rw [← hp]
      unfold bitI
      rcases (by omega : i = 0 ∨ i = 1 ∨ i = 2 ∨ i = 3 ∨ i = 4 ∨ i = 5 ∨ i = 6 ∨ i = 7) with rfl | rfl | rfl | rfl | rfl | rfl | rfl | rfl <;> omega
    · rfl
  unfold wordB
  rw [List.getElem?_map, List.getElem?_range (by omega)]
  simp only [Option.map_some, bitB, key]
  cases x <;> rfl
theorem coded_bound {a : Nat → Addr} {w : World} (S : Sents a w) :
    Calls Tryd.prog 7 #[.iface 141 (.pointer (some (a 1))), .int .i64 2] w fun e w' => e = .returned (.bool true) ∧ Below w.heap.size w w' := coded_sent S 1 (by omega)
theorem coded_type {a : Nat → Addr} {w : World} (S : Sents a w) :
    Calls Tryd.prog 7 #[.iface 141 (.pointer (some (a 4))), .int .i64 5] w fun e w' => e = .returned (.bool true) ∧ Below w.heap.size w w' := coded_sent S 4 (by omega)
/-- Const, whatever it is given. -/
theorem const_any (n : Int) (w : World) (v : Value) (he : w.cell? ⟨0, 0, none⟩ = some v) :
    Calls Tryd.prog 8 #[.int .i64 n] w fun e w' => ∃ (o : Option Addr) (k c : Nat) (er : Value), e = .returned (.tuple #[.slice o k c, er]) ∧ Below w.heap.size w w' ∧
      ((isB n = true ∧ k = 8 ∧ er = .nilIface ∧ ∃ V, o = some ⟨V, 0, none⟩ ∧ w'.heap[V]? = some (.cells (rowI (wordI n 8)) 34 (0, 0))) ∨ (isB n = false ∧ k = 0 ∧ er = v)) := by
  cases h : isB n
  · refine (const_bad n h w v he).mono ?_
    rintro e w' ⟨rfl, hb⟩
    exact ⟨_, _, _, _, rfl, hb, .inr ⟨rfl, rfl, rfl⟩⟩
  · refine (const_ok n h w).mono ?_
    rintro e w' ⟨rfl, hV, hb⟩
    exact ⟨_, _, _, _, rfl, hb, .inl ⟨rfl, rfl, rfl, _, rfl, hV⟩⟩
end Go.Proofs.YtpiglmaojonbnaaDoor

/-
  lustrumlaw3.bitsOf BY CONTRACT: the bits of ints.
-/
namespace Go.Proofs.YtpiglmaojonbnaaDoor
open Go.RowKit Go.Maps

/-- The bits of ints, eight each. -/
def bitsAll (l : List Int) : List Bool := l.flatMap fun n => (List.range 8).map (bitB n)
theorem bitsAll_length (l : List Int) : (bitsAll l).length = 8 * l.length := by
  induction l with
  | nil => rfl
  | cons x r ih => simp only [bitsAll, List.flatMap_cons, List.length_append] at ih ⊢; simp [ih]; omega
theorem bitsAll_get : ∀ (l : List Int) (i j : Nat) (x : Int), l[i]? = some x → j < 8 → (bitsAll l).getD (8 * i + j) false = bitB x j
  | [], i, j, x, h, _ => by simp at h
  | y :: r, 0, j, x, h, hj => by
    simp at h; subst h
    have e : bitsAll (y :: r) = (List.range 8).map (bitB y) ++ bitsAll r := by simp [bitsAll]
    rw [e, Nat.mul_zero, Nat.zero_add, List.getD_eq_getElem?_getD, List.getElem?_append_left (by simp; omega), List.getElem?_map, List.getElem?_range hj]
    rfl
  | y :: r, i + 1, j, x, h, hj => by
    have e : bitsAll (y :: r) = (List.range 8).map (bitB y) ++ bitsAll r := by simp [bitsAll]
    have ih := bitsAll_get r i j x (by simpa using h) hj
    rw [List.getD_eq_getElem?_getD] at ih ⊢
    rw [e, List.getElem?_append_right (by simp; omega)]
    have : 8 * (i + 1) + j - ((List.range 8).map (bitB y)).length = 8 * i + j := by simp; omega
    rw [this]
    exact ih
theorem tmod_kj (x : Int) : (x.tmod 256 < 0 ∧ wrap64 (x.tmod 256 + 256) = kj x 0) ∨ (¬ x.tmod 256 < 0 ∧ x.tmod 256 = kj x 0) := by
  rw [kj_zero]
  have h : x.tmod 256 = x % 256 ∨ x.tmod 256 = x % 256 - 256 ∧ x % 256 ≠ 0 := by
    rcases Int.lt_or_le x 0 with h | h
    · have e : x.tmod 256 = -((-x) % 256) := by
        have := Int.neg_tmod (-x) 256
        rw [Int.neg_neg] at this
        rw [this, Int.tmod_eq_emod_of_nonneg (by omega)]
      rw [e]
      omega
    · exact .inl (Int.tmod_eq_emod_of_nonneg h)
  unfold wrap64
  omega
theorem bools_of_owns {w : World} {base n : Nat} {o : Option Addr} {c : Nat} {l : List Bool} (h : w.ownsRow base 4 1 (.slice o n c) n (l.map Value.bool)) (hn : l.length = n) (hm : n ≤ maxLen) : BoolsAt w (.slice o n c) l := by
  subst hn
  refine ⟨hm, o, c, rfl, fun k x hk => ?_⟩
  have hlt := (List.getElem?_eq_some_iff.1 hk).1
  obtain ⟨g, cap, e, _, _⟩ := h.form (by omega)
  obtain ⟨rfl, rfl⟩ : o = some ⟨g, 0, none⟩ ∧ c = cap := by simpa using e
  have hadd' : ∀ j, (⟨g, 0, none⟩ : Addr).add j = ⟨g, 0 + j, none⟩ := fun j => by unfold Addr.add; split <;> simp_all
  refine ⟨g, 0, rfl, ?_⟩
  rw [← hadd']
  exact h.cells (g := g) rfl k _ (by simp [hk])
end Go.Proofs.YtpiglmaojonbnaaDoor

/-
  package graph: Eval BY ITS CONTRACT.
-/
namespace Go.Proofs.YtpiglmaojonbnaaDoor
open Go.RowKit Go.Maps

theorem IntsAt.below {w w' : World} {v : Value} {l : List Int} (h : IntsAt w v l) (hb : Below w.heap.size w w') : IntsAt w' v l := by
  obtain ⟨hl, o, c, rfl, h⟩ := h
  refine ⟨hl, o, c, rfl, fun k x hk => ?_⟩
  obtain ⟨b, off, e, hc⟩ := h k x hk
  exact ⟨b, off, e, cell_keep hb hc⟩
/-- What was asked so far, the rest false. -/
def rowL (f : Int → Bool) (l : List Int) (n : Nat) : List Bool := (l.take n).map f ++ List.replicate (l.length - n) false
theorem rowL_zero (f : Int → Bool) (l : List Int) : rowL f l 0 = List.replicate l.length false := by simp [rowL]
theorem rowL_all (f : Int → Bool) (l : List Int) : rowL f l l.length = l.map f := by simp [rowL]
theorem rowL_length (f : Int → Bool) (l : List Int) {n : Nat} (h : n ≤ l.length) : (rowL f l n).length = l.length := by simp [rowL]; omega
theorem rowL_set (f : Int → Bool) (l : List Int) {n : Nat} {x : Int} (h : l[n]? = some x) : rowL f l (n + 1) = (rowL f l n).set n (f x) := by
  have hn : n < l.length := (List.getElem?_eq_some_iff.1 h).1
  unfold rowL
  have e1 : (l.take (n + 1)).map f = (l.take n).map f ++ [f x] := by rw [List.take_add_one, h]; simp
  have hl : ((l.take n).map f).length = n := by simp; omega
  rw [e1, List.set_append_right _ _ (by omega), hl, Nat.sub_self]
  have : l.length - n = (l.length - (n + 1)) + 1 := by omega
  rw [this, List.replicate_succ]
  simp
theorem rowL_store {w : World} {V : Nat} {f : Int → Bool} {l : List Int} {j : Nat} {x : Int} {t : TypeId} (hV : w.heap[V]? = some (.cells (rowB (rowL f l j)) t (0, 0))) (hj : l[j]? = some x) :
    (w.setCell ⟨V, j, none⟩ (.bool (f x))).heap[V]? = some (.cells (rowB (rowL f l (j + 1))) t (0, 0)) := by
  rw [heap_setCell_at hV, rowB_set, ← rowL_set f l hj]

end Go.Proofs.YtpiglmaojonbnaaDoor
