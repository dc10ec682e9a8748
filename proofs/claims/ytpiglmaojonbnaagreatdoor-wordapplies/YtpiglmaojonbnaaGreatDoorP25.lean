/-
  lustrumlaw3.coded BY ITS CONTRACT: an error's number is told.
-/
import Derived.Test.YtpiglmaojonbnaaGreatDoorP02
import Derived.Deep.QuietTactic
import Derived.BigQuiet
import Derived.WalkSmall
import Derived.Test.YtpiglmaojonbnaaGreatDoorP03
import Derived.Test.YtpiglmaojonbnaaGreatDoorP24
import Derived.Deep.Cut
import Derived.Deep.CutRange
import Derived.Deep.DeepCutAuto
import Derived.Test.YtpiglmaojonbnaaGreatDoorP14
import Derived.Test.YtpiglmaojonbnaaGreatDoorP08
namespace Go.Proofs.YtpiglmaojonbnaaGreatDoor
open Go.RowKit Go.Extern.Stop Go.Stop Go.Extern

theorem coded_nil (w : World) : Calls Tryz.prog 10 #[.nilIface, .int .i64 0] w fun e w' => e = .returned (.bool true) ∧ w' = w := by
  go_enter Tryz.func10, Tryz.ntmps10
  go_wp2_with (go_at_call 24; refine (code_nil _).mono ?_; rintro e w' ⟨rfl, rfl⟩)
  go_ret
  exact ⟨rfl, rfl⟩

set_option maxHeartbeats 1000000 in
theorem coded_str (a : Nat → Addr) (b : Addr) (m : Nat) (c : Int) (cb : Array Value) (tb : TypeId) (w : World) (S : Sents a w) (hrow : w.heap[b.block]? = some (.cells cb tb (0, 0))) (hm : m ≤ 9) (hlt : ∀ j, j < m → b ≠ a j) (heq : m < 9 → a m = b) (hc : c = codeOf m) :
    Calls Tryz.prog 10 #[.iface 157 (.pointer (some b)), .int .i64 c] w fun e w' => e = .returned (.bool true) ∧ Below w.heap.size w w' := by
  subst hc
  go_enter Tryz.func10, Tryz.ntmps10
  go_wp2_with (go_at_call 24; refine (code_str a b m cb tb _ S hrow hm hlt heq).mono ?_; rintro e w' ⟨rfl, hb⟩)
  go_ret
  exact ⟨rfl, hb⟩
end Go.Proofs.YtpiglmaojonbnaaGreatDoor

/-
  A NEW GRAPH; A SENTINEL's NUMBER.
-/
namespace Go.Proofs.YtpiglmaojonbnaaGreatDoor
open Go.RowKit Go.Maps

theorem new_graph (w : World) (t : TypeId) : GrAt w.heap.size [] 0 (fun k => k = w.heap.size) (w.alloc (.cells #[.slice none 0 0, .map none, .int .i64 0] t)) :=
  ⟨Gs.nil, rfl, fun k hk => by rw [hk]; simp, t, .slice none 0 0, .map none, heap_alloc_new _ _, World.ownsRow_nil _ _ _ _, fun k hk => by simp [Value.ownBlock] at hk, .inl ⟨rfl, fun p hp => by simp at hp⟩⟩
theorem coded_sent {a : Nat → Addr} {w : World} (S : Sents a w) (k : Nat) (hk : k < 9) :
    Calls Tryz.prog 10 #[.iface 157 (.pointer (some (a k))), .int .i64 ((k : Int) + 1)] w fun e w' => e = .returned (.bool true) ∧ Below w.heap.size w w' := by
  obtain ⟨c, t, hr⟩ := S.row k hk
  exact coded_str a (a k) k _ c t w S hr (by omega) (fun j hj => S.inj k j hk (by omega) (by omega)) (fun _ => rfl) (codeOf_in hk).symm
theorem coded_shape {a : Nat → Addr} {w : World} (S : Sents a w) :
    Calls Tryz.prog 10 #[.iface 157 (.pointer (some (a 2))), .int .i64 3] w fun e w' => e = .returned (.bool true) ∧ Below w.heap.size w w' := coded_sent S 2 (by omega)
end Go.Proofs.YtpiglmaojonbnaaGreatDoor

/-
  lustrumlaw3: five, WordConst, WALKED: they answer true.
-/
namespace Go.Proofs.YtpiglmaojonbnaaGreatDoor
open Go.RowKit Go.Maps

theorem word_five : rowI (wordI 5 8) = #[.int .i64 1, .int .i64 0, .int .i64 1, .int .i64 0, .int .i64 0, .int .i64 0, .int .i64 0, .int .i64 0] := by
  have : wordI 5 8 = [1, 0, 1, 0, 0, 0, 0, 0] := by decide
  rw [this]; rfl
set_option maxRecDepth 100000 in
set_option maxHeartbeats 1000000 in
theorem five_any (w : World) : Calls Tryz.prog 4 #[] w fun e w' => e = .returned (.bool true) ∧ Below w.heap.size w w' := by
  have h5 : Hid (isB 5 = true) := (by decide : isB 5 = true)
  go_enter Tryz.func4, Tryz.ntmps4
  go_wp2_with fail
  refine (const_ok 5 h5.out _).mono ?_
  rw [word_five]
  rintro e w1 ⟨rfl, hV, hb⟩
  have c0 := cell_of_row w1 w.heap.size 0 _ _ (0, 0) hV
  have c1 := cell_of_row w1 w.heap.size 1 _ _ (0, 0) hV
  have c2 := cell_of_row w1 w.heap.size 2 _ _ (0, 0) hV
  have HB : Hid (Below w.heap.size w w1) := hb
  clear hV hb
  simp at c0 c1 c2
  go_wp2
  go_ret
  exact ⟨rfl, HB.out⟩

/-- What is left of a number behind so many bits. -/
def kj (n : Int) (j : Nat) : Int := n % 256 / 2 ^ j
theorem kj_zero (n : Int) : kj n 0 = n % 256 := by simp [kj]
theorem kj_nonneg (n : Int) (j : Nat) : 0 ≤ kj n j := Int.ediv_nonneg (by omega) (Int.le_of_lt (two_pos j))
theorem kj_le (n : Int) (j : Nat) : kj n j ≤ 255 := by
  have := Int.ediv_le_self (a := n % 256) (2 ^ j) (by omega)
  unfold kj
  omega
theorem kj_succ (n : Int) (j : Nat) : kj n (j + 1) = (kj n j).tdiv 2 := by
  rw [Int.tdiv_eq_ediv_of_nonneg (kj_nonneg n j)]
  unfold kj
  rw [Int.pow_succ, Int.ediv_ediv_of_nonneg (Int.le_of_lt (two_pos j))]
theorem kj_bit (n : Int) {j : Nat} (hj : j < 8) : (kj n j).tmod 2 = bitI n j := by
  rw [Int.tmod_eq_emod_of_nonneg (kj_nonneg n j)]
  unfold kj bitI
  rcases (by omega : j = 0 ∨ j = 1 ∨ j = 2 ∨ j = 3 ∨ j = 4 ∨ j = 5 ∨ j = 6 ∨ j = 7) with rfl | rfl | rfl | rfl | rfl | rfl | rfl | rfl <;> omega
theorem around_kj {n : Int} (h1 : -128 ≤ n) (h2 : n < 128) : aroundI n = n := by unfold aroundI; omega
/-- Bits, and the value of them, are each other's. -/
theorem val_word {k n : Int} {m : Nat} (h : k = 1 ∧ m = 1 ∧ (n = 0 ∨ n = 1) ∨ k = 2 ∧ m = 8 ∧ -128 ≤ n ∧ n < 128) : valK (wordB n m) = k ∧ valI (wordB n m) = n := by
  have e : natF (fun i => (wordB n m).getD i false) m = natF (bitB n) m := by
    exact natF_congr fun i hi => wordB_get hi
  unfold valK valI
  simp only [wordB_length, e]
  rcases h with ⟨rfl, rfl, h⟩ | ⟨rfl, rfl, h1, h2⟩
  · rw [natF_bits1 n h]
    exact ⟨rfl, rfl⟩
  · rw [natF_bits8]
    refine ⟨rfl, ?_⟩
    split <;> omega
theorem val_right {l : List Bool} (h : l.length = 1 ∨ l.length = 8) : rightB (valK l) (valI l) (valK l) = true := by
  have hlt := natF_lt (fun i => l.getD i false) l.length
  unfold rightB valK valI
  rcases h with h | h
  · rw [h] at hlt ⊢
    simp at hlt ⊢
    omega
  · rw [h] at hlt ⊢
    simp at hlt ⊢
    split <;> omega
theorem bits_val {l : List Bool} {m : Nat} (h : l.length = 1 ∨ l.length = 8) (hm : valK l = 1 ∧ m = 1 ∧ (valI l = 0 ∨ valI l = 1) ∨ valK l = 2 ∧ m = 8 ∧ -128 ≤ valI l ∧ valI l < 128) : m = l.length ∧ ∀ (i : Nat) (x : Bool), l[i]? = some x → (wordB (valI l) m)[i]? = some x := by
  have hlt := natF_lt (fun i => l.getD i false) l.length
  have hml : m = l.length := by
    unfold valK at hm
    rcases h with h | h
    · rw [if_pos h] at hm; omega
    · rw [if_neg (by omega)] at hm; omega
  refine ⟨hml, fun i x hi => ?_⟩
  have hil := (List.getElem?_eq_some_iff.1 hi).1
  have hx : l.getD i false = x := by rw [List.getD_eq_getElem?_getD, hi]; rfl
  have hb := bitI_natF (fun i => l.getD i false) hil
  simp only [hx] at hb
  have key : bitI (valI l) i = bI x := by
    rw [← hb]
    unfold valI
    simp only
    split
    · rename_i h8
      rw [h8.1] at hil
      obtain ⟨p, hp⟩ : ∃ p, p = natF (fun i => l.getD i false) l.length := ⟨_, rfl⟩
      rw [← hp]
      unfold bitI
      rcases (by omega : i = 0 ∨ i = 1 ∨ i = 2 ∨ i = 3 ∨ i = 4 ∨ i = 5 ∨ i = 6 ∨ i = 7) with rfl | rfl | rfl | rfl | rfl | rfl | rfl | rfl <;> omega
    · rfl
  unfold wordB
  rw [List.getElem?_map, List.getElem?_range (by omega)]
  simp only [Option.map_some, bitB, key]
  cases x <;> rfl
theorem coded_bound {a : Nat → Addr} {w : World} (S : Sents a w) :
    Calls Tryz.prog 10 #[.iface 157 (.pointer (some (a 1))), .int .i64 2] w fun e w' => e = .returned (.bool true) ∧ Below w.heap.size w w' := coded_sent S 1 (by omega)
theorem coded_type {a : Nat → Addr} {w : World} (S : Sents a w) :
    Calls Tryz.prog 10 #[.iface 157 (.pointer (some (a 4))), .int .i64 5] w fun e w' => e = .returned (.bool true) ∧ Below w.heap.size w w' := coded_sent S 4 (by omega)
/-- Const, whatever it is given. -/
theorem const_any (n : Int) (w : World) (v : Value) (he : w.cell? ⟨2, 0, none⟩ = some v) :
    Calls Tryz.prog 14 #[.int .i64 n] w fun e w' => ∃ (o : Option Addr) (k c : Nat) (er : Value), e = .returned (.tuple #[.slice o k c, er]) ∧ Below w.heap.size w w' ∧
      ((isB n = true ∧ k = 8 ∧ er = .nilIface ∧ ∃ V, o = some ⟨V, 0, none⟩ ∧ w'.heap[V]? = some (.cells (rowI (wordI n 8)) 39 (0, 0))) ∨ (isB n = false ∧ k = 0 ∧ er = v)) := by
  cases h : isB n
  · refine (const_bad n h w v he).mono ?_
    rintro e w' ⟨rfl, hb⟩
    exact ⟨_, _, _, _, rfl, hb, .inr ⟨rfl, rfl, rfl⟩⟩
  · refine (const_ok n h w).mono ?_
    rintro e w' ⟨rfl, hV, hb⟩
    exact ⟨_, _, _, _, rfl, hb, .inl ⟨rfl, rfl, rfl, _, rfl, hV⟩⟩
/-- Bits, whatever it is given. -/
theorem bits_any (k n : Int) (w : World) (v : Value) (he : w.cell? ⟨0, 0, none⟩ = some v) :
    Calls Tryz.prog 6 #[.agg #[.int .i64 k, .int .i64 n]] w fun e w' => ∃ (o : Option Addr) (m c : Nat) (er : Value), e = .returned (.tuple #[.slice o m c, er]) ∧ Below w.heap.size w w' ∧
      ((rightB k n k = true ∧ er = .nilIface ∧ (∃ V, o = some ⟨V, 0, none⟩ ∧ w'.heap[V]? = some (.cells (rowB (wordB n m)) 4 (0, 0))) ∧ (k = 1 ∧ m = 1 ∧ (n = 0 ∨ n = 1) ∨ k = 2 ∧ m = 8 ∧ -128 ≤ n ∧ n < 128)) ∨ (rightB k n k = false ∧ m = 0 ∧ er = v)) := by
  cases h : rightB k n k
  · refine (bits_bad k n h w v he).mono ?_
    rintro e w' ⟨rfl, hb⟩
    exact ⟨_, _, _, _, rfl, hb, .inr ⟨rfl, rfl, rfl⟩⟩
  · refine (bits_ok k n h w).mono ?_
    rintro e w' ⟨m, V, rfl, _, hV, hb, hm⟩
    exact ⟨_, _, _, _, rfl, hb, .inl ⟨rfl, rfl, ⟨V, rfl, hV⟩, hm⟩⟩
end Go.Proofs.YtpiglmaojonbnaaGreatDoor

/-
  lustrumlaw3.bitsOf BY CONTRACT: the bits of ints.
-/
namespace Go.Proofs.YtpiglmaojonbnaaGreatDoor
open Go.RowKit Go.Maps

/-- The bits of ints, eight each. -/
def bitsAll (l : List Int) : List Bool := l.flatMap fun n => (List.range 8).map (bitB n)
theorem bitsAll_length (l : List Int) : (bitsAll l).length = 8 * l.length := by
  induction l with
  | nil => rfl
  | cons x r ih => simp only [bitsAll, List.flatMap_cons, List.length_append] at ih ⊢; simp [ih]; omega
theorem bitsAll_get : ∀ (l : List Int) (i j : Nat) (x : Int), l[i]? = some x → j < 8 → (bitsAll l).getD (8 * i + j) false = bitB x j
  | [], i, j, x, h, _ => by simp at h
  | y :: r, 0, j, x, h, hj => by
    simp at h; subst h
    have e : bitsAll (y :: r) = (List.range 8).map (bitB y) ++ bitsAll r := by simp [bitsAll]
    rw [e, Nat.mul_zero, Nat.zero_add, List.getD_eq_getElem?_getD, List.getElem?_append_left (by simp; omega), List.getElem?_map, List.getElem?_range hj]
    rfl
  | y :: r, i + 1, j, x, h, hj => by
    have e : bitsAll (y :: r) = (List.range 8).map (bitB y) ++ bitsAll r := by simp [bitsAll]
    have ih := bitsAll_get r i j x (by simpa using h) hj
    rw [List.getD_eq_getElem?_getD] at ih ⊢
    rw [e, List.getElem?_append_right (by simp; omega)]
    have : 8 * (i + 1) + j - ((List.range 8).map (bitB y)).length = 8 * i + j := by simp; omega
    rw [this]
    exact ih
theorem tmod_kj (x : Int) : (x.tmod 256 < 0 ∧ wrap64 (x.tmod 256 + 256) = kj x 0) ∨ (¬ x.tmod 256 < 0 ∧ x.tmod 256 = kj x 0) := by
  rw [kj_zero]
  have h : x.tmod 256 = x % 256 ∨ x.tmod 256 = x % 256 - 256 ∧ x % 256 ≠ 0 := by
    rcases Int.lt_or_le x 0 with h | h
    · have e : x.tmod 256 = -((-x) % 256) := by
        have := Int.neg_tmod (-x) 256
        rw [Int.neg_neg] at this
        rw [this, Int.tmod_eq_emod_of_nonneg (by omega)]
      rw [e]
      omega
    · exact .inl (Int.tmod_eq_emod_of_nonneg h)
  unfold wrap64
  omega
theorem bools_of_owns {w : World} {base n : Nat} {o : Option Addr} {c : Nat} {l : List Bool} (h : w.ownsRow base 4 1 (.slice o n c) n (l.map Value.bool)) (hn : l.length = n) (hm : n ≤ maxLen) : BoolsAt w (.slice o n c) l := by
  subst hn
  refine ⟨hm, o, c, rfl, fun k x hk => ?_⟩
  have hlt := (List.getElem?_eq_some_iff.1 hk).1
  obtain ⟨g, cap, e, _, _⟩ := h.form (by omega)
  obtain ⟨rfl, rfl⟩ : o = some ⟨g, 0, none⟩ ∧ c = cap := by simpa using e
  have hadd' : ∀ j, (⟨g, 0, none⟩ : Addr).add j = ⟨g, 0 + j, none⟩ := fun j => by unfold Addr.add; split <;> simp_all
  refine ⟨g, 0, rfl, ?_⟩
  rw [← hadd']
  exact h.cells (g := g) rfl k _ (by simp [hk])
end Go.Proofs.YtpiglmaojonbnaaGreatDoor

/-
  package graph: Eval BY ITS CONTRACT.
-/
namespace Go.Proofs.YtpiglmaojonbnaaGreatDoor
open Go.RowKit Go.Maps

theorem IntsAt.below {w w' : World} {v : Value} {l : List Int} (h : IntsAt w v l) (hb : Below w.heap.size w w') : IntsAt w' v l := by
  obtain ⟨hl, o, c, rfl, h⟩ := h
  refine ⟨hl, o, c, rfl, fun k x hk => ?_⟩
  obtain ⟨b, off, e, hc⟩ := h k x hk
  exact ⟨b, off, e, cell_keep hb hc⟩
set_option maxRecDepth 100000 in
set_option maxHeartbeats 1000000 in
theorem eval_bad {G : Nat} {gs : List (Int × Int)} {ins : Nat} {F : Nat → Prop} {w : World} (h : GrAt G gs ins F w) (hg : gs.length ≤ 80000) (v : Value) (inp : List Bool) (hv : BoolsAt w v inp) (u : Value) (l : List Int) (hu : IntsAt w u l) (hI : ∀ x ∈ l, I64 x) (hn : ¬ (inp.length = ins ∧ (l.all fun x => hasB gs x) = true)) (x : Value) (he : w.cell? ⟨1, 0, none⟩ = some x) :
    Calls Tryz.prog 11 #[.pointer (some ⟨G, 0, none⟩), v, u] w fun e w' => e = .returned (.tuple #[.slice none 0 0, x]) ∧ Below w.heap.size w w' := by
  obtain ⟨t, sv, mv, h3, c0, c1, c2, h4, h5, h6⟩ := h.cells
  have H0 : Hid (GrAt G gs ins F w) := h
  have HU : Hid (IntsAt w u l) := hu
  have HI : Hid (∀ x ∈ l, I64 x) := hI
  have HL : Hid (gs.length ≤ 100000) := Nat.le_trans hg (by omega)
  obtain ⟨hil, io, ic, rfl, hic⟩ := hv
  obtain ⟨hul, uo, uc, rfl, huc⟩ := hu
  clear h h3 c0 c1 h4 h5 h6 hic huc hI hg
  by_cases hi : inp.length = ins
  · have hf : (l.all fun x => hasB gs x) = false := by
      cases hx : (l.all fun x => hasB gs x)
      · rfl
      · exact absurd ⟨hi, hx⟩ hn
    have HF : Hid ((l.all fun x => hasB gs x) = false) := hf
    have d : (((inp.length : Nat) : Int) == ((ins : Nat) : Int)) = true := by rw [hi]; simp
    have d' : (((inp.length : Nat) : Int) != ((ins : Nat) : Int)) = false := by rw [hi]; simp
    clear hn hf
    subst hi
    go_enter Tryz.func11, Tryz.ntmps11
    go_wp2_with fail
    refine (has_any H0.out HL.out _ l HU.out HI.out).mono ?_
    rw [HF.out]
    rintro e w' ⟨rfl, hw⟩
    have hw2 := hw.symm
    subst hw2
    go_wp2
    go_region
    all_goals go_wp2
    all_goals go_ret2
    all_goals exact ⟨rfl, (Below.refl _ _).drew⟩
  · have d : (((inp.length : Nat) : Int) == ((ins : Nat) : Int)) = false := by simp; omega
    have d' : (((inp.length : Nat) : Int) != ((ins : Nat) : Int)) = true := by simp; omega
    clear hn hi
    go_enter Tryz.func11, Tryz.ntmps11
    go_wp2
    go_region
    all_goals go_wp2
    all_goals go_ret2
    all_goals exact ⟨rfl, (Below.refl _ _).drew⟩

/-- What was asked so far, the rest false. -/
def rowL (f : Int → Bool) (l : List Int) (n : Nat) : List Bool := (l.take n).map f ++ List.replicate (l.length - n) false
theorem rowL_zero (f : Int → Bool) (l : List Int) : rowL f l 0 = List.replicate l.length false := by simp [rowL]
theorem rowL_all (f : Int → Bool) (l : List Int) : rowL f l l.length = l.map f := by simp [rowL]
theorem rowL_length (f : Int → Bool) (l : List Int) {n : Nat} (h : n ≤ l.length) : (rowL f l n).length = l.length := by simp [rowL]; omega
theorem rowL_set (f : Int → Bool) (l : List Int) {n : Nat} {x : Int} (h : l[n]? = some x) : rowL f l (n + 1) = (rowL f l n).set n (f x) := by
  have hn : n < l.length := (List.getElem?_eq_some_iff.1 h).1
  unfold rowL
  have e1 : (l.take (n + 1)).map f = (l.take n).map f ++ [f x] := by rw [List.take_add_one, h]; simp
  have hl : ((l.take n).map f).length = n := by simp; omega
  rw [e1, List.set_append_right _ _ (by omega), hl, Nat.sub_self]
  have : l.length - n = (l.length - (n + 1)) + 1 := by omega
  rw [this, List.replicate_succ]
  simp
theorem rowL_store {w : World} {V : Nat} {f : Int → Bool} {l : List Int} {j : Nat} {x : Int} {t : TypeId} (hV : w.heap[V]? = some (.cells (rowB (rowL f l j)) t (0, 0))) (hj : l[j]? = some x) :
    (w.setCell ⟨V, j, none⟩ (.bool (f x))).heap[V]? = some (.cells (rowB (rowL f l (j + 1))) t (0, 0)) := by
  rw [heap_setCell_at hV, rowB_set, ← rowL_set f l hj]

set_option maxRecDepth 100000 in
set_option maxHeartbeats 4000000 in
theorem eval_ok {G : Nat} {gs : List (Int × Int)} {ins : Nat} {F : Nat → Prop} {w : World} (h : GrAt G gs ins F w) (hg : gs.length ≤ 80000) (v : Value) (inp : List Bool) (hv : BoolsAt w v inp) (u : Value) (l : List Int) (hu : IntsAt w u l) (hI : ∀ x ∈ l, I64 x) (hi : inp.length = ins) (hc : cntI gs = inp.length) (hall : (l.all fun x => hasB gs x) = true) (hll : l.length ≤ 1000) :
    Calls Tryz.prog 11 #[.pointer (some ⟨G, 0, none⟩), v, u] w fun e w' => ∃ O, e = .returned (.tuple #[.slice (some ⟨O, 0, none⟩) l.length l.length, .nilIface]) ∧ w'.heap[O]? = some (.cells (rowB (l.map (litV (valsOf gs inp)))) 4 (0, 0)) ∧ w.heap.size ≤ O ∧ Below w.heap.size w w' := by
  obtain ⟨t, sv, mv, h3, c0, c1, c2, h4, h5, h6⟩ := h.cells
  obtain ⟨i0, hi0, hz0, hz1, hz2⟩ := info_parts Tryz.infoBool
  have H0 : Hid (GrAt G gs ins F w) := h
  have HU : Hid (IntsAt w u l) := hu
  have HV : Hid (BoolsAt w v inp) := hv
  have HI : Hid (∀ x ∈ l, I64 x) := hI
  have HL : Hid (gs.length ≤ 100000) := Nat.le_trans hg (by omega)
  have HG : Hid (gs.length ≤ 80000) := hg
  have HC : Hid (cntI gs = inp.length) := hc
  have HA : Hid ((l.all fun x => hasB gs x) = true) := hall
  have HLL : Hid (l.length ≤ 1000) := hll
  have HBY : Hid (i0.bytes * l.length ≤ 281474976710656) := by unfold Hid; rw [hz2]; omega
  have HMX : Hid (l.length ≤ maxLen) := by unfold Hid maxLen; omega
  obtain ⟨hil, io, ic, rfl, hic⟩ := hv
  obtain ⟨hul, uo, uc, rfl, huc⟩ := hu
  have HUC : Hid (∀ k x, l[k]? = some x → ∃ b off, uo = some ⟨b, off, none⟩ ∧ w.cell? ⟨b, off + k, none⟩ = some (.int .i64 x)) := huc
  subst hi
  clear h h3 c0 c1 h4 h5 h6 hic huc hI hg hc hall hll hil hul
  go_enter Tryz.func11, Tryz.ntmps11
  go_wp2_with fail
  refine (has_any H0.out HL.out _ l HU.out HI.out).mono ?_
  rw [HA.out]
  rintro e w' ⟨rfl, hw⟩
  have hw2 := hw.symm
  subst hw2
  go_wp2_with fail
  refine (values_any H0.out HG.out _ inp HV.out HC.out).mono ?_
  rintro e w1 ⟨rfl, hV1, hb1⟩
  have HV1 : Hid (w1.heap[w.heap.size]? = some (.cells (rowB (valsOf gs inp)) 4 (0, 0))) := hV1
  have HB1 : Hid (Below w.heap.size w w1) := hb1
  clear hV1 hb1 c2
  go_wp2_with (first
    | (at_make; refine wpList_make_full _ rfl _ _ 33 rfl 0 4 i0 _ 1 Tryz.underlying33 hi0 hz0 hz1 .i64 .i64 _ _ l.length rfl rfl (by simp) (by simp) HBY.out HMX.out (Nat.zero_le _) ?_; intro w2 hown2 hgr2)
    | go_in)
  have hO := made_bools hown2
  rw [← rowL_zero (litV (valsOf gs inp)) l] at hO
  have HO : Hid (w2.heap[w1.heap.size]? = some (.cells (rowB (rowL (litV (valsOf gs inp)) l 0)) 4 (0, 0))) := hO
  have hb2 : Below w1.heap.size w1 w2 := ⟨hgr2.os, hgr2.tape, hgr2.output, hgr2.size, fun k hk => hgr2.block k hk (by simp)⟩
  have HB2 : Hid (Below w.heap.size w w2) := HB1.out.trans (hb2.mono HB1.out.size)
  have HV2 : Hid (w2.heap[w.heap.size]? = some (.cells (rowB (valsOf gs inp)) 4 (0, 0))) := row_keep hb2 HV1.out
  have HVO : Hid (w.heap.size < w1.heap.size) := (Array.getElem?_eq_some_iff.1 HV1.out).1
  clear hown2 hgr2 hO hb2 hi0 hz0 hz1 hz2 HBY HMX
  go_loopw [34] (fun t wr => ∃ j : Nat, j ≤ l.length ∧ t = .int .i64 j ∧ wr.heap[w1.heap.size]? = some (.cells (rowB (rowL (litV (valsOf gs inp)) l j)) 4 (0, 0)) ∧ wr.heap[w.heap.size]? = some (.cells (rowB (valsOf gs inp)) 4 (0, 0)) ∧ Below w.heap.size w wr) (fun t _ => l.length - (intOf t).toNat)
  case atStart => exact ⟨0, Nat.zero_le _, rfl, HO.out, HV2.out, HB2.out⟩
  case round =>
    obtain ⟨j, hj, rfl, hrow, hval, hb⟩ := hrel
    have HR : Hid (wr.heap[w1.heap.size]? = some (.cells (rowB (rowL (litV (valsOf gs inp)) l j)) 4 (0, 0))) := hrow
    have HVr : Hid (wr.heap[w.heap.size]? = some (.cells (rowB (valsOf gs inp)) 4 (0, 0))) := hval
    have HW : Hid (Below w.heap.size w wr) := hb
    by_cases hjl : j < l.length
    · obtain ⟨x, hx⟩ : ∃ x, l[j]? = some x := ⟨_, List.getElem?_eq_getElem hjl⟩
      obtain ⟨b, off, rfl, hcx⟩ := HUC.out j x hx
      have q0 := cell_keep hb hcx
      have hxl : HasL gs x := hasB_iff.1 (List.all_eq_true.1 HA.out x (List.mem_of_getElem? hx))
      have X0 : Hid (0 ≤ x) := hxl.1
      have X1 : Hid (x < 2 * ((gs.length + 1 : Nat) : Int)) := by unfold HasL at hxl; unfold Hid; omega
      have LN : Hid ((valsOf gs inp).length = gs.length + 1) := valsTo_length _ _ _
      have LS : Hid (gs.length + 1 ≤ 100000) := by have := HG.out; unfold Hid; omega
      have N4 : Hid (wrap64 ((j : Int) + 1) = (j : Int) + 1) := by have := HLL.out; unfold Hid wrap64; omega
      have i0' : (0 : Int) ≤ (j : Int) := by omega
      have i1' : (j : Int) < (l.length : Int) := by omega
      have HJ : Hid (j < l.length) := hjl
      have HXJ : Hid (l[j]? = some x) := hx
      obtain ⟨y, hy⟩ : ∃ y, (rowL (litV (valsOf gs inp)) l j)[j]? = some y := ⟨_, List.getElem?_eq_getElem (by rw [rowL_length _ _ (Nat.le_of_lt hjl)]; exact hjl)⟩
      have xO : wr.cell? ⟨w1.heap.size, j, none⟩ = some (.bool y) := by rw [cell_of_row wr _ _ _ _ (0, 0) hrow]; exact rowB_get hy
      have fO : wr.frozen? ⟨w1.heap.size, j, none⟩ = false := frozen_row hrow
      clear hj hrow hval hb hjl hx hcx hxl hy
      go_wp2_with fail
      refine (holds_any wr _ _ _ _ HVr.out LN.out x X0.out X1.out LS.out).mono ?_
      rintro e w' ⟨rfl, hw⟩
      have hw2 := hw.symm
      subst hw2
      go_wp2
      have hne : w.heap.size ≠ w1.heap.size := Nat.ne_of_lt HVO.out
      exact ⟨⟨j + 1, HJ.out, by rw [N4.out]; rfl, rowL_store HR.out HXJ.out, by rw [Below.heap_setCell _ _ _ _ hne]; exact HVr.out, HW.out.setCell (Nat.le_of_lt HVO.out) _⟩, by rw [N4.out]; have := HJ.out; simp [intOf]; omega⟩
    · obtain rfl : j = l.length := by omega
      rw [rowL_all] at hrow
      have HR' : Hid (wr.heap[w1.heap.size]? = some (.cells (rowB (l.map (litV (valsOf gs inp)))) 4 (0, 0))) := hrow
      clear hrow hval hb HR
      go_wp2
      go_ret2
      exact ⟨w1.heap.size, rfl, HR'.out, Nat.le_of_lt HVO.out, HW.out⟩
end Go.Proofs.YtpiglmaojonbnaaGreatDoor
