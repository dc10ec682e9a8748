/-
  lustrumlaw3.WordApplies, MATHEMATICS: what bits come to, operator by operator, is what the document's operator comes to.
-/
import Derived.Test.YtpiglmaojonbnaaGreatDoorP27
import Derived.Test.YtpiglmaojonbnaaGreatDoorP39
namespace Go.Proofs.YtpiglmaojonbnaaGreatDoor
open Go.RowKit Go.Maps

/-- How many bits a kind has; a value's bits; the bits of values, one behind the other. -/
def widK (k : Int) : Nat := if k = 1 then 1 else 8
def bitsV (x : Int × Int) : List Bool := wordB x.2 (widK x.1)
def allV (l : List (Int × Int)) : List Bool := l.flatMap bitsV
/-- So many inputs, from one on; the words of values. -/
def inpO (off m : Nat) : List Int := (List.range m).map fun j => 2 * ((off + j : Nat) : Int) + 2
def wordsV : Nat → List (Int × Int) → List (List Int)
  | _, [] => []
  | off, x :: l => inpO off (widK x.1) :: wordsV (off + widK x.1) l
theorem widK_le (k : Int) : widK k ≤ 8 := by unfold widK; split <;> omega
theorem bitsV_length (x : Int × Int) : (bitsV x).length = widK x.1 := wordB_length _ _
theorem allV_app (l : List (Int × Int)) (x : Int × Int) : allV (l ++ [x]) = allV l ++ bitsV x := by simp [allV]
theorem allV_le : ∀ l : List (Int × Int), (allV l).length ≤ 8 * l.length
  | [] => by simp [allV]
  | x :: l => by
    have := allV_le l
    have h := widK_le x.1
    have hb := bitsV_length x
    have e : allV (x :: l) = bitsV x ++ allV l := by simp [allV]
    rw [e, List.length_append, List.length_cons]
    omega
theorem wordsV_app : ∀ (l : List (Int × Int)) (off : Nat) (x : Int × Int), wordsV off (l ++ [x]) = wordsV off l ++ [inpO (off + (allV l).length) (widK x.1)]
  | [], off, x => by simp [wordsV, allV]
  | y :: l, off, x => by
    have ih := wordsV_app l (off + widK y.1) x
    have e : (allV (y :: l)).length = widK y.1 + (allV l).length := by
      have h : allV (y :: l) = bitsV y ++ allV l := by simp [allV]
      rw [h, List.length_append, bitsV_length]
    simp only [List.cons_append, wordsV, ih, e, Nat.add_assoc]
theorem wordsV_length : ∀ (l : List (Int × Int)) (off : Nat), (wordsV off l).length = l.length
  | [], _ => rfl
  | x :: l, off => by simp [wordsV, wordsV_length l]
theorem inpO_length (off m : Nat) : (inpO off m).length = m := by simp [inpO]
theorem inpO_succ (off m : Nat) : inpO off (m + 1) = inpO off m ++ [2 * ((off + m : Nat) : Int) + 2] := by simp [inpO, List.range_succ]
theorem inpO_has {off m n : Nat} (h : off + m ≤ n) : ∀ x ∈ inpO off m, HasL (inps n) x := fun x hx => by
  simp only [inpO, List.mem_map, List.mem_range] at hx
  obtain ⟨j, hj, rfl⟩ := hx
  unfold HasL
  rw [inps_length]
  omega
theorem wordsV_has {n : Nat} : ∀ (l : List (Int × Int)) (off : Nat), off + (allV l).length ≤ n → ∀ a ∈ wordsV off l, ∀ x ∈ a, HasL (inps n) x
  | [], _, _, a, ha => by simp [wordsV] at ha
  | y :: l, off, h, a, ha => by
    have e : (allV (y :: l)).length = widK y.1 + (allV l).length := by
      have h : allV (y :: l) = bitsV y ++ allV l := by simp [allV]
      rw [h, List.length_append, bitsV_length]
    rw [e] at h
    simp only [wordsV, List.mem_cons] at ha
    rcases ha with rfl | ha
    · exact inpO_has (by omega)
    · exact wordsV_has l _ (by omega) a ha
/-- A word is a value's bits. -/
def Wrd (gs : List (Int × Int)) (inp : List Bool) (a : List Int) (x : Int × Int) : Prop := a.length = widK x.1 ∧ ∀ i, i < widK x.1 → bitsL gs inp a i = bitB x.2 i
def Wrds (gs : List (Int × Int)) (inp : List Bool) : List (List Int) → List (Int × Int) → Prop
  | [], [] => True
  | a :: ls, x :: l => Wrd gs inp a x ∧ Wrds gs inp ls l
  | _, _ => False
theorem wrds_all : ∀ (l : List (Int × Int)) (pre : List Bool) (n : Nat), (pre ++ allV l).length ≤ n → Wrds (inps n) (pre ++ allV l) (wordsV pre.length l) l
  | [], _, _, _ => trivial
  | x :: l, pre, n, h => by
    have e : pre ++ allV (x :: l) = (pre ++ bitsV x) ++ allV l := by simp [allV]
    have ih := wrds_all l (pre ++ bitsV x) n (by rw [← e]; exact h)
    have hl : (pre ++ bitsV x).length = pre.length + widK x.1 := by rw [List.length_append, bitsV_length]
    rw [← e, hl] at ih
    refine ⟨⟨inpO_length _ _, fun i hi => ?_⟩, ih⟩
    have hx : (inpO pre.length (widK x.1))[i]? = some (2 * ((pre.length + i : Nat) : Int) + 2) := by simp [inpO, hi]
    have hn : pre.length + i < n := by
      rw [e, List.length_append, hl] at h; omega
    rw [bitsL_get hx, inp_val n _ _ hn, e, List.getD_eq_getElem?_getD, List.getElem?_append_left (by rw [hl]; omega), List.getElem?_append_right (by omega), Nat.add_sub_cancel_left, ← List.getD_eq_getElem?_getD]
    exact wordB_get hi
theorem wrd8 {gs : List (Int × Int)} {inp : List Bool} {a : List Int} {x : Int × Int} (h : Wrd gs inp a x) (hr : rightB x.1 x.2 x.1 = true) (ha : a.length = 8) : x.1 = 2 ∧ -128 ≤ x.2 ∧ x.2 ≤ 127 ∧ natF (bitsL gs inp a) 8 = x.2 % 256 := by
  have hw : widK x.1 = 8 := by rw [← h.1]; exact ha
  have h1 : x.1 ≠ 1 := fun e => by rw [e] at hw; exact absurd hw (by decide)
  unfold rightB at hr
  rw [if_pos rfl, if_neg h1] at hr
  simp at hr
  refine ⟨hr.1, by omega, by omega, ?_⟩
  rw [natF_congr (fun i hi => h.2 i (by rw [hw]; exact hi)), natF_bits8]
theorem wrd1 {gs : List (Int × Int)} {inp : List Bool} {a : List Int} {x : Int × Int} (h : Wrd gs inp a x) (hr : rightB x.1 x.2 x.1 = true) (ha : a.length = 1) : x.1 = 1 ∧ (x.2 = 0 ∨ x.2 = 1) ∧ bitsL gs inp a 0 = decide (x.2 = 1) := by
  have hw : widK x.1 = 1 := by rw [← h.1]; exact ha
  have h1 : x.1 = 1 := by
    by_cases e : x.1 = 1
    · exact e
    · unfold widK at hw; rw [if_neg e] at hw; omega
  unfold rightB at hr
  rw [if_pos rfl, if_pos h1] at hr
  have hr' : x.2 = 0 ∨ x.2 = 1 := by simpa using hr
  refine ⟨h1, hr', ?_⟩
  rw [h.2 0 (by rw [hw]; omega)]
  rcases hr' with e | e <;> rw [e] <;> rfl
/-- What a list of bits that comes to a truth is as a value. -/
theorem val_bool {L : List Bool} (hl : L.length = 1) {b : Bool} (h : L.getD 0 false = b) : valK L = 1 ∧ valI L = truthI b := by
  refine ⟨by unfold valK; rw [hl]; rfl, ?_⟩
  unfold valI
  rw [hl]
  simp only [natF, h]
  cases b <;> rfl
theorem val_num {L : List Bool} (hl : L.length = 8) {f : Nat → Bool} (h : ∀ i, i < 8 → L.getD i false = f i) {R : Int} (hR : natF f 8 = R % 256) : valK L = 2 ∧ valI L = aroundI R := by
  have := val_around hl (R := R) (by rw [natF_congr (fun i hi => h i hi)]; exact hR)
  exact ⟨this.2, this.1⟩
theorem less_num {A B : Nat → Bool} {a b : Int} (hA : natF A 8 = a % 256) (hB : natF B 8 = b % 256) (ha : -128 ≤ a ∧ a ≤ 127) (hb : -128 ≤ b ∧ b ≤ 127) : lessB A B = decide (a < b) := by
  have sa := sgn7 hA ha.1 ha.2
  have sb := sgn7 hB hb.1 hb.2
  have e7 : (2 : Int) ^ 7 = 128 := by decide
  have ea : natF A 8 = natF A 7 + bI (A 7) * 2 ^ 7 := rfl
  have eb : natF B 8 = natF B 7 + bI (B 7) * 2 ^ 7 := rfl
  have la := natF_lt A 7
  have lb := natF_lt B 7
  unfold lessB blw
  rw [ltB_nat, sa, sb]
  rw [e7, sa] at ea
  rw [e7, sb] at eb
  rw [e7] at la lb
  by_cases h1 : a < 0 <;> by_cases h2 : b < 0 <;> simp [h1, h2, bI] at ea eb ⊢ <;> omega
theorem xor_num {A B : Nat → Bool} {a b : Int} (hA : natF A 8 = a % 256) (hB : natF B 8 = b % 256) (ha : -128 ≤ a ∧ a ≤ 127) (hb : -128 ≤ b ∧ b ≤ 127) : orF (fun i => A i ^^ B i) 8 = decide (a ≠ b) := by
  by_cases h : a = b
  · rw [decide_eq_false (by simp [h]), orF_false]
    intro i hi
    have := natF_inj (f := A) (g := B) (n := 8) (by rw [hA, hB, h]) i hi
    rw [this]; cases B i <;> rfl
  · rw [decide_eq_true h]
    cases hh : orF (fun i => A i ^^ B i) 8 with
    | true => rfl
    | false =>
      rw [orF_false] at hh
      have e : natF A 8 = natF B 8 := natF_congr (fun i hi => by
        have := hh i hi
        revert this
        cases A i <;> cases B i <;> simp)
      rw [hA, hB] at e
      omega
theorem xor_bit {A B : Nat → Bool} {a b : Int} (hA : A 0 = decide (a = 1)) (hB : B 0 = decide (b = 1)) (ha : a = 0 ∨ a = 1) (hb : b = 0 ∨ b = 1) : orF (fun i => A i ^^ B i) 1 = decide (a ≠ b) := by
  simp only [orF, hA, hB]
  rcases ha with rfl | rfl <;> rcases hb with rfl | rfl <;> rfl
/-- What is told of bits that an operator made. -/
def Told (inp : List Bool) (len : Nat) (g : List Bool → Nat → Bool) (t : Bool) (r : (Int × Int) × Bool) : Prop :=
  t = r.2 ∧ (r.2 = false → ∀ L : List Bool, L.length = len → (∀ i, i < len → L.getD i false = g inp i) → valK L = r.1.1 ∧ valI L = r.1.2)
theorem told_bool {inp : List Bool} {g : List Bool → Nat → Bool} {b : Bool} (h : g inp 0 = b) : Told inp 1 g false ((1, truthI b), false) :=
  ⟨rfl, fun _ _ hl hL => val_bool hl (by rw [hL 0 (by omega), h])⟩
theorem told_num {inp : List Bool} {g : List Bool → Nat → Bool} {R : Int} (h : natF (g inp) 8 = R % 256) : Told inp 8 g false ((2, aroundI R), false) :=
  ⟨rfl, fun _ _ hl hL => val_num hl hL h⟩
theorem div_gen {A B q : Nat → Bool} {a b : Int} (hA : natF A 8 = a % 256) (hB : natF B 8 = b % 256) (ha : -128 ≤ a ∧ a ≤ 127) (hb : -128 ≤ b ∧ b ≤ 127) (h0 : b ≠ 0) (hq : natF (opB (B 7) B) 8 ≠ 0 → natF q 8 = natF (opB (A 7) A) 8 / natF (opB (B 7) B) 8) :
    natF (opB (A 7 ^^ B 7) q) 8 = a.tdiv b % 256 := by
  rw [abs_num hA ha.1 ha.2, abs_num hB hb.1 hb.2] at hq
  have hq' := hq (by unfold absI; split <;> omega)
  rw [opp_num, sgn7 hA ha.1 ha.2, sgn7 hB hb.1 hb.2, hq', tdiv_abs]
theorem mod_gen {A B q : Nat → Bool} {a b : Int} (hA : natF A 8 = a % 256) (hB : natF B 8 = b % 256) (ha : -128 ≤ a ∧ a ≤ 127) (hb : -128 ≤ b ∧ b ≤ 127) (h0 : b ≠ 0) (hq : natF (opB (B 7) B) 8 ≠ 0 → natF q 8 = natF (opB (A 7) A) 8 % natF (opB (B 7) B) 8) :
    natF (opB (A 7) q) 8 = (a - a.tdiv b * b) % 256 := by
  rw [abs_num hA ha.1 ha.2, abs_num hB hb.1 hb.2] at hq
  have hq' := hq (by unfold absI; split <;> omega)
  rw [opp_num, sgn7 hA ha.1 ha.2, hq', tmod_abs]
theorem trap_gen {B : Nat → Bool} {b : Int} (hB : natF B 8 = b % 256) (hb : -128 ≤ b ∧ b ≤ 127) : (!orF B 8) = decide (b = 0) := by
  rw [orF_nat, hB]
  by_cases h : b = 0
  · subst h; rfl
  · rw [decide_eq_false h, decide_eq_true (show b % 256 ≠ 0 by omega)]; rfl
theorem wrds_one {gs : List (Int × Int)} {inp : List Bool} {a : List Int} {l : List (Int × Int)} (h : Wrds gs inp [a] l) : ∃ x, l = [x] ∧ Wrd gs inp a x := by
  cases l with
  | nil => exact h.elim
  | cons x l => cases l with
    | nil => exact ⟨x, rfl, h.1⟩
    | cons y l => exact h.2.elim
theorem wrds_two {gs : List (Int × Int)} {inp : List Bool} {a b : List Int} {l : List (Int × Int)} (h : Wrds gs inp [a, b] l) : ∃ x y, l = [x, y] ∧ Wrd gs inp a x ∧ Wrd gs inp b y := by
  cases l with
  | nil => exact h.elim
  | cons x l =>
    obtain ⟨y, rfl, hy⟩ := wrds_one h.2
    exact ⟨x, y, rfl, h.1, hy⟩
theorem wrds_three {gs : List (Int × Int)} {inp : List Bool} {a b c : List Int} {l : List (Int × Int)} (h : Wrds gs inp [a, b, c] l) : ∃ x y z, l = [x, y, z] ∧ Wrd gs inp a x ∧ Wrd gs inp b y ∧ Wrd gs inp c z := by
  cases l with
  | nil => exact h.elim
  | cons x l =>
    obtain ⟨y, z, rfl, hy, hz⟩ := wrds_two h.2
    exact ⟨x, y, z, rfl, h.1, hy, hz⟩
theorem told_same {inp : List Bool} {n : Nat} {g : List Bool → Nat → Bool} {x : Int × Int} (hn : widK x.1 = n) (hr : rightB x.1 x.2 x.1 = true) (h : ∀ i, i < n → g inp i = bitB x.2 i) : Told inp n g false (x, false) := by
  refine ⟨rfl, fun _ L hl hL => ?_⟩
  have e : L = wordB x.2 n := by
    refine List.ext_getElem? fun i => ?_
    rcases Nat.lt_or_ge i n with hi | hi
    · have h1 := hL i hi
      rw [h i hi, List.getD_eq_getElem?_getD, List.getElem?_eq_getElem (by omega), Option.getD_some] at h1
      rw [List.getElem?_eq_getElem (by omega), h1]
      simp [wordB, hi]
    · rw [List.getElem?_eq_none (by omega), List.getElem?_eq_none (by rw [wordB_length]; exact hi)]
  rw [e]
  refine val_word ?_
  unfold rightB at hr
  rw [if_pos rfl] at hr
  unfold widK at hn
  by_cases h1 : x.1 = 1
  · rw [if_pos h1] at hr hn
    exact .inl ⟨h1, hn.symm, by simpa using hr⟩
  · rw [if_neg h1] at hr hn
    simp at hr
    exact .inr ⟨hr.1, hn.symm, by omega, by omega⟩
set_option maxHeartbeats 1000000 in
theorem sem_app {gs : List (Int × Int)} {inp : List Bool} {op : List UInt8} {ls : List (List Int)} {l : List (Int × Int)} {len : Nat} {Pr : (List Bool → Nat → Bool) → Prop} {tf : List Bool → Bool} (hW : Wrds gs inp ls l) (hR : ∀ x ∈ l, rightB x.1 x.2 x.1 = true) (h : SemR gs op ls len Pr tf) {g : List Bool → Nat → Bool} (hg : Pr g) : Told inp len g (tf inp) (appT op l) := by
  unfold SemR at h
  rcases h with ⟨n, t, a, b, rfl, rfl, ht, ha, hb, hn, rfl, rfl, rfl⟩ | ⟨n, a, b, rfl, rfl, ha, hb, hn, rfl, rfl, rfl⟩ | ⟨n, a, b, rfl, rfl, ha, hb, hn, rfl, rfl, rfl⟩ | ⟨a, b, rfl, rfl, ha, hb, rfl, rfl, rfl⟩ | ⟨a, b, rfl, rfl, ha, hb, rfl, rfl, rfl⟩ | ⟨a, b, rfl, rfl, ha, hb, rfl, rfl, rfl⟩ | ⟨a, b, rfl, rfl, ha, hb, rfl, rfl, rfl⟩ | ⟨a, b, rfl, rfl, ha, hb, rfl, rfl, rfl⟩ | ⟨a, b, rfl, rfl, ha, hb, rfl, rfl, rfl⟩ | ⟨a, b, rfl, rfl, ha, hb, rfl, rfl, rfl⟩ | ⟨a, b, rfl, rfl, ha, hb, rfl, rfl, rfl⟩ | ⟨a, b, rfl, rfl, ha, hb, rfl, rfl, rfl⟩ | ⟨a, rfl, rfl, ha, rfl, rfl, rfl⟩ | ⟨a, b, rfl, rfl, ha, hb, rfl, rfl, rfl⟩ | ⟨a, b, rfl, rfl, ha, hb, rfl, rfl, rfl⟩ | ⟨a, b, rfl, rfl, ha, hb, rfl, rfl, rfl⟩ | ⟨a, b, rfl, rfl, ha, hb, rfl, rfl, rfl⟩ | ⟨a, rfl, rfl, ha, rfl, rfl, rfl⟩
  · -- if
    obtain ⟨x, y, z, rfl, hx, hy, hz⟩ := wrds_three hW
    obtain ⟨_, x2, x3⟩ := wrd1 hx (hR x (by simp)) ht
    subst hg
    by_cases h1 : x.2 = 1
    · have e : appT [105, 102] [x, y, z] = (y, false) := by simp [appT, h1]
      rw [e]
      exact told_same (by rw [← hy.1]; exact ha) (hR y (by simp)) (fun i hi => by simp only [x3, h1, decide_true, if_true]; exact hy.2 i (by rw [← hy.1, ha]; exact hi))
    · have e : appT [105, 102] [x, y, z] = (z, false) := by simp [appT, h1]
      rw [e]
      exact told_same (by rw [← hz.1]; exact hb) (hR z (by simp)) (fun i hi => by simp only [x3, h1, decide_false, Bool.false_eq_true, if_false]; exact hz.2 i (by rw [← hz.1, hb]; exact hi))
  · -- unlike
    obtain ⟨x, y, rfl, hx, hy⟩ := wrds_two hW
    subst hg
    have e : appT [60, 62] [x, y] = ((1, truthI (x.2 != y.2)), false) := by simp [appT]
    rw [e]
    refine told_bool ?_
    rcases hn with rfl | rfl
    · obtain ⟨_, x2, x3⟩ := wrd1 hx (hR x (by simp)) ha
      obtain ⟨_, y2, y3⟩ := wrd1 hy (hR y (by simp)) hb
      rw [xor_bit x3 y3 x2 y2]
      by_cases h : x.2 = y.2 <;> simp [h]
    · obtain ⟨_, x1, x2, x3⟩ := wrd8 hx (hR x (by simp)) ha
      obtain ⟨_, y1, y2, y3⟩ := wrd8 hy (hR y (by simp)) hb
      rw [xor_num x3 y3 ⟨x1, x2⟩ ⟨y1, y2⟩]
      by_cases h : x.2 = y.2 <;> simp [h]
  · -- alike
    obtain ⟨x, y, rfl, hx, hy⟩ := wrds_two hW
    subst hg
    have e : appT [61] [x, y] = ((1, truthI (x.2 == y.2)), false) := by simp [appT]
    rw [e]
    refine told_bool ?_
    rcases hn with rfl | rfl
    · obtain ⟨_, x2, x3⟩ := wrd1 hx (hR x (by simp)) ha
      obtain ⟨_, y2, y3⟩ := wrd1 hy (hR y (by simp)) hb
      rw [xor_bit x3 y3 x2 y2]
      by_cases h : x.2 = y.2 <;> simp [h]
    · obtain ⟨_, x1, x2, x3⟩ := wrd8 hx (hR x (by simp)) ha
      obtain ⟨_, y1, y2, y3⟩ := wrd8 hy (hR y (by simp)) hb
      rw [xor_num x3 y3 ⟨x1, x2⟩ ⟨y1, y2⟩]
      by_cases h : x.2 = y.2 <;> simp [h]
  · obtain ⟨x, y, rfl, hx, hy⟩ := wrds_two hW
    subst hg
    obtain ⟨_, x1, x2, x3⟩ := wrd8 hx (hR x (by simp)) ha
    obtain ⟨_, y1, y2, y3⟩ := wrd8 hy (hR y (by simp)) hb
    have e : appT [62, 61] [x, y] = ((1, truthI (decide (y.2 ≤ x.2))), false) := by simp [appT]
    rw [e]
    refine told_bool ?_
    rw [less_num x3 y3 ⟨x1, x2⟩ ⟨y1, y2⟩]
    by_cases h : x.2 < y.2 <;> simp [h] <;> omega
  · obtain ⟨x, y, rfl, hx, hy⟩ := wrds_two hW
    subst hg
    obtain ⟨_, x1, x2, x3⟩ := wrd8 hx (hR x (by simp)) ha
    obtain ⟨_, y1, y2, y3⟩ := wrd8 hy (hR y (by simp)) hb
    have e : appT [62] [x, y] = ((1, truthI (decide (y.2 < x.2))), false) := by simp [appT]
    rw [e]
    refine told_bool ?_
    rw [less_num y3 x3 ⟨y1, y2⟩ ⟨x1, x2⟩]
  · obtain ⟨x, y, rfl, hx, hy⟩ := wrds_two hW
    subst hg
    obtain ⟨_, x1, x2, x3⟩ := wrd8 hx (hR x (by simp)) ha
    obtain ⟨_, y1, y2, y3⟩ := wrd8 hy (hR y (by simp)) hb
    have e : appT [60, 61] [x, y] = ((1, truthI (decide (x.2 ≤ y.2))), false) := by simp [appT]
    rw [e]
    refine told_bool ?_
    rw [less_num y3 x3 ⟨y1, y2⟩ ⟨x1, x2⟩]
    by_cases h : y.2 < x.2 <;> simp [h] <;> omega
  · obtain ⟨x, y, rfl, hx, hy⟩ := wrds_two hW
    subst hg
    obtain ⟨_, x1, x2, x3⟩ := wrd8 hx (hR x (by simp)) ha
    obtain ⟨_, y1, y2, y3⟩ := wrd8 hy (hR y (by simp)) hb
    have e : appT [60] [x, y] = ((1, truthI (decide (x.2 < y.2))), false) := by simp [appT]
    rw [e]
    refine told_bool ?_
    rw [less_num x3 y3 ⟨x1, x2⟩ ⟨y1, y2⟩]
  · -- mod
    obtain ⟨x, y, rfl, hx, hy⟩ := wrds_two hW
    obtain ⟨q, hq, rfl⟩ := hg
    obtain ⟨_, x1, x2, x3⟩ := wrd8 hx (hR x (by simp)) ha
    obtain ⟨_, y1, y2, y3⟩ := wrd8 hy (hR y (by simp)) hb
    show Told inp 8 _ (!orF (bitsL gs inp b) 8) _
    rw [trap_gen y3 ⟨y1, y2⟩]
    by_cases h0 : y.2 = 0
    · have e : appT [109, 111, 100] [x, y] = ((0, 0), true) := by simp [appT, h0]
      rw [e, decide_eq_true h0]
      exact ⟨rfl, fun h => by cases h⟩
    · have e : appT [109, 111, 100] [x, y] = ((2, aroundI (x.2 - x.2.tdiv y.2 * y.2)), false) := by simp [appT, h0]
      rw [e, decide_eq_false h0]
      exact told_num (mod_gen x3 y3 ⟨x1, x2⟩ ⟨y1, y2⟩ h0 (hq inp))
  · -- divided
    obtain ⟨x, y, rfl, hx, hy⟩ := wrds_two hW
    obtain ⟨q, hq, rfl⟩ := hg
    obtain ⟨_, x1, x2, x3⟩ := wrd8 hx (hR x (by simp)) ha
    obtain ⟨_, y1, y2, y3⟩ := wrd8 hy (hR y (by simp)) hb
    show Told inp 8 _ (!orF (bitsL gs inp b) 8) _
    rw [trap_gen y3 ⟨y1, y2⟩]
    by_cases h0 : y.2 = 0
    · have e : appT [47] [x, y] = ((0, 0), true) := by simp [appT, h0]
      rw [e, decide_eq_true h0]
      exact ⟨rfl, fun h => by cases h⟩
    · have e : appT [47] [x, y] = ((2, aroundI (x.2.tdiv y.2)), false) := by simp [appT, h0]
      rw [e, decide_eq_false h0]
      exact told_num (div_gen x3 y3 ⟨x1, x2⟩ ⟨y1, y2⟩ h0 (hq inp))
  · obtain ⟨x, y, rfl, hx, hy⟩ := wrds_two hW
    subst hg
    obtain ⟨_, x1, x2, x3⟩ := wrd8 hx (hR x (by simp)) ha
    obtain ⟨_, y1, y2, y3⟩ := wrd8 hy (hR y (by simp)) hb
    have e : appT [42] [x, y] = ((2, aroundI (x.2 * y.2)), false) := by simp [appT]
    rw [e]
    refine told_num ?_
    have e8 : (2 : Int) ^ 8 = 256 := by decide
    rw [prod_nat _ _ 8 8 (Nat.le_refl _), x3, y3, e8, ← Int.mul_emod]
  · obtain ⟨x, y, rfl, hx, hy⟩ := wrds_two hW
    subst hg
    obtain ⟨_, x1, x2, x3⟩ := wrd8 hx (hR x (by simp)) ha
    obtain ⟨_, y1, y2, y3⟩ := wrd8 hy (hR y (by simp)) hb
    have e : appT [45] [x, y] = ((2, aroundI (x.2 - y.2)), false) := by simp [appT]
    rw [e]
    refine told_num ?_
    have e8 : (2 : Int) ^ 8 = 256 := by decide
    have e1 : bI true = 1 := rfl
    rw [sum_mod, natF_not, x3, y3, e8, e1]
    omega
  · obtain ⟨x, y, rfl, hx, hy⟩ := wrds_two hW
    subst hg
    obtain ⟨_, x1, x2, x3⟩ := wrd8 hx (hR x (by simp)) ha
    obtain ⟨_, y1, y2, y3⟩ := wrd8 hy (hR y (by simp)) hb
    have e : appT [43] [x, y] = ((2, aroundI (x.2 + y.2)), false) := by simp [appT]
    rw [e]
    refine told_num ?_
    have e8 : (2 : Int) ^ 8 = 256 := by decide
    have e0 : bI false = 0 := rfl
    rw [sum_mod, x3, y3, e8, e0]
    omega
  · obtain ⟨x, rfl, hx⟩ := wrds_one hW
    subst hg
    obtain ⟨_, x1, x2, x3⟩ := wrd8 hx (hR x (by simp)) ha
    have e : appT [110, 101, 103] [x] = ((2, aroundI (256 - x.2)), false) := by simp [appT]
    rw [e]
    refine told_num ?_
    rw [opp_num, x3]
    simp only [if_true]
    omega
  · obtain ⟨x, y, rfl, hx, hy⟩ := wrds_two hW
    subst hg
    obtain ⟨_, x2, x3⟩ := wrd1 hx (hR x (by simp)) ha
    obtain ⟨_, y2, y3⟩ := wrd1 hy (hR y (by simp)) hb
    have e : appT [61, 62] [x, y] = ((1, truthI (decide (x.2 ≤ y.2))), false) := by simp [appT]
    rw [e]
    refine told_bool ?_
    rw [x3, y3]
    rcases x2 with h | h <;> rcases y2 with k | k <;> rw [h, k] <;> rfl
  · obtain ⟨x, y, rfl, hx, hy⟩ := wrds_two hW
    subst hg
    obtain ⟨_, x2, x3⟩ := wrd1 hx (hR x (by simp)) ha
    obtain ⟨_, y2, y3⟩ := wrd1 hy (hR y (by simp)) hb
    have e : appT [120, 111, 114] [x, y] = ((1, truthI (x.2 + y.2 == 1)), false) := by simp [appT]
    rw [e]
    refine told_bool ?_
    rw [x3, y3]
    rcases x2 with h | h <;> rcases y2 with k | k <;> rw [h, k] <;> rfl
  · obtain ⟨x, y, rfl, hx, hy⟩ := wrds_two hW
    subst hg
    obtain ⟨_, x2, x3⟩ := wrd1 hx (hR x (by simp)) ha
    obtain ⟨_, y2, y3⟩ := wrd1 hy (hR y (by simp)) hb
    have e : appT [111, 114] [x, y] = ((1, truthI (decide (0 < x.2 + y.2))), false) := by simp [appT]
    rw [e]
    refine told_bool ?_
    rw [x3, y3]
    rcases x2 with h | h <;> rcases y2 with k | k <;> rw [h, k] <;> rfl
  · obtain ⟨x, y, rfl, hx, hy⟩ := wrds_two hW
    subst hg
    obtain ⟨_, x2, x3⟩ := wrd1 hx (hR x (by simp)) ha
    obtain ⟨_, y2, y3⟩ := wrd1 hy (hR y (by simp)) hb
    have e : appT [97, 110, 100] [x, y] = ((1, truthI (x.2 + y.2 == 2)), false) := by simp [appT]
    rw [e]
    refine told_bool ?_
    rw [x3, y3]
    rcases x2 with h | h <;> rcases y2 with k | k <;> rw [h, k] <;> rfl
  · obtain ⟨x, rfl, hx⟩ := wrds_one hW
    subst hg
    obtain ⟨_, x2, x3⟩ := wrd1 hx (hR x (by simp)) ha
    have e : appT [110, 111, 116] [x] = ((1, truthI (x.2 == 0)), false) := by simp [appT]
    rw [e]
    refine told_bool ?_
    rw [x3]
    rcases x2 with h | h <;> rw [h] <;> rfl
end Go.Proofs.YtpiglmaojonbnaaGreatDoor
