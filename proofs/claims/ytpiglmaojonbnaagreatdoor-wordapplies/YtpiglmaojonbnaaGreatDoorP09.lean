/-
  WHAT LITERALS COME TO, AS MATHEMATICS: gates that are added change nothing; what And, Or, If make comes to what it must.
-/
import Derived.Test.YtpiglmaojonbnaaGreatDoorP08
import Derived.Test.YtpiglmaojonbnaaGreatDoorP01
namespace Go.Proofs.YtpiglmaojonbnaaGreatDoor

/-- What a literal comes to. -/
def valL (gs : List (Int × Int)) (inp : List Bool) (x : Int) : Bool := litV (valsOf gs inp) x
/-- More gates, none of them an input. -/
def Ext (gs gs' : List (Int × Int)) : Prop := ∃ t, gs' = gs ++ t ∧ cntI t = 0
theorem Ext.refl (gs : List (Int × Int)) : Ext gs gs := ⟨[], by simp, rfl⟩
theorem cntI_app (a b : List (Int × Int)) : cntI (a ++ b) = cntI a + cntI b := by simp [cntI]
theorem Ext.trans {a b c : List (Int × Int)} (h : Ext a b) (k : Ext b c) : Ext a c := by
  obtain ⟨t, rfl, h1⟩ := h
  obtain ⟨u, rfl, h2⟩ := k
  exact ⟨t ++ u, by simp, by rw [cntI_app, h1, h2]⟩
theorem Ext.cnt {a b : List (Int × Int)} (h : Ext a b) : cntI b = cntI a := by
  obtain ⟨t, rfl, h1⟩ := h
  rw [cntI_app, h1]; rfl
theorem Ext.le {a b : List (Int × Int)} (h : Ext a b) : a.length ≤ b.length := by
  obtain ⟨t, rfl, _⟩ := h
  simp
theorem HasL.ext {a b : List (Int × Int)} {x : Int} (h : HasL a x) (k : Ext a b) : HasL b x := h.mono k.le
theorem valsTo_app (gs t : List (Int × Int)) (inp : List Bool) : ∀ n, n ≤ gs.length → valsTo (gs ++ t) inp n = valsTo gs inp n
  | 0, _ => rfl
  | n + 1, h => by
    unfold valsTo
    rw [valsTo_app gs t inp n (by omega), List.getElem?_append_left (by omega)]
theorem valsTo_step (gs : List (Int × Int)) (inp : List Bool) (n : Nat) : ∃ b, (valsTo gs inp (n + 1)).1 = (valsTo gs inp n).1 ++ [b] := by
  conv => enter [1, b]; lhs; unfold valsTo
  split
  · split
    · exact ⟨_, rfl⟩
    · exact ⟨_, rfl⟩
  · exact ⟨_, rfl⟩
theorem valsTo_pre (gs : List (Int × Int)) (inp : List Bool) (n : Nat) : ∀ d, ∃ t, (valsTo gs inp (n + d)).1 = (valsTo gs inp n).1 ++ t
  | 0 => ⟨[], by simp⟩
  | d + 1 => by
    obtain ⟨t, h⟩ := valsTo_pre gs inp n d
    obtain ⟨b, h2⟩ := valsTo_step gs inp (n + d)
    exact ⟨t ++ [b], by rw [← Nat.add_assoc, h2, h, List.append_assoc]⟩
theorem litV_app {vs t : List Bool} {x : Int} (h : x < 2 * (vs.length : Int)) (h0 : 0 < vs.length) : litV (vs ++ t) x = litV vs x := by
  unfold litV
  have : (x / 2).toNat < vs.length := by omega
  simp only [List.getD_eq_getElem?_getD]
  rw [List.getElem?_append_left this]
theorem valsOf_length (gs : List (Int × Int)) (inp : List Bool) : (valsOf gs inp).length = gs.length + 1 := valsTo_length _ _ _
theorem Ext.val {gs gs' : List (Int × Int)} (h : Ext gs gs') (inp : List Bool) {x : Int} (hx : HasL gs x) : valL gs' inp x = valL gs inp x := by
  obtain ⟨t, rfl, _⟩ := h
  unfold valL valsOf
  obtain ⟨u, hu⟩ := valsTo_pre (gs ++ t) inp gs.length t.length
  rw [List.length_append, hu, valsTo_app gs t inp _ (Nat.le_refl _), litV_app]
  · rw [valsTo_length]; unfold HasL at hx; omega
  · rw [valsTo_length]; omega
theorem val_turn (gs : List (Int × Int)) (inp : List Bool) (x : Int) : valL gs inp (turnL x) = !valL gs inp x := by
  obtain ⟨h1, _, h2⟩ := turnL_eq x
  unfold valL litV
  rw [h1]
  rcases h2 with ⟨h3, h4⟩ | ⟨h3, h4⟩
  · have e1 : (turnL x % 2 == 1) = true := by rw [h3]; simp; omega
    have e2 : (x % 2 == 1) = false := by simp <;> omega
    rw [e1, e2]; cases (valsOf gs inp).getD (x / 2).toNat false <;> rfl
  · have e1 : (turnL x % 2 == 1) = false := by rw [h3]; simp; omega
    have e2 : (x % 2 == 1) = true := by simp; omega
    rw [e1, e2]; cases (valsOf gs inp).getD (x / 2).toNat false <;> rfl
theorem vals_head (gs : List (Int × Int)) (inp : List Bool) : (valsOf gs inp)[0]? = some false := by
  obtain ⟨t, h⟩ := valsTo_pre gs inp 0 gs.length
  unfold valsOf
  rw [Nat.zero_add] at h
  rw [h]
  rfl
theorem val_zero (gs : List (Int × Int)) (inp : List Bool) : valL gs inp 0 = false := by
  unfold valL litV
  rw [List.getD_eq_getElem?_getD]
  have : ((0 : Int) / 2).toNat = 0 := rfl
  rw [this, vals_head]
  rfl
theorem val_one (gs : List (Int × Int)) (inp : List Bool) : valL gs inp 1 = true := by
  have : turnL 0 = 1 := rfl
  rw [← this, val_turn, val_zero]; rfl
/-- A gate that is there. -/
theorem val_gate {gs : List (Int × Int)} (hg : Gs gs) (inp : List Bool) {i : Nat} {p : Int × Int} (hi : gs[i]? = some p) (hp : inpB p = false) : valL gs inp (2 * (i : Int) + 2) = (valL gs inp p.1 && valL gs inp p.2) := by
  have hil : i < gs.length := (List.getElem?_eq_some_iff.1 hi).1
  have hlit := hg.lits hi hp
  obtain ⟨t, ht⟩ := valsTo_pre gs inp (i + 1) (gs.length - (i + 1))
  have e : i + 1 + (gs.length - (i + 1)) = gs.length := by omega
  rw [e] at ht
  have hs : (valsTo gs inp (i + 1)).1 = (valsTo gs inp i).1 ++ [litV (valsTo gs inp i).1 p.1 && litV (valsTo gs inp i).1 p.2] := by
    conv => lhs; unfold valsTo
    rw [hi]
    simp [hp]
  have hl := valsTo_length gs inp i
  have key : ∀ x : Int, x < 2 * ((i : Int) + 1) → litV (valsTo gs inp gs.length).1 x = litV (valsTo gs inp i).1 x := fun x hx => by
    rw [ht, hs, List.append_assoc, litV_app (by rw [hl]; omega) (by omega)]
  unfold valL valsOf
  rw [key p.1 hlit.2.1, key p.2 hlit.2.2.2]
  unfold litV
  have e1 : ((2 * (i : Int) + 2) / 2).toNat = i + 1 := by omega
  have e2 : ((2 * (i : Int) + 2) % 2 == 1) = false := by simp
  rw [e1, e2, List.getD_eq_getElem?_getD, ht, hs, List.append_assoc, List.getElem?_append_right (by omega), hl, Nat.sub_self]
  simp [litV]
theorem mem_idx {gs : List (Int × Int)} {p : Int × Int} (h : p ∈ gs) : gs[gs.idxOf p]? = some p := by
  rw [List.getElem?_eq_getElem (List.idxOf_lt_length_of_mem h), List.getElem_idxOf]
theorem andG_ext (gs : List (Int × Int)) (a b : Int) : Ext gs (andG gs a b) := by
  unfold andG
  split
  · exact Ext.refl _
  · rename_i h1
    split
    · exact Ext.refl _
    · split
      · exact Ext.refl _
      · refine ⟨_, rfl, ?_⟩
        simp only [offB, Bool.or_eq_true, Bool.and_eq_true, decide_eq_true_eq, not_or, not_and] at h1
        have : inpB (min a b, max a b) = false := by
          unfold inpB
          simp only [Prod.mk.injEq, decide_eq_false_iff_not]
          omega
        simp [cntI, this]
theorem val_and {gs : List (Int × Int)} (hg : Gs gs) (inp : List Bool) {a b : Int} (ha : HasL gs a) (hb : HasL gs b) : valL (andG gs a b) inp (andL gs a b) = (valL gs inp a && valL gs inp b) := by
  have hg2 := hg.and ha hb
  have he := andG_ext gs a b
  have hmm : (valL gs inp a && valL gs inp b) = (valL gs inp (min a b) && valL gs inp (max a b)) := by
    rcases Int.le_total a b with h | h
    · rw [Int.min_eq_left h, Int.max_eq_right h]
    · rw [Int.min_eq_right h, Int.max_eq_left h, Bool.and_comm]
  rw [hmm]
  by_cases h1 : offB a b = true
  · have e1 : andG gs a b = gs := by unfold andG; rw [if_pos h1]
    have e2 : andL gs a b = 0 := by unfold andL; rw [if_pos h1]
    rw [e1, e2, val_zero]
    simp only [offB, Bool.or_eq_true, Bool.and_eq_true, decide_eq_true_eq] at h1
    rcases h1 with h1 | ⟨h1, h2⟩
    · rw [h1, val_zero]; rfl
    · have : turnL (min a b) = max a b := by unfold turnL; rw [if_pos h2]; omega
      rw [← this, val_turn]
      cases valL gs inp (min a b) <;> rfl
  · by_cases h2 : oneB a b = true
    · have e1 : andG gs a b = gs := by unfold andG; rw [if_neg h1, if_pos h2]
      have e2 : andL gs a b = max a b := by unfold andL; rw [if_neg h1, if_pos h2]
      rw [e1, e2]
      simp only [oneB, Bool.or_eq_true, decide_eq_true_eq] at h2
      rcases h2 with h2 | h2
      · rw [h2, val_one]; rfl
      · rw [← h2]; cases valL gs inp (min a b) <;> rfl
    · have hm := andG_mem (gs := gs) h1 h2
      have hn : inpB (min a b, max a b) = false := by
        simp only [offB, Bool.or_eq_true, Bool.and_eq_true, decide_eq_true_eq, not_or, not_and] at h1
        unfold HasL at ha hb
        unfold inpB
        simp only [Prod.mk.injEq, decide_eq_false_iff_not]
        omega
      have hidx : andL gs a b = 2 * ((andG gs a b).idxOf (min a b, max a b) : Int) + 2 := by
        unfold andL andG
        rw [if_neg h1, if_neg h2, if_neg h1, if_neg h2]
        split
        · rfl
        · rename_i h3
          rw [idx_new h3, idx_out h3]
      rw [hidx, val_gate hg2 inp (mem_idx hm) hn]
      have hmn : HasL gs (min a b) := by unfold HasL at *; omega
      have hmx : HasL gs (max a b) := by unfold HasL at *; omega
      rw [he.val inp hmn, he.val inp hmx]
theorem orG_ext (gs : List (Int × Int)) (a b : Int) : Ext gs (orG gs a b) := andG_ext _ _ _
theorem val_or {gs : List (Int × Int)} (hg : Gs gs) (inp : List Bool) {a b : Int} (ha : HasL gs a) (hb : HasL gs b) : valL (orG gs a b) inp (orL gs a b) = (valL gs inp a || valL gs inp b) := by
  unfold orL orG
  rw [val_turn, val_and hg inp ha.turn hb.turn, val_turn, val_turn]
  cases valL gs inp a <;> cases valL gs inp b <;> rfl
theorem either_val {gs : List (Int × Int)} (hg : Gs gs) {a b c d : Int} (ha : HasL gs a) (hb : HasL gs b) (hc : HasL gs c) (hd : HasL gs d) : Ext gs (eitherG gs a b c d) ∧ ∀ inp, valL (eitherG gs a b c d) inp (eitherL gs a b c d) = ((valL gs inp a && valL gs inp b) || (valL gs inp c && valL gs inp d)) := by
  have e1 := andG_ext gs a b
  have g1 := hg.and ha hb
  have hc1 := hc.ext e1
  have hd1 := hd.ext e1
  have e2 := andG_ext (andG gs a b) c d
  have g2 := g1.and hc1 hd1
  have hx := (andL_has ha hb).ext e2
  have hy := andL_has hc1 hd1
  refine ⟨(e1.trans e2).trans (orG_ext _ _ _), fun inp => ?_⟩
  unfold eitherG eitherL
  rw [val_or g2 inp hx hy, e2.val inp (andL_has ha hb), val_and hg inp ha hb, val_and g1 inp hc1 hd1, e1.val inp hc, e1.val inp hd]
theorem val_input (gs : List (Int × Int)) (inp : List Bool) : valL (gs ++ [(0, 0)]) inp (2 * (gs.length : Int) + 2) = inp.getD (cntI gs) false := by
  unfold valL valsOf
  rw [List.length_append]
  show litV (valsTo (gs ++ [(0, 0)]) inp (gs.length + 1)).1 _ = _
  have h0 : (gs ++ [((0 : Int), (0 : Int))])[gs.length]? = some (0, 0) := by simp
  have hi : inpB ((0 : Int), (0 : Int)) = true := by decide
  have e : (valsTo (gs ++ [(0, 0)]) inp (gs.length + 1)).1 = (valsTo gs inp gs.length).1 ++ [inp.getD (cntI gs) false] := by
    conv => lhs; unfold valsTo
    rw [h0]
    simp only [hi, if_true]
    rw [valsTo_app gs _ inp _ (Nat.le_refl _), valsTo_cnt gs inp _ (Nat.le_refl _), List.take_length]
  rw [e]
  unfold litV
  have e1 : ((2 * (gs.length : Int) + 2) / 2).toNat = gs.length + 1 := by omega
  have e2 : ((2 * (gs.length : Int) + 2) % 2 == 1) = false := by simp
  rw [e1, e2, List.getD_eq_getElem?_getD, List.getElem?_append_right (by rw [valsTo_length]; omega), valsTo_length, Nat.sub_self]
  simp
/-- With an input more, what was there is as it was. -/
theorem val_more (gs t : List (Int × Int)) (inp : List Bool) {x : Int} (hx : HasL gs x) : valL (gs ++ t) inp x = valL gs inp x := by
  unfold valL valsOf
  obtain ⟨u, hu⟩ := valsTo_pre (gs ++ t) inp gs.length t.length
  rw [List.length_append, hu, valsTo_app gs t inp _ (Nat.le_refl _), litV_app]
  · rw [valsTo_length]; unfold HasL at hx; omega
  · rw [valsTo_length]; omega
end Go.Proofs.YtpiglmaojonbnaaGreatDoor

/-
  NUMBERS OF BITS, AS MATHEMATICS: sums, opposite numbers, the lesser of two, by their bits.
-/
namespace Go.Proofs.YtpiglmaojonbnaaGreatDoor

/-- A bit as a number. -/
def bI (b : Bool) : Int := if b = true then 1 else 0
/-- The number of so many bits, the lowest first. -/
def natF (f : Nat → Bool) : Nat → Int
  | 0 => 0
  | n + 1 => natF f n + bI (f n) * 2 ^ n
theorem bI_cases (b : Bool) : (b = true ∧ bI b = 1) ∨ (b = false ∧ bI b = 0) := by cases b <;> simp [bI]
theorem two_pos (n : Nat) : (0 : Int) < 2 ^ n := Int.pow_pos (by decide)
theorem two_succ (n : Nat) : (2 : Int) ^ (n + 1) = 2 * 2 ^ n := by rw [Int.pow_succ, Int.mul_comm]
theorem natF_lt (f : Nat → Bool) : ∀ n, 0 ≤ natF f n ∧ natF f n < 2 ^ n
  | 0 => by simp [natF]
  | n + 1 => by
    have ih := natF_lt f n
    have hp := two_pos n
    rw [two_succ]
    unfold natF
    rcases bI_cases (f n) with ⟨_, h⟩ | ⟨_, h⟩ <;> rw [h] <;> omega
theorem natF_inj {f g : Nat → Bool} : ∀ {n : Nat}, natF f n = natF g n → ∀ i, i < n → f i = g i
  | 0, _, i, hi => by omega
  | n + 1, h, i, hi => by
    have hf := natF_lt f n
    have hg := natF_lt g n
    unfold natF at h
    have hn : f n = g n := by
      rcases bI_cases (f n) with ⟨h1, e1⟩ | ⟨h1, e1⟩ <;> rcases bI_cases (g n) with ⟨h2, e2⟩ | ⟨h2, e2⟩
      · rw [h1, h2]
      · rw [e1, e2] at h; omega
      · rw [e1, e2] at h; omega
      · rw [h1, h2]
    rcases Nat.lt_or_ge i n with h1 | h1
    · refine natF_inj (n := n) ?_ i h1
      rw [hn] at h
      omega
    · obtain rfl : i = n := by omega
      exact hn
theorem natF_congr {f g : Nat → Bool} : ∀ {n : Nat}, (∀ i, i < n → f i = g i) → natF f n = natF g n
  | 0, _ => rfl
  | n + 1, h => by
    unfold natF
    rw [natF_congr (n := n) (fun i hi => h i (by omega)), h n (by omega)]
/-- A number's bit. -/
def bitI (n : Int) (i : Nat) : Int := n / 2 ^ i % 2
def bitB (n : Int) (i : Nat) : Bool := bitI n i == 1
theorem bitI_cases (n : Int) (i : Nat) : bitI n i = 0 ∨ bitI n i = 1 := by unfold bitI; omega
theorem bI_bitB (n : Int) (i : Nat) : bI (bitB n i) = bitI n i := by
  rcases bitI_cases n i with h | h <;> simp [bI, bitB, h]
theorem bitI_natF (f : Nat → Bool) {i n : Nat} (h : i < n) : bitI (natF f n) i = bI (f i) := by
  induction n with
  | zero => omega
  | succ n ih =>
    unfold natF
    rcases Nat.lt_or_ge i n with h1 | h1
    · rw [← ih h1]
      obtain ⟨d, rfl⟩ : ∃ d, n = i + 1 + d := ⟨n - i - 1, by omega⟩
      unfold bitI
      have e : bI (f (i + 1 + d)) * 2 ^ (i + 1 + d) = 2 ^ i * (2 * (bI (f (i + 1 + d)) * 2 ^ d)) := by
        rw [Int.pow_add, Int.pow_succ]
        ac_rfl
      rw [e, Int.add_mul_ediv_left _ _ (Int.ne_of_gt (two_pos i))]
      omega
    · obtain rfl : i = n := by omega
      have hf := natF_lt f i
      unfold bitI
      rw [Int.add_mul_ediv_right _ _ (Int.ne_of_gt (two_pos i)), Int.ediv_eq_zero_of_lt hf.1 hf.2]
      rcases bI_cases (f i) with ⟨_, e⟩ | ⟨_, e⟩ <;> rw [e] <;> omega
theorem natF_bits8 (n : Int) : natF (bitB n) 8 = n % 256 := by
  simp only [natF, bI_bitB, bitI]
  omega
theorem natF_bits1 (n : Int) (h : n = 0 ∨ n = 1) : natF (bitB n) 1 = n := by
  simp only [natF, bI_bitB, bitI]
  rcases h with rfl | rfl <;> rfl
/-- A sum's carries, its bits. -/
def cry (a b : Nat → Bool) (c : Bool) : Nat → Bool
  | 0 => c
  | i + 1 => (a i && b i) || ((a i ^^ b i) && cry a b c i)
def smB (a b : Nat → Bool) (c : Bool) (i : Nat) : Bool := (a i ^^ b i) ^^ cry a b c i
theorem sum_nat (a b : Nat → Bool) (c : Bool) : ∀ n, natF (smB a b c) n + bI (cry a b c n) * 2 ^ n = natF a n + natF b n + bI c
  | 0 => by simp [natF, cry]
  | n + 1 => by
    have ih := sum_nat a b c n
    rw [two_succ]
    simp only [natF, smB]
    have hc : cry a b c (n + 1) = ((a n && b n) || ((a n ^^ b n) && cry a b c n)) := rfl
    rw [hc]
    cases ha : a n <;> cases hb : b n <;> cases hk : cry a b c n <;> rw [hk] at ih <;> simp [bI] at ih ⊢ <;> omega
theorem sum_mod (a b : Nat → Bool) (c : Bool) (n : Nat) : natF (smB a b c) n = (natF a n + natF b n + bI c) % 2 ^ n := by
  have h := sum_nat a b c n
  rw [← h, Int.add_mul_emod_self_right, Int.emod_eq_of_lt (natF_lt _ n).1 (natF_lt _ n).2]
/-- Below 2^n: what is taken away, by a sum of what is turned. -/
theorem natF_not (a : Nat → Bool) : ∀ n, natF (fun i => !a i) n = 2 ^ n - 1 - natF a n
  | 0 => by simp [natF]
  | n + 1 => by
    have ih := natF_not a n
    rw [two_succ]
    simp only [natF, ih]
    cases a n <;> simp [bI] <;> omega
/-- The opposite number's bits. -/
def abv (t : Bool) (x : Nat → Bool) : Nat → Bool
  | 0 => false
  | i + 1 => t && (x i || abv t x i)
def opB (t : Bool) (x : Nat → Bool) (i : Nat) : Bool := x i ^^ abv t x i
theorem opp_off (x : Nat → Bool) (n : Nat) : natF (opB false x) n = natF x n := by
  refine natF_congr fun i _ => ?_
  unfold opB
  cases i <;> simp [abv]
theorem opp_on (x : Nat → Bool) : ∀ n, natF (opB true x) n + natF x n = bI (abv true x n) * 2 ^ n
  | 0 => by simp [natF, abv, bI]
  | n + 1 => by
    have ih := opp_on x n
    have h1 := natF_lt x n
    have h2 := natF_lt (opB true x) n
    rw [two_succ]
    simp only [natF, opB]
    have hc : abv true x (n + 1) = (x n || abv true x n) := by simp [abv]
    rw [hc]
    cases ha : x n <;> cases hk : abv true x n <;> rw [hk] at ih <;> simp [bI] at ih ⊢ <;> omega
theorem abv_zero (x : Nat → Bool) : ∀ n, abv true x n = false ↔ natF x n = 0
  | 0 => by simp [abv, natF]
  | n + 1 => by
    have ih := abv_zero x n
    have hc : abv true x (n + 1) = (x n || abv true x n) := by simp [abv]
    have h1 := natF_lt x n
    have hp := two_pos n
    rw [hc]
    unfold natF
    cases ha : x n <;> simp [bI, ih] <;> omega
/-- Lesser, by bits. -/
def ltB (a b : Nat → Bool) : Nat → Bool
  | 0 => false
  | i + 1 => (!a i && b i) || ((!a i || b i) && ltB a b i)
theorem ltB_nat (a b : Nat → Bool) : ∀ n, ltB a b n = decide (natF a n < natF b n)
  | 0 => by simp [ltB, natF]
  | n + 1 => by
    have ih := ltB_nat a b n
    have h1 := natF_lt a n
    have h2 := natF_lt b n
    have hp := two_pos n
    unfold ltB natF
    rw [ih]
    cases a n <;> cases b n <;> simp [bI] <;> omega
/-- One of them. -/
def orF (a : Nat → Bool) : Nat → Bool
  | 0 => false
  | i + 1 => a i || orF a i
theorem orF_false (a : Nat → Bool) (n : Nat) : orF a n = false ↔ ∀ i, i < n → a i = false := by
  induction n with
  | zero => simp [orF]
  | succ n ih =>
    unfold orF
    rw [Bool.or_eq_false_iff, ih]
    constructor
    · rintro ⟨h1, h2⟩ i hi
      rcases Nat.lt_or_ge i n with h | h
      · exact h2 i h
      · obtain rfl : i = n := by omega
        exact h1
    · exact fun h => ⟨h n (by omega), fun i hi => h i (by omega)⟩
theorem orF_nat (a : Nat → Bool) (n : Nat) : orF a n = decide (natF a n ≠ 0) := by
  have e : orF a n = abv true a n := by
    induction n with
    | zero => rfl
    | succ n ih => simp [orF, abv, ih]
  rw [e]
  have := abv_zero a n
  cases h : abv true a n
  · simp [this.1 h]
  · have : natF a n ≠ 0 := fun hz => by rw [this.2 hz] at h; cases h
    simp [this]
end Go.Proofs.YtpiglmaojonbnaaGreatDoor

/-
  BOOLS THAT ARE COPIED BY append; ints in a row that was made by append.
-/
namespace Go.Proofs.YtpiglmaojonbnaaGreatDoor
open Go.RowKit Go.Maps

theorem run_append_zero {P : Program} (w : World) (t ty e : TypeId) (i : TypeInfo) (ht : P.underlying t = some (.slice e)) (hi : P.info? e = some i) (no : Option Addr) (nc : Nat) : (Builtin.append_ #[t, t] ty #[.slice none 0 0, .slice no 0 nc]).run P w = .ok (.slice none 0 0) w := by
  cases no <;> simp [Builtin.append_, run_underlying ht, sizeOf, typeInfo, hi, Builtin.lenOf, Builtin.firstCells, loadCells, loadCellsFrom]
/-- 'append(nil, in...)': the bools, in new memory. -/
theorem run_copy_bools (w : World) (ty : TypeId) (v : Value) (inp : List Bool) (h : BoolsAt w v inp) (hl : inp.length ≤ 1000) :
    ∃ o c w', (Builtin.append_ #[33, 33] ty #[.slice none 0 0, v]).run Tryz.prog w = .ok (.slice o inp.length c) w' ∧ BoolsAt w' (.slice o inp.length c) inp ∧ Below w.heap.size w w' := by
  obtain ⟨i0, hi0, hz0, hz1, hz2⟩ := info_parts Tryz.infoBool
  obtain ⟨hm, io, ic, rfl, hc⟩ := h
  by_cases h0 : inp.length = 0
  · have hr := run_append_zero (P := Tryz.prog) w 33 ty 4 i0 Tryz.underlying33 hi0 io ic
    refine ⟨none, 0, w, by rw [h0]; exact hr, ⟨hm, none, 0, rfl, fun k x hk => ?_⟩, Below.refl _ _⟩
    have := (List.getElem?_eq_some_iff.1 hk).1
    omega
  · obtain ⟨b, off, rfl, _⟩ := hc 0 _ (List.getElem?_eq_getElem (by omega))
    have hadd : ∀ j, (⟨b, off, none⟩ : Addr).add j = ⟨b, off + j, none⟩ := fun j => by unfold Addr.add; split <;> simp_all
    obtain ⟨g, cap, w', hr, h2, h3, h4, h5⟩ := run_append_lies (P := Tryz.prog) w 33 ty w.heap.size 4 i0 _ 1 1 Tryz.underlying33 hi0 hz0 hz1 hz2 rfl (by omega) (.slice none 0 0) 0 [] (World.ownsRow_nil _ _ _ _) ⟨b, off, none⟩ inp.length ic (inp.map Value.bool) (by simp)
      (fun j u hu => by
        rw [hadd]
        rw [List.getElem?_map] at hu
        obtain ⟨x, hx, rfl⟩ := Option.map_eq_some_iff.1 hu
        obtain ⟨b', off', e, hc'⟩ := hc j x hx
        obtain ⟨rfl, rfl⟩ : b = b' ∧ off = off' := by simpa using e
        exact hc')
      (fun u hu => by obtain ⟨x, _, rfl⟩ := List.mem_map.1 hu; rfl) (by omega) (by unfold maxLen; omega) (by omega) (Nat.le_refl _) _ rfl
    rw [Nat.zero_add] at hr h2
    rw [List.nil_append] at h2
    have hcs := h2.cells (g := g) rfl
    have hadd' : ∀ j, (⟨g, 0, none⟩ : Addr).add j = ⟨g, 0 + j, none⟩ := fun j => by unfold Addr.add; split <;> simp_all
    refine ⟨some ⟨g, 0, none⟩, cap, w', hr, ⟨hm, _, cap, rfl, fun k x hk => ⟨g, 0, rfl, ?_⟩⟩, ⟨h3.os, h3.tape, h3.output, h3.size, fun k hk => h3.block k hk (by simp [Value.ownBlock])⟩⟩
    rw [← hadd']
    exact hcs k _ (by simp [hk])
theorem wpList_copy_bools (w : World) {ops : Array Oper} {rest : List Oper} {o : Oper} {a : Act} {Q : Exit → Act → World → Prop} (hgd : o.guard = none) (s x : Operand)
    (ho : o.op = .call { callee := .builtin .append, args := #[s, x], argTypes := #[33, 33] }) (hs : a.eval s = .slice none 0 0) (v : Value) (hx : a.eval x = v) (inp : List Bool) (h : BoolsAt w v inp) (hl : inp.length ≤ 1000)
    (hK : ∀ o' c w', BoolsAt w' (.slice o' inp.length c) inp → Below w.heap.size w w' → wpList Tryz.prog ops Q rest (a.put o.dst (.slice o' inp.length c)) w') : wpList Tryz.prog ops Q (o :: rest) a w := by
  refine wpList_plain hgd fun K hK' => ?_
  obtain ⟨o', c, w', hr, h1, h2⟩ := run_copy_bools w o.type v inp h hl
  unfold Oper.wp execOp
  simp only [ho, resolve, invoke, builtin, Sem.run_bind, Sem.run_pure, Result.andThen_ok, List.map_toArray, List.map_cons, List.map_nil, hs, hx, hr]
  exact hK' _ _ (hK o' c w' h1 h2)
theorem Tryz.infoLit : (Tryz.prog.info? 39).map (fun i => (i.zero, i.size, i.bytes)) = some (some (.int .i64 0), 1, 8) := by kernel_rfl
theorem ints_of_owns {w : World} {base n : Nat} {o : Option Addr} {c : Nat} {l : List Int} (h : w.ownsRow base 39 1 (.slice o n c) n (l.map (Value.int .i64))) (hn : l.length = n) (hm : n ≤ maxLen) : IntsAt w (.slice o n c) l := by
  subst hn
  refine ⟨hm, o, c, rfl, fun k x hk => ?_⟩
  have hlt := (List.getElem?_eq_some_iff.1 hk).1
  obtain ⟨g, cap, e, _, _⟩ := h.form (by omega)
  obtain ⟨rfl, rfl⟩ : o = some ⟨g, 0, none⟩ ∧ c = cap := by simpa using e
  have hadd' : ∀ j, (⟨g, 0, none⟩ : Addr).add j = ⟨g, 0 + j, none⟩ := fun j => by unfold Addr.add; split <;> simp_all
  refine ⟨g, 0, rfl, ?_⟩
  rw [← hadd']
  exact h.cells (g := g) rfl k _ (by simp [hk])
end Go.Proofs.YtpiglmaojonbnaaGreatDoor
