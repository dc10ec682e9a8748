/-
  WHAT LITERALS COME TO, AS MATHEMATICS: gates that are added change nothing; what And, Or, If make comes to what it must.
-/
import Derived.Test.YtpiglmaojonbnaaDoorP12
namespace Go.Proofs.YtpiglmaojonbnaaDoor

/-- What a literal comes to. -/
def valL (gs : List (Int × Int)) (inp : List Bool) (x : Int) : Bool := litV (valsOf gs inp) x
/-- More gates, none of them an input. -/
def Ext (gs gs' : List (Int × Int)) : Prop := ∃ t, gs' = gs ++ t ∧ cntI t = 0
theorem Ext.refl (gs : List (Int × Int)) : Ext gs gs := ⟨[], by simp, rfl⟩
theorem cntI_app (a b : List (Int × Int)) : cntI (a ++ b) = cntI a + cntI b := by simp [cntI]
theorem Ext.trans {a b c : List (Int × Int)} (h : Ext a b) (k : Ext b c) : Ext a c := by
  obtain ⟨t, rfl, h1⟩ := h
  obtain ⟨u, rfl, h2⟩ := k
  exact ⟨t ++ u, by simp, by rw [cntI_app, h1, h2]⟩
theorem Ext.cnt {a b : List (Int × Int)} (h : Ext a b) : cntI b = cntI a := by
  obtain ⟨t, rfl, h1⟩ := h
  rw [cntI_app, h1]; rfl
theorem Ext.le {a b : List (Int × Int)} (h : Ext a b) : a.length ≤ b.length := by
  obtain ⟨t, rfl, _⟩ := h
  simp
theorem HasL.ext {a b : List (Int × Int)} {x : Int} (h : HasL a x) (k : Ext a b) : HasL b x := h.mono k.le
theorem valsTo_app (gs t : List (Int × Int)) (inp : List Bool) : ∀ n, n ≤ gs.length → valsTo (gs ++ t) inp n = valsTo gs inp n
  | 0, _ => rfl
  | n + 1, h => by
    unfold valsTo
    rw [valsTo_app gs t inp n (by omega), List.getElem?_append_left (by omega)]
theorem valsTo_step (gs : List (Int × Int)) (inp : List Bool) (n : Nat) : ∃ b, (valsTo gs inp (n + 1)).1 = (valsTo gs inp n).1 ++ [b] := by
  conv => enter [1, b]; lhs; unfold valsTo
  split
  · split
    · exact ⟨_, rfl⟩
    · exact ⟨_, rfl⟩
  · exact ⟨_, rfl⟩
theorem valsTo_pre (gs : List (Int × Int)) (inp : List Bool) (n : Nat) : ∀ d, ∃ t, (valsTo gs inp (n + d)).1 = (valsTo gs inp n).1 ++ t
  | 0 => ⟨[], by simp⟩
  | d + 1 => by
    obtain ⟨t, h⟩ := valsTo_pre gs inp n d
    obtain ⟨b, h2⟩ := valsTo_step gs inp (n + d)
    exact ⟨t ++ [b], by rw [← Nat.add_assoc, h2, h, List.append_assoc]⟩
theorem litV_app {vs t : List Bool} {x : Int} (h : x < 2 * (vs.length : Int)) (h0 : 0 < vs.length) : litV (vs ++ t) x = litV vs x := by
  unfold litV
  have : (x / 2).toNat < vs.length := by omega
  simp only [List.getD_eq_getElem?_getD]
  rw [List.getElem?_append_left this]
theorem valsOf_length (gs : List (Int × Int)) (inp : List Bool) : (valsOf gs inp).length = gs.length + 1 := valsTo_length _ _ _
theorem Ext.val {gs gs' : List (Int × Int)} (h : Ext gs gs') (inp : List Bool) {x : Int} (hx : HasL gs x) : valL gs' inp x = valL gs inp x := by
  obtain ⟨t, rfl, _⟩ := h
  unfold valL valsOf
  obtain ⟨u, hu⟩ := valsTo_pre (gs ++ t) inp gs.length t.length
  rw [List.length_append, hu, valsTo_app gs t inp _ (Nat.le_refl _), litV_app]
  · rw [valsTo_length]; unfold HasL at hx; omega
  · rw [valsTo_length]; omega
theorem val_turn (gs : List (Int × Int)) (inp : List Bool) (x : Int) : valL gs inp (turnL x) = !valL gs inp x := by
  obtain ⟨h1, _, h2⟩ := turnL_eq x
  unfold valL litV
  rw [h1]
  rcases h2 with ⟨h3, h4⟩ | ⟨h3, h4⟩
  · have e1 : (turnL x % 2 == 1) = true := by rw [h3]; simp; omega
    have e2 : (x % 2 == 1) = false := by simp <;> omega
    rw [e1, e2]; cases (valsOf gs inp).getD (x / 2).toNat false <;> rfl
  · have e1 : (turnL x % 2 == 1) = false := by rw [h3]; simp; omega
    have e2 : (x % 2 == 1) = true := by simp; omega
    rw [e1, e2]; cases (valsOf gs inp).getD (x / 2).toNat false <;> rfl
theorem vals_head (gs : List (Int × Int)) (inp : List Bool) : (valsOf gs inp)[0]? = some false := by
  obtain ⟨t, h⟩ := valsTo_pre gs inp 0 gs.length
  unfold valsOf
  rw [Nat.zero_add] at h
  rw [h]
  rfl
theorem val_zero (gs : List (Int × Int)) (inp : List Bool) : valL gs inp 0 = false := by
  unfold valL litV
  rw [List.getD_eq_getElem?_getD]
  have : ((0 : Int) / 2).toNat = 0 := rfl
  rw [this, vals_head]
  rfl
theorem val_one (gs : List (Int × Int)) (inp : List Bool) : valL gs inp 1 = true := by
  have : turnL 0 = 1 := rfl
  rw [← this, val_turn, val_zero]; rfl
/-- A gate that is there. -/
theorem val_gate {gs : List (Int × Int)} (hg : Gs gs) (inp : List Bool) {i : Nat} {p : Int × Int} (hi : gs[i]? = some p) (hp : inpB p = false) : valL gs inp (2 * (i : Int) + 2) = (valL gs inp p.1 && valL gs inp p.2) := by
  have hil : i < gs.length := (List.getElem?_eq_some_iff.1 hi).1
  have hlit := hg.lits hi hp
  obtain ⟨t, ht⟩ := valsTo_pre gs inp (i + 1) (gs.length - (i + 1))
  have e : i + 1 + (gs.length - (i + 1)) = gs.length := by omega
  rw [e] at ht
  have hs : (valsTo gs inp (i + 1)).1 = (valsTo gs inp i).1 ++ [litV (valsTo gs inp i).1 p.1 && litV (valsTo gs inp i).1 p.2] := by
    conv => lhs; unfold valsTo
    rw [hi]
    simp [hp]
  have hl := valsTo_length gs inp i
  have key : ∀ x : Int, x < 2 * ((i : Int) + 1) → litV (valsTo gs inp gs.length).1 x = litV (valsTo gs inp i).1 x := fun x hx => by
    rw [ht, hs, List.append_assoc, litV_app (by rw [hl]; omega) (by omega)]
  unfold valL valsOf
  rw [key p.1 hlit.2.1, key p.2 hlit.2.2.2]
  unfold litV
  have e1 : ((2 * (i : Int) + 2) / 2).toNat = i + 1 := by omega
  have e2 : ((2 * (i : Int) + 2) % 2 == 1) = false := by simp
  rw [e1, e2, List.getD_eq_getElem?_getD, ht, hs, List.append_assoc, List.getElem?_append_right (by omega), hl, Nat.sub_self]
  simp [litV]
theorem mem_idx {gs : List (Int × Int)} {p : Int × Int} (h : p ∈ gs) : gs[gs.idxOf p]? = some p := by
  rw [List.getElem?_eq_getElem (List.idxOf_lt_length_of_mem h), List.getElem_idxOf]
theorem andG_ext (gs : List (Int × Int)) (a b : Int) : Ext gs (andG gs a b) := by
  unfold andG
  split
  · exact Ext.refl _
  · rename_i h1
    split
    · exact Ext.refl _
    · split
      · exact Ext.refl _
      · refine ⟨_, rfl, ?_⟩
        simp only [offB, Bool.or_eq_true, Bool.and_eq_true, decide_eq_true_eq, not_or, not_and] at h1
        have : inpB (min a b, max a b) = false := by
          unfold inpB
          simp only [Prod.mk.injEq, decide_eq_false_iff_not]
          omega
        simp [cntI, this]
theorem val_and {gs : List (Int × Int)} (hg : Gs gs) (inp : List Bool) {a b : Int} (ha : HasL gs a) (hb : HasL gs b) : valL (andG gs a b) inp (andL gs a b) = (valL gs inp a && valL gs inp b) := by
  have hg2 := hg.and ha hb
  have he := andG_ext gs a b
  have hmm : (valL gs inp a && valL gs inp b) = (valL gs inp (min a b) && valL gs inp (max a b)) := by
    rcases Int.le_total a b with h | h
    · rw [Int.min_eq_left h, Int.max_eq_right h]
    · rw [Int.min_eq_right h, Int.max_eq_left h, Bool.and_comm]
  rw [hmm]
  by_cases h1 : offB a b = true
  · have e1 : andG gs a b = gs := by unfold andG; rw [if_pos h1]
    have e2 : andL gs a b = 0 := by unfold andL; rw [if_pos h1]
    rw [e1, e2, val_zero]
    simp only [offB, Bool.or_eq_true, Bool.and_eq_true, decide_eq_true_eq] at h1
    rcases h1 with h1 | ⟨h1, h2⟩
    · rw [h1, val_zero]; rfl
    · have : turnL (min a b) = max a b := by unfold turnL; rw [if_pos h2]; omega
      rw [← this, val_turn]
      cases valL gs inp (min a b) <;> rfl
  · by_cases h2 : oneB a b = true
    · have e1 : andG gs a b = gs := by unfold andG; rw [if_neg h1, if_pos h2]
      have e2 : andL gs a b = max a b := by unfold andL; rw [if_neg h1, if_pos h2]
      rw [e1, e2]
      simp only [oneB, Bool.or_eq_true, decide_eq_true_eq] at h2
      rcases h2 with h2 | h2
      · rw [h2, val_one]; rfl
      · rw [← h2]; cases valL gs inp (min a b) <;> rfl
    · have hm := andG_mem (gs := gs) h1 h2
      have hn : inpB (min a b, max a b) = false := by
        simp only [offB, Bool.or_eq_true, Bool.and_eq_true, decide_eq_true_eq, not_or, not_and] at h1
        unfold HasL at ha hb
        unfold inpB
        simp only [Prod.mk.injEq, decide_eq_false_iff_not]
        omega
      have hidx : andL gs a b = 2 * ((andG gs a b).idxOf (min a b, max a b) : Int) + 2 := by
        unfold andL andG
        rw [if_neg h1, if_neg h2, if_neg h1, if_neg h2]
        split
        · rfl
        · rename_i h3
          rw [idx_new h3, idx_out h3]
      rw [hidx, val_gate hg2 inp (mem_idx hm) hn]
      have hmn : HasL gs (min a b) := by unfold HasL at *; omega
      have hmx : HasL gs (max a b) := by unfold HasL at *; omega
      rw [he.val inp hmn, he.val inp hmx]
theorem orG_ext (gs : List (Int × Int)) (a b : Int) : Ext gs (orG gs a b) := andG_ext _ _ _
theorem val_or {gs : List (Int × Int)} (hg : Gs gs) (inp : List Bool) {a b : Int} (ha : HasL gs a) (hb : HasL gs b) : valL (orG gs a b) inp (orL gs a b) = (valL gs inp a || valL gs inp b) := by
  unfold orL orG
  rw [val_turn, val_and hg inp ha.turn hb.turn, val_turn, val_turn]
  cases valL gs inp a <;> cases valL gs inp b <;> rfl
theorem either_val {gs : List (Int × Int)} (hg : Gs gs) {a b c d : Int} (ha : HasL gs a) (hb : HasL gs b) (hc : HasL gs c) (hd : HasL gs d) : Ext gs (eitherG gs a b c d) ∧ ∀ inp, valL (eitherG gs a b c d) inp (eitherL gs a b c d) = ((valL gs inp a && valL gs inp b) || (valL gs inp c && valL gs inp d)) := by
  have e1 := andG_ext gs a b
  have g1 := hg.and ha hb
  have hc1 := hc.ext e1
  have hd1 := hd.ext e1
  have e2 := andG_ext (andG gs a b) c d
  have g2 := g1.and hc1 hd1
  have hx := (andL_has ha hb).ext e2
  have hy := andL_has hc1 hd1
  refine ⟨(e1.trans e2).trans (orG_ext _ _ _), fun inp => ?_⟩
  unfold eitherG eitherL
  rw [val_or g2 inp hx hy, e2.val inp (andL_has ha hb), val_and hg inp ha hb, val_and g1 inp hc1 hd1, e1.val inp hc, e1.val inp hd]
theorem val_input (gs : List (Int × Int)) (inp : List Bool) : valL (gs ++ [(0, 0)]) inp (2 * (gs.length : Int) + 2) = inp.getD (cntI gs) false := by
  unfold valL valsOf
  rw [List.length_append]
  show litV (valsTo (gs ++ [(0, 0)]) inp (gs.length + 1)).1 _ = _
  have h0 : (gs ++ [((0 : Int), (0 : Int))])[gs.length]? = some (0, 0) := by simp
  have hi : inpB ((0 : Int), (0 : Int)) = true := by decide
  have e : (valsTo (gs ++ [(0, 0)]) inp (gs.length + 1)).1 = (valsTo gs inp gs.length).1 ++ [inp.getD (cntI gs) false] := by
    conv => lhs; unfold valsTo
    rw [h0]
    simp only [hi, if_true]
    rw [valsTo_app gs _ inp _ (Nat.le_refl _), valsTo_cnt gs inp _ (Nat.le_refl _), List.take_length]
  rw [e]
  unfold litV
  have e1 : ((2 * (gs.length : Int) + 2) / 2).toNat = gs.length + 1 := by omega
  have e2 : ((2 * (gs.length : Int) + 2) % 2 == 1) = false := by simp
  rw [e1, e2, List.getD_eq_getElem?_getD, List.getElem?_append_right (by rw [valsTo_length]; omega), valsTo_length, Nat.sub_self]
  simp
/-- With an input more, what was there is as it was. -/
theorem val_more (gs t : List (Int × Int)) (inp : List Bool) {x : Int} (hx : HasL gs x) : valL (gs ++ t) inp x = valL gs inp x := by
  unfold valL valsOf
  obtain ⟨u, hu⟩ := valsTo_pre (gs ++ t) inp gs.length t.length
  rw [List.length_append, hu, valsTo_app gs t inp _ (Nat.le_refl _), litV_app]
  · rw [valsTo_length]; unfold HasL at hx; omega
  · rw [valsTo_length]; omega
end Go.Proofs.YtpiglmaojonbnaaDoor
