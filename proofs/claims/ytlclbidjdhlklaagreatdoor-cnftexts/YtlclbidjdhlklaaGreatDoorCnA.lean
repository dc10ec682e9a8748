/-
  CLAUSES AS MATHEMATICS: which gates are needed, their numbers, the clauses; by what the gates are they hold just where the roots do.
-/
import Derived.Test.YtlclbidjdhlklaaGreatDoorWvA
namespace Go.Proofs.YtlclbidjdhlklaaGreatDoor

/-- A literal's gate is marked. -/
def markL (l : List Bool) (x : Int) : List Bool := l.set (x / 2).toNat true
theorem markL_length (l : List Bool) (x : Int) : (markL l x).length = l.length := by simp [markL]
theorem marks_length (xs : List Int) : ∀ l : List Bool, (xs.foldl markL l).length = l.length := by
  induction xs with
  | nil => exact fun l => rfl
  | cons x r ih => exact fun l => by rw [List.foldl_cons, ih, markL_length]
theorem markL_keep {l : List Bool} {x : Int} {k : Nat} (h : l[k]? = some true) : (markL l x)[k]? = some true := by
  unfold markL
  have hk : k < l.length := (List.getElem?_eq_some_iff.1 h).1
  rw [List.getElem?_set]
  split
  · simp; omega
  · exact h
theorem markL_at {l : List Bool} {x : Int} (h : (x / 2).toNat < l.length) : (markL l x)[(x / 2).toNat]? = some true := by
  unfold markL
  rw [List.getElem?_set]
  simp [h]
theorem marks_keep (xs : List Int) : ∀ (l : List Bool) (k : Nat), l[k]? = some true → (xs.foldl markL l)[k]? = some true := by
  induction xs with
  | nil => exact fun l k h => h
  | cons x r ih => exact fun l k h => by rw [List.foldl_cons]; exact ih _ _ (markL_keep h)
theorem marks_all (xs : List Int) : ∀ (l : List Bool), (∀ x ∈ xs, (x / 2).toNat < l.length) → ∀ x ∈ xs, (xs.foldl markL l)[(x / 2).toNat]? = some true := by
  induction xs with
  | nil => intro l _ x hx; simp at hx
  | cons y r ih =>
    intro l h x hx
    rw [List.foldl_cons]
    rcases List.mem_cons.1 hx with rfl | hx
    · exact marks_keep r _ _ (markL_at (h x (List.mem_cons_self ..)))
    · exact ih _ (fun z hz => by rw [markL_length]; exact h z (List.mem_cons_of_mem _ hz)) x hx
/-- The parts of gate n + 1 are marked, if it is needed and no input. -/
def stepN (gs : List (Int × Int)) (l : List Bool) (n : Nat) : List Bool :=
  if l.getD (n + 1) false && !inpB (gs.getD n (0, 0)) then markL (markL l (gs.getD n (0, 0)).1) (gs.getD n (0, 0)).2 else l
def downN (gs : List (Int × Int)) : Nat → List Bool → List Bool
  | 0, l => l
  | n + 1, l => downN gs n (stepN gs l n)
theorem stepN_length (gs : List (Int × Int)) (l : List Bool) (n : Nat) : (stepN gs l n).length = l.length := by
  unfold stepN; split <;> simp [markL_length]
theorem downN_length (gs : List (Int × Int)) : ∀ (n : Nat) (l : List Bool), (downN gs n l).length = l.length
  | 0, l => rfl
  | n + 1, l => by rw [downN, downN_length gs n, stepN_length]
theorem stepN_keep {gs : List (Int × Int)} {l : List Bool} {n k : Nat} (h : l[k]? = some true) : (stepN gs l n)[k]? = some true := by
  unfold stepN; split
  · exact markL_keep (markL_keep h)
  · exact h
theorem downN_keep {gs : List (Int × Int)} : ∀ (n : Nat) (l : List Bool) (k : Nat), l[k]? = some true → (downN gs n l)[k]? = some true
  | 0, l, k, h => h
  | n + 1, l, k, h => by rw [downN]; exact downN_keep n _ k (stepN_keep h)
/-- A step marks nothing but what lies ahead. -/
theorem stepN_other {gs : List (Int × Int)} (hg : Gs gs) {l : List Bool} {n k : Nat} (hn : n < gs.length) (hk : n + 1 ≤ k) : (stepN gs l n)[k]? = l[k]? := by
  unfold stepN
  split
  · rename_i h
    have hp : gs[n]? = some (gs.getD n (0, 0)) := by rw [List.getD_eq_getElem?_getD, List.getElem?_eq_getElem hn]; rfl
    have hni : inpB (gs.getD n (0, 0)) = false := by simp at h; exact h.2
    rcases hg.each n _ hp with he | ⟨h1, h2, h3⟩
    · rw [he] at hni; simp [inpB] at hni
    · unfold markL
      rw [List.getElem?_set_ne (by omega), List.getElem?_set_ne (by omega)]
  · rfl
theorem downN_other {gs : List (Int × Int)} (hg : Gs gs) : ∀ (n : Nat) (l : List Bool) (k : Nat), n ≤ gs.length → n + 1 ≤ k → (downN gs n l)[k]? = l[k]?
  | 0, l, k, _, _ => rfl
  | n + 1, l, k, hn, hk => by rw [downN, downN_other hg n _ k (by omega) (by omega), stepN_other hg (by omega) (by omega)]
/-- All that what is needed needs is needed. -/
theorem downN_closed {gs : List (Int × Int)} (hg : Gs gs) : ∀ (n : Nat) (l : List Bool), n ≤ gs.length → l.length = gs.length + 1 → ∀ (i : Nat) (p : Int × Int), i < n → gs[i]? = some p → inpB p = false → (downN gs n l)[i + 1]? = some true →
    (downN gs n l)[(p.1 / 2).toNat]? = some true ∧ (downN gs n l)[(p.2 / 2).toNat]? = some true
  | 0, l, _, _, i, p, hi, _, _, _ => by omega
  | n + 1, l, hn, hl, i, p, hi, hp, hni, ht => by
    rw [downN] at ht ⊢
    rcases Nat.lt_or_ge i n with hin | hin
    · exact downN_closed hg n _ (by omega) (by rw [stepN_length]; exact hl) i p hin hp hni ht
    · obtain rfl : i = n := by omega
      rw [downN_other hg i _ _ (by omega) (by omega), stepN_other hg (by omega) (by omega)] at ht
      have hp' : gs.getD i (0, 0) = p := by rw [List.getD_eq_getElem?_getD, hp]; rfl
      have hs : stepN gs l i = markL (markL l p.1) p.2 := by
        unfold stepN
        rw [hp', List.getD_eq_getElem?_getD, ht, hni]
        rfl
      have hil : i < gs.length := by omega
      rcases hg.each i p hp with he | ⟨h1, h2, h3⟩
      · rw [he] at hni; simp [inpB] at hni
      · rw [hs]
        exact ⟨downN_keep _ _ _ (markL_keep (markL_at (by omega))), downN_keep _ _ _ (markL_at (by rw [markL_length]; omega))⟩
/-- The gates that are needed (gate 0 as it comes). -/
def needR (gs : List (Int × Int)) (roots : List Int) : List Bool := downN gs gs.length (roots.foldl markL (List.replicate (gs.length + 1) false))
/-- .. gate 0 aside. -/
def needL (gs : List (Int × Int)) (roots : List Int) : List Bool := (needR gs roots).set 0 false
theorem needR_length (gs : List (Int × Int)) (roots : List Int) : (needR gs roots).length = gs.length + 1 := by
  unfold needR; rw [downN_length, marks_length, List.length_replicate]
theorem needL_length (gs : List (Int × Int)) (roots : List Int) : (needL gs roots).length = gs.length + 1 := by
  unfold needL; rw [List.length_set, needR_length]
theorem needL_succ (gs : List (Int × Int)) (roots : List Int) (k : Nat) : (needL gs roots)[k + 1]? = (needR gs roots)[k + 1]? := by
  unfold needL; rw [List.getElem?_set_ne (by omega)]
theorem needL_zero (gs : List (Int × Int)) (roots : List Int) : (needL gs roots)[0]? = some false := by
  unfold needL; rw [List.getElem?_set]; simp [needR_length]
theorem needL_root {gs : List (Int × Int)} {roots : List Int} (h : ∀ x ∈ roots, HasL gs x) {x : Int} (hx : x ∈ roots) (h2 : 2 ≤ x) : (needL gs roots)[(x / 2).toNat]? = some true := by
  obtain ⟨k, hk⟩ : ∃ k : Nat, (x / 2).toNat = k + 1 := ⟨(x / 2).toNat - 1, by omega⟩
  rw [hk, needL_succ, ← hk]
  unfold needR
  exact downN_keep _ _ _ (marks_all roots _ (fun y hy => by have := h y hy; unfold HasL at this; rw [List.length_replicate]; omega) x hx)
theorem needL_part {gs : List (Int × Int)} (hg : Gs gs) {roots : List Int} {i : Nat} {p : Int × Int} (hp : gs[i]? = some p) (hni : inpB p = false) (ht : (needL gs roots)[i + 1]? = some true) :
    (needL gs roots)[(p.1 / 2).toNat]? = some true ∧ (needL gs roots)[(p.2 / 2).toNat]? = some true := by
  have hil : i < gs.length := (List.getElem?_eq_some_iff.1 hp).1
  rw [needL_succ] at ht
  have hl : (roots.foldl markL (List.replicate (gs.length + 1) false)).length = gs.length + 1 := by rw [marks_length, List.length_replicate]
  have hc := downN_closed hg gs.length _ (Nat.le_refl _) hl i p hil hp hni ht
  rcases hg.each i p hp with he | ⟨h1, h2, h3⟩
  · rw [he] at hni; simp [inpB] at hni
  · obtain ⟨a, ha⟩ : ∃ a : Nat, (p.1 / 2).toNat = a + 1 := ⟨(p.1 / 2).toNat - 1, by omega⟩
    obtain ⟨b, hb⟩ : ∃ b : Nat, (p.2 / 2).toNat = b + 1 := ⟨(p.2 / 2).toNat - 1, by omega⟩
    rw [ha, hb, needL_succ, needL_succ, ← ha, ← hb]
    exact hc

/-- How many are needed among the first n. -/
def cntT (l : List Bool) (n : Nat) : Nat := ((l.take n).filter id).length
/-- The number of gate n. -/
def numA (l : List Bool) (n : Nat) : Int := if l.getD n false then (cntT l n : Int) + 1 else 0
def numL (l : List Bool) (n : Nat) : List Int := (List.range n).map (numA l)
theorem cntT_zero (l : List Bool) : cntT l 0 = 0 := by simp [cntT]
theorem cntT_succ (l : List Bool) (n : Nat) : cntT l (n + 1) = cntT l n + if l.getD n false then 1 else 0 := by
  unfold cntT
  rw [List.take_add_one, List.filter_append, List.length_append, List.getD_eq_getElem?_getD]
  cases h : l[n]? with
  | none => simp
  | some b => cases b <;> simp
theorem cntT_mono (l : List Bool) {n m : Nat} (h : n ≤ m) : cntT l n ≤ cntT l m := by
  induction m with
  | zero => obtain rfl : n = 0 := by omega
            exact Nat.le_refl _
  | succ m ih =>
    rw [cntT_succ]
    rcases Nat.lt_or_ge n (m + 1) with h1 | h1
    · have := ih (by omega); omega
    · obtain rfl : n = m + 1 := by omega
      rw [cntT_succ]; exact Nat.le_refl _
theorem cntT_le (l : List Bool) (n : Nat) : cntT l n ≤ n := by
  induction n with
  | zero => simp [cntT_zero]
  | succ n ih => rw [cntT_succ]; split <;> omega
theorem numL_length (l : List Bool) (n : Nat) : (numL l n).length = n := by simp [numL]
theorem numL_succ (l : List Bool) (n : Nat) : numL l (n + 1) = numL l n ++ [numA l n] := by simp [numL, List.range_succ]
theorem numL_get (l : List Bool) {n k : Nat} (h : k < n) : (numL l n)[k]? = some (numA l k) := by simp [numL, h]
theorem numA_range (l : List Bool) (k : Nat) : 0 ≤ numA l k ∧ numA l k ≤ (k : Int) + 1 := by
  unfold numA
  have := cntT_le l k
  split <;> omega
theorem numA_pos {l : List Bool} {k : Nat} : 0 < numA l k ↔ l[k]? = some true := by
  unfold numA
  rw [List.getD_eq_getElem?_getD]
  cases h : l[k]? with
  | none => simp
  | some b => cases b <;> simp <;> omega
theorem numA_le {l : List Bool} {k n : Nat} (h : k < n) : numA l k ≤ (cntT l n : Int) := by
  unfold numA
  split
  · rename_i ht
    have := cntT_succ l k
    rw [if_pos ht] at this
    have := cntT_mono l (show k + 1 ≤ n by omega)
    omega
  · omega
theorem numA_inj {l : List Bool} {i k : Nat} (hi : 0 < numA l i) (hk : 0 < numA l k) (h : numA l i = numA l k) : i = k := by
  have ti := numA_pos.1 hi
  have tk := numA_pos.1 hk
  have e : ∀ j, l[j]? = some true → numA l j = (cntT l j : Int) + 1 ∧ cntT l (j + 1) = cntT l j + 1 := fun j hj => by
    have : l.getD j false = true := by rw [List.getD_eq_getElem?_getD, hj]; rfl
    exact ⟨by unfold numA; rw [if_pos this], by rw [cntT_succ, if_pos this]⟩
  obtain ⟨e1, e2⟩ := e i ti
  obtain ⟨e3, e4⟩ := e k tk
  rcases Nat.lt_trichotomy i k with h1 | h1 | h1
  · have := cntT_mono l (show i + 1 ≤ k by omega); omega
  · exact h1
  · have := cntT_mono l (show k + 1 ≤ i by omega); omega

/-- A literal's variable, turned if it is. -/
def sgnL (l : List Bool) (x : Int) : Int := if x % 2 = 1 then - numA l (x / 2).toNat else numA l (x / 2).toNat
theorem sgnL_range (l : List Bool) (x : Int) (n : Nat) (h0 : 0 ≤ x) (h : x < 2 * (n : Int)) : -(n : Int) ≤ sgnL l x ∧ sgnL l x ≤ (n : Int) := by
  have := numA_range l (x / 2).toNat
  unfold sgnL
  split <;> omega
/-- The clauses of gate n + 1. -/
def gateC (gs : List (Int × Int)) (l : List Bool) (n : Nat) : List (List Int) :=
  if 0 < numA l (n + 1) ∧ inpB (gs.getD n (0, 0)) = false then
    [[- numA l (n + 1), sgnL l (gs.getD n (0, 0)).1], [- numA l (n + 1), sgnL l (gs.getD n (0, 0)).2], [numA l (n + 1), - sgnL l (gs.getD n (0, 0)).1, - sgnL l (gs.getD n (0, 0)).2]] else []
def gatesC (gs : List (Int × Int)) (l : List Bool) (n : Nat) : List (List Int) := (List.range n).flatMap (gateC gs l)
theorem gatesC_succ (gs : List (Int × Int)) (l : List Bool) (n : Nat) : gatesC gs l (n + 1) = gatesC gs l n ++ gateC gs l n := by simp [gatesC, List.range_succ]
/-- The clauses of a root. -/
def rootC (l : List Bool) (x : Int) : List (List Int) := if x = 0 then [[]] else if x = 1 then [] else [[sgnL l x]]
def rootsC (l : List Bool) (xs : List Int) : List (List Int) := xs.flatMap (rootC l)
theorem rootsC_snoc (l : List Bool) (xs : List Int) (x : Int) : rootsC l (xs ++ [x]) = rootsC l xs ++ rootC l x := by simp [rootsC]
def allC (gs : List (Int × Int)) (l : List Bool) (xs : List Int) : List (List Int) := gatesC gs l gs.length ++ rootsC l xs
theorem gateC_length (gs : List (Int × Int)) (l : List Bool) (n : Nat) : (gateC gs l n).length ≤ 3 := by unfold gateC; split <;> simp
theorem gatesC_length (gs : List (Int × Int)) (l : List Bool) (n : Nat) : (gatesC gs l n).length ≤ 3 * n := by
  induction n with
  | zero => simp [gatesC]
  | succ n ih => rw [gatesC_succ, List.length_append]; have := gateC_length gs l n; omega
theorem rootC_length (l : List Bool) (x : Int) : (rootC l x).length ≤ 1 := by unfold rootC; split <;> (try split) <;> simp
theorem rootsC_length (l : List Bool) (xs : List Int) : (rootsC l xs).length ≤ xs.length := by
  induction xs with
  | nil => simp [rootsC]
  | cons x r ih => simp only [rootsC, List.flatMap_cons, List.length_append, List.length_cons] at ih ⊢; have := rootC_length l x; omega
/-- The two ways to say which are needed make the same. -/
theorem cntT_need (gs : List (Int × Int)) (roots : List Int) (n : Nat) : cntT (needL gs roots) (n + 1) + (if (needR gs roots).getD 0 false then 1 else 0) = cntT (needR gs roots) (n + 1) := by
  induction n with
  | zero =>
    rw [cntT_succ, cntT_succ, cntT_zero, cntT_zero]
    rw [List.getD_eq_getElem?_getD, needL_zero]; simp
  | succ n ih =>
    rw [cntT_succ, cntT_succ (needR gs roots)]
    have : (needL gs roots).getD (n + 1) false = (needR gs roots).getD (n + 1) false := by rw [List.getD_eq_getElem?_getD, List.getD_eq_getElem?_getD, needL_succ]
    rw [this]
    omega

/-- A formula's number holds. -/
def varB (vs : List Bool) (n : Int) : Bool := (decide (0 < n) && vs.getD (n - 1).toNat false) || (decide (n < 0) && !vs.getD (-n - 1).toNat false)
def holdC (vs : List Bool) (c : List Int) : Bool := c.any (varB vs)
def holdF (vs : List Bool) (cs : List (List Int)) : Bool := cs.all (holdC vs)
/-- Values of variables by what the gates are. -/
def ValsBy (gs : List (Int × Int)) (l : List Bool) (inp vs : List Bool) : Prop := ∀ k, k ≤ gs.length → 0 < numA l k → vs.getD (numA l k - 1).toNat false = valL gs inp (2 * (k : Int))
theorem varB_sgn {gs : List (Int × Int)} {l inp vs : List Bool} (h : ValsBy gs l inp vs) {x : Int} (hx : HasL gs x) (ht : l[(x / 2).toNat]? = some true) : varB vs (sgnL l x) = valL gs inp x ∧ varB vs (- sgnL l x) = !valL gs inp x := by
  have hp := numA_pos.2 ht
  unfold HasL at hx
  have hv := h (x / 2).toNat (by omega) hp
  have e : 2 * (((x / 2).toNat : Nat) : Int) = 2 * (x / 2) := by omega
  rw [e] at hv
  unfold sgnL
  by_cases hm : x % 2 = 1
  · have e2 : valL gs inp x = !valL gs inp (2 * (x / 2)) := by
      rw [← val_turn]
      congr 1
      unfold turnL
      rw [if_pos (by omega)]; omega
    rw [if_pos hm, e2, ← hv]
    unfold varB
    constructor
    · rw [decide_eq_false (by omega), decide_eq_true (by omega)]
      have : (- - numA l (x / 2).toNat - 1) = numA l (x / 2).toNat - 1 := by omega
      rw [this]; simp
    · rw [decide_eq_true (by omega), decide_eq_false (by omega)]
      have : (- - numA l (x / 2).toNat - 1) = numA l (x / 2).toNat - 1 := by omega
      rw [this]; simp
  · have e2 : x = 2 * (x / 2) := by omega
    rw [if_neg hm]
    rw [show valL gs inp x = valL gs inp (2 * (x / 2)) by rw [← e2], ← hv]
    unfold varB
    constructor
    · rw [decide_eq_true hp, decide_eq_false (by omega)]; simp
    · rw [decide_eq_false (by omega), decide_eq_true (by omega)]
      have : (- - numA l (x / 2).toNat - 1) = numA l (x / 2).toNat - 1 := by omega
      rw [this]; simp
theorem gateC_holds {gs : List (Int × Int)} (hg : Gs gs) {roots : List Int} {inp vs : List Bool} (h : ValsBy gs (needL gs roots) inp vs) {n : Nat} (hn : n < gs.length) : holdF vs (gateC gs (needL gs roots) n) = true := by
  unfold gateC
  split
  · rename_i hc
    obtain ⟨h1, h2⟩ := hc
    have hp : gs[n]? = some (gs.getD n (0, 0)) := by rw [List.getD_eq_getElem?_getD, List.getElem?_eq_getElem hn]; rfl
    obtain ⟨p, he⟩ : ∃ p, gs.getD n (0, 0) = p := ⟨_, rfl⟩
    rw [he] at hp h2 ⊢
    have hlit := hg.lits hp h2
    obtain ⟨n1, n2⟩ := needL_part hg hp h2 (numA_pos.1 h1)
    have ha : HasL gs p.1 := by unfold HasL; omega
    have hb : HasL gs p.2 := by unfold HasL; omega
    obtain ⟨a1, a2⟩ := varB_sgn h ha n1
    obtain ⟨b1, b2⟩ := varB_sgn h hb n2
    have hx : HasL gs (2 * (n : Int) + 2) := by unfold HasL; omega
    have ex : ((2 * (n : Int) + 2) / 2).toNat = n + 1 := by omega
    have es : sgnL (needL gs roots) (2 * (n : Int) + 2) = numA (needL gs roots) (n + 1) := by unfold sgnL; rw [if_neg (by omega), ex]
    obtain ⟨x1, x2⟩ := varB_sgn h hx (by rw [ex]; exact numA_pos.1 h1)
    rw [es] at x1 x2
    rw [val_gate hg inp hp h2] at x1 x2
    unfold holdF holdC
    simp only [List.all_cons, List.any_cons, List.any_nil, List.all_nil, Bool.or_false, Bool.and_true]
    rw [x1, x2, a1, a2, b1, b2]
    cases valL gs inp p.1 <;> cases valL gs inp p.2 <;> rfl
  · rfl
theorem gatesC_holds {gs : List (Int × Int)} (hg : Gs gs) {roots : List Int} {inp vs : List Bool} (h : ValsBy gs (needL gs roots) inp vs) : ∀ n, n ≤ gs.length → holdF vs (gatesC gs (needL gs roots) n) = true
  | 0, _ => rfl
  | n + 1, hn => by
    have i1 := gatesC_holds hg h n (by omega)
    have i2 := gateC_holds hg h (n := n) (by omega)
    unfold holdF at *
    rw [gatesC_succ, List.all_append, i1, i2]; rfl
theorem rootC_holds {gs : List (Int × Int)} {l inp vs : List Bool} (h : ValsBy gs l inp vs) {x : Int} (hx : HasL gs x) (ht : 2 ≤ x → l[(x / 2).toNat]? = some true) : holdF vs (rootC l x) = valL gs inp x := by
  unfold rootC
  split
  · rename_i h0; subst h0; rw [val_zero]; rfl
  · split
    · rename_i h1; subst h1; rw [val_one]; rfl
    · unfold HasL at hx
      have := (varB_sgn h (by unfold HasL; exact hx) (ht (by omega))).1
      simp [holdF, holdC, this]
theorem rootsC_holds {gs : List (Int × Int)} {l inp vs : List Bool} (h : ValsBy gs l inp vs) : ∀ (xs : List Int), (∀ x ∈ xs, HasL gs x) → (∀ x ∈ xs, 2 ≤ x → l[(x / 2).toNat]? = some true) → holdF vs (rootsC l xs) = xs.all (valL gs inp)
  | [], _, _ => rfl
  | x :: r, h1, h2 => by
    have i1 := rootC_holds h (h1 x (List.mem_cons_self ..)) (h2 x (List.mem_cons_self ..))
    have i2 := rootsC_holds h r (fun y hy => h1 y (List.mem_cons_of_mem _ hy)) (fun y hy => h2 y (List.mem_cons_of_mem _ hy))
    unfold holdF at *
    simp only [rootsC, List.flatMap_cons, List.all_append, List.all_cons] at i2 ⊢
    rw [i1, i2]
/-- TSEITIN: by what the gates are, the clauses hold just where the roots do. -/
theorem allC_holds {gs : List (Int × Int)} (hg : Gs gs) {roots : List Int} (hr : ∀ x ∈ roots, HasL gs x) {inp vs : List Bool} (h : ValsBy gs (needL gs roots) inp vs) : holdF vs (allC gs (needL gs roots) roots) = roots.all (valL gs inp) := by
  have i1 := gatesC_holds hg h gs.length (Nat.le_refl _)
  have i2 := rootsC_holds h roots hr (fun x hx h2 => needL_root hr hx h2)
  unfold holdF at *
  unfold allC
  rw [List.all_append, i1, i2]; rfl
end Go.Proofs.YtlclbidjdhlklaaGreatDoor
