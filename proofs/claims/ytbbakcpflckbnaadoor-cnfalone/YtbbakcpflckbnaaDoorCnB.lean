/-
  CLAUSES OF ONE INPUT AND IT TURNED, AS MATHEMATICS.
-/
import Derived.Test.YtbbakcpflckbnaaDoorCnA
namespace Go.Proofs.YtbbakcpflckbnaaDoor

/-- So many inputs. -/
def insG (n : Nat) : List (Int × Int) := List.replicate n (0, 0)
theorem insG_length (n : Nat) : (insG n).length = n := by simp [insG]
theorem insG_succ (n : Nat) : insG n ++ [(0, 0)] = insG (n + 1) := by unfold insG; rw [← List.replicate_succ']
theorem insG_getD (n k : Nat) : inpB ((insG n).getD k (0, 0)) = true := by
  have : (insG n).getD k (0, 0) = (0, 0) := by
    unfold insG
    rw [List.getD_eq_getElem?_getD, List.getElem?_replicate]
    split <;> rfl
  rw [this]; decide
theorem step_ins (n : Nat) (l : List Bool) (k : Nat) : stepN (insG n) l k = l := by
  unfold stepN; rw [insG_getD]; simp
theorem down_ins (n : Nat) (l : List Bool) : ∀ k, downN (insG n) k l = l
  | 0 => rfl
  | k + 1 => by rw [downN, step_ins, down_ins n l k]
theorem gates_ins (n : Nat) (l : List Bool) : ∀ k, gatesC (insG n) l k = []
  | 0 => rfl
  | k + 1 => by
    rw [gatesC_succ, gates_ins n l k]
    unfold gateC
    rw [insG_getD]; simp
/-- An input, and it turned. -/
def twoR (i : Nat) : List Int := [2 * (i : Int) + 2, 2 * (i : Int) + 3]
theorem need_ins {n i : Nat} (hi : i < n) (k : Nat) : (needL (insG n) (twoR i)).getD k false = decide (k = i + 1) := by
  unfold needL needR
  rw [down_ins]
  have e1 : ((2 * (i : Int) + 2) / 2).toNat = i + 1 := by omega
  have e2 : ((2 * (i : Int) + 3) / 2).toNat = i + 1 := by omega
  simp only [twoR, List.foldl_cons, List.foldl_nil, markL, e1, e2, insG_length]
  rw [List.getD_eq_getElem?_getD]
  rw [List.getElem?_set, List.getElem?_set, List.getElem?_set]
  simp only [List.length_set, List.length_replicate]
  by_cases h0 : 0 = k
  · subst h0; simp
  · rw [if_neg h0]
    by_cases h1 : i + 1 = k
    · subst h1; rw [if_pos rfl, if_pos (by omega)]; simp
    · rw [if_neg h1, if_neg h1, List.getElem?_replicate]
      have : decide (k = i + 1) = false := decide_eq_false (fun h => h1 h.symm)
      rw [this]
      split <;> rfl
theorem cnt_ins {n i : Nat} (hi : i < n) : ∀ k, cntT (needL (insG n) (twoR i)) k = if i + 1 < k then 1 else 0
  | 0 => by simp [cntT_zero]
  | k + 1 => by
    rw [cntT_succ, cnt_ins hi k, need_ins hi]
    by_cases h : k = i + 1
    · subst h; simp
    · have : decide (k = i + 1) = false := decide_eq_false h
      rw [this]
      simp only [Bool.false_eq_true, if_false, Nat.add_zero]
      by_cases h2 : i + 1 < k
      · rw [if_pos h2, if_pos (by omega)]
      · rw [if_neg h2, if_neg (by omega)]
theorem num_ins {n i : Nat} (hi : i < n) : numA (needL (insG n) (twoR i)) (i + 1) = 1 := by
  unfold numA
  rw [need_ins hi, cnt_ins hi]
  simp
theorem all_ins {n i : Nat} (hi : i < n) : allC (insG n) (needL (insG n) (twoR i)) (twoR i) = [[1], [-1]] := by
  unfold allC
  rw [gates_ins]
  have e1 : ((2 * (i : Int) + 2) / 2).toNat = i + 1 := by omega
  have e2 : ((2 * (i : Int) + 3) / 2).toNat = i + 1 := by omega
  have s1 : sgnL (needL (insG n) (twoR i)) (2 * (i : Int) + 2) = 1 := by unfold sgnL; rw [if_neg (by omega), e1, num_ins hi]
  have s2 : sgnL (needL (insG n) (twoR i)) (2 * (i : Int) + 3) = -1 := by unfold sgnL; rw [if_pos (by omega), e2, num_ins hi]
  have r1 : rootC (needL (insG n) (twoR i)) (2 * (i : Int) + 2) = [[1]] := by unfold rootC; rw [if_neg (by omega), if_neg (by omega), s1]
  have r2 : rootC (needL (insG n) (twoR i)) (2 * (i : Int) + 3) = [[-1]] := by unfold rootC; rw [if_neg (by omega), if_neg (by omega), s2]
  show [] ++ rootsC (needL (insG n) (twoR i)) [2 * (i : Int) + 2, 2 * (i : Int) + 3] = _
  simp only [rootsC, List.flatMap_cons, List.flatMap_nil, r1, r2]
  rfl
end Go.Proofs.YtbbakcpflckbnaaDoor
