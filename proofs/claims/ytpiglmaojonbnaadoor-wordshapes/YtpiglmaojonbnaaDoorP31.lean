/-
  PRODUCTS BY ROWS, AS MATHEMATICS.
-/
import Derived.Test.YtpiglmaojonbnaaDoorP14
namespace Go.Proofs.YtpiglmaojonbnaaDoor

theorem natF_split (f : Nat → Bool) (i : Nat) : ∀ d, natF f (i + d) = natF f i + 2 ^ i * natF (fun j => f (i + j)) d
  | 0 => by simp [natF]
  | d + 1 => by
    have ih := natF_split f i d
    show natF f (i + d) + bI (f (i + d)) * 2 ^ (i + d) = natF f i + 2 ^ i * (natF (fun j => f (i + j)) d + bI (f (i + d)) * 2 ^ d)
    rw [ih, Int.mul_add, Int.pow_add, Int.add_assoc]
    congr 2
    ac_rfl
theorem mod_split {x y : Int} (i d : Nat) (h0 : 0 ≤ x) (h1 : x < 2 ^ i) : x + 2 ^ i * (y % 2 ^ d) = (x + 2 ^ i * y) % 2 ^ (i + d) := by
  have hd := two_pos d
  have hi := two_pos i
  have r0 := Int.emod_nonneg y (Int.ne_of_gt hd)
  have r1 := Int.emod_lt_of_pos y hd
  have e : x + 2 ^ i * y = x + 2 ^ i * (y % 2 ^ d) + 2 ^ (i + d) * (y / 2 ^ d) := by
    conv => lhs; rw [← Int.emod_add_mul_ediv y (2 ^ d)]
    rw [Int.mul_add, ← Int.mul_assoc, ← Int.pow_add, ← Int.add_assoc]
  rw [e, Int.add_mul_emod_self_left]
  refine (Int.emod_eq_of_lt (Int.add_nonneg h0 (Int.mul_nonneg (Int.le_of_lt hi) r0)) ?_).symm
  have : 2 ^ i * (y % 2 ^ d + 1) ≤ 2 ^ i * 2 ^ d := Int.mul_le_mul_of_nonneg_left (by omega) (Int.le_of_lt hi)
  rw [Int.mul_add, Int.mul_one, ← Int.pow_add] at this
  omega
/-- A product's rows, summed up so far. -/
def prodB (a b : Nat → Bool) : Nat → Nat → Bool
  | 0 => fun _ => false
  | i + 1 => fun k => if k < i then prodB a b i k else smB (fun j => prodB a b i (i + j)) (fun j => b i && a j) false (k - i)
theorem natF_false (n : Nat) : natF (fun _ => false) n = 0 := by
  induction n with
  | zero => rfl
  | succ n ih => simp [natF, ih, bI]
theorem natF_row (x : Bool) (a : Nat → Bool) : ∀ d, natF (fun j => x && a j) d = bI x * natF a d := by
  intro d
  cases x
  · simp [natF_false, bI]
  · simp [bI]
theorem prod_nat (a b : Nat → Bool) (n : Nat) : ∀ i, i ≤ n → natF (prodB a b i) n = (natF a n * natF b i) % 2 ^ n
  | 0, _ => by simp [prodB, natF_false, natF]
  | i + 1, h => by
    have ih := prod_nat a b n i (by omega)
    obtain ⟨d, rfl⟩ : ∃ d, n = i + d := ⟨n - i, by omega⟩
    have e1 : natF (prodB a b (i + 1)) i = natF (prodB a b i) i := natF_congr fun k hk => by show (if k < i then _ else _) = _; rw [if_pos hk]
    have e2 : natF (fun j => prodB a b (i + 1) (i + j)) d = natF (smB (fun j => prodB a b i (i + j)) (fun j => b i && a j) false) d := natF_congr fun k _ => by
      show (if i + k < i then _ else _) = _
      rw [if_neg (by omega), Nat.add_sub_cancel_left]
    have hlt := natF_lt (prodB a b i) i
    rw [natF_split, e1, e2, sum_mod, mod_split i d hlt.1 hlt.2, natF_row]
    have e3 := natF_split (prodB a b i) i d
    have e4 : natF (prodB a b i) i + 2 ^ i * (natF (fun j => prodB a b i (i + j)) d + bI (b i) * natF a d + bI false) = natF (prodB a b i) (i + d) + 2 ^ i * (bI (b i) * natF a d) := by
      rw [e3]; simp only [bI, Bool.false_eq_true, if_false, Int.add_zero, Int.mul_add, Int.add_assoc]
    rw [e4, ih]
    have e5 : natF a (d + i) = natF a d + 2 ^ d * natF (fun j => a (d + j)) i := natF_split a d i
    have e6 : natF a (i + d) * natF b (i + 1) = natF a (i + d) * natF b i + 2 ^ i * (bI (b i) * natF a d) + 2 ^ (i + d) * (bI (b i) * natF (fun j => a (d + j)) i) := by
      show natF a (i + d) * (natF b i + bI (b i) * 2 ^ i) = _
      rw [Int.mul_add, Int.add_assoc]
      congr 1
      rw [Nat.add_comm i d, e5, Int.add_mul, Int.pow_add]
      congr 1
      · ac_rfl
      · ac_rfl
    rw [e6, Int.add_mul_emod_self_left, Int.emod_add_emod]
theorem cry_congr {a b a' b' : Nat → Bool} {c : Bool} : ∀ {k : Nat}, (∀ j, j < k → a j = a' j ∧ b j = b' j) → cry a b c k = cry a' b' c k
  | 0, _ => rfl
  | k + 1, h => by
    unfold cry
    rw [(h k (by omega)).1, (h k (by omega)).2, cry_congr (fun j hj => h j (by omega))]
theorem smB_congr {a b a' b' : Nat → Bool} {c : Bool} {k : Nat} (h : ∀ j, j ≤ k → a j = a' j ∧ b j = b' j) : smB a b c k = smB a' b' c k := by
  unfold smB
  rw [(h k (Nat.le_refl _)).1, (h k (Nat.le_refl _)).2, cry_congr (fun j hj => h j (by omega))]
end Go.Proofs.YtpiglmaojonbnaaDoor
