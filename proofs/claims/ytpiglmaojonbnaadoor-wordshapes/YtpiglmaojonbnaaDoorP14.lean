/-
  NUMBERS OF BITS, AS MATHEMATICS: sums, opposite numbers, the lesser of two, by their bits.
-/
import Derived.Test.YtpiglmaojonbnaaDoorP03
import Derived.Test.YtpiglmaojonbnaaDoorP12
namespace Go.Proofs.YtpiglmaojonbnaaDoor

/-- A bit as a number. -/
def bI (b : Bool) : Int := if b = true then 1 else 0
/-- The number of so many bits, the lowest first. -/
def natF (f : Nat → Bool) : Nat → Int
  | 0 => 0
  | n + 1 => natF f n + bI (f n) * 2 ^ n
theorem bI_cases (b : Bool) : (b = true ∧ bI b = 1) ∨ (b = false ∧ bI b = 0) := by cases b <;> simp [bI]
theorem two_pos (n : Nat) : (0 : Int) < 2 ^ n := Int.pow_pos (by decide)
theorem two_succ (n : Nat) : (2 : Int) ^ (n + 1) = 2 * 2 ^ n := by rw [Int.pow_succ, Int.mul_comm]
theorem natF_lt (f : Nat → Bool) : ∀ n, 0 ≤ natF f n ∧ natF f n < 2 ^ n
  | 0 => by simp [natF]
  | n + 1 => by
    have ih := natF_lt f n
    have hp := two_pos n
    rw [two_succ]
    unfold natF
    rcases bI_cases (f n) with ⟨_, h⟩ | ⟨_, h⟩ <;> rw [h] <;> omega
theorem natF_inj {f g : Nat → Bool} : ∀ {n : Nat}, natF f n = natF g n → ∀ i, i < n → f i = g i
  | 0, _, i, hi => by omega
  | n + 1, h, i, hi => by
    have hf := natF_lt f n
    have hg := natF_lt g n
    unfold natF at h
    have hn : f n = g n := by
      rcases bI_cases (f n) with ⟨h1, e1⟩ | ⟨h1, e1⟩ <;> rcases bI_cases (g n) with ⟨h2, e2⟩ | ⟨h2, e2⟩
      · rw [h1, h2]
      · rw [e1, e2] at h; omega
      · rw [e1, e2] at h; omega
      · rw [h1, h2]
    rcases Nat.lt_or_ge i n with h1 | h1
    · refine natF_inj (n := n) ?_ i h1
      rw [hn] at h
      omega
    · obtain rfl : i = n := by omega
      exact hn
theorem natF_congr {f g : Nat → Bool} : ∀ {n : Nat}, (∀ i, i < n → f i = g i) → natF f n = natF g n
  | 0, _ => rfl
  | n + 1, h => by
    unfold natF
    rw [natF_congr (n := n) (fun i hi => h i (by omega)), h n (by omega)]
/-- A number's bit. -/
def bitI (n : Int) (i : Nat) : Int := n / 2 ^ i % 2
def bitB (n : Int) (i : Nat) : Bool := bitI n i == 1
theorem bitI_cases (n : Int) (i : Nat) : bitI n i = 0 ∨ bitI n i = 1 := by unfold bitI; omega
theorem bI_bitB (n : Int) (i : Nat) : bI (bitB n i) = bitI n i := by
  rcases bitI_cases n i with h | h <;> simp [bI, bitB, h]
theorem bitI_natF (f : Nat → Bool) {i n : Nat} (h : i < n) : bitI (natF f n) i = bI (f i) := by
  induction n with
  | zero => omega
  | succ n ih =>
    unfold natF
    rcases Nat.lt_or_ge i n with h1 | h1
    · rw [← ih h1]
      obtain ⟨d, rfl⟩ : ∃ d, n = i + 1 + d := ⟨n - i - 1, by omega⟩
      unfold bitI
      have e : bI (f (i + 1 + d)) * 2 ^ (i + 1 + d) = 2 ^ i * (2 * (bI (f (i + 1 + d)) * 2 ^ d)) := by
        rw [Int.pow_add, Int.pow_succ]
        ac_rfl
      rw [e, Int.add_mul_ediv_left _ _ (Int.ne_of_gt (two_pos i))]
      omega
    · obtain rfl : i = n := by omega
      have hf := natF_lt f i
      unfold bitI
      rw [Int.add_mul_ediv_right _ _ (Int.ne_of_gt (two_pos i)), Int.ediv_eq_zero_of_lt hf.1 hf.2]
      rcases bI_cases (f i) with ⟨_, e⟩ | ⟨_, e⟩ <;> rw [e] <;> omega
theorem natF_bits8 (n : Int) : natF (bitB n) 8 = n % 256 := by
  simp only [natF, bI_bitB, bitI]
  omega
theorem natF_bits1 (n : Int) (h : n = 0 ∨ n = 1) : natF (bitB n) 1 = n := by
  simp only [natF, bI_bitB, bitI]
  rcases h with rfl | rfl <;> rfl
/-- A sum's carries, its bits. -/
def cry (a b : Nat → Bool) (c : Bool) : Nat → Bool
  | 0 => c
  | i + 1 => (a i && b i) || ((a i ^^ b i) && cry a b c i)
def smB (a b : Nat → Bool) (c : Bool) (i : Nat) : Bool := (a i ^^ b i) ^^ cry a b c i
theorem sum_nat (a b : Nat → Bool) (c : Bool) : ∀ n, natF (smB a b c) n + bI (cry a b c n) * 2 ^ n = natF a n + natF b n + bI c
  | 0 => by simp [natF, cry]
  | n + 1 => by
    have ih := sum_nat a b c n
    rw [two_succ]
    simp only [natF, smB]
    have hc : cry a b c (n + 1) = ((a n && b n) || ((a n ^^ b n) && cry a b c n)) := rfl
    rw [hc]
    cases ha : a n <;> cases hb : b n <;> cases hk : cry a b c n <;> rw [hk] at ih <;> simp [bI] at ih ⊢ <;> omega
theorem sum_mod (a b : Nat → Bool) (c : Bool) (n : Nat) : natF (smB a b c) n = (natF a n + natF b n + bI c) % 2 ^ n := by
  have h := sum_nat a b c n
  rw [← h, Int.add_mul_emod_self_right, Int.emod_eq_of_lt (natF_lt _ n).1 (natF_lt _ n).2]
/-- Below 2^n: what is taken away, by a sum of what is turned. -/
theorem natF_not (a : Nat → Bool) : ∀ n, natF (fun i => !a i) n = 2 ^ n - 1 - natF a n
  | 0 => by simp [natF]
  | n + 1 => by
    have ih := natF_not a n
    rw [two_succ]
    simp only [natF, ih]
    cases a n <;> simp [bI] <;> omega
/-- The opposite number's bits. -/
def abv (t : Bool) (x : Nat → Bool) : Nat → Bool
  | 0 => false
  | i + 1 => t && (x i || abv t x i)
def opB (t : Bool) (x : Nat → Bool) (i : Nat) : Bool := x i ^^ abv t x i
theorem opp_off (x : Nat → Bool) (n : Nat) : natF (opB false x) n = natF x n := by
  refine natF_congr fun i _ => ?_
  unfold opB
  cases i <;> simp [abv]
theorem opp_on (x : Nat → Bool) : ∀ n, natF (opB true x) n + natF x n = bI (abv true x n) * 2 ^ n
  | 0 => by simp [natF, abv, bI]
  | n + 1 => by
    have ih := opp_on x n
    have h1 := natF_lt x n
    have h2 := natF_lt (opB true x) n
    rw [two_succ]
    simp only [natF, opB]
    have hc : abv true x (n + 1) = (x n || abv true x n) := by simp [abv]
    rw [hc]
    cases ha : x n <;> cases hk : abv true x n <;> rw [hk] at ih <;> simp [bI] at ih ⊢ <;> omega
theorem abv_zero (x : Nat → Bool) : ∀ n, abv true x n = false ↔ natF x n = 0
  | 0 => by simp [abv, natF]
  | n + 1 => by
    have ih := abv_zero x n
    have hc : abv true x (n + 1) = (x n || abv true x n) := by simp [abv]
    have h1 := natF_lt x n
    have hp := two_pos n
    rw [hc]
    unfold natF
    cases ha : x n <;> simp [bI, ih] <;> omega
/-- Lesser, by bits. -/
def ltB (a b : Nat → Bool) : Nat → Bool
  | 0 => false
  | i + 1 => (!a i && b i) || ((!a i || b i) && ltB a b i)
theorem ltB_nat (a b : Nat → Bool) : ∀ n, ltB a b n = decide (natF a n < natF b n)
  | 0 => by simp [ltB, natF]
  | n + 1 => by
    have ih := ltB_nat a b n
    have h1 := natF_lt a n
    have h2 := natF_lt b n
    have hp := two_pos n
    unfold ltB natF
    rw [ih]
    cases a n <;> cases b n <;> simp [bI] <;> omega
/-- One of them. -/
def orF (a : Nat → Bool) : Nat → Bool
  | 0 => false
  | i + 1 => a i || orF a i
theorem orF_false (a : Nat → Bool) (n : Nat) : orF a n = false ↔ ∀ i, i < n → a i = false := by
  induction n with
  | zero => simp [orF]
  | succ n ih =>
    unfold orF
    rw [Bool.or_eq_false_iff, ih]
    constructor
    · rintro ⟨h1, h2⟩ i hi
      rcases Nat.lt_or_ge i n with h | h
      · exact h2 i h
      · obtain rfl : i = n := by omega
        exact h1
    · exact fun h => ⟨h n (by omega), fun i hi => h i (by omega)⟩
theorem orF_nat (a : Nat → Bool) (n : Nat) : orF a n = decide (natF a n ≠ 0) := by
  have e : orF a n = abv true a n := by
    induction n with
    | zero => rfl
    | succ n ih => simp [orF, abv, ih]
  rw [e]
  have := abv_zero a n
  cases h : abv true a n
  · simp [this.1 h]
  · have : natF a n ≠ 0 := fun hz => by rw [this.2 hz] at h; cases h
    simp [this]
end Go.Proofs.YtpiglmaojonbnaaDoor

/-
  BOOLS THAT ARE COPIED BY append; ints in a row that was made by append.
-/
namespace Go.Proofs.YtpiglmaojonbnaaDoor
open Go.RowKit Go.Maps

theorem run_append_zero {P : Program} (w : World) (t ty e : TypeId) (i : TypeInfo) (ht : P.underlying t = some (.slice e)) (hi : P.info? e = some i) (no : Option Addr) (nc : Nat) : (Builtin.append_ #[t, t] ty #[.slice none 0 0, .slice no 0 nc]).run P w = .ok (.slice none 0 0) w := by
  cases no <;> simp [Builtin.append_, run_underlying ht, sizeOf, typeInfo, hi, Builtin.lenOf, Builtin.firstCells, loadCells, loadCellsFrom]
theorem Tryd.infoLit : (Tryd.prog.info? 34).map (fun i => (i.zero, i.size, i.bytes)) = some (some (.int .i64 0), 1, 8) := by kernel_rfl
theorem ints_of_owns {w : World} {base n : Nat} {o : Option Addr} {c : Nat} {l : List Int} (h : w.ownsRow base 34 1 (.slice o n c) n (l.map (Value.int .i64))) (hn : l.length = n) (hm : n ≤ maxLen) : IntsAt w (.slice o n c) l := by
  subst hn
  refine ⟨hm, o, c, rfl, fun k x hk => ?_⟩
  have hlt := (List.getElem?_eq_some_iff.1 hk).1
  obtain ⟨g, cap, e, _, _⟩ := h.form (by omega)
  obtain ⟨rfl, rfl⟩ : o = some ⟨g, 0, none⟩ ∧ c = cap := by simpa using e
  have hadd' : ∀ j, (⟨g, 0, none⟩ : Addr).add j = ⟨g, 0 + j, none⟩ := fun j => by unfold Addr.add; split <;> simp_all
  refine ⟨g, 0, rfl, ?_⟩
  rw [← hadd']
  exact h.cells (g := g) rfl k _ (by simp [hk])
end Go.Proofs.YtpiglmaojonbnaaDoor
