/-
  NUMBERS OF BITS, AS MATHEMATICS: sums, opposite numbers, the lesser of two, by their bits.
-/
import Derived.Test.YtpkgingjmgakbaaDoorP02
import Derived.Maps.OwnSet
import Derived.DeepKeys4
namespace Go.Proofs.YtpkgingjmgakbaaDoor

/-- A bit as a number. -/
def bI (b : Bool) : Int := if b = true then 1 else 0
/-- The number of so many bits, the lowest first. -/
def natF (f : Nat → Bool) : Nat → Int
  | 0 => 0
  | n + 1 => natF f n + bI (f n) * 2 ^ n
theorem bI_cases (b : Bool) : (b = true ∧ bI b = 1) ∨ (b = false ∧ bI b = 0) := by cases b <;> simp [bI]
theorem two_pos (n : Nat) : (0 : Int) < 2 ^ n := Int.pow_pos (by decide)
theorem two_succ (n : Nat) : (2 : Int) ^ (n + 1) = 2 * 2 ^ n := by rw [Int.pow_succ, Int.mul_comm]
theorem natF_lt (f : Nat → Bool) : ∀ n, 0 ≤ natF f n ∧ natF f n < 2 ^ n
  | 0 => by simp [natF]
  | n + 1 => by
    have ih := natF_lt f n
    have hp := two_pos n
    rw [two_succ]
    unfold natF
    rcases bI_cases (f n) with ⟨_, h⟩ | ⟨_, h⟩ <;> rw [h] <;> omega
theorem natF_inj {f g : Nat → Bool} : ∀ {n : Nat}, natF f n = natF g n → ∀ i, i < n → f i = g i
  | 0, _, i, hi => by omega
  | n + 1, h, i, hi => by
    have hf := natF_lt f n
    have hg := natF_lt g n
    unfold natF at h
    have hn : f n = g n := by
      rcases bI_cases (f n) with ⟨h1, e1⟩ | ⟨h1, e1⟩ <;> rcases bI_cases (g n) with ⟨h2, e2⟩ | ⟨h2, e2⟩
      · rw [h1, h2]
      · rw [e1, e2] at h; omega
      · rw [e1, e2] at h; omega
      · rw [h1, h2]
    rcases Nat.lt_or_ge i n with h1 | h1
    · refine natF_inj (n := n) ?_ i h1
      rw [hn] at h
      omega
    · obtain rfl : i = n := by omega
      exact hn
theorem natF_congr {f g : Nat → Bool} : ∀ {n : Nat}, (∀ i, i < n → f i = g i) → natF f n = natF g n
  | 0, _ => rfl
  | n + 1, h => by
    unfold natF
    rw [natF_congr (n := n) (fun i hi => h i (by omega)), h n (by omega)]
/-- A number's bit. -/
def bitI (n : Int) (i : Nat) : Int := n / 2 ^ i % 2
def bitB (n : Int) (i : Nat) : Bool := bitI n i == 1
theorem bitI_cases (n : Int) (i : Nat) : bitI n i = 0 ∨ bitI n i = 1 := by unfold bitI; omega
theorem bI_bitB (n : Int) (i : Nat) : bI (bitB n i) = bitI n i := by
  rcases bitI_cases n i with h | h <;> simp [bI, bitB, h]
theorem bitI_natF (f : Nat → Bool) {i n : Nat} (h : i < n) : bitI (natF f n) i = bI (f i) := by
  induction n with
  | zero => omega
  | succ n ih =>
    unfold natF
    rcases Nat.lt_or_ge i n with h1 | h1
    · rw [← ih h1]
      obtain ⟨d, rfl⟩ : ∃ d, n = i + 1 + d := ⟨n - i - 1, by omega⟩
      unfold bitI
      have e : bI (f (i + 1 + d)) * 2 ^ (i + 1 + d) = 2 ^ i * (2 * (bI (f (i + 1 + d)) * 2 ^ d)) := by
        rw [Int.pow_add, Int.pow_succ]
        ac_rfl
      rw [e, Int.add_mul_ediv_left _ _ (Int.ne_of_gt (two_pos i))]
      omega
    · obtain rfl : i = n := by omega
      have hf := natF_lt f i
      unfold bitI
      rw [Int.add_mul_ediv_right _ _ (Int.ne_of_gt (two_pos i)), Int.ediv_eq_zero_of_lt hf.1 hf.2]
      rcases bI_cases (f i) with ⟨_, e⟩ | ⟨_, e⟩ <;> rw [e] <;> omega
theorem natF_bits8 (n : Int) : natF (bitB n) 8 = n % 256 := by
  simp only [natF, bI_bitB, bitI]
  omega
theorem natF_bits1 (n : Int) (h : n = 0 ∨ n = 1) : natF (bitB n) 1 = n := by
  simp only [natF, bI_bitB, bitI]
  rcases h with rfl | rfl <;> rfl
/-- A sum's carries, its bits. -/
def cry (a b : Nat → Bool) (c : Bool) : Nat → Bool
  | 0 => c
  | i + 1 => (a i && b i) || ((a i ^^ b i) && cry a b c i)
def smB (a b : Nat → Bool) (c : Bool) (i : Nat) : Bool := (a i ^^ b i) ^^ cry a b c i
theorem sum_nat (a b : Nat → Bool) (c : Bool) : ∀ n, natF (smB a b c) n + bI (cry a b c n) * 2 ^ n = natF a n + natF b n + bI c
  | 0 => by simp [natF, cry]
  | n + 1 => by
    have ih := sum_nat a b c n
    rw [two_succ]
    simp only [natF, smB]
    have hc : cry a b c (n + 1) = ((a n && b n) || ((a n ^^ b n) && cry a b c n)) := rfl
    rw [hc]
    cases ha : a n <;> cases hb : b n <;> cases hk : cry a b c n <;> rw [hk] at ih <;> simp [bI] at ih ⊢ <;> omega
theorem sum_mod (a b : Nat → Bool) (c : Bool) (n : Nat) : natF (smB a b c) n = (natF a n + natF b n + bI c) % 2 ^ n := by
  have h := sum_nat a b c n
  rw [← h, Int.add_mul_emod_self_right, Int.emod_eq_of_lt (natF_lt _ n).1 (natF_lt _ n).2]
/-- Below 2^n: what is taken away, by a sum of what is turned. -/
theorem natF_not (a : Nat → Bool) : ∀ n, natF (fun i => !a i) n = 2 ^ n - 1 - natF a n
  | 0 => by simp [natF]
  | n + 1 => by
    have ih := natF_not a n
    rw [two_succ]
    simp only [natF, ih]
    cases a n <;> simp [bI] <;> omega
/-- The opposite number's bits. -/
def abv (t : Bool) (x : Nat → Bool) : Nat → Bool
  | 0 => false
  | i + 1 => t && (x i || abv t x i)
def opB (t : Bool) (x : Nat → Bool) (i : Nat) : Bool := x i ^^ abv t x i
theorem opp_off (x : Nat → Bool) (n : Nat) : natF (opB false x) n = natF x n := by
  refine natF_congr fun i _ => ?_
  unfold opB
  cases i <;> simp [abv]
theorem opp_on (x : Nat → Bool) : ∀ n, natF (opB true x) n + natF x n = bI (abv true x n) * 2 ^ n
  | 0 => by simp [natF, abv, bI]
  | n + 1 => by
    have ih := opp_on x n
    have h1 := natF_lt x n
    have h2 := natF_lt (opB true x) n
    rw [two_succ]
    simp only [natF, opB]
    have hc : abv true x (n + 1) = (x n || abv true x n) := by simp [abv]
    rw [hc]
    cases ha : x n <;> cases hk : abv true x n <;> rw [hk] at ih <;> simp [bI] at ih ⊢ <;> omega
theorem abv_zero (x : Nat → Bool) : ∀ n, abv true x n = false ↔ natF x n = 0
  | 0 => by simp [abv, natF]
  | n + 1 => by
    have ih := abv_zero x n
    have hc : abv true x (n + 1) = (x n || abv true x n) := by simp [abv]
    have h1 := natF_lt x n
    have hp := two_pos n
    rw [hc]
    unfold natF
    cases ha : x n <;> simp [bI, ih] <;> omega
/-- Lesser, by bits. -/
def ltB (a b : Nat → Bool) : Nat → Bool
  | 0 => false
  | i + 1 => (!a i && b i) || ((!a i || b i) && ltB a b i)
theorem ltB_nat (a b : Nat → Bool) : ∀ n, ltB a b n = decide (natF a n < natF b n)
  | 0 => by simp [ltB, natF]
  | n + 1 => by
    have ih := ltB_nat a b n
    have h1 := natF_lt a n
    have h2 := natF_lt b n
    have hp := two_pos n
    unfold ltB natF
    rw [ih]
    cases a n <;> cases b n <;> simp [bI] <;> omega
/-- One of them. -/
def orF (a : Nat → Bool) : Nat → Bool
  | 0 => false
  | i + 1 => a i || orF a i
theorem orF_false (a : Nat → Bool) (n : Nat) : orF a n = false ↔ ∀ i, i < n → a i = false := by
  induction n with
  | zero => simp [orF]
  | succ n ih =>
    unfold orF
    rw [Bool.or_eq_false_iff, ih]
    constructor
    · rintro ⟨h1, h2⟩ i hi
      rcases Nat.lt_or_ge i n with h | h
      · exact h2 i h
      · obtain rfl : i = n := by omega
        exact h1
    · exact fun h => ⟨h n (by omega), fun i hi => h i (by omega)⟩
theorem orF_nat (a : Nat → Bool) (n : Nat) : orF a n = decide (natF a n ≠ 0) := by
  have e : orF a n = abv true a n := by
    induction n with
    | zero => rfl
    | succ n ih => simp [orF, abv, ih]
  rw [e]
  have := abv_zero a n
  cases h : abv true a n
  · simp [this.1 h]
  · have : natF a n ≠ 0 := fun hz => by rw [this.2 hz] at h; cases h
    simp [this]
end Go.Proofs.YtpkgingjmgakbaaDoor

/-
  GATES AS MATHEMATICS: a list of pairs of literals ((0, 0): an input); what two literals come to.
-/
namespace Go.Proofs.YtpkgingjmgakbaaDoor

/-- A literal, turned. -/
def turnL (a : Int) : Int := if a % 2 = 0 then a + 1 else a - 1
/-- It needs no gate: it is false. -/
def offB (a b : Int) : Bool := decide (min a b = 0) || (decide (max a b = min a b + 1) && decide (min a b % 2 = 0))
/-- It needs no gate: it is the greater one. -/
def oneB (a b : Int) : Bool := decide (min a b = 1) || decide (min a b = max a b)
/-- Which literal two come to. -/
def andL (gs : List (Int × Int)) (a b : Int) : Int :=
  if offB a b = true then 0 else if oneB a b = true then max a b else 2 * (gs.idxOf (min a b, max a b) : Int) + 2
/-- The gates behind it. -/
def andG (gs : List (Int × Int)) (a b : Int) : List (Int × Int) :=
  if offB a b = true then gs else if oneB a b = true then gs else if (min a b, max a b) ∈ gs then gs else gs ++ [(min a b, max a b)]
/-- A literal of the gates. -/
def HasL (gs : List (Int × Int)) (a : Int) : Prop := 0 ≤ a ∧ a < 2 * ((gs.length : Int) + 1)
/-- Gates that are right: inputs, or two literals, the lesser first, both ahead; no two are the same. -/
structure Gs (gs : List (Int × Int)) : Prop where
  each : ∀ (i : Nat) (p : Int × Int), gs[i]? = some p → p = (0, 0) ∨ (2 ≤ p.1 ∧ p.1 < p.2 ∧ p.2 < 2 * ((i : Int) + 1))
  once : ∀ (i j : Nat) (p : Int × Int), gs[i]? = some p → gs[j]? = some p → p ≠ (0, 0) → i = j

theorem Gs.nil : Gs [] := ⟨fun i p h => by simp at h, fun i j p h => by simp at h⟩
theorem turnL_eq (a : Int) : turnL a / 2 = a / 2 ∧ turnL (turnL a) = a ∧ (turnL a = a + 1 ∧ a % 2 = 0 ∨ turnL a = a - 1 ∧ a % 2 = 1) := by
  unfold turnL
  split
  · rename_i h
    refine ⟨by omega, ?_, .inl ⟨rfl, h⟩⟩
    rw [if_neg (by omega)]; omega
  · rename_i h
    refine ⟨by omega, ?_, .inr ⟨rfl, by omega⟩⟩
    rw [if_pos (by omega)]; omega
theorem HasL.turn {gs : List (Int × Int)} {a : Int} (h : HasL gs a) : HasL gs (turnL a) := by
  have := (turnL_eq a).2.2
  unfold HasL at *
  omega
theorem HasL.turn_iff {gs : List (Int × Int)} {a : Int} : HasL gs (turnL a) ↔ HasL gs a := ⟨fun h => by have := h.turn; rwa [(turnL_eq a).2.1] at this, HasL.turn⟩
/-- .. as a bool. -/
def hasB (gs : List (Int × Int)) (a : Int) : Bool := decide (0 ≤ a) && decide (a < 2 * ((gs.length : Int) + 1))
theorem hasB_iff {gs : List (Int × Int)} {a : Int} : hasB gs a = true ↔ HasL gs a := by unfold hasB HasL; simp
theorem hasB_t {gs : List (Int × Int)} {a : Int} (h : HasL gs a) : hasB gs a = true := hasB_iff.2 h
theorem hasB_f {gs : List (Int × Int)} {a : Int} (h : ¬ HasL gs a) : hasB gs a = false := by
  cases hb : hasB gs a
  · rfl
  · exact absurd (hasB_iff.1 hb) h
theorem andG_length (gs : List (Int × Int)) (a b : Int) : gs.length ≤ (andG gs a b).length ∧ (andG gs a b).length ≤ gs.length + 1 := by
  unfold andG
  split
  · omega
  · split
    · omega
    · split
      · omega
      · simp
theorem HasL.mono {gs gs' : List (Int × Int)} (hl : gs.length ≤ gs'.length) {a : Int} (h : HasL gs a) : HasL gs' a := by
  unfold HasL at *
  omega
/-- What is one of the gates that are there is known by its place. -/
theorem idx_lt {gs : List (Int × Int)} {p : Int × Int} (h : p ∈ gs) : gs.idxOf p < gs.length := List.idxOf_lt_length_of_mem h
theorem idx_out {gs : List (Int × Int)} {p : Int × Int} (h : p ∉ gs) : gs.idxOf p = gs.length := List.idxOf_eq_length h
theorem idx_app {gs : List (Int × Int)} {p : Int × Int} (h : p ∈ gs) (l : List (Int × Int)) : (gs ++ l).idxOf p = gs.idxOf p := by simp [List.idxOf_append, h]
theorem idx_new {gs : List (Int × Int)} {p : Int × Int} (h : p ∉ gs) : (gs ++ [p]).idxOf p = gs.length := by simp [List.idxOf_append, h]
theorem andL_has {gs : List (Int × Int)} {a b : Int} (ha : HasL gs a) (hb : HasL gs b) : HasL (andG gs a b) (andL gs a b) := by
  unfold andG andL
  split
  · unfold HasL at *; omega
  · split
    · unfold HasL at *; omega
    · split
      · rename_i h
        have := idx_lt h
        unfold HasL; omega
      · rename_i h
        have := idx_out h
        unfold HasL; simp; omega
theorem Gs.and {gs : List (Int × Int)} (h : Gs gs) {a b : Int} (ha : HasL gs a) (hb : HasL gs b) : Gs (andG gs a b) := by
  unfold andG
  split
  · exact h
  · rename_i h1
    split
    · exact h
    · rename_i h2
      split
      · exact h
      · rename_i h3
        simp only [offB, oneB, Bool.or_eq_true, Bool.and_eq_true, decide_eq_true_eq, not_or, not_and] at h1 h2
        unfold HasL at ha hb
        refine ⟨fun i p hi => ?_, fun i j p hi hj hp => ?_⟩
        · rcases Nat.lt_or_ge i gs.length with hl | hl
          · rw [List.getElem?_append_left hl] at hi
            exact h.each i p hi
          · rw [List.getElem?_append_right hl] at hi
            have h0 : i - gs.length = 0 := by
              rcases Nat.eq_zero_or_pos (i - gs.length) with h | h
              · exact h
              · rw [List.getElem?_eq_none (by simp; omega)] at hi; cases hi
            rw [h0] at hi
            simp at hi
            subst hi
            right
            simp only
            omega
        · have key : ∀ k, (gs ++ [(min a b, max a b)])[k]? = some p → (k < gs.length ∧ gs[k]? = some p) ∨ (k = gs.length ∧ p = (min a b, max a b)) := fun k hk => by
            rcases Nat.lt_or_ge k gs.length with hl | hl
            · rw [List.getElem?_append_left hl] at hk
              exact .inl ⟨hl, hk⟩
            · rw [List.getElem?_append_right hl] at hk
              have h0 : k - gs.length = 0 := by
                rcases Nat.eq_zero_or_pos (k - gs.length) with h | h
                · exact h
                · rw [List.getElem?_eq_none (by simp; omega)] at hk; cases hk
              rw [h0] at hk
              simp at hk
              exact .inr ⟨by omega, hk.symm⟩
          rcases key i hi with ⟨_, k1⟩ | ⟨k1, k2⟩ <;> rcases key j hj with ⟨_, l1⟩ | ⟨l1, l2⟩
          · exact h.once i j p k1 l1 hp
          · subst l2; exact absurd (List.mem_of_getElem? k1) h3
          · subst k2; exact absurd (List.mem_of_getElem? l1) h3
          · omega
theorem Gs.input {gs : List (Int × Int)} (h : Gs gs) : Gs (gs ++ [(0, 0)]) := by
  have key : ∀ k p, (gs ++ [((0 : Int), (0 : Int))])[k]? = some p → (k < gs.length ∧ gs[k]? = some p) ∨ p = (0, 0) := fun k p hk => by
    rcases Nat.lt_or_ge k gs.length with hl | hl
    · rw [List.getElem?_append_left hl] at hk
      exact .inl ⟨hl, hk⟩
    · rw [List.getElem?_append_right hl] at hk
      have h0 : k - gs.length = 0 := by
        rcases Nat.eq_zero_or_pos (k - gs.length) with h | h
        · exact h
        · rw [List.getElem?_eq_none (by simp; omega)] at hk; cases hk
      rw [h0] at hk
      simp at hk
      exact .inr (by simp [← hk])
  refine ⟨fun i p hi => ?_, fun i j p hi hj hp => ?_⟩
  · rcases key i p hi with ⟨_, k⟩ | k
    · exact h.each i p k
    · exact .inl k
  · rcases key i p hi with ⟨_, k1⟩ | k1 <;> rcases key j p hj with ⟨_, l1⟩ | l1
    · exact h.once i j p k1 l1 hp
    · exact absurd l1 hp
    · exact absurd k1 hp
    · exact absurd k1 hp

/-- Or, Xor, If, by And. -/
def orL (gs : List (Int × Int)) (a b : Int) : Int := turnL (andL gs (turnL a) (turnL b))
def orG (gs : List (Int × Int)) (a b : Int) : List (Int × Int) := andG gs (turnL a) (turnL b)
/-- Either the first two, or the last two. -/
def eitherL (gs : List (Int × Int)) (a b c d : Int) : Int := orL (andG (andG gs a b) c d) (andL gs a b) (andL (andG gs a b) c d)
def eitherG (gs : List (Int × Int)) (a b c d : Int) : List (Int × Int) := orG (andG (andG gs a b) c d) (andL gs a b) (andL (andG gs a b) c d)
theorem orG_length (gs : List (Int × Int)) (a b : Int) : gs.length ≤ (orG gs a b).length ∧ (orG gs a b).length ≤ gs.length + 1 := andG_length _ _ _
theorem orL_has {gs : List (Int × Int)} {a b : Int} (ha : HasL gs a) (hb : HasL gs b) : HasL (orG gs a b) (orL gs a b) := (andL_has ha.turn hb.turn).turn
theorem Gs.or {gs : List (Int × Int)} (h : Gs gs) {a b : Int} (ha : HasL gs a) (hb : HasL gs b) : Gs (orG gs a b) := h.and ha.turn hb.turn
theorem eitherG_length (gs : List (Int × Int)) (a b c d : Int) : gs.length ≤ (eitherG gs a b c d).length ∧ (eitherG gs a b c d).length ≤ gs.length + 3 := by
  have h1 := andG_length gs a b
  have h2 := andG_length (andG gs a b) c d
  have h3 := orG_length (andG (andG gs a b) c d) (andL gs a b) (andL (andG gs a b) c d)
  unfold eitherG
  omega
theorem either_has {gs : List (Int × Int)} {a b c d : Int} (ha : HasL gs a) (hb : HasL gs b) (hc : HasL gs c) (hd : HasL gs d) : HasL (eitherG gs a b c d) (eitherL gs a b c d) := by
  have h1 := andL_has ha hb
  have h2 := andL_has (hc.mono (andG_length gs a b).1) (hd.mono (andG_length gs a b).1)
  exact orL_has (h1.mono (andG_length _ c d).1) h2
theorem Gs.either {gs : List (Int × Int)} (h : Gs gs) {a b c d : Int} (ha : HasL gs a) (hb : HasL gs b) (hc : HasL gs c) (hd : HasL gs d) : Gs (eitherG gs a b c d) := by
  have h1 := andL_has ha hb
  have h2 := andL_has (hc.mono (andG_length gs a b).1) (hd.mono (andG_length gs a b).1)
  exact ((h.and ha hb).and (hc.mono (andG_length gs a b).1) (hd.mono (andG_length gs a b).1)).or (h1.mono (andG_length _ c d).1) h2
end Go.Proofs.YtpkgingjmgakbaaDoor

/-
  THE KEYS OF THE GATES' MAP: arrays of two literals.
-/
namespace Go.Proofs.YtpkgingjmgakbaaDoor
open Go.RowKit Go.Maps
theorem pairLaidOut : laidOutB Tryd.prog = true := by kernel_rfl
def pairV (p : Int × Int) : Value := .agg #[.int .i64 p.1, .int .i64 p.2]
/-- What a pair reads as. -/
def pairK (p : Int × Int) : Lit := .string (keyBytes [.int .i64 p.1, .int .i64 p.2])
def I64 (a : Int) : Prop := -9223372036854775808 ≤ a ∧ a ≤ 9223372036854775807
theorem wf_of {a : Int} (h : I64 a) : (Lit.int .i64 a).wf = true := WalkArith.wf_i64 (by unfold I64 at h; omega)
end Go.Proofs.YtpkgingjmgakbaaDoor
