/-
  GATES AS MATHEMATICS: a list of pairs of literals ((0, 0): an input); what two literals come to.
-/
import Derived.Test.YtpiglmaojonbnaaDoorP03
import Derived.Maps.OwnSet
import Derived.DeepKeys4
namespace Go.Proofs.YtpiglmaojonbnaaDoor

/-- A literal, turned. -/
def turnL (a : Int) : Int := if a % 2 = 0 then a + 1 else a - 1
/-- It needs no gate: it is false. -/
def offB (a b : Int) : Bool := decide (min a b = 0) || (decide (max a b = min a b + 1) && decide (min a b % 2 = 0))
/-- It needs no gate: it is the greater one. -/
def oneB (a b : Int) : Bool := decide (min a b = 1) || decide (min a b = max a b)
/-- Which literal two come to. -/
def andL (gs : List (Int × Int)) (a b : Int) : Int :=
  if offB a b = true then 0 else if oneB a b = true then max a b else 2 * (gs.idxOf (min a b, max a b) : Int) + 2
/-- The gates behind it. -/
def andG (gs : List (Int × Int)) (a b : Int) : List (Int × Int) :=
  if offB a b = true then gs else if oneB a b = true then gs else if (min a b, max a b) ∈ gs then gs else gs ++ [(min a b, max a b)]
/-- A literal of the gates. -/
def HasL (gs : List (Int × Int)) (a : Int) : Prop := 0 ≤ a ∧ a < 2 * ((gs.length : Int) + 1)
/-- Gates that are right: inputs, or two literals, the lesser first, both ahead; no two are the same. -/
structure Gs (gs : List (Int × Int)) : Prop where
  each : ∀ (i : Nat) (p : Int × Int), gs[i]? = some p → p = (0, 0) ∨ (2 ≤ p.1 ∧ p.1 < p.2 ∧ p.2 < 2 * ((i : Int) + 1))
  once : ∀ (i j : Nat) (p : Int × Int), gs[i]? = some p → gs[j]? = some p → p ≠ (0, 0) → i = j

theorem Gs.nil : Gs [] := ⟨fun i p h => by simp at h, fun i j p h => by simp at h⟩
theorem turnL_eq (a : Int) : turnL a / 2 = a / 2 ∧ turnL (turnL a) = a ∧ (turnL a = a + 1 ∧ a % 2 = 0 ∨ turnL a = a - 1 ∧ a % 2 = 1) := by
  unfold turnL
  split
  · rename_i h
    refine ⟨by omega, ?_, .inl ⟨rfl, h⟩⟩
    rw [if_neg (by omega)]; omega
  · rename_i h
    refine ⟨by omega, ?_, .inr ⟨rfl, by omega⟩⟩
    rw [if_pos (by omega)]; omega
theorem HasL.turn {gs : List (Int × Int)} {a : Int} (h : HasL gs a) : HasL gs (turnL a) := by
  have := (turnL_eq a).2.2
  unfold HasL at *
  omega
theorem HasL.turn_iff {gs : List (Int × Int)} {a : Int} : HasL gs (turnL a) ↔ HasL gs a := ⟨fun h => by have := h.turn; rwa [(turnL_eq a).2.1] at this, HasL.turn⟩
/-- .. as a bool. -/
def hasB (gs : List (Int × Int)) (a : Int) : Bool := decide (0 ≤ a) && decide (a < 2 * ((gs.length : Int) + 1))
theorem hasB_iff {gs : List (Int × Int)} {a : Int} : hasB gs a = true ↔ HasL gs a := by unfold hasB HasL; simp
theorem hasB_t {gs : List (Int × Int)} {a : Int} (h : HasL gs a) : hasB gs a = true := hasB_iff.2 h
theorem hasB_f {gs : List (Int × Int)} {a : Int} (h : ¬ HasL gs a) : hasB gs a = false := by
  cases hb : hasB gs a
  · rfl
  · exact absurd (hasB_iff.1 hb) h
theorem andG_length (gs : List (Int × Int)) (a b : Int) : gs.length ≤ (andG gs a b).length ∧ (andG gs a b).length ≤ gs.length + 1 := by
  unfold andG
  split
  · omega
  · split
    · omega
    · split
      · omega
      · simp
theorem HasL.mono {gs gs' : List (Int × Int)} (hl : gs.length ≤ gs'.length) {a : Int} (h : HasL gs a) : HasL gs' a := by
  unfold HasL at *
  omega
/-- What is one of the gates that are there is known by its place. -/
theorem idx_lt {gs : List (Int × Int)} {p : Int × Int} (h : p ∈ gs) : gs.idxOf p < gs.length := List.idxOf_lt_length_of_mem h
theorem idx_out {gs : List (Int × Int)} {p : Int × Int} (h : p ∉ gs) : gs.idxOf p = gs.length := List.idxOf_eq_length h
theorem idx_app {gs : List (Int × Int)} {p : Int × Int} (h : p ∈ gs) (l : List (Int × Int)) : (gs ++ l).idxOf p = gs.idxOf p := by simp [List.idxOf_append, h]
theorem idx_new {gs : List (Int × Int)} {p : Int × Int} (h : p ∉ gs) : (gs ++ [p]).idxOf p = gs.length := by simp [List.idxOf_append, h]
theorem andL_has {gs : List (Int × Int)} {a b : Int} (ha : HasL gs a) (hb : HasL gs b) : HasL (andG gs a b) (andL gs a b) := by
  unfold andG andL
  split
  · unfold HasL at *; omega
  · split
    · unfold HasL at *; omega
    · split
      · rename_i h
        have := idx_lt h
        unfold HasL; omega
      · rename_i h
        have := idx_out h
        unfold HasL; simp; omega
theorem Gs.and {gs : List (Int × Int)} (h : Gs gs) {a b : Int} (ha : HasL gs a) (hb : HasL gs b) : Gs (andG gs a b) := by
  unfold andG
  split
  · exact h
  · rename_i h1
    split
    · exact h
    · rename_i h2
      split
      · exact h
      · rename_i h3
        simp only [offB, oneB, Bool.or_eq_true, Bool.and_eq_true, decide_eq_true_eq, not_or, not_and] at h1 h2
        unfold HasL at ha hb
        refine ⟨fun i p hi => ?_, fun i j p hi hj hp => ?_⟩
        · rcases Nat.lt_or_ge i gs.length with hl | hl
          · rw [List.getElem?_append_left hl] at hi
            exact h.each i p hi
          · rw [List.getElem?_append_right hl] at hi
            have h0 : i - gs.length = 0 := by
              rcases Nat.eq_zero_or_pos (i - gs.length) with h | h
              · exact h
              · rw [List.getElem?_eq_none (by simp; omega)] at hi; cases hi
            rw [h0] at hi
            simp at hi
            subst hi
            right
            simp only
            omega
        · have key : ∀ k, (gs ++ [(min a b, max a b)])[k]? = some p → (k < gs.length ∧ gs[k]? = some p) ∨ (k = gs.length ∧ p = (min a b, max a b)) := fun k hk => by
            rcases Nat.lt_or_ge k gs.length with hl | hl
            · rw [List.getElem?_append_left hl] at hk
              exact .inl ⟨hl, hk⟩
            · rw [List.getElem?_append_right hl] at hk
              have h0 : k - gs.length = 0 := by
                rcases Nat.eq_zero_or_pos (k - gs.length) with h | h
                · exact h
                · rw [List.getElem?_eq_none (by simp; omega)] at hk; cases hk
              rw [h0] at hk
              simp at hk
              exact .inr ⟨by omega, hk.symm⟩
          rcases key i hi with ⟨_, k1⟩ | ⟨k1, k2⟩ <;> rcases key j hj with ⟨_, l1⟩ | ⟨l1, l2⟩
          · exact h.once i j p k1 l1 hp
          · subst l2; exact absurd (List.mem_of_getElem? k1) h3
          · subst k2; exact absurd (List.mem_of_getElem? l1) h3
          · omega
theorem Gs.input {gs : List (Int × Int)} (h : Gs gs) : Gs (gs ++ [(0, 0)]) := by
  have key : ∀ k p, (gs ++ [((0 : Int), (0 : Int))])[k]? = some p → (k < gs.length ∧ gs[k]? = some p) ∨ p = (0, 0) := fun k p hk => by
    rcases Nat.lt_or_ge k gs.length with hl | hl
    · rw [List.getElem?_append_left hl] at hk
      exact .inl ⟨hl, hk⟩
    · rw [List.getElem?_append_right hl] at hk
      have h0 : k - gs.length = 0 := by
        rcases Nat.eq_zero_or_pos (k - gs.length) with h | h
        · exact h
        · rw [List.getElem?_eq_none (by simp; omega)] at hk; cases hk
      rw [h0] at hk
      simp at hk
      exact .inr (by simp [← hk])
  refine ⟨fun i p hi => ?_, fun i j p hi hj hp => ?_⟩
  · rcases key i p hi with ⟨_, k⟩ | k
    · exact h.each i p k
    · exact .inl k
  · rcases key i p hi with ⟨_, k1⟩ | k1 <;> rcases key j p hj with ⟨_, l1⟩ | l1
    · exact h.once i j p k1 l1 hp
    · exact absurd l1 hp
    · exact absurd k1 hp
    · exact absurd k1 hp

/-- Or, Xor, If, by And. -/
def orL (gs : List (Int × Int)) (a b : Int) : Int := turnL (andL gs (turnL a) (turnL b))
def orG (gs : List (Int × Int)) (a b : Int) : List (Int × Int) := andG gs (turnL a) (turnL b)
/-- Either the first two, or the last two. -/
def eitherL (gs : List (Int × Int)) (a b c d : Int) : Int := orL (andG (andG gs a b) c d) (andL gs a b) (andL (andG gs a b) c d)
def eitherG (gs : List (Int × Int)) (a b c d : Int) : List (Int × Int) := orG (andG (andG gs a b) c d) (andL gs a b) (andL (andG gs a b) c d)
theorem orG_length (gs : List (Int × Int)) (a b : Int) : gs.length ≤ (orG gs a b).length ∧ (orG gs a b).length ≤ gs.length + 1 := andG_length _ _ _
theorem orL_has {gs : List (Int × Int)} {a b : Int} (ha : HasL gs a) (hb : HasL gs b) : HasL (orG gs a b) (orL gs a b) := (andL_has ha.turn hb.turn).turn
theorem Gs.or {gs : List (Int × Int)} (h : Gs gs) {a b : Int} (ha : HasL gs a) (hb : HasL gs b) : Gs (orG gs a b) := h.and ha.turn hb.turn
theorem eitherG_length (gs : List (Int × Int)) (a b c d : Int) : gs.length ≤ (eitherG gs a b c d).length ∧ (eitherG gs a b c d).length ≤ gs.length + 3 := by
  have h1 := andG_length gs a b
  have h2 := andG_length (andG gs a b) c d
  have h3 := orG_length (andG (andG gs a b) c d) (andL gs a b) (andL (andG gs a b) c d)
  unfold eitherG
  omega
theorem either_has {gs : List (Int × Int)} {a b c d : Int} (ha : HasL gs a) (hb : HasL gs b) (hc : HasL gs c) (hd : HasL gs d) : HasL (eitherG gs a b c d) (eitherL gs a b c d) := by
  have h1 := andL_has ha hb
  have h2 := andL_has (hc.mono (andG_length gs a b).1) (hd.mono (andG_length gs a b).1)
  exact orL_has (h1.mono (andG_length _ c d).1) h2
theorem Gs.either {gs : List (Int × Int)} (h : Gs gs) {a b c d : Int} (ha : HasL gs a) (hb : HasL gs b) (hc : HasL gs c) (hd : HasL gs d) : Gs (eitherG gs a b c d) := by
  have h1 := andL_has ha hb
  have h2 := andL_has (hc.mono (andG_length gs a b).1) (hd.mono (andG_length gs a b).1)
  exact ((h.and ha hb).and (hc.mono (andG_length gs a b).1) (hd.mono (andG_length gs a b).1)).or (h1.mono (andG_length _ c d).1) h2
end Go.Proofs.YtpiglmaojonbnaaDoor

/-
  THE KEYS OF THE GATES' MAP: arrays of two literals.
-/
namespace Go.Proofs.YtpiglmaojonbnaaDoor
open Go.RowKit Go.Maps
theorem pairLaidOut : laidOutB Tryd.prog = true := by kernel_rfl
theorem pairRow : (115 : TypeId) < Tryd.prog.types.size := of_decide_eq_true (by kernel_rfl)
theorem pairWide : (match Tryd.prog.underlying 115 with | some (.array _ _) | some (.struct _) => true | _ => false) = true := by kernel_rfl
theorem pairAt : Tryd.prog.keyTypeAt 2 115 = true := by kernel_rfl
set_option maxRecDepth 100000 in
theorem pairLaw : Keyed Tryd.prog 115 := Keyed.of_law (deep_law_laid pairLaidOut (m := 2) (by omega) pairRow pairAt pairWide)
theorem litZero (w : World) : (zeroValue 34).run Tryd.prog w = .ok (.int .i64 0) w := by kernel_rfl
def pairV (p : Int × Int) : Value := .agg #[.int .i64 p.1, .int .i64 p.2]
/-- What a pair reads as. -/
def pairK (p : Int × Int) : Lit := .string (keyBytes [.int .i64 p.1, .int .i64 p.2])
def I64 (a : Int) : Prop := -9223372036854775808 ≤ a ∧ a ≤ 9223372036854775807
theorem wf_of {a : Int} (h : I64 a) : (Lit.int .i64 a).wf = true := WalkArith.wf_i64 (by unfold I64 at h; omega)
theorem pairType : Tryd.prog.keyType 115 = true := by kernel_rfl
theorem pairCells : Tryd.prog.cellsOf 115 = 2 := by kernel_rfl
theorem litCells : Tryd.prog.cellsOf 34 = 1 := by kernel_rfl
set_option maxRecDepth 100000 in
theorem pairKey {p : Int × Int} (h1 : I64 p.1) (h2 : I64 p.2) : keyOf Tryd.prog 115 (pairV p) = some (pairK p) := by
  have hf : (pairV p).formed Tryd.prog 115 = true := by
    unfold pairV
    simp [Value.formed, Tryd.underlying115, pairCells]
  unfold keyOf
  simp only [Tryd.underlying115, pairType, hf, Bool.and_self, if_true]
  unfold Program.keyLits
  simp [Tryd.underlying115, pairCells, litCells, pairV, Value.cells, List.range, List.range.loop]
  have hl : ∀ a, I64 a → Tryd.prog.keyLits 174 34 [.int .i64 a] = some [.int .i64 a] := fun a ha => by
    unfold Program.keyLits
    simp [Tryd.underlying34, wf_of ha]
  rw [hl _ h1, hl _ h2]
  rfl
theorem pairK_inj {p q : Int × Int} (h1 : I64 p.1) (h2 : I64 p.2) (k1 : I64 q.1) (k2 : I64 q.2) (h : pairK p = pairK q) : p = q := by
  have e := pairLaw.inj (pairKey h1 h2) (h ▸ pairKey k1 k2)
  simp only [pairV, Value.agg.injEq] at e
  obtain ⟨p1, p2⟩ := p
  obtain ⟨q1, q2⟩ := q
  simp at e
  simp [e]
end Go.Proofs.YtpiglmaojonbnaaDoor
