/-
  THE DOCUMENT's OPERATORS (lustrumref2): Around, Truth, Right BY CONTRACT; values in memory.
-/
import Derived.Test.YtmmfodiagcnjeaaDoorStp
import Derived.Handy
import Derived.Deep.QuietTactic
import Derived.BigQuiet
import Derived.WalkSmall
import Derived.LoopTactic
import Derived.Deep.RegionLaw
namespace Go.Proofs.YtmmfodiagcnjeaaDoor
open Go.RowKit

/-- An int of eight bits. -/
def aroundI (n : Int) : Int := (n + 128) % 256 - 128
theorem aroundI_of (n : Int) : aroundI n = (let r := n.tmod 256; let s := if r < 0 then r + 256 else r; if 127 < s then s - 256 else s) := by
  have h : n.tmod 256 = n % 256 ∨ n.tmod 256 = n % 256 - 256 ∧ n % 256 ≠ 0 := by
    rcases Int.lt_or_le n 0 with h | h
    · have e : n.tmod 256 = -((-n) % 256) := by
        have := Int.neg_tmod (-n) 256
        rw [Int.neg_neg] at this
        rw [this, Int.tmod_eq_emod_of_nonneg (by omega)]
      rw [e]
      omega
    · exact .inl (Int.tmod_eq_emod_of_nonneg h)
  unfold aroundI
  simp only
  split <;> split <;> omega
set_option maxRecDepth 100000 in
theorem around_any (n : Int) (w : World) : Calls Tryd.prog 13 #[.int .i64 n] w fun e w' => e = .returned (.int .i64 (aroundI n)) ∧ w' = w := by
  have h := aroundI_of n
  simp only at h
  have hb : -256 < n.tmod 256 ∧ n.tmod 256 < 256 := ⟨by have := Int.lt_tmod_of_pos n (b := 256) (by omega); omega, Int.tmod_lt_of_pos n (by omega)⟩
  obtain ⟨r, hr⟩ : ∃ r, r = n.tmod 256 := ⟨_, rfl⟩
  rw [← hr] at h hb
  have hrr : n.tmod 256 = r := hr.symm
  have H : Hid (aroundI n = _) := h
  clear hr h
  by_cases h1 : r < 0
  · by_cases h2 : 127 < r + 256
    · have E : Hid (aroundI n = r) := by unfold Hid; rw [H.out, if_pos h1, if_pos h2]; omega
      clear H
      go_enter Tryd.func13, Tryd.ntmps13
      go_wp2
      go_ret
      exact ⟨by rw [E.out]; rfl, rfl⟩
    · have E : Hid (aroundI n = r + 256) := by unfold Hid; rw [H.out, if_pos h1, if_neg h2]
      clear H
      go_enter Tryd.func13, Tryd.ntmps13
      go_wp2
      go_ret
      exact ⟨by rw [E.out]; rfl, rfl⟩
  · by_cases h2 : 127 < r
    · have E : Hid (aroundI n = r - 256) := by unfold Hid; rw [H.out, if_neg h1, if_pos h2]
      clear H
      go_enter Tryd.func13, Tryd.ntmps13
      go_wp2
      go_ret
      exact ⟨by rw [E.out]; rfl, rfl⟩
    · have E : Hid (aroundI n = r) := by unfold Hid; rw [H.out, if_neg h1, if_neg h2]
      clear H
      go_enter Tryd.func13, Tryd.ntmps13
      go_wp2
      go_ret
      exact ⟨by rw [E.out]; rfl, rfl⟩

/-- A bool's value. -/
def truthI (b : Bool) : Int := if b = true then 1 else 0
/-- Is it a value of that kind? -/
def rightB (k n kind : Int) : Bool := if k = kind then (if kind = 1 then (decide (n = 0) || decide (n = 1)) else (decide (kind = 2) && (decide (-129 < n) && decide (n < 128)))) else false
set_option maxRecDepth 100000 in
theorem right_any (k n kind : Int) (w : World) : Calls Tryd.prog 15 #[.agg #[.int .i64 k, .int .i64 n], .int .i64 kind] w fun e w' => e = .returned (.bool (rightB k n kind)) ∧ Below w.heap.size w w' := by
  have hb : Below w.heap.size w (w.alloc (.cells #[.int .i64 k, .int .i64 n] 33)) := (Below.refl _ _).alloc (Nat.le_refl _) _
  by_cases h1 : k = kind
  · subst h1
    by_cases h2 : k = 1
    · subst h2
      by_cases h3 : n = 0
      · subst h3
        go_enter Tryd.func15, Tryd.ntmps15
        go_wp2
        go_ret
        exact ⟨rfl, hb⟩
      · have d3 : (n == 0) = false := beq_eq_false_iff_ne.2 h3
        by_cases h4 : n = 1
        · subst h4
          go_enter Tryd.func15, Tryd.ntmps15
          go_wp2
          go_ret
          exact ⟨rfl, hb⟩
        · have d4 : (n == 1) = false := beq_eq_false_iff_ne.2 h4
          have E : Hid (rightB 1 n 1 = false) := by unfold Hid rightB; simp [h3, h4]
          clear h3 h4
          go_enter Tryd.func15, Tryd.ntmps15
          go_wp2
          go_ret
          exact ⟨by rw [E.out]; rfl, hb⟩
    · have d2 : (k == 1) = false := beq_eq_false_iff_ne.2 h2
      by_cases h3 : k = 2
      · subst h3
        by_cases h4 : -129 < n
        · have d4 : ((-129 : Int) < n) = True := eq_true h4
          by_cases h5 : n < 128
          · have d5 : (n < 128) = True := eq_true h5
            have E : Hid (rightB 2 n 2 = true) := by unfold Hid rightB; simp [h4, h5]
            clear h4 h5 h2 d2
            go_enter Tryd.func15, Tryd.ntmps15
            go_wp2
            go_ret
            exact ⟨by rw [E.out]; rfl, hb⟩
          · have d5 : (n < 128) = False := eq_false h5
            have E : Hid (rightB 2 n 2 = false) := by unfold Hid rightB; simp [h5]
            clear h4 h5 h2 d2
            go_enter Tryd.func15, Tryd.ntmps15
            go_wp2
            go_ret
            exact ⟨by rw [E.out]; rfl, hb⟩
        · have d4 : ((-129 : Int) < n) = False := eq_false h4
          have E : Hid (rightB 2 n 2 = false) := by unfold Hid rightB; simp [h4]
          clear h4 h2 d2
          go_enter Tryd.func15, Tryd.ntmps15
          go_wp2
          go_ret
          exact ⟨by rw [E.out]; rfl, hb⟩
      · have d3 : (k == 2) = false := beq_eq_false_iff_ne.2 h3
        have E : Hid (rightB k n k = false) := by unfold Hid rightB; simp [h2, h3]
        clear h2 h3
        go_enter Tryd.func15, Tryd.ntmps15
        go_wp2
        go_ret
        exact ⟨by rw [E.out]; rfl, hb⟩
  · have d1 : (k == kind) = false := beq_eq_false_iff_ne.2 h1
    have d1' : (k != kind) = true := by simp [h1]
    have E : Hid (rightB k n kind = false) := by unfold Hid rightB; rw [if_neg h1]
    clear h1
    go_enter Tryd.func15, Tryd.ntmps15
    go_wp2
    go_ret
    exact ⟨by rw [E.out]; rfl, hb⟩

theorem cell_lt {w : World} {p : Addr} {v : Value} (hc : w.cell? p = some v) : p.block < w.heap.size := by
  rcases Nat.lt_or_ge p.block w.heap.size with h | h
  · exact h
  · simp [World.cell?, Array.getElem?_eq_none h] at hc
/-- Values one behind the other. -/
def ValsAt (w : World) (v : Value) (l : List (Int × Int)) : Prop := l.length ≤ maxLen ∧ ∃ o c, v = .slice o l.length c ∧ ∀ k x, l[k]? = some x → ∃ b off, o = some ⟨b, off, none⟩ ∧ w.cell? ⟨b, off + k * 2, none⟩ = some (.int .i64 x.1) ∧ w.cell? ⟨b, off + k * 2 + 1, none⟩ = some (.int .i64 x.2)
theorem ValsAt.below {w w' : World} {v : Value} {l : List (Int × Int)} (h : ValsAt w v l) (hb : Below w.heap.size w w') : ValsAt w' v l := by
  obtain ⟨hl, o, c, rfl, h⟩ := h
  refine ⟨hl, o, c, rfl, fun k x hk => ?_⟩
  obtain ⟨b, off, e, c0, c1⟩ := h k x hk
  exact ⟨b, off, e, cell_keep hb c0, cell_keep hb c1⟩
end Go.Proofs.YtmmfodiagcnjeaaDoor
