/-
  WHAT IS READ OF OLD MEMORY IS READ OF IT LATER.
-/
import Derived.Test.YtiejfopholdbnaaGreatDoorChecked
import Derived.LoopTactic
import Derived.Below
import Derived.WalkKit
import Derived.Deep.RegionLaw
import Derived.Handy
import Derived.Deep.QuietTactic
import Derived.BigQuiet
import Derived.WalkSmall
namespace Go.Proofs.YtiejfopholdbnaaGreatDoor
open Go.RowKit
theorem cell_keep {w w' : World} (hb : Below w.heap.size w w') {p : Addr} {v : Value} (hc : w.cell? p = some v) : w'.cell? p = some v := by
 have hp : p.block < w.heap.size := by
  rcases Nat.lt_or_ge p.block w.heap.size with h | h
  ·exact h
  ·simp [World.cell?, Array.getElem?_eq_none h] at hc
 rw [hb.cell hp]; exact hc
theorem row_keep {w w' : World} (hb : Below w.heap.size w w') {k : Nat} {o : Obj} (hc : w.heap[k]? = some o) : w'.heap[k]? = some o := by
 have hp : k < w.heap.size := by
  rcases Nat.lt_or_ge k w.heap.size with h | h
  ·exact h
  ·simp [Array.getElem?_eq_none h] at hc
 rw [hb.block k hp]; exact hc
theorem hidP {p : Prop} (h : p) : Hid p := h
theorem bal {w : World} {o : Obj} : Below w.heap.size w (w.alloc o) := (Below.refl _ _).alloc (Nat.le_refl _) _
theorem cr {w : World} {b k : Nat} {cs : Array Value} {t : TypeId} {v : Value} (h : w.heap[b]? = some (.cells cs t (0, 0))) (e : cs[k]? = some v) : w.cell? ⟨b, k, none⟩ = some v := by
 rw [cell_of_row w _ _ _ _ (0, 0) h]; exact e
set_option maxRecDepth 100000

def aroundI (n : Int) : Int := (n + 128) % 256 - 128
theorem aroundI_of (n : Int) : aroundI n = (let r := n.tmod 256; let s := if r < 0 then r + 256 else r; if 127 < s then s - 256 else s) := by
 have h : n.tmod 256 = n % 256 ∨ n.tmod 256 = n % 256 - 256 ∧ n % 256 ≠ 0 := by
  rcases Int.lt_or_le n 0 with h | h
  ·have e : n.tmod 256 = -((-n) % 256) := by
    have := Int.neg_tmod (-n) 256
    rw [Int.neg_neg] at this
    rw [this, Int.tmod_eq_emod_of_nonneg (by omega)]
   rw [e]
   omega
  ·exact .inl (Int.tmod_eq_emod_of_nonneg h)
 unfold aroundI
 simp only
 split <;> split <;> omega
theorem around_any (n : Int) (w : World) : Calls Tryz.prog 72 #[.int .i64 n] w fun e w' => e = .returned (.int .i64 (aroundI n)) ∧ w' = w := by
 have h := aroundI_of n
 simp only at h
 have hb : -256 < n.tmod 256 ∧ n.tmod 256 < 256 := ⟨by have := Int.lt_tmod_of_pos n (b := 256) (by omega); omega, Int.tmod_lt_of_pos n (by omega)⟩
 obtain ⟨r, hr⟩ : ∃ r, r = n.tmod 256 := ⟨_, rfl⟩
 rw [← hr] at h hb
 have hrr : n.tmod 256 = r := hr.symm
 have H := hidP h
 clear hr h
 by_cases h1 : r < 0
 ·by_cases h2 : 127 < r + 256
  ·have E : Hid (aroundI n = r) := by unfold Hid; rw [H.out, if_pos h1, if_pos h2]; omega
   clear H
   go_enter Tryz.func72, Tryz.ntmps72
   go_wp2
   go_ret
   exact ⟨by rw [E.out]; rfl, rfl⟩
  ·have E : Hid (aroundI n = r + 256) := by unfold Hid; rw [H.out, if_pos h1, if_neg h2]
   clear H
   go_enter Tryz.func72, Tryz.ntmps72
   go_wp2
   go_ret
   exact ⟨by rw [E.out]; rfl, rfl⟩
 ·by_cases h2 : 127 < r
  ·have E : Hid (aroundI n = r - 256) := by unfold Hid; rw [H.out, if_neg h1, if_pos h2]
   clear H
   go_enter Tryz.func72, Tryz.ntmps72
   go_wp2
   go_ret
   exact ⟨by rw [E.out]; rfl, rfl⟩
  ·have E : Hid (aroundI n = r) := by unfold Hid; rw [H.out, if_neg h1, if_neg h2]
   clear H
   go_enter Tryz.func72, Tryz.ntmps72
   go_wp2
   go_ret
   exact ⟨by rw [E.out]; rfl, rfl⟩

def truthI (b : Bool) : Int := if b = true then 1 else 0
theorem truth_any (b : Bool) (w : World) : Calls Tryz.prog 71 #[.bool b] w fun e w' => e = .returned (.agg #[.int .i64 1, .int .i64 (truthI b)]) ∧ w' = w.alloc (.cells #[.int .i64 1, .int .i64 (truthI b)] 66) := by
 cases b
 ·go_enter Tryz.func71, Tryz.ntmps71
  go_wp2
  go_returns
  exact ⟨rfl, rfl⟩
 ·go_enter Tryz.func71, Tryz.ntmps71
  go_wp2
  go_returns
  exact ⟨rfl, rfl⟩
def rightB (k n kind : Int) : Bool := if k = kind then (if kind = 1 then (decide (n = 0) || decide (n = 1)) else (decide (kind = 2) && (decide (-129 < n) && decide (n < 128)))) else false
theorem right_any (k n kind : Int) (w : World) : Calls Tryz.prog 69 #[.agg #[.int .i64 k, .int .i64 n], .int .i64 kind] w fun e w' => e = .returned (.bool (rightB k n kind)) ∧ Below w.heap.size w w' := by
 have hb : Below w.heap.size w (w.alloc (.cells #[.int .i64 k, .int .i64 n] 66)) := bal
 by_cases h1 : k = kind
 ·subst h1
  by_cases h2 : k = 1
  ·subst h2
   by_cases h3 : n = 0
   ·subst h3
    go_enter Tryz.func69, Tryz.ntmps69
    go_wp2
    go_ret
    exact ⟨rfl, hb⟩
   ·have d3 : (n == 0) = false := beq_eq_false_iff_ne.2 h3
    by_cases h4 : n = 1
    ·subst h4
     go_enter Tryz.func69, Tryz.ntmps69
     go_wp2
     go_ret
     exact ⟨rfl, hb⟩
    ·have d4 : (n == 1) = false := beq_eq_false_iff_ne.2 h4
     have E : Hid (rightB 1 n 1 = false) := by unfold Hid rightB; simp [h3, h4]
     clear h3 h4
     go_enter Tryz.func69, Tryz.ntmps69
     go_wp2
     go_ret
     exact ⟨by rw [E.out]; rfl, hb⟩
  ·have d2 : (k == 1) = false := beq_eq_false_iff_ne.2 h2
   by_cases h3 : k = 2
   ·subst h3
    by_cases h4 : -129 < n
    ·have d4 : ((-129 : Int) < n) = True := eq_true h4
     by_cases h5 : n < 128
     ·have d5 : (n < 128) = True := eq_true h5
      have E : Hid (rightB 2 n 2 = true) := by unfold Hid rightB; simp [h4, h5]
      clear h4 h5 h2 d2
      go_enter Tryz.func69, Tryz.ntmps69
      go_wp2
      go_ret
      exact ⟨by rw [E.out]; rfl, hb⟩
     ·have d5 : (n < 128) = False := eq_false h5
      have E : Hid (rightB 2 n 2 = false) := by unfold Hid rightB; simp [h5]
      clear h4 h5 h2 d2
      go_enter Tryz.func69, Tryz.ntmps69
      go_wp2
      go_ret
      exact ⟨by rw [E.out]; rfl, hb⟩
    ·have d4 : ((-129 : Int) < n) = False := eq_false h4
     have E : Hid (rightB 2 n 2 = false) := by unfold Hid rightB; simp [h4]
     clear h4 h2 d2
     go_enter Tryz.func69, Tryz.ntmps69
     go_wp2
     go_ret
     exact ⟨by rw [E.out]; rfl, hb⟩
   ·have d3 : (k == 2) = false := beq_eq_false_iff_ne.2 h3
    have E : Hid (rightB k n k = false) := by unfold Hid rightB; simp [h2, h3]
    clear h2 h3
    go_enter Tryz.func69, Tryz.ntmps69
    go_wp2
    go_ret
    exact ⟨by rw [E.out]; rfl, hb⟩
 ·have d1 : (k == kind) = false := beq_eq_false_iff_ne.2 h1
  have d1' : (k != kind) = true := by simp [h1]
  have E : Hid (rightB k n kind = false) := by unfold Hid rightB; rw [if_neg h1]
  clear h1
  go_enter Tryz.func69, Tryz.ntmps69
  go_wp2
  go_ret
  exact ⟨by rw [E.out]; rfl, hb⟩

theorem cell_lt {w : World} {p : Addr} {v : Value} (hc : w.cell? p = some v) : p.block < w.heap.size := by
 rcases Nat.lt_or_ge p.block w.heap.size with h | h
 ·exact h
 ·simp [World.cell?, Array.getElem?_eq_none h] at hc
def ValsAt (w : World) (v : Value) (l : List (Int × Int)) : Prop := l.length ≤ maxLen ∧ ∃ o c, v = .slice o l.length c ∧ ∀ k x, l[k]? = some x → ∃ b off, o = some ⟨b, off, none⟩ ∧ w.cell? ⟨b, off + k * 2, none⟩ = some (.int .i64 x.1) ∧ w.cell? ⟨b, off + k * 2 + 1, none⟩ = some (.int .i64 x.2)
theorem ValsAt.below {w w' : World} {v : Value} {l : List (Int × Int)} (h : ValsAt w v l) (hb : Below w.heap.size w w') : ValsAt w' v l := by
 obtain ⟨hl, o, c, rfl, h⟩ := h
 refine ⟨hl, o, c, rfl, fun k x hk => ?_⟩
 obtain ⟨b, off, e, c0, c1⟩ := h k x hk
 exact ⟨b, off, e, cell_keep hb c0, cell_keep hb c1⟩
end Go.Proofs.YtiejfopholdbnaaGreatDoor
namespace Go.Proofs.YtiejfopholdbnaaGreatDoor
def turnL (a : Int) : Int := if a % 2 = 0 then a + 1 else a - 1
def offB (a b : Int) : Bool := decide (min a b = 0) || (decide (max a b = min a b + 1) && decide (min a b % 2 = 0))
def oneB (a b : Int) : Bool := decide (min a b = 1) || decide (min a b = max a b)
def andL (gs : List (Int × Int)) (a b : Int) : Int :=
 if offB a b = true then 0 else if oneB a b = true then max a b else 2 * (gs.idxOf (min a b, max a b) : Int) + 2
def andG (gs : List (Int × Int)) (a b : Int) : List (Int × Int) :=
 if offB a b = true then gs else if oneB a b = true then gs else if (min a b, max a b) ∈ gs then gs else gs ++ [(min a b, max a b)]
def HasL (gs : List (Int × Int)) (a : Int) : Prop := 0 ≤ a ∧ a < 2 * ((gs.length : Int) + 1)
structure Gs (gs : List (Int × Int)) : Prop where
 each : ∀ (i : Nat) (p : Int × Int), gs[i]? = some p → p = (0, 0) ∨ (2 ≤ p.1 ∧ p.1 < p.2 ∧ p.2 < 2 * ((i : Int) + 1))
 once : ∀ (i j : Nat) (p : Int × Int), gs[i]? = some p → gs[j]? = some p → p ≠ (0, 0) → i = j

theorem Gs.nil : Gs [] := ⟨fun i p h => by simp at h, fun i j p h => by simp at h⟩
theorem turnL_eq (a : Int) : turnL a / 2 = a / 2 ∧ turnL (turnL a) = a ∧ (turnL a = a + 1 ∧ a % 2 = 0 ∨ turnL a = a - 1 ∧ a % 2 = 1) := by
 unfold turnL
 split
 ·rename_i h
  refine ⟨by omega, ?_, .inl ⟨rfl, h⟩⟩
  rw [if_neg (by omega)]; omega
 ·rename_i h
  refine ⟨by omega, ?_, .inr ⟨rfl, by omega⟩⟩
  rw [if_pos (by omega)]; omega
theorem andG_length (gs : List (Int × Int)) (a b : Int) : gs.length ≤ (andG gs a b).length ∧ (andG gs a b).length ≤ gs.length + 1 := by
 unfold andG
 split
 ·omega
 ·split
  ·omega
  ·split
   ·omega
   ·simp
theorem HasL.mono {gs gs' : List (Int × Int)} (hl : gs.length ≤ gs'.length) {a : Int} (h : HasL gs a) : HasL gs' a := by
 unfold HasL at *
 omega
theorem idx_lt {gs : List (Int × Int)} {p : Int × Int} (h : p ∈ gs) : gs.idxOf p < gs.length := List.idxOf_lt_length_of_mem h
theorem idx_out {gs : List (Int × Int)} {p : Int × Int} (h : p ∉ gs) : gs.idxOf p = gs.length := List.idxOf_eq_length h
theorem idx_new {gs : List (Int × Int)} {p : Int × Int} (h : p ∉ gs) : (gs ++ [p]).idxOf p = gs.length := by simp [List.idxOf_append, h]
theorem andL_has {gs : List (Int × Int)} {a b : Int} (ha : HasL gs a) (hb : HasL gs b) : HasL (andG gs a b) (andL gs a b) := by
 unfold andG andL
 split
 ·unfold HasL at *; omega
 ·split
  ·unfold HasL at *; omega
  ·split
   ·rename_i h
    have := idx_lt h
    unfold HasL; omega
   ·rename_i h
    have := idx_out h
    unfold HasL; simp; omega
theorem Gs.and {gs : List (Int × Int)} (h : Gs gs) {a b : Int} (ha : HasL gs a) (hb : HasL gs b) : Gs (andG gs a b) := by
 unfold andG
 split
 ·exact h
 ·rename_i h1
  split
  ·exact h
  ·rename_i h2
   split
   ·exact h
   ·rename_i h3
    simp only [offB, oneB, Bool.or_eq_true, Bool.and_eq_true, decide_eq_true_eq, not_or, not_and] at h1 h2
    unfold HasL at ha hb
    refine ⟨fun i p hi => ?_, fun i j p hi hj hp => ?_⟩
    ·rcases Nat.lt_or_ge i gs.length with hl | hl
     ·rw [List.getElem?_append_left hl] at hi
      exact h.each i p hi
     ·rw [List.getElem?_append_right hl] at hi
      have h0 : i - gs.length = 0 := by
       rcases Nat.eq_zero_or_pos (i - gs.length) with h | h
       ·exact h
       ·rw [List.getElem?_eq_none (by simp; omega)] at hi; cases hi
      rw [h0] at hi
      simp at hi
      subst hi
      right
      simp only
      omega
    ·have key : ∀ k, (gs ++ [(min a b, max a b)])[k]? = some p → (k < gs.length ∧ gs[k]? = some p) ∨ (k = gs.length ∧ p = (min a b, max a b)) := fun k hk => by
      rcases Nat.lt_or_ge k gs.length with hl | hl
      ·rw [List.getElem?_append_left hl] at hk
       exact .inl ⟨hl, hk⟩
      ·rw [List.getElem?_append_right hl] at hk
       have h0 : k - gs.length = 0 := by
        rcases Nat.eq_zero_or_pos (k - gs.length) with h | h
        ·exact h
        ·rw [List.getElem?_eq_none (by simp; omega)] at hk; cases hk
       rw [h0] at hk
       simp at hk
       exact .inr ⟨by omega, hk.symm⟩
     rcases key i hi with ⟨_, k1⟩ | ⟨k1, k2⟩ <;> rcases key j hj with ⟨_, l1⟩ | ⟨l1, l2⟩
     ·exact h.once i j p k1 l1 hp
     ·subst l2; exact absurd (List.mem_of_getElem? k1) h3
     ·subst k2; exact absurd (List.mem_of_getElem? l1) h3
     ·omega
end Go.Proofs.YtiejfopholdbnaaGreatDoor
