/-
  package graph: And BY CONTRACT.
-/
import Derived.Test.YtlclbidjdhlklaaGreatDoorGrD
import Derived.Test.YtlclbidjdhlklaaGreatDoorCode
namespace Go.Proofs.YtlclbidjdhlklaaGreatDoor
open Go.RowKit Go.Maps

theorem has_two (gs : List (Int × Int)) (a b : Int) : ([a, b].all fun x => hasB gs x) = (hasB gs a && hasB gs b) := by simp

/-- Of a lesser literal and a greater one. -/
def andX (gs : List (Int × Int)) (x y : Int) : Int := if x = 0 ∨ x = turnL y then 0 else if x = 1 ∨ x = y then y else 2 * (gs.idxOf (x, y) : Int) + 2
def andY (gs : List (Int × Int)) (x y : Int) : List (Int × Int) := if x = 0 ∨ x = turnL y then gs else if x = 1 ∨ x = y then gs else if (x, y) ∈ gs then gs else gs ++ [(x, y)]
theorem below_drewM {B : Nat} {a w : World} (h : Below B a w) (n : Nat) : Below B a (w.drewN n) := ⟨h.os, h.tape, h.output, h.size, h.block⟩
theorem off_iff {x y : Int} (h : x ≤ y) : (x = 0 ∨ x = turnL y) ↔ (x = 0 ∨ (y = x + 1 ∧ x % 2 = 0)) := by
  have := (turnL_eq y).2.2
  omega
theorem andX_eq (gs : List (Int × Int)) (a b : Int) : andX gs (min a b) (max a b) = andL gs a b := by
  have h := off_iff (x := min a b) (y := max a b) (by omega)
  unfold andX andL offB oneB
  simp only [h, Bool.or_eq_true, Bool.and_eq_true, decide_eq_true_eq]
theorem andY_eq (gs : List (Int × Int)) (a b : Int) : andY gs (min a b) (max a b) = andG gs a b := by
  have h := off_iff (x := min a b) (y := max a b) (by omega)
  unfold andY andG offB oneB
  simp only [h, Bool.or_eq_true, Bool.and_eq_true, decide_eq_true_eq]

end Go.Proofs.YtlclbidjdhlklaaGreatDoor
