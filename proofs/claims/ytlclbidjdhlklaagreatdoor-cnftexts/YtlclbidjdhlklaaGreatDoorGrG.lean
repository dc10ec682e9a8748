/-
  package graph: Xor, If, Input, Parts BY CONTRACT.
-/
import Derived.Test.YtlclbidjdhlklaaGreatDoorGrF
import Derived.Test.YtlclbidjdhlklaaGreatDoorStp
namespace Go.Proofs.YtlclbidjdhlklaaGreatDoor
open Go.RowKit Go.Maps
def xorL (gs : List (Int × Int)) (a b : Int) : Int := eitherL gs a (turnL b) (turnL a) b
def xorG (gs : List (Int × Int)) (a b : Int) : List (Int × Int) := eitherG gs a (turnL b) (turnL a) b
def ifL (gs : List (Int × Int)) (c a b : Int) : Int := eitherL gs c a (turnL c) b
def ifG (gs : List (Int × Int)) (c a b : Int) : List (Int × Int) := eitherG gs c a (turnL c) b

theorem results_tmp4 {fn : Func} {t u v x : Tmp} (h : fn.results = #[.tmp t, .tmp u, .tmp v, .tmp x]) (tmps : Array Value) (P : Program) (w : World) :
    (results fn tmps).run P w = .ok (.tuple #[tmps.getD t undef, tmps.getD u undef, tmps.getD v undef, tmps.getD x undef]) w := by
  simp [results, h]
/-- An input's pair. -/
def inpB (p : Int × Int) : Bool := decide (p = (0, 0))
theorem Gs.i64 {gs : List (Int × Int)} (h : Gs gs) (hl : gs.length ≤ 90000) {i : Nat} {p : Int × Int} (hi : gs[i]? = some p) : I64 p.1 ∧ I64 p.2 := by
  have hlt : i < gs.length := (List.getElem?_eq_some_iff.1 hi).1
  rcases h.each i p hi with rfl | ⟨h1, h2, h3⟩
  · unfold I64; simp
  · unfold I64; omega

end Go.Proofs.YtlclbidjdhlklaaGreatDoor
