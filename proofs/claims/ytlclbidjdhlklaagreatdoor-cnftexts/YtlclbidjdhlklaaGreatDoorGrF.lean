/-
  package graph: Or, either, Xor, If, Input, Parts BY CONTRACT.
-/
import Derived.Test.YtlclbidjdhlklaaGreatDoorGrE
namespace Go.Proofs.YtlclbidjdhlklaaGreatDoor
open Go.RowKit Go.Maps

theorem HasL.i64 {gs : List (Int × Int)} {a : Int} (h : HasL gs a) (hl : gs.length ≤ 90010) : I64 a := by unfold HasL at h; unfold I64; omega
theorem I64.turn {a : Int} (h : I64 a) : I64 (turnL a) := by
  have := (turnL_eq a).2.2
  unfold I64 at *
  omega

end Go.Proofs.YtlclbidjdhlklaaGreatDoor
