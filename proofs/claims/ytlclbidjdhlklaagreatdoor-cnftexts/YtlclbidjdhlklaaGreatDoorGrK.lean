/-
  THE KEYS OF THE GATES' MAP: arrays of two literals.
-/
import Derived.Test.YtlclbidjdhlklaaGreatDoorGrA
import Derived.Maps.OwnSet
import Derived.DeepKeys4
namespace Go.Proofs.YtlclbidjdhlklaaGreatDoor
open Go.RowKit Go.Maps
theorem pairLaidOut : laidOutB Tryz.prog = true := by kernel_rfl
def pairV (p : Int × Int) : Value := .agg #[.int .i64 p.1, .int .i64 p.2]
/-- What a pair reads as. -/
def pairK (p : Int × Int) : Lit := .string (keyBytes [.int .i64 p.1, .int .i64 p.2])
def I64 (a : Int) : Prop := -9223372036854775808 ≤ a ∧ a ≤ 9223372036854775807
theorem wf_of {a : Int} (h : I64 a) : (Lit.int .i64 a).wf = true := WalkArith.wf_i64 (by unfold I64 at h; omega)
end Go.Proofs.YtlclbidjdhlklaaGreatDoor
