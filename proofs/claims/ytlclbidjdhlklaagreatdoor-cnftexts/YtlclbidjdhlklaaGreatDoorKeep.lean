/-
  WHAT IS READ OF OLD MEMORY IS READ OF IT LATER.
-/
import Derived.Test.YtlclbidjdhlklaaGreatDoorChecked
import Derived.LoopTactic
import Derived.Below
import Derived.WalkKit
namespace Go.Proofs.YtlclbidjdhlklaaGreatDoor
open Go.RowKit

/-- What is read of a cell is read of it later, where no old block has turned. -/
theorem cell_keep {w w' : World} (hb : Below w.heap.size w w') {p : Addr} {v : Value} (hc : w.cell? p = some v) : w'.cell? p = some v := by
  have hp : p.block < w.heap.size := by
    rcases Nat.lt_or_ge p.block w.heap.size with h | h
    · exact h
    · simp [World.cell?, Array.getElem?_eq_none h] at hc
  rw [hb.cell hp]; exact hc
theorem row_keep {w w' : World} (hb : Below w.heap.size w w') {k : Nat} {o : Obj} (hc : w.heap[k]? = some o) : w'.heap[k]? = some o := by
  have hp : k < w.heap.size := by
    rcases Nat.lt_or_ge k w.heap.size with h | h
    · exact h
    · simp [Array.getElem?_eq_none h] at hc
  rw [hb.block k hp]; exact hc
end Go.Proofs.YtlclbidjdhlklaaGreatDoor
