/-
  package graph: gate BY ITS CONTRACT: the one that is there, or a new one.
-/
import Derived.Test.YtlclbidjdhlklaaGreatDoorGrC
namespace Go.Proofs.YtlclbidjdhlklaaGreatDoor
open Go.RowKit Go.Maps

theorem Mvd.row {F F' : Nat → Prop} {w w' : World} (h : Mvd F F' w w') {k : Nat} {o : Obj} (hk : w.heap[k]? = some o) (hn : ¬ F k) : w'.heap[k]? = some o := by
  rw [h.block k (Array.getElem?_eq_some_iff.1 hk).1 hn]; exact hk

end Go.Proofs.YtlclbidjdhlklaaGreatDoor
