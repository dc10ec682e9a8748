/-
  package graph: add BY ITS CONTRACT (where there is room: fewer gates than may be).
-/
import Derived.Test.YtlclbidjdhlklaaGreatDoorGrB
import Derived.Deep.RegionLaw
namespace Go.Proofs.YtlclbidjdhlklaaGreatDoor
open Go.RowKit Go.Maps
theorem heap_grown {w w' : World} {row : Option Nat} (hg : w.grownBy w' row) {b : Nat} {o : Obj} (hne : row ≠ some b) (h : w.heap[b]? = some o) : w'.heap[b]? = some o := by
  rw [hg.block b (Array.getElem?_eq_some_iff.1 h).1 (fun e => hne e.symm)]; exact h
theorem alloc_row {w : World} (o : Obj) {k : Nat} {x : Obj} (h : w.heap[k]? = some x) : (w.alloc o).heap[k]? = some x := by
  rw [Below.heap_alloc w o k (Array.getElem?_eq_some_iff.1 h).1]; exact h

theorem size_setCell (w : World) (a : Addr) (u : Value) : (w.setCell a u).heap.size = w.heap.size := by simp [World.setCell]
end Go.Proofs.YtlclbidjdhlklaaGreatDoor
