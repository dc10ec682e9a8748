/-
  A VALUE THAT IS HANDED IN, OPENED.
-/
import Derived.Test.YtmmfodiagcnjeaaDoorMkB
namespace Go.Proofs.YtmmfodiagcnjeaaDoor
open Go.RowKit Go.Deep Go.WideShapes Go.ChangeShapes

theorem cells_value : Tryd.prog.cellsOf 33 = 2 := by kernel_rfl
theorem list2 {l : List Value} (h : l.length = 2) : ∃ x y, l = [x, y] := by
  match l, h with
  | [x, y], _ => exact ⟨x, y, rfl⟩
theorem trod_struct2 {H : Type} {enc : TypeId × Value → H} {P : Program} {w : World} {base : Nat} {spare : Nat → Bool} {held : Bool} {t : TypeId} {f0 f1 : Field} {fuel : Nat} {cs : List Value} {x : DataW H × List MemPlace} (ht : P.underlying t = some (.struct #[f0, f1])) (h : DataW.trod enc P w base spare held fuel t cs = some x) :
    ∃ y0 y1 n, DataW.trod enc P w base spare held n f0.type ((cs.drop f0.offset).take (P.cellsOf f0.type)) = some y0 ∧ DataW.trod enc P w base spare held n f1.type ((cs.drop f1.offset).take (P.cellsOf f1.type)) = some y1 := by
  obtain ⟨xs, n, _, rfl, hl, hlen, hf⟩ := DataW.trod_struct ht h
  match xs, hlen with
  | [y0, y1], _ => exact ⟨y0, y1, n, by simpa using hf 0 f0 rfl, by simpa using hf 1 f1 rfl⟩
set_option maxRecDepth 100000 in
theorem open_value {H : Type} {enc : TypeId × Value → H} {W : World} {sp : Nat → Bool} {fuel : Nat} {cs : Array Value} {x : DataW H × List MemPlace} (hn : cs.size = Tryd.prog.cellsOf 33) (h : DataW.trod enc Tryd.prog W 0 sp true fuel 33 (Value.agg cs).cells.toList = some x) :
    ∃ k n : Int, cs = #[.int .i64 k, .int .i64 n] ∧ I64 k ∧ I64 n := by
  rw [cells_value] at hn
  obtain ⟨l⟩ := cs
  obtain ⟨v0, v1, rfl⟩ := list2 (l := l) hn
  obtain ⟨y0, y1, k, u0, u1⟩ := trod_struct2 Tryd.underlying33 h
  simp only [cells_int, Value.cells, List.drop, List.take] at u0 u1
  obtain ⟨p0, e0, _, z0⟩ := DataW.trod_int Tryd.underlying3 u0
  obtain ⟨p1, e1, _, z1⟩ := DataW.trod_int Tryd.underlying3 u1
  simp only [List.cons.injEq, and_true] at e0 e1
  subst e0; subst e1
  exact ⟨p0, p1, rfl, i64_of z0, i64_of z1⟩
end Go.Proofs.YtmmfodiagcnjeaaDoor
