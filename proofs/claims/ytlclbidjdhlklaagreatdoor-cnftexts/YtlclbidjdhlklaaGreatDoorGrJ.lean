/-
  package graph: values BY ITS CONTRACT: what all gates come to.
-/
import Derived.Test.YtlclbidjdhlklaaGreatDoorGrI
namespace Go.Proofs.YtlclbidjdhlklaaGreatDoor
open Go.RowKit Go.Maps

theorem Tryz.infoBool : (Tryz.prog.info? 4).map (fun i => (i.zero, i.size, i.bytes)) = some (some (.bool false), 1, 1) := by kernel_rfl
theorem made_bools {w : World} {V n : Nat} (h : w.ownsRow 0 4 1 (.slice (some ⟨V, 0, none⟩) n n) n (madeCells (Value.bool false).cells (n * 1)).toList) : w.heap[V]? = some (.cells (rowB (List.replicate n false)) 4 (0, 0)) := by
  obtain ⟨_, h2⟩ := h
  rcases h2 with ⟨h2, _⟩ | ⟨g, cap, cur, e, _, hg, _, _, hs, ht⟩
  · cases h2
  · obtain ⟨rfl, rfl⟩ : V = g ∧ n = cap := by simpa using e
    rw [hg]
    have e1 : (madeCells (Value.bool false).cells (n * 1)).toList = List.replicate n (.bool false) := by rw [Nat.mul_one]; exact toList_madeCells_one _ _
    rw [e1] at ht
    have e2 : cur.toList = List.replicate n (.bool false) := by rw [← ht, List.take_of_length_le (by simp [hs])]
    have : cur = rowB (List.replicate n false) := by
      apply Array.toList_inj.1
      rw [e2]
      simp [rowB]
    rw [this]
theorem rowN_zero (gs : List (Int × Int)) (inp : List Bool) : rowN gs inp 0 = List.replicate (gs.length + 1) false := by
  unfold rowN valsTo
  rw [List.replicate_succ]
  rfl
/-- All gates' values. -/
def valsOf (gs : List (Int × Int)) (inp : List Bool) : List Bool := (valsTo gs inp gs.length).1
theorem rowN_all (gs : List (Int × Int)) (inp : List Bool) : rowN gs inp gs.length = valsOf gs inp := by unfold rowN valsOf; simp
theorem Gs.lits {gs : List (Int × Int)} (h : Gs gs) {i : Nat} {p : Int × Int} (hi : gs[i]? = some p) (hn : inpB p = false) : 0 ≤ p.1 ∧ p.1 < 2 * ((i : Int) + 1) ∧ 0 ≤ p.2 ∧ p.2 < 2 * ((i : Int) + 1) := by
  have hp := (h.each i p hi).resolve_left (fun e => by rw [e] at hn; exact absurd hn (by decide))
  omega

theorem row_store {w : World} {V : Nat} {gs : List (Int × Int)} {inp : List Bool} {j : Nat} {t : TypeId} (hV : w.heap[V]? = some (.cells (rowB (rowN gs inp j)) t (0, 0))) (hj : j < gs.length) (b : Bool) (hb : (valsTo gs inp (j + 1)).1 = (valsTo gs inp j).1 ++ [b]) :
    (w.setCell ⟨V, j + 1, none⟩ (.bool b)).heap[V]? = some (.cells (rowB (rowN gs inp (j + 1))) t (0, 0)) := by
  rw [heap_setCell_at hV, rowB_set, ← rowN_set hj b hb]
end Go.Proofs.YtlclbidjdhlklaaGreatDoor
