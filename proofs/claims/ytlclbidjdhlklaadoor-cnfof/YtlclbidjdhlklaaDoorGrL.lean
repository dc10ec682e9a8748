/-
  package graph: Eval BY ITS CONTRACT.
-/
import Derived.Test.YtlclbidjdhlklaaDoorGrJ
import Derived.Test.YtlclbidjdhlklaaDoorCode
namespace Go.Proofs.YtlclbidjdhlklaaDoor
open Go.RowKit Go.Maps

theorem IntsAt.below {w w' : World} {v : Value} {l : List Int} (h : IntsAt w v l) (hb : Below w.heap.size w w') : IntsAt w' v l := by
  obtain ⟨hl, o, c, rfl, h⟩ := h
  refine ⟨hl, o, c, rfl, fun k x hk => ?_⟩
  obtain ⟨b, off, e, hc⟩ := h k x hk
  exact ⟨b, off, e, cell_keep hb hc⟩
/-- What was asked so far, the rest false. -/
def rowL (f : Int → Bool) (l : List Int) (n : Nat) : List Bool := (l.take n).map f ++ List.replicate (l.length - n) false
theorem rowL_zero (f : Int → Bool) (l : List Int) : rowL f l 0 = List.replicate l.length false := by simp [rowL]
theorem rowL_all (f : Int → Bool) (l : List Int) : rowL f l l.length = l.map f := by simp [rowL]
theorem rowL_length (f : Int → Bool) (l : List Int) {n : Nat} (h : n ≤ l.length) : (rowL f l n).length = l.length := by simp [rowL]; omega
theorem rowL_set (f : Int → Bool) (l : List Int) {n : Nat} {x : Int} (h : l[n]? = some x) : rowL f l (n + 1) = (rowL f l n).set n (f x) := by
  have hn : n < l.length := (List.getElem?_eq_some_iff.1 h).1
  unfold rowL
  have e1 : (l.take (n + 1)).map f = (l.take n).map f ++ [f x] := by rw [List.take_add_one, h]; simp
  have hl : ((l.take n).map f).length = n := by simp; omega
  rw [e1, List.set_append_right _ _ (by omega), hl, Nat.sub_self]
  have : l.length - n = (l.length - (n + 1)) + 1 := by omega
  rw [this, List.replicate_succ]
  simp
theorem rowL_store {w : World} {V : Nat} {f : Int → Bool} {l : List Int} {j : Nat} {x : Int} {t : TypeId} (hV : w.heap[V]? = some (.cells (rowB (rowL f l j)) t (0, 0))) (hj : l[j]? = some x) :
    (w.setCell ⟨V, j, none⟩ (.bool (f x))).heap[V]? = some (.cells (rowB (rowL f l (j + 1))) t (0, 0)) := by
  rw [heap_setCell_at hV, rowB_set, ← rowL_set f l hj]

end Go.Proofs.YtlclbidjdhlklaaDoor
