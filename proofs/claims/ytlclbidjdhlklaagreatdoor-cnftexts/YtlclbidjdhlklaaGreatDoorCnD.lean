/-
  package cnf: numbered; Of's small functions; slices.ContainsFunc of literals BY CONTRACT.
-/
import Derived.Test.YtlclbidjdhlklaaGreatDoorCnC
namespace Go.Proofs.YtlclbidjdhlklaaGreatDoor
open Go.RowKit Go.Maps

/-- A row of ints; what is there so far, and zeros. -/
def rowI (l : List Int) : Array Value := (l.map (Value.int .i64)).toArray
def rowP (os : List Int) (m : Nat) : List Int := os ++ List.replicate (m - os.length) 0
theorem rowI_get {l : List Int} {k : Nat} {x : Int} (h : l[k]? = some x) : (rowI l)[k]? = some (.int .i64 x) := by simp [rowI, h]
theorem rowI_set (l : List Int) (k : Nat) (x : Int) : (rowI l).setIfInBounds k (.int .i64 x) = rowI (l.set k x) := by simp [rowI, List.map_set]
theorem rowP_all {os : List Int} {m : Nat} (h : os.length = m) : rowP os m = os := by simp [rowP, h]
theorem rowP_at {os : List Int} {m : Nat} (h : os.length < m) : (rowP os m)[os.length]? = some 0 := by
  unfold rowP
  rw [List.getElem?_append_right (Nat.le_refl _), Nat.sub_self, List.getElem?_replicate, if_pos (by omega)]
theorem rowP_set {os : List Int} {m : Nat} (h : os.length < m) (x : Int) : (rowP os m).set os.length x = rowP (os ++ [x]) m := by
  unfold rowP
  rw [List.set_append_right _ _ (Nat.le_refl _), Nat.sub_self]
  have : m - os.length = (m - (os ++ [x]).length) + 1 := by simp; omega
  rw [this, List.replicate_succ]
  simp
theorem rowP_more {os : List Int} {m : Nat} (h : os.length < m) : rowP (os ++ [0]) m = rowP os m := by
  unfold rowP
  have : m - os.length = (m - (os ++ [0]).length) + 1 := by simp; omega
  rw [this, List.replicate_succ]
  simp
theorem rowP_store {w : World} {V : Nat} {os : List Int} {m : Nat} {t : TypeId} (hV : w.heap[V]? = some (.cells (rowI (rowP os m)) t (0, 0))) (h : os.length < m) (x : Int) :
    (w.setCell ⟨V, os.length, none⟩ (.int .i64 x)).heap[V]? = some (.cells (rowI (rowP (os ++ [x]) m)) t (0, 0)) := by
  rw [heap_setCell_at hV, rowI_set, rowP_set h]
theorem rowP_cell {w : World} {V : Nat} {os : List Int} {m : Nat} {t : TypeId} (hV : w.heap[V]? = some (.cells (rowI (rowP os m)) t (0, 0))) (h : os.length < m) : w.cell? ⟨V, os.length, none⟩ = some (.int .i64 0) := by
  rw [cell_of_row w V _ _ t (0, 0) hV]; exact rowI_get (rowP_at h)
theorem made_ints {w : World} {V n : Nat} (h : w.ownsRow 0 3 1 (.slice (some ⟨V, 0, none⟩) n n) n (madeCells (Value.int .i64 0).cells (n * 1)).toList) : w.heap[V]? = some (.cells (rowI (rowP [] n)) 3 (0, 0)) := by
  obtain ⟨_, h2⟩ := h
  rcases h2 with ⟨h2, _⟩ | ⟨g, cap, cur, e, _, hg, _, _, hs, ht⟩
  · cases h2
  · obtain ⟨rfl, rfl⟩ : V = g ∧ n = cap := by simpa using e
    rw [hg]
    have e1 : (madeCells (Value.int .i64 0).cells (n * 1)).toList = List.replicate n (.int .i64 0) := by rw [Nat.mul_one]; exact toList_madeCells_one _ _
    rw [e1] at ht
    have e2 : cur.toList = List.replicate n (.int .i64 0) := by rw [← ht, List.take_of_length_le (by simp [hs])]
    have : cur = rowI (rowP [] n) := by
      apply Array.toList_inj.1
      rw [e2]
      simp [rowI, rowP]
    rw [this]
theorem Tryz.infoInt : (Tryz.prog.info? 3).map (fun i => (i.zero, i.size, i.bytes)) = some (some (.int .i64 0), 1, 8) := by kernel_rfl
end Go.Proofs.YtlclbidjdhlklaaGreatDoor
