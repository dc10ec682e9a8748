/-
  package cnf: partsOf, needed, numbered BY CONTRACT.
-/
import Derived.Test.YtlclbidjdhlklaaGreatDoorCnA
import Derived.Deep.QuietTactic
import Derived.BigQuiet
namespace Go.Proofs.YtlclbidjdhlklaaGreatDoor
open Go.RowKit Go.Maps

theorem IntsAt.get {w : World} {o : Option Addr} {n c : Nat} {l : List Int} (h : IntsAt w (.slice o n c) l) {k : Nat} {x : Int} (hk : l[k]? = some x) : ∃ b off, o = some ⟨b, off, none⟩ ∧ w.cell? ⟨b, off + k, none⟩ = some (.int .i64 x) := by
  obtain ⟨_, o1, c1, e, h⟩ := h
  obtain ⟨b, off, rfl, r⟩ := h k x hk
  obtain ⟨rfl, _, _⟩ : o = some ⟨b, off, none⟩ ∧ n = l.length ∧ c = c1 := by simpa using e
  exact ⟨b, off, rfl, r⟩
theorem IntsAt.keep {w w' : World} {v : Value} {l : List Int} (h : IntsAt w v l) (hb : Below w.heap.size w w') : IntsAt w' v l := by
  obtain ⟨hl, o, c, rfl, h⟩ := h
  refine ⟨hl, o, c, rfl, fun k x hk => ?_⟩
  obtain ⟨b, off, e, hc⟩ := h k x hk
  exact ⟨b, off, e, cell_keep hb hc⟩
theorem results_tmp3 {fn : Func} {t u v : Tmp} (h : fn.results = #[.tmp t, .tmp u, .tmp v]) (tmps : Array Value) (P : Program) (w : World) :
    (results fn tmps).run P w = .ok (.tuple #[tmps.getD t undef, tmps.getD u undef, tmps.getD v undef]) w := by
  simp [results, h]
theorem mark_row {w : World} {V : Nat} {l : List Bool} {t : TypeId} (hV : w.heap[V]? = some (.cells (rowB l) t (0, 0))) (x : Int) : (w.setCell ⟨V, (x / 2).toNat, none⟩ (.bool true)).heap[V]? = some (.cells (rowB (markL l x)) t (0, 0)) := by
  rw [heap_setCell_at hV, rowB_set]; rfl
theorem foldl_take {l : List Int} {j : Nat} {x : Int} (h : l[j]? = some x) (b : List Bool) : (l.take (j + 1)).foldl markL b = markL ((l.take j).foldl markL b) x := by
  rw [List.take_add_one, h, List.foldl_append]; rfl
end Go.Proofs.YtlclbidjdhlklaaGreatDoor
