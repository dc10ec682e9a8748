/-
  lustrumlaw3: empty BY CONTRACT; a new graph, a new model; an error's number.
-/
import Derived.Test.YtlclbidjdhlklaaDoorMoB
import Derived.Test.YtlclbidjdhlklaaDoorCdS
namespace Go.Proofs.YtlclbidjdhlklaaDoor
open Go.RowKit Go.Maps

theorem new_model (w : World) (t : TypeId) : MoAt w.heap.size [] 0 (fun k => k = w.heap.size) (w.alloc (.cells #[.slice none 0 0, .int .i64 0] t)) :=
  ⟨rfl, fun k hk => by rw [hk]; simp, t, .slice none 0 0, heap_alloc_new _ _, World.ownsRow_nil _ _ _ _, fun k hk => by simp [Value.ownBlock] at hk⟩
end Go.Proofs.YtlclbidjdhlklaaDoor
