/-
  A NEW GRAPH; A SENTINEL's NUMBER.
-/
import Derived.Test.YtlclbidjdhlklaaDoorGrM
import Derived.Test.YtlclbidjdhlklaaDoorCod3
namespace Go.Proofs.YtlclbidjdhlklaaDoor
open Go.RowKit Go.Maps

theorem new_graph (w : World) (t : TypeId) : GrAt w.heap.size [] 0 (fun k => k = w.heap.size) (w.alloc (.cells #[.slice none 0 0, .map none, .int .i64 0] t)) :=
  ⟨Gs.nil, rfl, fun k hk => by rw [hk]; simp, t, .slice none 0 0, .map none, heap_alloc_new _ _, World.ownsRow_nil _ _ _ _, fun k hk => by simp [Value.ownBlock] at hk, .inl ⟨rfl, fun p hp => by simp at hp⟩⟩
theorem coded_sent {a : Nat → Addr} {w : World} (S : Sents a w) (k : Nat) (hk : k < 9) :
    Calls Tryd.prog 8 #[.iface 158 (.pointer (some (a k))), .int .i64 ((k : Int) + 1)] w fun e w' => e = .returned (.bool true) ∧ Below w.heap.size w w' := by
  obtain ⟨c, t, hr⟩ := S.row k hk
  exact coded_str a (a k) k _ c t w S hr (by omega) (fun j hj => S.inj k j hk (by omega) (by omega)) (fun _ => rfl) (codeOf_in hk).symm
theorem coded_shape {a : Nat → Addr} {w : World} (S : Sents a w) :
    Calls Tryd.prog 8 #[.iface 158 (.pointer (some (a 2))), .int .i64 3] w fun e w' => e = .returned (.bool true) ∧ Below w.heap.size w w' := coded_sent S 2 (by omega)
end Go.Proofs.YtlclbidjdhlklaaDoor
