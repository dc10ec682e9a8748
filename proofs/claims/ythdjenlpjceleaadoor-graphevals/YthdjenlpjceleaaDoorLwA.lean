/-
  lustrumlaw3: empty BY CONTRACT; a new graph, a new model; an error's number.
-/
import Derived.Test.YthdjenlpjceleaaDoorMoB
import Derived.Test.YthdjenlpjceleaaDoorCod3
namespace Go.Proofs.YthdjenlpjceleaaDoor
open Go.RowKit Go.Maps

theorem new_graph (w : World) (t : TypeId) : GrAt w.heap.size [] 0 (fun k => k = w.heap.size) (w.alloc (.cells #[.slice none 0 0, .map none, .int .i64 0] t)) :=
  ⟨Gs.nil, rfl, fun k hk => by rw [hk]; simp, t, .slice none 0 0, .map none, heap_alloc_new _ _, World.ownsRow_nil _ _ _ _, fun k hk => by simp [Value.ownBlock] at hk, .inl ⟨rfl, fun p hp => by simp at hp⟩⟩
theorem new_model (w : World) (t : TypeId) : MoAt w.heap.size [] 0 (fun k => k = w.heap.size) (w.alloc (.cells #[.slice none 0 0, .int .i64 0] t)) :=
  ⟨rfl, fun k hk => by rw [hk]; simp, t, .slice none 0 0, heap_alloc_new _ _, World.ownsRow_nil _ _ _ _, fun k hk => by simp [Value.ownBlock] at hk⟩
theorem coded_sent {a : Nat → Addr} {w : World} (S : Sents a w) (k : Nat) (hk : k < 9) :
    Calls Tryd.prog 10 #[.iface 112 (.pointer (some (a k))), .int .i64 ((k : Int) + 1)] w fun e w' => e = .returned (.bool true) ∧ Below w.heap.size w w' := by
  obtain ⟨c, t, hr⟩ := S.row k hk
  exact coded_str a (a k) k _ c t w S hr (by omega) (fun j hj => S.inj k j hk (by omega) (by omega)) (fun _ => rfl) (codeOf_in hk).symm

set_option maxRecDepth 100000 in
set_option maxHeartbeats 1000000 in
theorem empty_any (w : World) : Calls Tryd.prog 7 #[] w fun e w' => e = .returned (.bool true) ∧ Below w.heap.size w w' := by
  have H0 : Hid (GrAt w.heap.size [] 0 (fun k => k = w.heap.size) (w.alloc (.cells #[.slice none 0 0, .map none, .int .i64 0] 58))) := new_graph w _
  have hb1 : Below w.heap.size w (w.alloc (.cells #[.slice none 0 0, .map none, .int .i64 0] 58)) := (Below.refl _ _).alloc (Nat.le_refl _) _
  have i2 : I64 2 := by unfold I64; omega
  have e3 : turnL 2 = 3 := by decide
  have L1 : Hid (([((0 : Int), (0 : Int))] : List (Int × Int)).length ≤ 100000) := by unfold Hid; simp
  have L2 : Hid (([((0 : Int), (0 : Int))] : List (Int × Int)).length < 90000) := by unfold Hid; simp
  have A2 : Hid (HasL [((0 : Int), (0 : Int))] 2) := by unfold Hid HasL; simp
  have A3 : Hid (HasL [((0 : Int), (0 : Int))] 3) := by unfold Hid HasL; simp
  have eand : andL [((0 : Int), (0 : Int))] 2 3 = 0 := by decide
  go_enter Tryd.func7, Tryd.ntmps7
  go_wp2_with fail
  refine (input_ok H0.out (by simp) (Nat.le_refl _)).mono ?_
  rintro e w1 ⟨rfl, F1, g1, m1⟩
  have G1 : Hid (GrAt w.heap.size [((0 : Int), (0 : Int))] 1 F1 w1) := g1
  have hb2 : Below w.heap.size w w1 := m1.below hb1 (by simp) (fun k hk => by rw [hk]; exact Nat.le_refl _)
  have HF1 : Hid (∀ k, F1 k → w.heap.size ≤ k) := fun k hk => by
    rcases m1.more k hk with h | h
    · rw [h]; exact Nat.le_refl _
    · have := h.1; simp at this; omega
  clear g1 m1 H0 hb1
  go_wp2_with (first
    | (go_at_call 14; refine (gates_any G1.out L1.out).mono ?_; rintro e w' ⟨rfl, rfl⟩)
    | (go_at_call 21; refine (inputs_any G1.out).mono ?_; rintro e w' ⟨rfl, rfl⟩)
    | (go_at_call 17; refine (not_any _ _ i2).mono ?_; rintro e w' ⟨rfl, rfl⟩)
    | (go_at_call 15; refine (and_ok G1.out L2.out 2 3 A2.out A3.out).mono ?_; rintro e w2 ⟨rfl, F2, g2, m2⟩))
  go_ret
  exact ⟨rfl, m2.below hb2 hb2.size HF1.out⟩
end Go.Proofs.YthdjenlpjceleaaDoor
