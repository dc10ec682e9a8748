/-
  package types: caught$1 BY CONTRACT: nothing was thrown; a wrong type was.
-/
import Derived.Test.YtmmfodiagcnjeaaDoorSgB
import Derived.Defers
import Derived.Recover
import Derived.Laws.Pointers
import Derived.Deep.DrawnRows
namespace Go.Proofs.YtmmfodiagcnjeaaDoor
open Go.RowKit
attribute [local go_sem ↓] Go.wp_at_zero Go.wp_at_succ

set_option maxRecDepth 100000 in
theorem tcatch_idle (p : Addr) (w : World) :
    CallsD Tryd.prog 113 #[.pointer (some p)] .returning w fun e u' w' => e = .returned (.tuple #[]) ∧ u' = .returning ∧ w' = w := by
  refine callsD_of_wpS Tryd.func113 rfl fun c₀ cs hu => ?_
  apply wpS_seq
  apply wpS_region
  simp [wpOpsS, go_sem, recoverD, hu, Tryd.ntmps113, Exit.thenS]
  refine wpS_of_wp ?_
  have hf : #[Value.pointer (some p)] ++ (Array.replicate 20 undef).setIfInBounds 5 Value.nilIface = #[.pointer (some p), undef, undef, undef, undef, undef, .nilIface, undef, undef, undef, undef, undef, undef, undef, undef, undef, undef, undef, undef, undef, undef] := by kernel_rfl
  rw [hf]
  obtain ⟨Q, hQ⟩ : ∃ Q : Exit → Act → World → Prop, Q = fun e a' w' => bodyPostS Tryd.prog Tryd.f113 c₀ cs (fun e u' w' => e = Ending.returned (Value.tuple #[]) ∧ u' = FrameMode.returning ∧ w' = w) e a' (c₀ :: cs) w' := ⟨_, rfl⟩
  rw [← hQ]
  have HQ : Hid (Q = _) := hQ
  clear hQ hf
  go_wp2
  rw [HQ.out]
  cases c₀
  simp_all [bodyPostS, results, Tryd.results113]
/-- A wrong type, thrown. -/
def wrongT : Value := .iface 153 (.agg #[])
theorem wrongT_name (w : World) : (Instr.typeAssert (.iface 153 (.agg #[])) 20 152 true).run Tryd.prog w = .ok (.tuple #[.agg #[], .bool false]) w := by kernel_rfl
theorem wrongT_type (w : World) : (Instr.typeAssert (.iface 153 (.agg #[])) 20 153 true).run Tryd.prog w = .ok (.tuple #[.agg #[], .bool true]) w := by kernel_rfl
set_option maxRecDepth 100000 in
set_option maxHeartbeats 1000000 in
theorem tcatch_wrong (b : Nat) (v ev : Value) (older : List PanicEntry) (w : World) (hc : w.cell? ⟨b, 0, none⟩ = some v) (hz : w.frozen? ⟨b, 0, none⟩ = false) (he : w.cell? ⟨1, 0, none⟩ = some ev) (hev : ∃ t q, ev = .iface t q) :
    CallsD Tryd.prog 113 #[.pointer (some ⟨b, 0, none⟩)] (.panicking ({ v := wrongT, recovered := false } :: older)) w fun e u' w' =>
      e = .returned (.tuple #[]) ∧ u' = .panicking ({ v := wrongT, recovered := true } :: older) ∧ ∃ o, w' = (w.setCell ⟨b, 0, none⟩ ev).alloc o := by
  obtain ⟨et, eq, rfl⟩ := hev
  refine callsD_of_wpS Tryd.func113 rfl fun c₀ cs hu => ?_
  apply wpS_seq
  apply wpS_region
  simp [wpOpsS, go_sem, recoverD, hu, Tryd.ntmps113, Exit.thenS]
  refine wpS_of_wp ?_
  have hf : #[Value.pointer (some ⟨b, 0, none⟩)] ++ (Array.replicate 20 undef).setIfInBounds 5 wrongT = #[.pointer (some ⟨b, 0, none⟩), undef, undef, undef, undef, undef, .iface 153 (.agg #[]), undef, undef, undef, undef, undef, undef, undef, undef, undef, undef, undef, undef, undef, undef] := by kernel_rfl
  rw [hf]
  clear hf
  have h1 := wrongT_name
  have h2 := wrongT_type
  have hbl : b < w.heap.size := by
    rcases Nat.lt_or_ge b w.heap.size with h | h
    · exact h
    · simp [World.cell?, Array.getElem?_eq_none h] at hc
  have hel : 1 < w.heap.size := by
    rcases Nat.lt_or_ge 1 w.heap.size with h | h
    · exact h
    · simp [World.cell?, Array.getElem?_eq_none h] at he
  refine Code.wp_mono (Q := fun e a' w' => e = Exit.normal ∧ a'.defers = [] ∧ ∃ o, w' = (w.setCell ⟨b, 0, none⟩ (.iface et eq)).alloc o) ?_ ?_
  · rintro e a' w' ⟨rfl, hd, o, rfl⟩
    cases c₀
    simp_all [bodyPostS, results, Tryd.results113]
    exact ⟨o, rfl⟩
  · go_wp2
    exact ⟨_, rfl⟩
end Go.Proofs.YtmmfodiagcnjeaaDoor
