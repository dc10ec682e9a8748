/-
  package types: caught, typed, Terms, Parts BY CONTRACT.
-/
import Derived.Test.YtpkgingjmgakbaaDoorP15
namespace Go.Proofs.YtpkgingjmgakbaaDoor
open Go.RowKit Go.Maps

set_option maxRecDepth 100000 in
set_option maxHeartbeats 1000000 in
theorem tcaught1_any (w : World) (b0 b1 b2 : Nat) (et : TypeId) (eq : Value) (P Q : World → Prop)
    (HC : Calls Tryd.prog 54 #[.pointer (some ⟨b0, 0, none⟩), .pointer (some ⟨b1, 0, none⟩), .pointer (some ⟨b2, 0, none⟩)] (w.alloc (.cells #[.nilIface] 36)) fun e w' => (e = .returned (.tuple #[]) ∧ P w' ∧ w'.heap[w.heap.size]? = some (.cells #[.nilIface] 36 (0, 0))) ∨ (ThrewT e ∧ Q w' ∧ w'.heap[w.heap.size]? = some (.cells #[.nilIface] 36 (0, 0)) ∧ w'.cell? ⟨4, 0, none⟩ = some (.iface et eq))) :
    Calls Tryd.prog 53 #[.func (.func 54) #[] #[.pointer (some ⟨b0, 0, none⟩), .pointer (some ⟨b1, 0, none⟩), .pointer (some ⟨b2, 0, none⟩)]] w fun e w' => (∃ w1, P w1 ∧ e = .returned .nilIface ∧ w' = w1.setCell ⟨w.heap.size, 0, none⟩ .nilIface) ∨ (∃ w1 o, Q w1 ∧ e = .returned (.iface et eq) ∧ w' = (w1.setCell ⟨w.heap.size, 0, none⟩ (.iface et eq)).alloc o) := by
  have hmf : ∀ (fn : Fn) (first cap : Array Value) (w : World), (Instr.makeFunc fn first cap).run Tryd.prog w = .ok (.func fn first cap) w := fun _ _ _ _ => rfl
  obtain ⟨w0, hw0⟩ : ∃ w0, w0 = w.alloc (.cells #[.nilIface] 36) := ⟨_, rfl⟩
  rw [← hw0] at HC
  have HC' : Hid (Calls Tryd.prog 54 #[.pointer (some ⟨b0, 0, none⟩), .pointer (some ⟨b1, 0, none⟩), .pointer (some ⟨b2, 0, none⟩)] w0 fun e w' => (e = .returned (.tuple #[]) ∧ P w' ∧ w'.heap[w.heap.size]? = some (.cells #[.nilIface] 36 (0, 0))) ∨ (ThrewT e ∧ Q w' ∧ w'.heap[w.heap.size]? = some (.cells #[.nilIface] 36 (0, 0)) ∧ w'.cell? ⟨4, 0, none⟩ = some (.iface et eq))) := HC
  have HW0 : Hid (w.alloc (.cells #[.nilIface] 36) = w0) := hw0.symm
  clear HC hw0
  go_enter_defers Tryd.func53, Tryd.ntmps53
  go_wp2_with fail
  rw [HW0.out]
  refine HC'.out.mono ?_
  rintro e w1 (⟨rfl, hP, hr⟩ | ⟨ht, hQ, hr, he⟩)
  · have c1 : w1.cell? ⟨w.heap.size, 0, none⟩ = some .nilIface := by rw [cell_of_row _ _ 0 _ _ (0, 0) hr]; rfl
    have f1 : w1.frozen? ⟨w.heap.size, 0, none⟩ = false := frozen_row hr
    have HP : Hid (P w1) := hP
    clear hP hr
    go_wp2
    refine leaves_cons (f := 60) (args := #[.pointer (some ⟨w.heap.size, 0, none⟩)]) (by simp) (by simp [go_sem]) ?_
    refine (tcatch_idle _ _).mono ?_
    rintro e u' w'' ⟨rfl, rfl, rfl⟩
    refine ⟨.nilIface, ?_, .inl ⟨w1, HP.out, rfl, rfl⟩⟩
    simp [results, Tryd.results53, go_sem, c1]
  · unfold ThrewT at ht
    subst ht
    have c1 : w1.cell? ⟨w.heap.size, 0, none⟩ = some .nilIface := by rw [cell_of_row _ _ 0 _ _ (0, 0) hr]; rfl
    have f1 : w1.frozen? ⟨w.heap.size, 0, none⟩ = false := frozen_row hr
    have hlw : w.heap.size < w1.heap.size := cell_blk c1
    have HQ : Hid (Q w1) := hQ
    have HE : Hid (w1.cell? ⟨4, 0, none⟩ = some (.iface et eq)) := he
    clear hQ hr he
    go_wp2
    refine leaves_cons (f := 60) (args := #[.pointer (some ⟨w.heap.size, 0, none⟩)]) (by simp) (by simp [go_sem]) ?_
    refine (tcatch_wrong w.heap.size .nilIface (.iface et eq) [] _ c1 f1 HE.out ⟨et, eq, rfl⟩).mono ?_
    rintro e u' w'' ⟨rfl, rfl, o, rfl⟩
    refine ⟨.iface et eq, ?_, .inr ⟨w1, o, HQ.out, rfl, rfl⟩⟩
    simp [results, Tryd.results53, go_sem, c1, hlw]
/-- A new checker. -/
theorem newChecker_any (w : World) :
    Calls Tryd.prog 52 #[] w fun e w' => ∃ cb M B C nv, e = .returned (.pointer (some ⟨cb, 0, none⟩)) ∧ w'.heap[cb]? = some (.cells #[.map (some M), nv, .map none, .map none, .slice none 0 0] 114 (0, 0)) ∧ FnAt w' M 24 (signsF B C) ∧ SignRows B C w' ∧ Below w.heap.size w w' ∧ w.heap.size ≤ cb ∧ w.heap.size ≤ B ∧ (M ≠ cb ∧ C ≠ cb ∧ (cb < B ∨ B + 5 < cb)) := by
  have hmm := @run_makeMap Tryd.prog
  go_enter Tryd.func52, Tryd.ntmps52
  go_wp2_with fail
  refine (signs_any w).mono ?_
  rintro e w1 ⟨M, C, rfl, hF, hb, hR⟩
  have hb2 : Below w1.heap.size w1 ((w1.alloc (.map #[] 0)).alloc (.cells #[.map (some M), .map (some w1.heap.size), .map none, .map none, .slice none 0 0] 114)) := ((Below.refl _ _).alloc (Nat.le_refl _) _).alloc (by simp) _
  have hM := hF.lt
  have h5 := (Array.getElem?_eq_some_iff.1 hR.r5).1
  have h6 := (Array.getElem?_eq_some_iff.1 hR.r6).1
  have hr : ((w1.alloc (.map #[] 0)).alloc (.cells #[.map (some M), .map (some w1.heap.size), .map none, .map none, .slice none 0 0] 114)).heap[w1.heap.size + 1]? = some (.cells #[.map (some M), .map (some w1.heap.size), .map none, .map none, .slice none 0 0] 114 (0, 0)) := by
    have h := heap_alloc_new (w1.alloc (.map #[] 0)) (.cells #[.map (some M), .map (some w1.heap.size), .map none, .map none, .slice none 0 0] 114)
    have e : (w1.alloc (.map #[] 0)).heap.size = w1.heap.size + 1 := by simp
    rw [e] at h
    exact h
  have HEND : Hid (∃ cb M' B C' nv, (.returned (.pointer (some ⟨w1.heap.size + 1, 0, none⟩)) : Ending) = .returned (.pointer (some ⟨cb, 0, none⟩)) ∧ ((w1.alloc (.map #[] 0)).alloc (.cells #[.map (some M), .map (some w1.heap.size), .map none, .map none, .slice none 0 0] 114)).heap[cb]? = some (.cells #[.map (some M'), nv, .map none, .map none, .slice none 0 0] 114 (0, 0)) ∧ FnAt ((w1.alloc (.map #[] 0)).alloc (.cells #[.map (some M), .map (some w1.heap.size), .map none, .map none, .slice none 0 0] 114)) M' 24 (signsF B C') ∧ SignRows B C' ((w1.alloc (.map #[] 0)).alloc (.cells #[.map (some M), .map (some w1.heap.size), .map none, .map none, .slice none 0 0] 114)) ∧ Below w.heap.size w ((w1.alloc (.map #[] 0)).alloc (.cells #[.map (some M), .map (some w1.heap.size), .map none, .map none, .slice none 0 0] 114)) ∧ w.heap.size ≤ cb ∧ w.heap.size ≤ B ∧ (M' ≠ cb ∧ C' ≠ cb ∧ (cb < B ∨ B + 5 < cb))) := ⟨w1.heap.size + 1, M, w.heap.size, C, _, rfl, hr, hF.kept (hb2.block M hM), hR.below hb2, hb.trans (hb2.mono hb.size), by have := hb.size; omega, Nat.le_refl _, by omega, by omega, .inr (by omega)⟩
  clear hb2 hM h5 h6 hr hF hb hR
  go_wp2
  go_ret
  exact HEND.out
end Go.Proofs.YtpkgingjmgakbaaDoor
