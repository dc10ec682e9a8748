/-
  package types: caught, Result BY CONTRACT.
-/
import Derived.Test.YtmmfodiagcnjeaaDoorSgE
namespace Go.Proofs.YtmmfodiagcnjeaaDoor
open Go.RowKit Go.Maps

theorem cell_blk {w : World} {p : Addr} {v : Value} (hc : w.cell? p = some v) : p.block < w.heap.size := by
  rcases Nat.lt_or_ge p.block w.heap.size with h | h
  · exact h
  · simp [World.cell?, Array.getElem?_eq_none h] at hc
set_option maxRecDepth 100000 in
set_option maxHeartbeats 1000000 in
theorem tcaught_any (w : World) (B b0 b1 b2 : Nat) (o1 o2 op : Option Addr) (c1 c2 cp : Nat) (tk gv ps : List Int) (k0 : Value) (q0 : w.heap[b0]? = some (.cells #[.slice o1 tk.length c1, .slice o2 gv.length c2] 118 (0, 0))) (q1 : w.heap[b1]? = some (.cells #[.slice op tk.length cp] 22 (0, 0))) (q2 : w.heap[b2]? = some (.cells #[k0] 3 (0, 0)))
    (h1 : IntsAt w (.slice o1 tk.length c1) tk) (h2 : IntsAt w (.slice o2 gv.length c2) gv) (hp : IntsAt w (.slice op tk.length cp) ps) (hlen : ps.length = tk.length) (hs1 : tk.length ≤ 10) (hs2 : gv.length = 1) (et : TypeId) (eq : Value) (he : w.cell? ⟨1, 0, none⟩ = some (.iface et eq)) (hB : B ≤ b2) (hBw : B ≤ w.heap.size) :
    Calls Tryd.prog 71 #[.func (.func 72) #[] #[.pointer (some ⟨b0, 0, none⟩), .pointer (some ⟨b1, 0, none⟩), .pointer (some ⟨b2, 0, none⟩)]] w fun e w' => Below B w w' ∧ ((∃ f, fitK tk ps 0 = some f ∧ e = .returned .nilIface ∧ w'.cell? ⟨b2, 0, none⟩ = some (.int .i64 ((giveK gv f).headD 0))) ∨ (fitK tk ps 0 = none ∧ e = .returned (.iface et eq) ∧ w'.cell? ⟨b2, 0, none⟩ = some k0)) := by
  have hmf : ∀ (fn : Fn) (first cap : Array Value) (w : World), (Instr.makeFunc fn first cap).run Tryd.prog w = .ok (.func fn first cap) w := fun _ _ _ _ => rfl
  have hbA : Below w.heap.size w (w.alloc (.cells #[.nilIface] 36)) := (Below.refl _ _).alloc (Nat.le_refl _) _
  have hZ : (w.alloc (.cells #[.nilIface] 36)).heap[w.heap.size]? = some (.cells #[.nilIface] 36 (0, 0)) := heap_alloc_new w (.cells #[.nilIface] 36)
  have HC := result2_any (w.alloc (.cells #[.nilIface] 36)) b0 b1 b2 o1 o2 op c1 c2 cp tk gv ps k0 (row_keep hbA q0) (row_keep hbA q1) (row_keep hbA q2) (h1.keep hbA) (h2.keep hbA) (hp.keep hbA) hlen hs1 hs2
  have b2l : b2 < w.heap.size := (Array.getElem?_eq_some_iff.1 q2).1
  have hE1 := cell_keep hbA he
  have HQ2 := row_keep hbA q2
  obtain ⟨w0, hw0⟩ : ∃ w0, w0 = w.alloc (.cells #[.nilIface] 36) := ⟨_, rfl⟩
  have hs0 : w0.heap.size = w.heap.size + 1 := by rw [hw0]; simp
  rw [← hw0] at HC hZ hE1 HQ2 hbA
  have HC' : Hid (Calls Tryd.prog 72 #[.pointer (some ⟨b0, 0, none⟩), .pointer (some ⟨b1, 0, none⟩), .pointer (some ⟨b2, 0, none⟩)] w0 fun e w' => (∃ f w1, fitK tk ps 0 = some f ∧ e = .returned (.tuple #[]) ∧ Below w0.heap.size w0 w1 ∧ w' = w1.setCell ⟨b2, 0, none⟩ (.int .i64 ((giveK gv f).headD 0))) ∨ (fitK tk ps 0 = none ∧ ThrewT e ∧ Below w0.heap.size w0 w')) := HC
  have HW0 : Hid (w.alloc (.cells #[.nilIface] 36) = w0) := hw0.symm
  have HZ : Hid (w0.heap[w.heap.size]? = some (.cells #[.nilIface] 36 (0, 0))) := hZ
  have HE1 : Hid (w0.cell? ⟨1, 0, none⟩ = some (.iface et eq)) := hE1
  have HK : Hid (w0.heap[b2]? = some (.cells #[k0] 3 (0, 0))) := HQ2
  have HN : Hid (b2 < w.heap.size ∧ B ≤ b2 ∧ B ≤ w.heap.size ∧ w0.heap.size = w.heap.size + 1) := ⟨b2l, hB, hBw, hs0⟩
  have HBA : Hid (Below w.heap.size w w0) := hbA
  clear q0 q1 q2 h1 h2 hp hlen hs1 hs2 HC b2l hE1 HQ2 hbA hZ hw0 he hB hBw hs0
  go_enter_defers Tryd.func71, Tryd.ntmps71
  go_wp2_with fail
  rw [HW0.out]
  refine HC'.out.mono ?_
  rintro e w1 (⟨f, w2, hf, rfl, hb2, rfl⟩ | ⟨hf, ht, hb2⟩)
  · have hr := row_keep hb2 HZ.out
    have hrk := row_keep hb2 HK.out
    have hne : w.heap.size ≠ b2 := by have := HN.out; omega
    have c1 : (w2.setCell ⟨b2, 0, none⟩ (.int .i64 ((giveK gv f).headD 0))).cell? ⟨w.heap.size, 0, none⟩ = some .nilIface := by
      have e : (w2.setCell ⟨b2, 0, none⟩ (.int .i64 ((giveK gv f).headD 0))).heap[w.heap.size]? = w2.heap[w.heap.size]? := Below.heap_setCell w2 ⟨b2, 0, none⟩ _ _ hne
      rw [cell_of_row _ _ 0 _ _ (0, 0) (e.trans hr)]; rfl
    have f1 : (w2.setCell ⟨b2, 0, none⟩ (.int .i64 ((giveK gv f).headD 0))).frozen? ⟨w.heap.size, 0, none⟩ = false := by
      have e : (w2.setCell ⟨b2, 0, none⟩ (.int .i64 ((giveK gv f).headD 0))).heap[w.heap.size]? = w2.heap[w.heap.size]? := Below.heap_setCell w2 ⟨b2, 0, none⟩ _ _ hne
      exact frozen_row (e.trans hr)
    have hrk2 := heap_setCell_at (i := 0) hrk (.int .i64 ((giveK gv f).headD 0))
    have hBB : Below B w (w2.setCell ⟨b2, 0, none⟩ (.int .i64 ((giveK gv f).headD 0))) := ((HBA.out.mono HN.out.2.2.1).trans (hb2.mono (by have := HN.out; omega))).setCell HN.out.2.1 _
    obtain ⟨w3, hw3⟩ : ∃ w3, w3 = w2.setCell ⟨b2, 0, none⟩ (.int .i64 ((giveK gv f).headD 0)) := ⟨_, rfl⟩
    rw [← hw3] at c1 f1 hrk2 hBB
    rw [← hw3]
    have HF : Hid (fitK tk ps 0 = some f) := hf
    have HBB : Hid (Below B w w3) := hBB
    have HRK : Hid (w3.heap[b2]? = _) := hrk2
    clear hf hb2 hr hrk hrk2 hBB hw3
    go_wp2
    refine leaves_cons (f := 113) (args := #[.pointer (some ⟨w.heap.size, 0, none⟩)]) (by simp) (by simp [go_sem]) ?_
    refine (tcatch_idle _ _).mono ?_
    rintro e u' w'' ⟨rfl, rfl, rfl⟩
    refine ⟨.nilIface, ?_, HBB.out.setCell HN.out.2.2.1 _, Or.inl ⟨f, HF.out, rfl, ?_⟩⟩
    · simp [results, Tryd.results71, go_sem, c1]
    · have e : (w3.setCell ⟨w.heap.size, 0, none⟩ .nilIface).heap[b2]? = w3.heap[b2]? := Below.heap_setCell w3 ⟨w.heap.size, 0, none⟩ _ _ (fun h => hne h.symm)
      rw [cell_of_row _ _ 0 _ _ (0, 0) (e.trans HRK.out)]
      simp
  · unfold ThrewT at ht
    subst ht
    have hr := row_keep hb2 HZ.out
    have hrk := row_keep hb2 HK.out
    have hne : w.heap.size ≠ b2 := by have := HN.out; omega
    have c1 : w1.cell? ⟨w.heap.size, 0, none⟩ = some .nilIface := by rw [cell_of_row _ _ 0 _ _ (0, 0) hr]; rfl
    have f1 : w1.frozen? ⟨w.heap.size, 0, none⟩ = false := frozen_row hr
    have e1 := cell_keep hb2 HE1.out
    have hBB : Below B w w1 := (HBA.out.mono HN.out.2.2.1).trans (hb2.mono (by have := HN.out; omega))
    have hlw : w.heap.size < w1.heap.size := cell_blk c1
    have HF : Hid (fitK tk ps 0 = none) := hf
    have HBB : Hid (Below B w w1) := hBB
    have HRK : Hid (w1.heap[b2]? = _) := hrk
    have HE : Hid (w1.cell? ⟨1, 0, none⟩ = some (.iface et eq)) := e1
    have HSZ : Hid (b2 < w1.heap.size ∧ B ≤ w1.heap.size) := by have := HN.out; unfold Hid; omega
    clear hf hb2 hr hrk hBB e1
    go_wp2
    refine leaves_cons (f := 113) (args := #[.pointer (some ⟨w.heap.size, 0, none⟩)]) (by simp) (by simp [go_sem]) ?_
    refine (tcatch_wrong w.heap.size .nilIface (.iface et eq) [] _ c1 f1 HE.out ⟨et, eq, rfl⟩).mono ?_
    rintro e u' w'' ⟨rfl, rfl, o, rfl⟩
    refine ⟨.iface et eq, ?_, (HBB.out.setCell HN.out.2.2.1 _).alloc (by rw [size_setCell]; exact HSZ.out.2) _, Or.inr ⟨HF.out, rfl, ?_⟩⟩
    · simp [results, Tryd.results71, go_sem, c1, hlw]
    · have e : (w1.setCell ⟨w.heap.size, 0, none⟩ (.iface et eq)).heap[b2]? = w1.heap[b2]? := Below.heap_setCell w1 ⟨w.heap.size, 0, none⟩ _ _ (fun h => hne h.symm)
      rw [cell_of_row _ _ 0 _ _ (0, 0) ((Below.heap_alloc _ o _ (by rw [size_setCell]; exact HSZ.out.1)).trans (e.trans HRK.out))]
      rfl
end Go.Proofs.YtmmfodiagcnjeaaDoor
