/-
  package types: Result BY CONTRACT: the type of what an operator makes of parts of such types, or an error.
-/
import Derived.Test.YtpiglmaojonbnaaGreatDoorP14
import Derived.Laws.EntriesVeiled
import Derived.Deep.DeepCutAuto
namespace Go.Proofs.YtpiglmaojonbnaaGreatDoor
open Go.RowKit Go.Maps

/-- No type of the language. -/
def noKind (k : Int) : Bool := k != 1 && k != 2
set_option maxRecDepth 100000 in
theorem result1_any (k : Int) (w : World) : Calls Tryz.prog 51 #[.int .i64 k] w fun e w' => e = .returned (.bool (noKind k)) ∧ w' = w := by
  by_cases h1 : k = 1
  · subst h1
    go_enter Tryz.func51, Tryz.ntmps51
    go_wp2
    go_ret
    exact ⟨rfl, rfl⟩
  · have d1 : (k == 1) = false := beq_eq_false_iff_ne.2 h1
    have d1' : (k != 1) = true := by simp [h1]
    have E : Hid (noKind k = (k != 2)) := by unfold Hid noKind; rw [d1']; rfl
    clear h1
    go_enter Tryz.func51, Tryz.ntmps51
    go_wp2
    go_ret
    exact ⟨by rw [E.out]; rfl, rfl⟩
set_option maxRecDepth 100000 in
set_option maxHeartbeats 1000000 in
theorem index_any (w : World) (o : Option Addr) (n c : Nat) (ps : List Int) (hp : IntsAt w (.slice o n c) ps) (hn : n = ps.length) (hl : n ≤ 100) :
    Calls Tryz.prog 73 #[.slice o n c, .func (.func 51) #[] #[]] w fun e w' => (∃ i : Int, e = .returned (.int .i64 i) ∧ (decide (0 ≤ i) = ps.any noKind)) ∧ w' = w := by
  have HP : Hid (IntsAt w (.slice o n c) ps) := hp
  have HN : Hid (n = ps.length) := hn
  have HL : Hid (n ≤ 100) := hl
  clear hp hn hl
  go_enter Tryz.func73, Tryz.ntmps73
  go_wp2
  go_loop [8] (fun t => ∃ j : Nat, j ≤ n ∧ t = .int .i64 j ∧ ∀ k x, k < j → ps[k]? = some x → noKind x = false) (fun t => n - (intOf t).toNat)
  case atStart => exact ⟨0, Nat.zero_le _, rfl, fun k x hk => by omega⟩
  case round =>
    obtain ⟨j, hj, rfl, hall⟩ := hrel
    have HALL : Hid (∀ k x, k < j → ps[k]? = some x → noKind x = false) := hall
    by_cases hjl : j < n
    · obtain ⟨x, hx⟩ : ∃ x, ps[j]? = some x := ⟨_, List.getElem?_eq_getElem (by have := HN.out; omega)⟩
      obtain ⟨b, off, rfl, hcx⟩ := HP.out.get hx
      have i0' : (0 : Int) ≤ (j : Int) := by omega
      have i1' : (j : Int) < (n : Int) := by omega
      have N4 : Hid (wrap64 ((j : Int) + 1) = (j : Int) + 1) := by have := HL.out; unfold Hid wrap64; omega
      have HJ : Hid (j < n) := hjl
      have HX : Hid (ps[j]? = some x) := hx
      clear hall hj hjl hx
      cases hb : noKind x
      · go_wp2_with (go_at_call 51; refine (result1_any _ _).mono ?_; rw [hb]; rintro e w' ⟨rfl, hw⟩; have hw2 := hw.symm; subst hw2)
        refine ⟨⟨j + 1, HJ.out, by rw [N4.out]; rfl, fun k y hk hy => ?_⟩, by rw [N4.out]; have := HJ.out; simp [intOf]; omega⟩
        rcases Nat.lt_or_ge k j with h1 | h1
        · exact HALL.out k y h1 hy
        · obtain rfl : k = j := by omega
          rw [HX.out] at hy
          cases hy
          exact hb
      · go_wp2_with (go_at_call 51; refine (result1_any _ _).mono ?_; rw [hb]; rintro e w' ⟨rfl, hw⟩; have hw2 := hw.symm; subst hw2)
        go_ret
        refine ⟨⟨_, rfl, ?_⟩, rfl⟩
        have : ps.any noKind = true := List.any_eq_true.2 ⟨x, List.mem_of_getElem? HX.out, hb⟩
        rw [this]; simp
    · obtain rfl : j = n := by omega
      clear hall hj hjl
      go_wp2
      go_ret
      refine ⟨⟨_, rfl, ?_⟩, rfl⟩
      have : ps.any noKind = false := by
        rw [List.any_eq_false]
        intro x hx
        obtain ⟨k, hk, rfl⟩ := List.getElem_of_mem hx
        rw [HALL.out k _ (by have := HN.out; omega) (List.getElem?_eq_getElem hk)]
        simp
      rw [this]; simp
set_option maxRecDepth 100000 in
theorem contains_any (w : World) (o : Option Addr) (n c : Nat) (ps : List Int) (hp : IntsAt w (.slice o n c) ps) (hn : n = ps.length) (hl : n ≤ 100) :
    Calls Tryz.prog 50 #[.slice o n c, .func (.func 51) #[] #[]] w fun e w' => e = .returned (.bool (ps.any noKind)) ∧ w' = w := by
  have HC : Hid (∀ w', IntsAt w' (.slice o n c) ps → Calls Tryz.prog 73 #[.slice o n c, .func (.func 51) #[] #[]] w' fun e w'' => (∃ i : Int, e = .returned (.int .i64 i) ∧ (decide (0 ≤ i) = ps.any noKind)) ∧ w'' = w') := fun w' h => index_any w' o n c ps h hn hl
  have HP : Hid (IntsAt w (.slice o n c) ps) := hp
  clear hp hn hl
  go_enter Tryz.func50, Tryz.ntmps50
  go_wp2_with (go_at_call 73; refine (HC.out _ HP.out).mono ?_; rintro e w' ⟨⟨i, rfl, hi⟩, rfl⟩)
  go_ret
  exact ⟨by rw [← hi]; rfl, rfl⟩
set_option maxRecDepth 100000 in
set_option maxHeartbeats 1000000 in
theorem result2_any (w : World) (b0 b1 b2 : Nat) (o1 o2 op : Option Addr) (c1 c2 cp : Nat) (tk gv ps : List Int) (k0 : Value) (q0 : w.heap[b0]? = some (.cells #[.slice o1 tk.length c1, .slice o2 gv.length c2] 103 (0, 0))) (q1 : w.heap[b1]? = some (.cells #[.slice op tk.length cp] 67 (0, 0))) (q2 : w.heap[b2]? = some (.cells #[k0] 3 (0, 0)))
    (h1 : IntsAt w (.slice o1 tk.length c1) tk) (h2 : IntsAt w (.slice o2 gv.length c2) gv) (hp : IntsAt w (.slice op tk.length cp) ps) (hlen : ps.length = tk.length) (hs1 : tk.length ≤ 10) (hs2 : gv.length = 1) :
    Calls Tryz.prog 53 #[.pointer (some ⟨b0, 0, none⟩), .pointer (some ⟨b1, 0, none⟩), .pointer (some ⟨b2, 0, none⟩)] w fun e w' => (∃ f w1, fitK tk ps 0 = some f ∧ e = .returned (.tuple #[]) ∧ Below w.heap.size w w1 ∧ w' = w1.setCell ⟨b2, 0, none⟩ (.int .i64 ((giveK gv f).headD 0))) ∨ (fitK tk ps 0 = none ∧ ThrewT e ∧ Below w.heap.size w w') := by
  have z0 : w.cell? ⟨b0, 0, none⟩ = some (.slice o1 tk.length c1) := by rw [cell_of_row w _ 0 _ _ (0, 0) q0]; rfl
  have z1 : w.cell? ⟨b0, 0 + 1, none⟩ = some (.slice o2 gv.length c2) := by rw [cell_of_row w _ (0 + 1) _ _ (0, 0) q0]; rfl
  have z2 : w.cell? ⟨b1, 0, none⟩ = some (.slice op tk.length cp) := by rw [cell_of_row w _ 0 _ _ (0, 0) q1]; rfl
  have Q2 : Hid (w.heap[b2]? = some (.cells #[k0] 3 (0, 0))) := q2
  have HA : Hid (Calls Tryz.prog 54 #[.agg #[.slice o1 tk.length c1, .slice o2 gv.length c2], .slice op tk.length cp] w fun e w' => Below w.heap.size w w' ∧ ((∃ f V, fitK tk ps 0 = some f ∧ e = .returned (.slice (some ⟨V, 0, none⟩) gv.length gv.length) ∧ w'.heap[V]? = some (.cells (rowI (giveK gv f)) 3 (0, 0))) ∨ (fitK tk ps 0 = none ∧ ThrewT e))) := apply_any w o1 o2 op c1 c2 cp tk gv ps h1 h2 hp hlen hs1 (by omega)
  have HS2 : Hid (gv.length = 1) := hs2
  clear q0 q1 q2 h1 h2 hp hlen hs1 hs2
  go_enter Tryz.func53, Tryz.ntmps53
  go_wp2_with fail
  refine HA.out.mono ?_
  rintro e w1 ⟨hb1, ⟨f, V, hf, rfl, hV⟩ | ⟨hf, ht⟩⟩
  · have e1 : giveK gv f = [(giveK gv f).headD 0] := by
      have : (giveK gv f).length = 1 := by unfold giveK; simp [HS2.out]
      match hg : giveK gv f, this with
      | [x], _ => rfl
    have v0 : w1.cell? ⟨V, 0, none⟩ = some (.int .i64 ((giveK gv f).headD 0)) := by
      rw [cell_of_row w1 V 0 _ _ (0, 0) hV]
      refine rowI_get ?_
      rw [e1]; rfl
    have hr2 := row_keep hb1 Q2.out
    have v1 : w1.cell? ⟨b2, 0, none⟩ = some k0 := by rw [cell_of_row w1 b2 0 _ _ (0, 0) hr2]; rfl
    have v2 : w1.frozen? ⟨b2, 0, none⟩ = false := frozen_row hr2
    have HB1 : Hid (Below w.heap.size w w1) := hb1
    have HF : Hid (fitK tk ps 0 = some f) := hf
    obtain ⟨g, hg⟩ : ∃ g, g = (giveK gv f).headD 0 := ⟨_, rfl⟩
    rw [← hg] at v0
    have HG : Hid (g = (giveK gv f).headD 0) := hg
    have hlen1 : gv.length = 1 := HS2.out
    rw [hlen1]
    clear hb1 hf hV e1 hr2 hg hlen1
    go_wp2
    go_end0
    exact Or.inl ⟨f, w1, HF.out, rfl, HB1.out, by rw [HG.out]⟩
  · unfold ThrewT at ht
    subst ht
    have HB1 : Hid (Below w.heap.size w w1) := hb1
    have HF : Hid (fitK tk ps 0 = none) := hf
    clear hb1 hf
    go_wp2
    exact ⟨rfl, Or.inr ⟨HF.out, rfl, HB1.out⟩⟩
end Go.Proofs.YtpiglmaojonbnaaGreatDoor

/-
  package types: caught, Result BY CONTRACT.
-/
namespace Go.Proofs.YtpiglmaojonbnaaGreatDoor
open Go.RowKit Go.Maps

theorem cell_blk {w : World} {p : Addr} {v : Value} (hc : w.cell? p = some v) : p.block < w.heap.size := by
  rcases Nat.lt_or_ge p.block w.heap.size with h | h
  · exact h
  · simp [World.cell?, Array.getElem?_eq_none h] at hc
set_option maxRecDepth 100000 in
set_option maxHeartbeats 1000000 in
theorem tcaught_any (w : World) (B b0 b1 b2 : Nat) (o1 o2 op : Option Addr) (c1 c2 cp : Nat) (tk gv ps : List Int) (k0 : Value) (q0 : w.heap[b0]? = some (.cells #[.slice o1 tk.length c1, .slice o2 gv.length c2] 103 (0, 0))) (q1 : w.heap[b1]? = some (.cells #[.slice op tk.length cp] 67 (0, 0))) (q2 : w.heap[b2]? = some (.cells #[k0] 3 (0, 0)))
    (h1 : IntsAt w (.slice o1 tk.length c1) tk) (h2 : IntsAt w (.slice o2 gv.length c2) gv) (hp : IntsAt w (.slice op tk.length cp) ps) (hlen : ps.length = tk.length) (hs1 : tk.length ≤ 10) (hs2 : gv.length = 1) (et : TypeId) (eq : Value) (he : w.cell? ⟨0, 0, none⟩ = some (.iface et eq)) (hB : B ≤ b2) (hBw : B ≤ w.heap.size) :
    Calls Tryz.prog 52 #[.func (.func 53) #[] #[.pointer (some ⟨b0, 0, none⟩), .pointer (some ⟨b1, 0, none⟩), .pointer (some ⟨b2, 0, none⟩)]] w fun e w' => Below B w w' ∧ ((∃ f, fitK tk ps 0 = some f ∧ e = .returned .nilIface ∧ w'.cell? ⟨b2, 0, none⟩ = some (.int .i64 ((giveK gv f).headD 0))) ∨ (fitK tk ps 0 = none ∧ e = .returned (.iface et eq) ∧ w'.cell? ⟨b2, 0, none⟩ = some k0)) := by
  have hmf : ∀ (fn : Fn) (first cap : Array Value) (w : World), (Instr.makeFunc fn first cap).run Tryz.prog w = .ok (.func fn first cap) w := fun _ _ _ _ => rfl
  have hbA : Below w.heap.size w (w.alloc (.cells #[.nilIface] 35)) := (Below.refl _ _).alloc (Nat.le_refl _) _
  have hZ : (w.alloc (.cells #[.nilIface] 35)).heap[w.heap.size]? = some (.cells #[.nilIface] 35 (0, 0)) := heap_alloc_new w (.cells #[.nilIface] 35)
  have HC := result2_any (w.alloc (.cells #[.nilIface] 35)) b0 b1 b2 o1 o2 op c1 c2 cp tk gv ps k0 (row_keep hbA q0) (row_keep hbA q1) (row_keep hbA q2) (h1.keep hbA) (h2.keep hbA) (hp.keep hbA) hlen hs1 hs2
  have b2l : b2 < w.heap.size := (Array.getElem?_eq_some_iff.1 q2).1
  have hE1 := cell_keep hbA he
  have HQ2 := row_keep hbA q2
  obtain ⟨w0, hw0⟩ : ∃ w0, w0 = w.alloc (.cells #[.nilIface] 35) := ⟨_, rfl⟩
  have hs0 : w0.heap.size = w.heap.size + 1 := by rw [hw0]; simp
  rw [← hw0] at HC hZ hE1 HQ2 hbA
  have HC' : Hid (Calls Tryz.prog 53 #[.pointer (some ⟨b0, 0, none⟩), .pointer (some ⟨b1, 0, none⟩), .pointer (some ⟨b2, 0, none⟩)] w0 fun e w' => (∃ f w1, fitK tk ps 0 = some f ∧ e = .returned (.tuple #[]) ∧ Below w0.heap.size w0 w1 ∧ w' = w1.setCell ⟨b2, 0, none⟩ (.int .i64 ((giveK gv f).headD 0))) ∨ (fitK tk ps 0 = none ∧ ThrewT e ∧ Below w0.heap.size w0 w')) := HC
  have HW0 : Hid (w.alloc (.cells #[.nilIface] 35) = w0) := hw0.symm
  have HZ : Hid (w0.heap[w.heap.size]? = some (.cells #[.nilIface] 35 (0, 0))) := hZ
  have HE1 : Hid (w0.cell? ⟨0, 0, none⟩ = some (.iface et eq)) := hE1
  have HK : Hid (w0.heap[b2]? = some (.cells #[k0] 3 (0, 0))) := HQ2
  have HN : Hid (b2 < w.heap.size ∧ B ≤ b2 ∧ B ≤ w.heap.size ∧ w0.heap.size = w.heap.size + 1) := ⟨b2l, hB, hBw, hs0⟩
  have HBA : Hid (Below w.heap.size w w0) := hbA
  clear q0 q1 q2 h1 h2 hp hlen hs1 hs2 HC b2l hE1 HQ2 hbA hZ hw0 he hB hBw hs0
  go_enter_defers Tryz.func52, Tryz.ntmps52
  go_wp2_with fail
  rw [HW0.out]
  refine HC'.out.mono ?_
  rintro e w1 (⟨f, w2, hf, rfl, hb2, rfl⟩ | ⟨hf, ht, hb2⟩)
  · have hr := row_keep hb2 HZ.out
    have hrk := row_keep hb2 HK.out
    have hne : w.heap.size ≠ b2 := by have := HN.out; omega
    have c1 : (w2.setCell ⟨b2, 0, none⟩ (.int .i64 ((giveK gv f).headD 0))).cell? ⟨w.heap.size, 0, none⟩ = some .nilIface := by
      have e : (w2.setCell ⟨b2, 0, none⟩ (.int .i64 ((giveK gv f).headD 0))).heap[w.heap.size]? = w2.heap[w.heap.size]? := Below.heap_setCell w2 ⟨b2, 0, none⟩ _ _ hne
      rw [cell_of_row _ _ 0 _ _ (0, 0) (e.trans hr)]; rfl
    have f1 : (w2.setCell ⟨b2, 0, none⟩ (.int .i64 ((giveK gv f).headD 0))).frozen? ⟨w.heap.size, 0, none⟩ = false := by
      have e : (w2.setCell ⟨b2, 0, none⟩ (.int .i64 ((giveK gv f).headD 0))).heap[w.heap.size]? = w2.heap[w.heap.size]? := Below.heap_setCell w2 ⟨b2, 0, none⟩ _ _ hne
      exact frozen_row (e.trans hr)
    have hrk2 := heap_setCell_at (i := 0) hrk (.int .i64 ((giveK gv f).headD 0))
    have hBB : Below B w (w2.setCell ⟨b2, 0, none⟩ (.int .i64 ((giveK gv f).headD 0))) := ((HBA.out.mono HN.out.2.2.1).trans (hb2.mono (by have := HN.out; omega))).setCell HN.out.2.1 _
    obtain ⟨w3, hw3⟩ : ∃ w3, w3 = w2.setCell ⟨b2, 0, none⟩ (.int .i64 ((giveK gv f).headD 0)) := ⟨_, rfl⟩
    rw [← hw3] at c1 f1 hrk2 hBB
    rw [← hw3]
    have HF : Hid (fitK tk ps 0 = some f) := hf
    have HBB : Hid (Below B w w3) := hBB
    have HRK : Hid (w3.heap[b2]? = _) := hrk2
    clear hf hb2 hr hrk hrk2 hBB hw3
    go_wp2
    refine leaves_cons (f := 74) (args := #[.pointer (some ⟨w.heap.size, 0, none⟩)]) (by simp) (by simp [go_sem]) ?_
    refine (tcatch_idle _ _).mono ?_
    rintro e u' w'' ⟨rfl, rfl, rfl⟩
    refine ⟨.nilIface, ?_, HBB.out.setCell HN.out.2.2.1 _, Or.inl ⟨f, HF.out, rfl, ?_⟩⟩
    · simp [results, Tryz.results52, go_sem, c1]
    · have e : (w3.setCell ⟨w.heap.size, 0, none⟩ .nilIface).heap[b2]? = w3.heap[b2]? := Below.heap_setCell w3 ⟨w.heap.size, 0, none⟩ _ _ (fun h => hne h.symm)
      rw [cell_of_row _ _ 0 _ _ (0, 0) (e.trans HRK.out)]
      simp
  · unfold ThrewT at ht
    subst ht
    have hr := row_keep hb2 HZ.out
    have hrk := row_keep hb2 HK.out
    have hne : w.heap.size ≠ b2 := by have := HN.out; omega
    have c1 : w1.cell? ⟨w.heap.size, 0, none⟩ = some .nilIface := by rw [cell_of_row _ _ 0 _ _ (0, 0) hr]; rfl
    have f1 : w1.frozen? ⟨w.heap.size, 0, none⟩ = false := frozen_row hr
    have e1 := cell_keep hb2 HE1.out
    have hBB : Below B w w1 := (HBA.out.mono HN.out.2.2.1).trans (hb2.mono (by have := HN.out; omega))
    have hlw : w.heap.size < w1.heap.size := cell_blk c1
    have HF : Hid (fitK tk ps 0 = none) := hf
    have HBB : Hid (Below B w w1) := hBB
    have HRK : Hid (w1.heap[b2]? = _) := hrk
    have HE : Hid (w1.cell? ⟨0, 0, none⟩ = some (.iface et eq)) := e1
    have HSZ : Hid (b2 < w1.heap.size ∧ B ≤ w1.heap.size) := by have := HN.out; unfold Hid; omega
    clear hf hb2 hr hrk hBB e1
    go_wp2
    refine leaves_cons (f := 74) (args := #[.pointer (some ⟨w.heap.size, 0, none⟩)]) (by simp) (by simp [go_sem]) ?_
    refine (tcatch_wrong w.heap.size .nilIface (.iface et eq) [] _ c1 f1 HE.out ⟨et, eq, rfl⟩).mono ?_
    rintro e u' w'' ⟨rfl, rfl, o, rfl⟩
    refine ⟨.iface et eq, ?_, (HBB.out.setCell HN.out.2.2.1 _).alloc (by rw [size_setCell]; exact HSZ.out.2) _, Or.inr ⟨HF.out, rfl, ?_⟩⟩
    · simp [results, Tryz.results52, go_sem, c1, hlw]
    · have e : (w1.setCell ⟨w.heap.size, 0, none⟩ (.iface et eq)).heap[b2]? = w1.heap[b2]? := Below.heap_setCell w1 ⟨w.heap.size, 0, none⟩ _ _ (fun h => hne h.symm)
      rw [cell_of_row _ _ 0 _ _ (0, 0) ((Below.heap_alloc _ o _ (by rw [size_setCell]; exact HSZ.out.1)).trans (e.trans HRK.out))]
      rfl
end Go.Proofs.YtpiglmaojonbnaaGreatDoor

/-
  package types: Result BY CONTRACT.
-/
namespace Go.Proofs.YtpiglmaojonbnaaGreatDoor
open Go.RowKit Go.Maps

/-- The type of what an operator makes of parts of such types. -/
def resK (op : List UInt8) (ps : List Int) : Option Int :=
  match signRow op with
  | none => none
  | some (tk, gv) => if ps.length = tk.length then (if ps.any noKind = true then none else (fitK tk ps 0).map fun f => (giveK gv f).headD 0) else none
theorem zero_sign (w : World) : (zeroValue 103).run Tryz.prog w = .ok (.agg #[.slice none 0 0, .slice none 0 0]) w := by kernel_rfl
set_option maxRecDepth 100000 in
set_option maxHeartbeats 2000000 in
theorem result_any (w : World) (s : ByteArray) (hs : s.size ≤ maxLen) (op : Option Addr) (cp : Nat) (ps : List Int) (hp : IntsAt w (.slice op ps.length cp) ps) (hl : ps.length ≤ 100) (et st : TypeId) (eq sq : Value) (he : w.cell? ⟨0, 0, none⟩ = some (.iface et eq)) (hsh : w.cell? ⟨1, 0, none⟩ = some (.iface st sq)) :
    Calls Tryz.prog 34 #[.string s, .slice op ps.length cp] w fun e w' => Below w.heap.size w w' ∧ ∃ k err, e = .returned (.tuple #[.int .i64 k, err]) ∧ ((resK s.data.toList ps = some k ∧ err = .nilIface) ∨ (resK s.data.toList ps = none ∧ ∃ t q, err = .iface t q)) := by
  have hmf : ∀ (fn : Fn) (first cap : Array Value) (w : World), (Instr.makeFunc fn first cap).run Tryz.prog w = .ok (.func fn first cap) w := fun _ _ _ _ => rfl
  have hb1 : Below w.heap.size w (w.alloc (.cells #[.slice op ps.length cp] 67)) := (Below.refl _ _).alloc (Nat.le_refl _) _
  obtain ⟨w1, hw1⟩ : ∃ w1, w1 = w.alloc (.cells #[.slice op ps.length cp] 67) := ⟨_, rfl⟩
  have hs1 : w1.heap.size = w.heap.size + 1 := by rw [hw1]; simp
  have hr1 : w1.heap[w.heap.size]? = some (.cells #[.slice op ps.length cp] 67 (0, 0)) := by rw [hw1]; exact heap_alloc_new _ _
  rw [← hw1] at hb1
  have HW1 : Hid (w.alloc (.cells #[.slice op ps.length cp] 67) = w1) := hw1.symm
  have HB1 : Hid (Below w.heap.size w w1) := hb1
  have HR1 : Hid (w1.heap[w.heap.size]? = some (.cells #[.slice op ps.length cp] 67 (0, 0))) := hr1
  have HP : Hid (IntsAt w (.slice op ps.length cp) ps) := hp
  have HE : Hid (w.cell? ⟨0, 0, none⟩ = some (.iface et eq)) := he
  have HSH : Hid (w.cell? ⟨1, 0, none⟩ = some (.iface st sq)) := hsh
  have HL : Hid (ps.length ≤ 100) := hl
  have HS : Hid (s.size ≤ maxLen) := hs
  have HS1 : Hid (w1.heap.size = w.heap.size + 1) := hs1
  clear hb1 hw1 hs1 hr1 hp he hsh hl hs
  go_enter Tryz.func34, Tryz.ntmps34
  go_wp2_with fail
  rw [HW1.out]
  refine (signs_any w1).mono ?_
  rintro e w2 ⟨M, C, rfl, hF, hb2, hR⟩
  have hb2' : Below w.heap.size w w2 := HB1.out.trans (hb2.mono HB1.out.size)
  have hlk := hF.look Tryz.underlying105 (zero_sign w2) s HS.out
  have r2 := row_keep hb2 HR1.out
  have p0 : w2.cell? ⟨w.heap.size, 0, none⟩ = some (.slice op ps.length cp) := by rw [cell_of_row w2 _ 0 _ _ (0, 0) r2]; rfl
  have hlt : w.heap.size < w2.heap.size := (Array.getElem?_eq_some_iff.1 r2).1
  have HR2 : Hid (w2.heap[w.heap.size]? = _) := r2
  have HB2 : Hid (Below w.heap.size w w2) := hb2'
  have HP2 : Hid (IntsAt w2 (.slice op ps.length cp) ps) := HP.out.keep hb2'
  clear hb2 hb2' hF r2
  rcases sign_look hR s.data.toList with ⟨e1, e2⟩ | ⟨o1, c1, o2, c2, tk, gv, e1, e2, i1, i2, l1, l2⟩
  · rw [e1] at hlk
    have E : Hid (resK s.data.toList ps = none) := by unfold Hid resK; rw [e2]
    have q0 := cell_keep (HB2.out.alloc HB2.out.size (.cells #[.slice none 0 0, .slice none 0 0] 103)) HSH.out
    have HB3 : Hid (Below w.heap.size w (w2.alloc (.cells #[.slice none 0 0, .slice none 0 0] 103))) := HB2.out.alloc HB2.out.size _
    clear e1 e2 hR
    simp only [Option.getD_none, Option.isSome_none] at hlk
    go_wp2
    go_region
    all_goals go_wp2
    all_goals go_ret2
    all_goals exact ⟨HB3.out.drew, 0, _, rfl, Or.inr ⟨E.out, _, _, rfl⟩⟩
  · rw [e1] at hlk
    simp only [Option.getD_some, Option.isSome_some] at hlk
    have hb3 : Below w2.heap.size w2 (w2.alloc (.cells #[.slice o1 tk.length c1, .slice o2 gv.length c2] 103)) := (Below.refl _ _).alloc (Nat.le_refl _) _
    have hr3 : (w2.alloc (.cells #[.slice o1 tk.length c1, .slice o2 gv.length c2] 103)).heap[w2.heap.size]? = some (.cells #[.slice o1 tk.length c1, .slice o2 gv.length c2] 103 (0, 0)) := heap_alloc_new _ _
    have I1 : Hid (IntsAt w2 (.slice o1 tk.length c1) tk) := i1
    have I2 : Hid (IntsAt w2 (.slice o2 gv.length c2) gv) := i2
    have HLT : Hid (tk.length ≤ 10) := l1
    have HLG : Hid (gv.length = 1) := l2
    have ER : Hid (resK s.data.toList ps = if ps.length = tk.length then (if ps.any noKind = true then none else (fitK tk ps 0).map fun f => (giveK gv f).headD 0) else none) := by unfold Hid resK; rw [e2]
    have HB3 : Hid (Below w2.heap.size w2 (w2.alloc (.cells #[.slice o1 tk.length c1, .slice o2 gv.length c2] 103))) := hb3
    have HR3 : Hid ((w2.alloc (.cells #[.slice o1 tk.length c1, .slice o2 gv.length c2] 103)).heap[w2.heap.size]? = _) := hr3
    have HBB : Hid (Below w.heap.size w (w2.alloc (.cells #[.slice o1 tk.length c1, .slice o2 gv.length c2] 103))) := HB2.out.alloc HB2.out.size _
    have hsz : w2.heap.size < (w2.alloc (.cells #[.slice o1 tk.length c1, .slice o2 gv.length c2] 103)).heap.size := by simp
    clear e1 e2 i1 i2 l1 l2 hR hb3 hr3
    by_cases hn : ps.length = tk.length
    · have d1 : (((ps.length : Nat) : Int) == ((tk.length : Nat) : Int)) = true := by simp; omega
      have d2 : (((ps.length : Nat) : Int) != ((tk.length : Nat) : Int)) = false := by simp; omega
      have ER2 : Hid (resK s.data.toList ps = if ps.any noKind = true then none else (fitK tk ps 0).map fun f => (giveK gv f).headD 0) := by unfold Hid; rw [ER.out, if_pos hn]
      have HNN : Hid (ps.length = tk.length) := hn
      clear hn
      go_upto_region 4 with fail
      obtain ⟨w3, hw3⟩ : ∃ w3, w3 = w2.alloc (.cells #[.slice o1 tk.length c1, .slice o2 gv.length c2] 103) := ⟨_, rfl⟩
      rw [← hw3] at HB3 HR3 HBB hsz
      rw [← hw3]
      have p3 := cell_keep HB3.out p0
      have HP3 : Hid (IntsAt w3 (.slice op ps.length cp) ps) := HP2.out.keep HB3.out
      clear hw3 p0 hlk ER
      cases ha : ps.any noKind
      · have ER3 : Hid (resK s.data.toList ps = (fitK tk ps 0).map fun f => (giveK gv f).headD 0) := by unfold Hid; rw [ER2.out, ha]; rfl
        clear ER2
        go_wp2_with (go_at_call 50; refine (contains_any _ _ _ _ ps HP3.out rfl HL.out).mono ?_; rw [ha]; rintro e w' ⟨rfl, hw⟩; have hw2 := hw.symm; subst hw2)
        have hbk : Below w3.heap.size w3 (w3.alloc (.cells #[.int .i64 0] 3)) := (Below.refl _ _).alloc (Nat.le_refl _) _
        have hrk : (w3.alloc (.cells #[.int .i64 0] 3)).heap[w3.heap.size]? = some (.cells #[.int .i64 0] 3 (0, 0)) := heap_alloc_new _ _
        have e3 := cell_keep (HBB.out.trans (hbk.mono HBB.out.size)) HE.out
        have hpk := HP3.out.keep hbk
        rw [HNN.out] at hpk
        have hrp := row_keep hbk (row_keep HB3.out HR2.out)
        rw [HNN.out] at hrp
        have hcg := tcaught_any (w3.alloc (.cells #[.int .i64 0] 3)) w.heap.size w2.heap.size w.heap.size w3.heap.size o1 o2 op c1 c2 cp tk gv ps (.int .i64 0) (row_keep hbk HR3.out) hrp hrk ((I1.out.keep HB3.out).keep hbk) ((I2.out.keep HB3.out).keep hbk) hpk HNN.out HLT.out HLG.out et eq e3 (HBB.out.size) (by have := HBB.out.size; simp; omega)
        have HBK : Hid (Below w.heap.size w (w3.alloc (.cells #[.int .i64 0] 3))) := HBB.out.trans (hbk.mono HBB.out.size)
        clear hbk hrk e3 hpk hrp
        refine hcg.mono ?_
        clear hcg
        rintro e w4 ⟨hb4, ⟨f, hf, rfl, hk⟩ | ⟨hf, rfl, hk⟩⟩
        · have HF : Hid (resK s.data.toList ps = some ((giveK gv f).headD 0)) := by unfold Hid; rw [ER3.out, hf]; rfl
          have HB4 : Hid (Below w.heap.size w w4) := HBK.out.trans hb4
          clear hf hb4
          go_wp2
          go_ret2
          exact ⟨HB4.out, _, _, rfl, Or.inl ⟨by rw [HF.out]; simp, rfl⟩⟩
        · have HF : Hid (resK s.data.toList ps = none) := by unfold Hid; rw [ER3.out, hf]; rfl
          have HB4 : Hid (Below w.heap.size w w4) := HBK.out.trans hb4
          clear hf hb4
          go_wp2
          go_ret2
          exact ⟨HB4.out, _, _, rfl, Or.inr ⟨HF.out, _, _, rfl⟩⟩
      · have E : Hid (resK s.data.toList ps = none) := by unfold Hid; rw [ER2.out, ha]; rfl
        have q0 := cell_keep HBB.out HE.out
        go_wp2_with (go_at_call 50; refine (contains_any _ _ _ _ ps HP3.out rfl HL.out).mono ?_; rw [ha]; rintro e w' ⟨rfl, hw⟩; have hw2 := hw.symm; subst hw2)
        go_region
        all_goals go_wp2
        all_goals go_ret2
        all_goals exact ⟨HBB.out.drew, 0, _, rfl, Or.inr ⟨E.out, _, _, rfl⟩⟩
    · have d1 : (((ps.length : Nat) : Int) == ((tk.length : Nat) : Int)) = false := by simp; omega
      have d2 : (((ps.length : Nat) : Int) != ((tk.length : Nat) : Int)) = true := by simp; omega
      have E : Hid (resK s.data.toList ps = none) := by unfold Hid; rw [ER.out, if_neg hn]
      have q0 := cell_keep HBB.out HSH.out
      clear hn ER
      go_wp2
      go_region
      all_goals go_wp2
      all_goals go_ret2
      all_goals exact ⟨HBB.out.drew, 0, _, rfl, Or.inr ⟨E.out, _, _, rfl⟩⟩
end Go.Proofs.YtpiglmaojonbnaaGreatDoor
