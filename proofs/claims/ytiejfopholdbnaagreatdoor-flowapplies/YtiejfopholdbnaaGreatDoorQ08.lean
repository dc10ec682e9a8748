/-
  package types: Result BY CONTRACT: the type of what an operator makes of parts of such types, or an error.
-/
import Derived.Test.YtiejfopholdbnaaGreatDoorQ07
import Derived.Laws.EntriesVeiled
import Derived.Deep.DeepCutAuto
namespace Go.Proofs.YtiejfopholdbnaaGreatDoor
open Go.RowKit Go.Maps
set_option maxRecDepth 100000
set_option maxHeartbeats 1000000

def noKind (k : Int) : Bool := k != 1 && k != 2
theorem result1_any (k : Int) (w : World) : Calls Tryz.prog 123 #[.int .i64 k] w fun e w' => e = .returned (.bool (noKind k)) ∧ w' = w := by
 by_cases h1 : k = 1
 ·subst h1
  go_enter Tryz.func123, Tryz.ntmps123
  go_wp2
  go_ret
  exact ⟨rfl, rfl⟩
 ·have d1 : (k == 1) = false := beq_eq_false_iff_ne.2 h1
  have d1' : (k != 1) = true := by simp [h1]
  have E : Hid (noKind k = (k != 2)) := by unfold Hid noKind; rw [d1']; rfl
  clear h1
  go_enter Tryz.func123, Tryz.ntmps123
  go_wp2
  go_ret
  exact ⟨by rw [E.out]; rfl, rfl⟩
theorem index_any (w : World) (o : Option Addr) (n c : Nat) (ps : List Int) (hp : IntsAt w (.slice o n c) ps) (hn : n = ps.length) (hl : n ≤ 100) :
  Calls Tryz.prog 168 #[.slice o n c, .func (.func 123) #[] #[]] w fun e w' => (∃ i : Int, e = .returned (.int .i64 i) ∧ (decide (0 ≤ i) = ps.any noKind)) ∧ w' = w := by
 have HP := hidP hp
 have HN := hidP hn
 have HL := hidP hl
 clear hp hn hl
 go_enter Tryz.func168, Tryz.ntmps168
 go_wp2
 go_loop [8] (fun t => ∃ j : Nat, j ≤ n ∧ t = .int .i64 j ∧ ∀ k x, k < j → ps[k]? = some x → noKind x = false) (fun t => n - (intOf t).toNat)
 case atStart => exact ⟨0, Nat.zero_le _, rfl, fun k x hk => by omega⟩
 case round =>
  obtain ⟨j, hj, rfl, hall⟩ := hrel
  have HALL := hidP hall
  by_cases hjl : j < n
  ·obtain ⟨x, hx⟩ : ∃ x, ps[j]? = some x := ⟨_, List.getElem?_eq_getElem (by have := HN.out; omega)⟩
   obtain ⟨b, off, rfl, hcx⟩ := HP.out.get hx
   have i0' : (0 : Int) ≤ (j : Int) := by omega
   have i1' : (j : Int) < (n : Int) := by omega
   have N4 : Hid (wrap64 ((j : Int) + 1) = (j : Int) + 1) := by have := HL.out; unfold Hid wrap64; omega
   have HJ := hidP hjl
   have HX := hidP hx
   clear hall hj hjl hx
   cases hb : noKind x
   ·go_wp2_with (go_at_call 123; refine (result1_any _ _).mono ?_; rw [hb]; rintro e w' ⟨rfl, hw⟩; have hw2 := hw.symm; subst hw2)
    refine ⟨⟨j + 1, HJ.out, by rw [N4.out]; rfl, fun k y hk hy => ?_⟩, by rw [N4.out]; have := HJ.out; simp [intOf]; omega⟩
    rcases Nat.lt_or_ge k j with h1 | h1
    ·exact HALL.out k y h1 hy
    ·obtain rfl : k = j := by omega
     rw [HX.out] at hy
     cases hy
     exact hb
   ·go_wp2_with (go_at_call 123; refine (result1_any _ _).mono ?_; rw [hb]; rintro e w' ⟨rfl, hw⟩; have hw2 := hw.symm; subst hw2)
    go_ret
    refine ⟨⟨_, rfl, ?_⟩, rfl⟩
    have : ps.any noKind = true := List.any_eq_true.2 ⟨x, List.mem_of_getElem? HX.out, hb⟩
    rw [this]; simp
  ·obtain rfl : j = n := by omega
   clear hall hj hjl
   go_wp2
   go_ret
   refine ⟨⟨_, rfl, ?_⟩, rfl⟩
   have : ps.any noKind = false := by
    rw [List.any_eq_false]
    intro x hx
    obtain ⟨k, hk, rfl⟩ := List.getElem_of_mem hx
    rw [HALL.out k _ (by have := HN.out; omega) (List.getElem?_eq_getElem hk)]
    simp
   rw [this]; simp
theorem contains_any (w : World) (o : Option Addr) (n c : Nat) (ps : List Int) (hp : IntsAt w (.slice o n c) ps) (hn : n = ps.length) (hl : n ≤ 100) :
  Calls Tryz.prog 122 #[.slice o n c, .func (.func 123) #[] #[]] w fun e w' => e = .returned (.bool (ps.any noKind)) ∧ w' = w := by
 have HC : Hid (∀ w', IntsAt w' (.slice o n c) ps → Calls Tryz.prog 168 #[.slice o n c, .func (.func 123) #[] #[]] w' fun e w'' => (∃ i : Int, e = .returned (.int .i64 i) ∧ (decide (0 ≤ i) = ps.any noKind)) ∧ w'' = w') := fun w' h => index_any w' o n c ps h hn hl
 have HP := hidP hp
 clear hp hn hl
 go_enter Tryz.func122, Tryz.ntmps122
 go_wp2_with (go_at_call 168; refine (HC.out _ HP.out).mono ?_; rintro e w' ⟨⟨i, rfl, hi⟩, rfl⟩)
 go_ret
 exact ⟨by rw [← hi]; rfl, rfl⟩
theorem result2_any (w : World) (b0 b1 b2 : Nat) (o1 o2 op : Option Addr) (c1 c2 cp : Nat) (tk gv ps : List Int) (k0 : Value) (q0 : w.heap[b0]? = some (.cells #[.slice o1 tk.length c1, .slice o2 gv.length c2] 206 (0, 0))) (q1 : w.heap[b1]? = some (.cells #[.slice op tk.length cp] 30 (0, 0))) (q2 : w.heap[b2]? = some (.cells #[k0] 3 (0, 0)))
  (h1 : IntsAt w (.slice o1 tk.length c1) tk) (h2 : IntsAt w (.slice o2 gv.length c2) gv) (hp : IntsAt w (.slice op tk.length cp) ps) (hlen : ps.length = tk.length) (hs1 : tk.length ≤ 10) (hs2 : gv.length = 1) :
  Calls Tryz.prog 125 #[.pointer (some ⟨b0, 0, none⟩), .pointer (some ⟨b1, 0, none⟩), .pointer (some ⟨b2, 0, none⟩)] w fun e w' => (∃ f w1, fitK tk ps 0 = some f ∧ e = .returned (.tuple #[]) ∧ Below w.heap.size w w1 ∧ w' = w1.setCell ⟨b2, 0, none⟩ (.int .i64 ((giveK gv f).headD 0))) ∨ (fitK tk ps 0 = none ∧ ThrewT e ∧ Below w.heap.size w w') := by
 have z0 : w.cell? ⟨b0, 0, none⟩ = some (.slice o1 tk.length c1) := cr q0 rfl
 have z1 : w.cell? ⟨b0, 0 + 1, none⟩ = some (.slice o2 gv.length c2) := by rw [cell_of_row w _ (0 + 1) _ _ (0, 0) q0]; rfl
 have z2 : w.cell? ⟨b1, 0, none⟩ = some (.slice op tk.length cp) := cr q1 rfl
 have Q2 : Hid (w.heap[b2]? = some (.cells #[k0] 3 (0, 0))) := q2
 have HA : Hid (Calls Tryz.prog 126 #[.agg #[.slice o1 tk.length c1, .slice o2 gv.length c2], .slice op tk.length cp] w fun e w' => Below w.heap.size w w' ∧ ((∃ f V, fitK tk ps 0 = some f ∧ e = .returned (.slice (some ⟨V, 0, none⟩) gv.length gv.length) ∧ w'.heap[V]? = some (.cells (rowI (giveK gv f)) 3 (0, 0))) ∨ (fitK tk ps 0 = none ∧ ThrewT e))) := apply_any w o1 o2 op c1 c2 cp tk gv ps h1 h2 hp hlen hs1 (by omega)
 have HS2 := hidP hs2
 clear q0 q1 q2 h1 h2 hp hlen hs1 hs2
 go_enter Tryz.func125, Tryz.ntmps125
 go_wp2_with fail
 refine HA.out.mono ?_
 rintro e w1 ⟨hb1, ⟨f, V, hf, rfl, hV⟩ | ⟨hf, ht⟩⟩
 ·have e1 : giveK gv f = [(giveK gv f).headD 0] := by
   have : (giveK gv f).length = 1 := by unfold giveK; simp [HS2.out]
   match hg : giveK gv f, this with
   | [x], _ => rfl
  have v0 : w1.cell? ⟨V, 0, none⟩ = some (.int .i64 ((giveK gv f).headD 0)) := by
   rw [cell_of_row w1 V 0 _ _ (0, 0) hV]
   refine rowI_get ?_
   rw [e1]; rfl
  have hr2 := row_keep hb1 Q2.out
  have v1 : w1.cell? ⟨b2, 0, none⟩ = some k0 := cr hr2 rfl
  have v2 : w1.frozen? ⟨b2, 0, none⟩ = false := frozen_row hr2
  have HB1 := hidP hb1
  have HF := hidP hf
  obtain ⟨g, hg⟩ : ∃ g, g = (giveK gv f).headD 0 := ⟨_, rfl⟩
  rw [← hg] at v0
  have HG := hidP hg
  have hlen1 : gv.length = 1 := HS2.out
  rw [hlen1]
  clear hb1 hf hV e1 hr2 hg hlen1
  go_wp2
  go_end0
  exact Or.inl ⟨f, w1, HF.out, rfl, HB1.out, by rw [HG.out]⟩
 ·unfold ThrewT at ht
  subst ht
  have HB1 := hidP hb1
  have HF := hidP hf
  clear hb1 hf
  go_wp2
  exact ⟨rfl, Or.inr ⟨HF.out, rfl, HB1.out⟩⟩
end Go.Proofs.YtiejfopholdbnaaGreatDoor

/-
 package types: caught, Result BY CONTRACT.
-/
namespace Go.Proofs.YtiejfopholdbnaaGreatDoor
open Go.RowKit Go.Maps

theorem cell_blk {w : World} {p : Addr} {v : Value} (hc : w.cell? p = some v) : p.block < w.heap.size := by
 rcases Nat.lt_or_ge p.block w.heap.size with h | h
 ·exact h
 ·simp [World.cell?, Array.getElem?_eq_none h] at hc
theorem tcaught_any (w : World) (B b0 b1 b2 : Nat) (o1 o2 op : Option Addr) (c1 c2 cp : Nat) (tk gv ps : List Int) (k0 : Value) (q0 : w.heap[b0]? = some (.cells #[.slice o1 tk.length c1, .slice o2 gv.length c2] 206 (0, 0))) (q1 : w.heap[b1]? = some (.cells #[.slice op tk.length cp] 30 (0, 0))) (q2 : w.heap[b2]? = some (.cells #[k0] 3 (0, 0)))
  (h1 : IntsAt w (.slice o1 tk.length c1) tk) (h2 : IntsAt w (.slice o2 gv.length c2) gv) (hp : IntsAt w (.slice op tk.length cp) ps) (hlen : ps.length = tk.length) (hs1 : tk.length ≤ 10) (hs2 : gv.length = 1) (et : TypeId) (eq : Value) (he : w.cell? ⟨3, 0, none⟩ = some (.iface et eq)) (hB : B ≤ b2) (hBw : B ≤ w.heap.size) :
  Calls Tryz.prog 124 #[.func (.func 125) #[] #[.pointer (some ⟨b0, 0, none⟩), .pointer (some ⟨b1, 0, none⟩), .pointer (some ⟨b2, 0, none⟩)]] w fun e w' => Below B w w' ∧ ((∃ f, fitK tk ps 0 = some f ∧ e = .returned .nilIface ∧ w'.cell? ⟨b2, 0, none⟩ = some (.int .i64 ((giveK gv f).headD 0))) ∨ (fitK tk ps 0 = none ∧ e = .returned (.iface et eq) ∧ w'.cell? ⟨b2, 0, none⟩ = some k0)) := by
 have hmf : ∀ (fn : Fn) (first cap : Array Value) (w : World), (Instr.makeFunc fn first cap).run Tryz.prog w = .ok (.func fn first cap) w := fun _ _ _ _ => rfl
 have hbA : Below w.heap.size w (w.alloc (.cells #[.nilIface] 32)) := bal
 have hZ : (w.alloc (.cells #[.nilIface] 32)).heap[w.heap.size]? = some (.cells #[.nilIface] 32 (0, 0)) := heap_alloc_new w (.cells #[.nilIface] 32)
 have HC := result2_any (w.alloc (.cells #[.nilIface] 32)) b0 b1 b2 o1 o2 op c1 c2 cp tk gv ps k0 (row_keep hbA q0) (row_keep hbA q1) (row_keep hbA q2) (h1.keep hbA) (h2.keep hbA) (hp.keep hbA) hlen hs1 hs2
 have b2l : b2 < w.heap.size := (Array.getElem?_eq_some_iff.1 q2).1
 have hE1 := cell_keep hbA he
 have HQ2 := row_keep hbA q2
 obtain ⟨w0, hw0⟩ : ∃ w0, w0 = w.alloc (.cells #[.nilIface] 32) := ⟨_, rfl⟩
 have hs0 : w0.heap.size = w.heap.size + 1 := by rw [hw0]; simp
 rw [← hw0] at HC hZ hE1 HQ2 hbA
 have HC' : Hid (Calls Tryz.prog 125 #[.pointer (some ⟨b0, 0, none⟩), .pointer (some ⟨b1, 0, none⟩), .pointer (some ⟨b2, 0, none⟩)] w0 fun e w' => (∃ f w1, fitK tk ps 0 = some f ∧ e = .returned (.tuple #[]) ∧ Below w0.heap.size w0 w1 ∧ w' = w1.setCell ⟨b2, 0, none⟩ (.int .i64 ((giveK gv f).headD 0))) ∨ (fitK tk ps 0 = none ∧ ThrewT e ∧ Below w0.heap.size w0 w')) := HC
 have HW0 : Hid (w.alloc (.cells #[.nilIface] 32) = w0) := hw0.symm
 have HZ := hidP hZ
 have HE1 := hidP hE1
 have HK : Hid (w0.heap[b2]? = some (.cells #[k0] 3 (0, 0))) := HQ2
 have HN : Hid (b2 < w.heap.size ∧ B ≤ b2 ∧ B ≤ w.heap.size ∧ w0.heap.size = w.heap.size + 1) := ⟨b2l, hB, hBw, hs0⟩
 have HBA := hidP hbA
 clear q0 q1 q2 h1 h2 hp hlen hs1 hs2 HC b2l hE1 HQ2 hbA hZ hw0 he hB hBw hs0
 go_enter_defers Tryz.func124, Tryz.ntmps124
 go_wp2_with fail
 rw [HW0.out]
 refine HC'.out.mono ?_
 rintro e w1 (⟨f, w2, hf, rfl, hb2, rfl⟩ | ⟨hf, ht, hb2⟩)
 ·have hr := row_keep hb2 HZ.out
  have hrk := row_keep hb2 HK.out
  have hne : w.heap.size ≠ b2 := by have := HN.out; omega
  have c1 : (w2.setCell ⟨b2, 0, none⟩ (.int .i64 ((giveK gv f).headD 0))).cell? ⟨w.heap.size, 0, none⟩ = some .nilIface := by
   have e : (w2.setCell ⟨b2, 0, none⟩ (.int .i64 ((giveK gv f).headD 0))).heap[w.heap.size]? = w2.heap[w.heap.size]? := Below.heap_setCell w2 ⟨b2, 0, none⟩ _ _ hne
   rw [cell_of_row _ _ 0 _ _ (0, 0) (e.trans hr)]; rfl
  have f1 : (w2.setCell ⟨b2, 0, none⟩ (.int .i64 ((giveK gv f).headD 0))).frozen? ⟨w.heap.size, 0, none⟩ = false := by
   have e : (w2.setCell ⟨b2, 0, none⟩ (.int .i64 ((giveK gv f).headD 0))).heap[w.heap.size]? = w2.heap[w.heap.size]? := Below.heap_setCell w2 ⟨b2, 0, none⟩ _ _ hne
   exact frozen_row (e.trans hr)
  have hrk2 := heap_setCell_at (i := 0) hrk (.int .i64 ((giveK gv f).headD 0))
  have hBB : Below B w (w2.setCell ⟨b2, 0, none⟩ (.int .i64 ((giveK gv f).headD 0))) := ((HBA.out.mono HN.out.2.2.1).trans (hb2.mono (by have := HN.out; omega))).setCell HN.out.2.1 _
  obtain ⟨w3, hw3⟩ : ∃ w3, w3 = w2.setCell ⟨b2, 0, none⟩ (.int .i64 ((giveK gv f).headD 0)) := ⟨_, rfl⟩
  rw [← hw3] at c1 f1 hrk2 hBB
  rw [← hw3]
  have HF := hidP hf
  have HBB := hidP hBB
  have HRK := hidP hrk2
  clear hf hb2 hr hrk hrk2 hBB hw3
  go_wp2
  refine leaves_cons (f := 169) (args := #[.pointer (some ⟨w.heap.size, 0, none⟩)]) (by simp) (by simp [go_sem]) ?_
  refine (tcatch_idle _ _).mono ?_
  rintro e u' w'' ⟨rfl, rfl, rfl⟩
  refine ⟨.nilIface, ?_, HBB.out.setCell HN.out.2.2.1 _, Or.inl ⟨f, HF.out, rfl, ?_⟩⟩
  ·simp [results, Tryz.results124, go_sem, c1]
  ·have e : (w3.setCell ⟨w.heap.size, 0, none⟩ .nilIface).heap[b2]? = w3.heap[b2]? := Below.heap_setCell w3 ⟨w.heap.size, 0, none⟩ _ _ (fun h => hne h.symm)
   rw [cell_of_row _ _ 0 _ _ (0, 0) (e.trans HRK.out)]
   simp
 ·unfold ThrewT at ht
  subst ht
  have hr := row_keep hb2 HZ.out
  have hrk := row_keep hb2 HK.out
  have hne : w.heap.size ≠ b2 := by have := HN.out; omega
  have c1 : w1.cell? ⟨w.heap.size, 0, none⟩ = some .nilIface := cr hr rfl
  have f1 : w1.frozen? ⟨w.heap.size, 0, none⟩ = false := frozen_row hr
  have e1 := cell_keep hb2 HE1.out
  have hBB : Below B w w1 := (HBA.out.mono HN.out.2.2.1).trans (hb2.mono (by have := HN.out; omega))
  have hlw : w.heap.size < w1.heap.size := cell_blk c1
  have HF := hidP hf
  have HBB := hidP hBB
  have HRK := hidP hrk
  have HE : Hid (w1.cell? ⟨3, 0, none⟩ = some (.iface et eq)) := e1
  have HSZ : Hid (b2 < w1.heap.size ∧ B ≤ w1.heap.size) := by have := HN.out; unfold Hid; omega
  clear hf hb2 hr hrk hBB e1
  go_wp2
  refine leaves_cons (f := 169) (args := #[.pointer (some ⟨w.heap.size, 0, none⟩)]) (by simp) (by simp [go_sem]) ?_
  refine (tcatch_wrong w.heap.size .nilIface (.iface et eq) [] _ c1 f1 HE.out ⟨et, eq, rfl⟩).mono ?_
  rintro e u' w'' ⟨rfl, rfl, o, rfl⟩
  refine ⟨.iface et eq, ?_, (HBB.out.setCell HN.out.2.2.1 _).alloc (by rw [size_setCell]; exact HSZ.out.2) _, Or.inr ⟨HF.out, rfl, ?_⟩⟩
  ·simp [results, Tryz.results124, go_sem, c1, hlw]
  ·have e : (w1.setCell ⟨w.heap.size, 0, none⟩ (.iface et eq)).heap[b2]? = w1.heap[b2]? := Below.heap_setCell w1 ⟨w.heap.size, 0, none⟩ _ _ (fun h => hne h.symm)
   rw [cell_of_row _ _ 0 _ _ (0, 0) ((Below.heap_alloc _ o _ (by rw [size_setCell]; exact HSZ.out.1)).trans (e.trans HRK.out))]
   rfl
end Go.Proofs.YtiejfopholdbnaaGreatDoor
