/-
  package word: operators that make nothing of values alone: value throws, Of tells ErrShape.
-/
import Derived.Test.YtpiglmaojonbnaaGreatDoorP18
namespace Go.Proofs.YtpiglmaojonbnaaGreatDoor
open Go.RowKit Go.Maps

/-- What is thrown, nothing of the graph being touched. -/
def ThrP (w : World) (e : Ending) (w' : World) : Prop := ThrewS e ∧ Below w.heap.size w w'
set_option maxRecDepth 100000 in
theorem tthrow_fby (G : Nat) (va vb : Value) (w : World) :
    Calls Tryz.prog 45 #[.agg #[.pointer (some ⟨G, 0, none⟩)], .string ⟨#[102, 98, 121]⟩, va, vb] w (ThrP w) := by
  have HB : Hid (Below w.heap.size w (w.alloc (.cells #[.pointer (some ⟨G, 0, none⟩)] 60))) := (Below.refl _ _).alloc (Nat.le_refl _) _
  go_enter Tryz.func45, Tryz.ntmps45
  go_wp2
  exact ⟨rfl, rfl, HB.out⟩
set_option maxRecDepth 100000 in
set_option maxHeartbeats 2000000 in
theorem vthrow_fby {G : Nat} {F : Nat → Prop} {w : World} (o : Option Addr) (c : Nat) (a b : List Int) (hv : WordsAt F w (.slice o 2 c) [a, b]) :
    Calls Tryz.prog 21 #[.agg #[.pointer (some ⟨G, 0, none⟩)], .string ⟨#[102, 98, 121]⟩, .slice o 2 c] w (ThrP w) := by
  have hb1 : Below w.heap.size w (w.alloc (.cells #[.pointer (some ⟨G, 0, none⟩)] 60)) := (Below.refl _ _).alloc (Nat.le_refl _) _
  have hmv : Mvd F F w (w.alloc (.cells #[.pointer (some ⟨G, 0, none⟩)] 60)) := Mvd.of_below hb1
  obtain ⟨b0, f0, oa, ca, rfl, _, c0, _⟩ := (hv.move hmv).get (k := 0) rfl
  obtain ⟨b0', f0', ob, cb, e, _, c1, _⟩ := (hv.move hmv).get (k := 1) rfl
  obtain ⟨rfl, rfl⟩ : b0 = b0' ∧ f0 = f0' := by simpa using e
  obtain ⟨w1, hw1⟩ : ∃ w1, w1 = w.alloc (.cells #[.pointer (some ⟨G, 0, none⟩)] 60) := ⟨_, rfl⟩
  have m1 : w1.cell? ⟨w.heap.size, 0, none⟩ = some (.pointer (some ⟨G, 0, none⟩)) := by rw [hw1]; simp
  rw [← hw1] at c0 c1 hb1
  rw [Nat.add_zero] at c0
  have HB1 : Hid (Below w.heap.size w w1) := hb1
  have HW1 : Hid (w.alloc (.cells #[.pointer (some ⟨G, 0, none⟩)] 60) = w1) := hw1.symm
  clear hv hmv hw1 hb1 e
  go_enter Tryz.func21, Tryz.ntmps21
  go_wp2
  rw [HW1.out]
  clear HW1
  go_quiet (fail)
  go_wp2_with fail
  refine (tthrow_fby G _ _ _).mono ?_
  rintro e w2 ⟨ht, hb2⟩
  unfold ThrewS at ht
  subst ht
  have HB2 : Hid (Below w.heap.size w w2) := HB1.out.trans (Below.mono (show Below w1.heap.size w1 w2 from ⟨hb2.os, hb2.tape, hb2.output, hb2.size, hb2.block⟩) HB1.out.size)
  clear hb2 m1 c0 c1
  go_wp2
  exact ⟨rfl, rfl, HB2.out⟩
set_option maxRecDepth 100000 in
theorem tthrow_arrow (G : Nat) (va vb : Value) (w : World) :
    Calls Tryz.prog 45 #[.agg #[.pointer (some ⟨G, 0, none⟩)], .string ⟨#[45, 62]⟩, va, vb] w (ThrP w) := by
  have HB : Hid (Below w.heap.size w (w.alloc (.cells #[.pointer (some ⟨G, 0, none⟩)] 60))) := (Below.refl _ _).alloc (Nat.le_refl _) _
  go_enter Tryz.func45, Tryz.ntmps45
  go_wp2
  exact ⟨rfl, rfl, HB.out⟩
set_option maxRecDepth 100000 in
set_option maxHeartbeats 2000000 in
theorem vthrow_arrow {G : Nat} {F : Nat → Prop} {w : World} (o : Option Addr) (c : Nat) (a b : List Int) (hv : WordsAt F w (.slice o 2 c) [a, b]) :
    Calls Tryz.prog 21 #[.agg #[.pointer (some ⟨G, 0, none⟩)], .string ⟨#[45, 62]⟩, .slice o 2 c] w (ThrP w) := by
  have hb1 : Below w.heap.size w (w.alloc (.cells #[.pointer (some ⟨G, 0, none⟩)] 60)) := (Below.refl _ _).alloc (Nat.le_refl _) _
  have hmv : Mvd F F w (w.alloc (.cells #[.pointer (some ⟨G, 0, none⟩)] 60)) := Mvd.of_below hb1
  obtain ⟨b0, f0, oa, ca, rfl, _, c0, _⟩ := (hv.move hmv).get (k := 0) rfl
  obtain ⟨b0', f0', ob, cb, e, _, c1, _⟩ := (hv.move hmv).get (k := 1) rfl
  obtain ⟨rfl, rfl⟩ : b0 = b0' ∧ f0 = f0' := by simpa using e
  obtain ⟨w1, hw1⟩ : ∃ w1, w1 = w.alloc (.cells #[.pointer (some ⟨G, 0, none⟩)] 60) := ⟨_, rfl⟩
  have m1 : w1.cell? ⟨w.heap.size, 0, none⟩ = some (.pointer (some ⟨G, 0, none⟩)) := by rw [hw1]; simp
  rw [← hw1] at c0 c1 hb1
  rw [Nat.add_zero] at c0
  have HB1 : Hid (Below w.heap.size w w1) := hb1
  have HW1 : Hid (w.alloc (.cells #[.pointer (some ⟨G, 0, none⟩)] 60) = w1) := hw1.symm
  clear hv hmv hw1 hb1 e
  go_enter Tryz.func21, Tryz.ntmps21
  go_wp2
  rw [HW1.out]
  clear HW1
  go_quiet (fail)
  go_wp2_with fail
  refine (tthrow_arrow G _ _ _).mono ?_
  rintro e w2 ⟨ht, hb2⟩
  unfold ThrewS at ht
  subst ht
  have HB2 : Hid (Below w.heap.size w w2) := HB1.out.trans (Below.mono (show Below w1.heap.size w1 w2 from ⟨hb2.os, hb2.tape, hb2.output, hb2.size, hb2.block⟩) HB1.out.size)
  clear hb2 m1 c0 c1
  go_wp2
  exact ⟨rfl, rfl, HB2.out⟩
set_option maxRecDepth 100000 in
theorem tthrow_pre (G : Nat) (va vb : Value) (w : World) :
    Calls Tryz.prog 45 #[.agg #[.pointer (some ⟨G, 0, none⟩)], .string ⟨#[112, 114, 101]⟩, va, vb] w (ThrP w) := by
  have HB : Hid (Below w.heap.size w (w.alloc (.cells #[.pointer (some ⟨G, 0, none⟩)] 60))) := (Below.refl _ _).alloc (Nat.le_refl _) _
  go_enter Tryz.func45, Tryz.ntmps45
  go_wp2
  exact ⟨rfl, rfl, HB.out⟩
set_option maxRecDepth 100000 in
set_option maxHeartbeats 2000000 in
theorem vthrow_pre {G : Nat} {F : Nat → Prop} {w : World} (o : Option Addr) (c : Nat) (a : List Int) (hv : WordsAt F w (.slice o 1 c) [a]) :
    Calls Tryz.prog 21 #[.agg #[.pointer (some ⟨G, 0, none⟩)], .string ⟨#[112, 114, 101]⟩, .slice o 1 c] w (ThrP w) := by
  have hb1 : Below w.heap.size w (w.alloc (.cells #[.pointer (some ⟨G, 0, none⟩)] 60)) := (Below.refl _ _).alloc (Nat.le_refl _) _
  have hmv : Mvd F F w (w.alloc (.cells #[.pointer (some ⟨G, 0, none⟩)] 60)) := Mvd.of_below hb1
  obtain ⟨b0, f0, oa, ca, rfl, _, c0, _⟩ := (hv.move hmv).get (k := 0) rfl
  obtain ⟨w1, hw1⟩ : ∃ w1, w1 = w.alloc (.cells #[.pointer (some ⟨G, 0, none⟩)] 60) := ⟨_, rfl⟩
  have m1 : w1.cell? ⟨w.heap.size, 0, none⟩ = some (.pointer (some ⟨G, 0, none⟩)) := by rw [hw1]; simp
  rw [← hw1] at c0 hb1
  rw [Nat.add_zero] at c0
  have HB1 : Hid (Below w.heap.size w w1) := hb1
  have HW1 : Hid (w.alloc (.cells #[.pointer (some ⟨G, 0, none⟩)] 60) = w1) := hw1.symm
  clear hv hmv hw1 hb1
  go_enter Tryz.func21, Tryz.ntmps21
  go_wp2
  rw [HW1.out]
  clear HW1
  go_quiet (fail)
  go_wp2_with fail
  refine (tthrow_pre G _ _ _).mono ?_
  rintro e w2 ⟨ht, hb2⟩
  unfold ThrewS at ht
  subst ht
  have HB2 : Hid (Below w.heap.size w w2) := HB1.out.trans (Below.mono (show Below w1.heap.size w1 w2 from ⟨hb2.os, hb2.tape, hb2.output, hb2.size, hb2.block⟩) HB1.out.size)
  clear hb2 m1 c0
  go_wp2
  exact ⟨rfl, rfl, HB2.out⟩
set_option maxRecDepth 100000 in
set_option maxHeartbeats 2000000 in
theorem of1_throw {G : Nat} {gs : List (Int × Int)} {ins : Nat} {F : Nat → Prop} {w : World} (h : GrAt G gs ins F w) (hl : gs.length < 89000) (s : ByteArray) (hs : s.size ≤ maxLen) (o : Option Addr) (n c : Nat) (ls : List (List Int)) (hv : WordsAt F w (.slice o n c) ls) (hn : n = ls.length) (hH : ∀ l ∈ ls, ∀ x ∈ l, HasL gs x) (et st : TypeId) (eq sq : Value) (he : w.cell? ⟨0, 0, none⟩ = some (.iface et eq)) (hsh : w.cell? ⟨1, 0, none⟩ = some (.iface st sq))
    (bm bo bl bu bt : Nat) (hcap : Caps w G bm bo bl bu bt s (.slice o n c) (.slice none 0 0) (.int .i64 0)) (hnc : ¬ F bm ∧ ¬ F bo ∧ ¬ F bl ∧ ¬ F bu ∧ ¬ F bt)
    (hask : askB s.data.toList ls = true) (hval : ∀ F1 w1, GrAt G gs ins F1 w1 → WordsAt F1 w1 (.slice o n c) ls → Calls Tryz.prog 21 #[.agg #[.pointer (some ⟨G, 0, none⟩)], .string s, .slice o n c] w1 (ThrP w1)) :
    Calls Tryz.prog 19 #[.pointer (some ⟨bm, 0, none⟩), .pointer (some ⟨bo, 0, none⟩), .pointer (some ⟨bl, 0, none⟩), .pointer (some ⟨bu, 0, none⟩), .pointer (some ⟨bt, 0, none⟩)] w fun e w' => ThrewS e ∧ ∃ F', GrAt G gs ins F' w' ∧ Mvd F F' w w' := by
  have m0 : w.cell? ⟨bm, 0, none⟩ = some (.pointer (some ⟨G, 0, none⟩)) := by rw [cell_of_row w _ 0 _ _ (0, 0) hcap.m]; rfl
  have o0 : w.cell? ⟨bo, 0, none⟩ = some (.string s) := by rw [cell_of_row w _ 0 _ _ (0, 0) hcap.o]; rfl
  have l0 : w.cell? ⟨bl, 0, none⟩ = some (.slice o n c) := by rw [cell_of_row w _ 0 _ _ (0, 0) hcap.l]; rfl
  have HASK : Hid (Calls Tryz.prog 20 #[.agg #[.pointer (some ⟨G, 0, none⟩)], .string s, .slice o n c] w fun e w' => (askB s.data.toList ls = true ∧ e = .returned (.tuple #[]) ∧ ∃ F', GrAt G gs ins F' w' ∧ Mvd F F' w w') ∨ (askB s.data.toList ls = false ∧ ThrewS e ∧ Below w.heap.size w w')) := ask_any h hl s hs o n c ls hv hn hH et st eq sq he hsh
  have HV : Hid (WordsAt F w (.slice o n c) ls) := hv
  have HCAP : Hid (Caps w G bm bo bl bu bt s (.slice o n c) (.slice none 0 0) (.int .i64 0)) := hcap
  have HNC : Hid (¬ F bm ∧ ¬ F bo ∧ ¬ F bl ∧ ¬ F bu ∧ ¬ F bt) := hnc
  have HVAL : Hid (∀ F1 w1, GrAt G gs ins F1 w1 → WordsAt F1 w1 (.slice o n c) ls → Calls Tryz.prog 21 #[.agg #[.pointer (some ⟨G, 0, none⟩)], .string s, .slice o n c] w1 (ThrP w1)) := hval
  have HK0 : Hid (askB s.data.toList ls = true) := hask
  clear h hl hs hv hn hH he hsh hcap hnc hval hask
  go_enter Tryz.func19, Tryz.ntmps19
  go_wp2_with fail
  refine HASK.out.mono ?_
  rintro e w1 (⟨hk, rfl, F1, g1, m1⟩ | ⟨hk, ht, hb⟩)
  · have hcap1 := HCAP.out.keep m1 HNC.out
    have m2 : w1.cell? ⟨bm, 0, none⟩ = some (.pointer (some ⟨G, 0, none⟩)) := by rw [cell_of_row w1 _ 0 _ _ (0, 0) hcap1.1.m]; rfl
    have o2 : w1.cell? ⟨bo, 0, none⟩ = some (.string s) := by rw [cell_of_row w1 _ 0 _ _ (0, 0) hcap1.1.o]; rfl
    have l2 : w1.cell? ⟨bl, 0, none⟩ = some (.slice o n c) := by rw [cell_of_row w1 _ 0 _ _ (0, 0) hcap1.1.l]; rfl
    have HM1 : Hid (Mvd F F1 w w1) := m1
    have HG1 : Hid (GrAt G gs ins F1 w1) := g1
    have HVL : Hid (Calls Tryz.prog 21 #[.agg #[.pointer (some ⟨G, 0, none⟩)], .string s, .slice o n c] w1 (ThrP w1)) := HVAL.out F1 w1 g1 (HV.out.move m1)
    clear m0 o0 l0 hk g1 m1 hcap1
    go_wp2_with fail
    refine HVL.out.mono ?_
    rintro e w2 ⟨ht, hb2⟩
    unfold ThrewS at ht
    subst ht
    have HEND : Hid (∃ F', GrAt G gs ins F' w2 ∧ Mvd F F' w w2) := ⟨F1, HG1.out.below hb2, HM1.out.trans (Mvd.of_below hb2)⟩
    clear hb2 m2 o2 l2
    go_wp2
    exact ⟨rfl, rfl, HEND.out⟩
  · rw [HK0.out] at hk
    cases hk
set_option maxRecDepth 100000 in
set_option maxHeartbeats 2000000 in
theorem wcaught_throw {G : Nat} {gs : List (Int × Int)} {ins : Nat} {F : Nat → Prop} {w0 w : World} (h : GrAt G gs ins F w) (hm0 : Mvd F F w0 w) (hl : gs.length < 89000) (s : ByteArray) (hs : s.size ≤ maxLen) (o : Option Addr) (n c : Nat) (ls : List (List Int)) (hv : WordsAt F w (.slice o n c) ls) (hn : n = ls.length) (hH : ∀ l ∈ ls, ∀ x ∈ l, HasL gs x) (et st : TypeId) (eq sq : Value) (he : w.cell? ⟨0, 0, none⟩ = some (.iface et eq)) (hsh : w.cell? ⟨1, 0, none⟩ = some (.iface st sq))
    (bm bo bl bu bt : Nat) (hcap : Caps w G bm bo bl bu bt s (.slice o n c) (.slice none 0 0) (.int .i64 0)) (hnc : ¬ F bm ∧ ¬ F bo ∧ ¬ F bl ∧ ¬ F bu ∧ ¬ F bt) (hlo : w0.heap.size ≤ bu ∧ w0.heap.size ≤ bt)
    (hgF : ¬ F 1) (hask : askB s.data.toList ls = true) (hval : ∀ F1 w1, GrAt G gs ins F1 w1 → WordsAt F1 w1 (.slice o n c) ls → Calls Tryz.prog 21 #[.agg #[.pointer (some ⟨G, 0, none⟩)], .string s, .slice o n c] w1 (ThrP w1)) :
    Calls Tryz.prog 18 #[.func (.func 19) #[] #[.pointer (some ⟨bm, 0, none⟩), .pointer (some ⟨bo, 0, none⟩), .pointer (some ⟨bl, 0, none⟩), .pointer (some ⟨bu, 0, none⟩), .pointer (some ⟨bt, 0, none⟩)]] w fun e w' =>
      e = .returned (.iface st sq) ∧ w'.heap[bu]? = some (.cells #[.slice none 0 0] 38 (0, 0)) ∧ w'.heap[bt]? = some (.cells #[.int .i64 0] 39 (0, 0)) ∧ ∃ F', GrAt G gs ins F' w' ∧ Mvd F F' w0 w' := by
  have hmf : ∀ (fn : Fn) (first cap : Array Value) (w : World), (Instr.makeFunc fn first cap).run Tryz.prog w = .ok (.func fn first cap) w := fun _ _ _ _ => rfl
  have hbA : Below w.heap.size w (w.alloc (.cells #[.nilIface] 35)) := (Below.refl _ _).alloc (Nat.le_refl _) _
  have hZ : (w.alloc (.cells #[.nilIface] 35)).heap[w.heap.size]? = some (.cells #[.nilIface] 35 (0, 0)) := heap_alloc_new w (.cells #[.nilIface] 35)
  have hcap' := (hcap.keep (Mvd.of_below (F := F) hbA) hnc).1
  have HC := of1_throw (h.below hbA) hl s hs o n c ls (hv.move (Mvd.of_below hbA)) hn hH et st eq sq (cell_keep hbA he) (cell_keep hbA hsh) bm bo bl bu bt hcap' hnc hask hval
  have hE1 := cell_keep hbA hsh
  have hFl := h.2.2.1
  have hu1 : bu < w.heap.size := (Array.getElem?_eq_some_iff.1 hcap.u).1
  have ht1 : bt < w.heap.size := (Array.getElem?_eq_some_iff.1 hcap.t).1
  have hnE : ¬ F w.heap.size := fun hf => by have := hFl _ hf; omega
  have hm1 := hm0.trans (Mvd.of_below (F := F) hbA)
  obtain ⟨wa, hwa⟩ : ∃ wa, wa = w.alloc (.cells #[.nilIface] 35) := ⟨_, rfl⟩
  rw [← hwa] at HC hZ hE1 hbA hcap' hm1
  have hc0 := hm0.size
  have HC' : Hid (Calls Tryz.prog 19 #[.pointer (some ⟨bm, 0, none⟩), .pointer (some ⟨bo, 0, none⟩), .pointer (some ⟨bl, 0, none⟩), .pointer (some ⟨bu, 0, none⟩), .pointer (some ⟨bt, 0, none⟩)] wa fun e w' => ThrewS e ∧ ∃ F', GrAt G gs ins F' w' ∧ Mvd F F' wa w') := HC
  have HWA : Hid (w.alloc (.cells #[.nilIface] 35) = wa) := hwa.symm
  have HZ : Hid (wa.heap[w.heap.size]? = some (.cells #[.nilIface] 35 (0, 0))) := hZ
  have HE1 : Hid (wa.cell? ⟨1, 0, none⟩ = some (.iface st sq)) := hE1
  have HN : Hid (bu < w.heap.size ∧ bt < w.heap.size ∧ w0.heap.size ≤ bu ∧ w0.heap.size ≤ bt ∧ w0.heap.size ≤ w.heap.size) := ⟨hu1, ht1, hlo.1, hlo.2, hc0⟩
  have HnE : Hid (¬ F w.heap.size) := hnE
  have HNC : Hid (¬ F bu ∧ ¬ F bt) := ⟨hnc.2.2.2.1, hnc.2.2.2.2⟩
  have HSF : Hid (¬ F 1) := hgF
  have HM1 : Hid (Mvd F F w0 wa) := hm1
  have HCA : Hid (Caps wa G bm bo bl bu bt s (.slice o n c) (.slice none 0 0) (.int .i64 0)) := hcap'
  clear h hm0 hl hs hv hn hH he hsh hcap hnc hlo hval hask hgF hbA hZ hcap' HC hE1 hFl hu1 ht1 hnE hm1 hwa hc0
  go_enter_defers Tryz.func18, Tryz.ntmps18
  go_wp2_with fail
  rw [HWA.out]
  refine HC'.out.mono ?_
  rintro e w1 ⟨ht, F', g1, m1⟩
  · unfold ThrewS at ht
    subst ht
    have hne := HN.out
    have hrE := m1.rowKept HZ.out HnE.out
    have hr := hrE.1
    have hrU := (m1.rowKept HCA.out.u HNC.out.1).1
    have hrT := (m1.rowKept HCA.out.t HNC.out.2).1
    have c1 : w1.cell? ⟨w.heap.size, 0, none⟩ = some .nilIface := by rw [cell_of_row _ _ 0 _ _ (0, 0) hr]; rfl
    have f1 : w1.frozen? ⟨w.heap.size, 0, none⟩ = false := frozen_row hr
    have e1 := (m1.cell HE1.out HSF.out).1
    have hlw : w.heap.size < w1.heap.size := cell_blk c1
    have HG2 : Hid (GrAt G gs ins F' w1) := g1
    have HM2 : Hid (Mvd F F' w0 w1) := HM1.out.trans m1
    have HnE2 : Hid (¬ F' w.heap.size) := hrE.2
    have HRU : Hid (w1.heap[bu]? = _) := hrU
    have HRT : Hid (w1.heap[bt]? = _) := hrT
    have HE : Hid (w1.cell? ⟨1, 0, none⟩ = some (.iface st sq)) := e1
    clear g1 m1 hrE hr hrU hrT e1
    go_wp2
    refine leaves_cons (f := 33) (args := #[.pointer (some ⟨w.heap.size, 0, none⟩)]) (by simp) (by simp [go_sem]) ?_
    refine (wcatch_wrong w.heap.size .nilIface (.iface st sq) [] _ c1 f1 HE.out ⟨st, sq, rfl⟩).mono ?_
    rintro e u' w'' ⟨rfl, rfl, o, rfl⟩
    have eE : ∀ k, k ≠ w.heap.size → k < w1.heap.size → ((w1.setCell ⟨w.heap.size, 0, none⟩ (.iface st sq)).alloc o).heap[k]? = w1.heap[k]? := fun k hk hl => by
      rw [Below.heap_alloc _ _ _ (by rw [size_setCell]; exact hl), Below.heap_setCell _ ⟨w.heap.size, 0, none⟩ _ _ hk]
    refine ⟨.iface st sq, ?_, ⟨rfl, (eE bu (by omega) (by omega)).trans HRU.out, (eE bt (by omega) (by omega)).trans HRT.out, F', (HG2.out.set HnE2.out _ _).below ((Below.refl _ _).alloc (Nat.le_refl _) _), (HM2.out.set hne.2.2.2.2 _).alloc _⟩⟩
    simp [results, Tryz.results18, go_sem, c1, hlw]
set_option maxRecDepth 100000 in
set_option maxHeartbeats 2000000 in
theorem of_throw {G : Nat} {gs : List (Int × Int)} {ins : Nat} {F : Nat → Prop} {w : World} (h : GrAt G gs ins F w) (hl : gs.length < 89000) (s : ByteArray) (hs : s.size ≤ maxLen) (o : Option Addr) (n c : Nat) (ls : List (List Int)) (hv : WordsAt F w (.slice o n c) ls) (hn : n = ls.length) (hH : ∀ l ∈ ls, ∀ x ∈ l, HasL gs x) (et st : TypeId) (eq sq : Value) (he : w.cell? ⟨0, 0, none⟩ = some (.iface et eq)) (hsh : w.cell? ⟨1, 0, none⟩ = some (.iface st sq))
    (hgF : ¬ F 1) (hask : askB s.data.toList ls = true) (hval : ∀ F1 w1, GrAt G gs ins F1 w1 → WordsAt F1 w1 (.slice o n c) ls → Calls Tryz.prog 21 #[.agg #[.pointer (some ⟨G, 0, none⟩)], .string s, .slice o n c] w1 (ThrP w1)) :
    Calls Tryz.prog 8 #[.pointer (some ⟨G, 0, none⟩), .string s, .slice o n c] w fun e w' => e = .returned (.tuple #[.slice none 0 0, .int .i64 0, .iface st sq]) ∧ ∃ F', GrAt G gs ins F' w' ∧ Mvd F F' w w' := by
  have hmf : ∀ (fn : Fn) (first cap : Array Value) (w : World), (Instr.makeFunc fn first cap).run Tryz.prog w = .ok (.func fn first cap) w := fun _ _ _ _ => rfl
  obtain ⟨w5, hw5⟩ : ∃ w5, w5 = ((((w.alloc (.cells #[.string s] 9)).alloc (.cells #[.slice o n c] 32)).alloc (.cells #[.slice none 0 0] 38)).alloc (.cells #[.int .i64 0] 39)).alloc (.cells #[.pointer (some ⟨G, 0, none⟩)] 60) := ⟨_, rfl⟩
  have hb5 : Below w.heap.size w w5 := by
    rw [hw5]
    exact (((((Below.refl _ _).alloc (Nat.le_refl _) _).alloc (by simp <;> omega) _).alloc (by simp <;> omega) _).alloc (by simp <;> omega) _).alloc (by simp <;> omega) _
  have r0 : w5.heap[w.heap.size]? = some (.cells #[.string s] 9 (0, 0)) := by
    rw [hw5]; exact alloc_row _ (alloc_row _ (alloc_row _ (alloc_row _ (heap_alloc_new _ _))))
  have r1 : w5.heap[w.heap.size + 1]? = some (.cells #[.slice o n c] 32 (0, 0)) := by
    have h := heap_alloc_new (w.alloc (.cells #[.string s] 9)) (.cells #[.slice o n c] 32)
    have e : (w.alloc (.cells #[.string s] 9)).heap.size = w.heap.size + 1 := by simp
    rw [e] at h
    rw [hw5]; exact alloc_row _ (alloc_row _ (alloc_row _ h))
  have r2 : w5.heap[w.heap.size + 1 + 1]? = some (.cells #[.slice none 0 0] 38 (0, 0)) := by
    have h := heap_alloc_new ((w.alloc (.cells #[.string s] 9)).alloc (.cells #[.slice o n c] 32)) (.cells #[.slice none 0 0] 38)
    have e : ((w.alloc (.cells #[.string s] 9)).alloc (.cells #[.slice o n c] 32)).heap.size = w.heap.size + 1 + 1 := by simp
    rw [e] at h
    rw [hw5]; exact alloc_row _ (alloc_row _ h)
  have r3 : w5.heap[w.heap.size + 1 + 1 + 1]? = some (.cells #[.int .i64 0] 39 (0, 0)) := by
    have h := heap_alloc_new (((w.alloc (.cells #[.string s] 9)).alloc (.cells #[.slice o n c] 32)).alloc (.cells #[.slice none 0 0] 38)) (.cells #[.int .i64 0] 39)
    have e : (((w.alloc (.cells #[.string s] 9)).alloc (.cells #[.slice o n c] 32)).alloc (.cells #[.slice none 0 0] 38)).heap.size = w.heap.size + 1 + 1 + 1 := by simp
    rw [e] at h
    rw [hw5]; exact alloc_row _ h
  have r4 : w5.heap[w.heap.size + 1 + 1 + 1 + 1]? = some (.cells #[.pointer (some ⟨G, 0, none⟩)] 60 (0, 0)) := by
    have h := heap_alloc_new ((((w.alloc (.cells #[.string s] 9)).alloc (.cells #[.slice o n c] 32)).alloc (.cells #[.slice none 0 0] 38)).alloc (.cells #[.int .i64 0] 39)) (.cells #[.pointer (some ⟨G, 0, none⟩)] 60)
    have e : ((((w.alloc (.cells #[.string s] 9)).alloc (.cells #[.slice o n c] 32)).alloc (.cells #[.slice none 0 0] 38)).alloc (.cells #[.int .i64 0] 39)).heap.size = w.heap.size + 1 + 1 + 1 + 1 := by simp
    rw [e] at h
    rw [hw5]; exact h
  have hF := h.2.2.1
  have hnF : ∀ k, w.heap.size ≤ k → ¬ F k := fun k hk hf => by have := hF _ hf; omega
  have HC := wcaught_throw (w0 := w) (h.below hb5) (Mvd.of_below hb5) hl s hs o n c ls (hv.move (Mvd.of_below hb5)) hn hH et st eq sq (cell_keep hb5 he) (cell_keep hb5 hsh) (w.heap.size + 1 + 1 + 1 + 1) w.heap.size (w.heap.size + 1) (w.heap.size + 1 + 1) (w.heap.size + 1 + 1 + 1) ⟨r4, r0, r1, r2, r3⟩ ⟨hnF _ (by omega), hnF _ (by omega), hnF _ (by omega), hnF _ (by omega), hnF _ (by omega)⟩ ⟨by omega, by omega⟩ hgF hask hval
  have HW5 : Hid (((((w.alloc (.cells #[.string s] 9)).alloc (.cells #[.slice o n c] 32)).alloc (.cells #[.slice none 0 0] 38)).alloc (.cells #[.int .i64 0] 39)).alloc (.cells #[.pointer (some ⟨G, 0, none⟩)] 60) = w5) := hw5.symm
  clear h hl hs hv hn hH he hsh hval hask hgF r0 r1 r2 r3 r4 hF hnF hb5 hw5
  go_enter Tryz.func8, Tryz.ntmps8
  go_wp2_with fail
  rw [HW5.out]
  refine HC.mono ?_
  clear HC HW5
  rintro e w6 ⟨rfl, hu, ht, F', hg, hm⟩
  · have u0 : w6.cell? ⟨w.heap.size + 1 + 1, 0, none⟩ = some (.slice none 0 0) := by rw [cell_of_row _ _ 0 _ _ (0, 0) hu]; rfl
    have uf : w6.frozen? ⟨w.heap.size + 1 + 1, 0, none⟩ = false := frozen_row hu
    have t0 : w6.cell? ⟨w.heap.size + 1 + 1 + 1, 0, none⟩ = some (.int .i64 0) := by rw [cell_of_row _ _ 0 _ _ (0, 0) ht]; rfl
    have tf0 : w6.frozen? ⟨w.heap.size + 1 + 1 + 1, 0, none⟩ = false := frozen_row ht
    have s1 := setCell_same hu
    have s2 := setCell_same ht
    have HP : Hid (GrAt G gs ins F' w6 ∧ Mvd F F' w w6) := ⟨hg, hm⟩
    clear hu ht hg hm
    go_wp2
    go_region
    all_goals go_wp2
    all_goals refine bodyPost_ret (v := .tuple #[.slice none 0 0, .int .i64 0, .iface st sq]) ?_ rfl ?_
    · simp [results, Tryz.results8, go_sem, u0, t0]
    · exact ⟨rfl, F', HP.out.1.drewR, HP.out.2.drewR⟩
end Go.Proofs.YtpiglmaojonbnaaGreatDoor
