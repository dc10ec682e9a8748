/-
  package word: value of + and * BY CONTRACT.
-/
import Derived.Test.YtpiglmaojonbnaaGreatDoorP18
import Derived.Test.YtpiglmaojonbnaaGreatDoorP19
namespace Go.Proofs.YtpiglmaojonbnaaGreatDoor
open Go.RowKit Go.Maps

theorem valP_of {G : Nat} {gs : List (Int × Int)} {ins K len : Nat} {f : List Bool → Nat → Bool} {F F' : Nat → Prop} {w w1 w' : World} {V : Nat} {out : List Int} {gs' : List (Int × Int)} (hm : Mvd F F w w1) (h1 : out.length = len) (h2 : w1.heap.size ≤ V) (h3 : w'.heap[V]? = some (.cells (rowI out) 39 (0, 0))) (h4 : ¬ F' V) (g : GrAt G gs' ins F' w') (m : Mvd F F' w1 w') (d : Mads gs gs' K out f) :
    ValP G gs ins K len (fun g => g = f) (fun _ => false) F w (.returned (.tuple #[.slice (some ⟨V, 0, none⟩) len len, .int .i64 0])) w' :=
  ⟨V, out, 0, gs', F', rfl, h1, by have := hm.size; omega, h3, h4, g, hm.trans m, ⟨f, rfl, d⟩, HasL.zero _, fun inp => val_zero _ _⟩
set_option maxRecDepth 100000 in
set_option maxHeartbeats 4000000 in
theorem value_plus {G : Nat} {gs : List (Int × Int)} {ins : Nat} {F : Nat → Prop} {w : World} (h : GrAt G gs ins F w) (hl : gs.length + 72 < 88000) (o : Option Addr) (c : Nat) (a b : List Int) (hv : WordsAt F w (.slice o 2 c) [a, b]) (ha8 : a.length = 8) (hb8 : b.length = 8) (ha : ∀ x ∈ a, HasL gs x) (hb : ∀ x ∈ b, HasL gs x) :
    Calls Tryz.prog 21 #[.agg #[.pointer (some ⟨G, 0, none⟩)], .string ⟨#[43]⟩, .slice o 2 c] w (ValP G gs ins 72 8 (fun g => g = fun inp => smB (bitsL gs inp a) (bitsL gs inp b) false) (fun _ => false) F w) := by
  have hb1 : Below w.heap.size w (w.alloc (.cells #[.pointer (some ⟨G, 0, none⟩)] 60)) := (Below.refl _ _).alloc (Nat.le_refl _) _
  have hmv : Mvd F F w (w.alloc (.cells #[.pointer (some ⟨G, 0, none⟩)] 60)) := Mvd.of_below hb1
  obtain ⟨b0, f0, oa, ca, rfl, _, c0, hA⟩ := (hv.move hmv).get (k := 0) rfl
  obtain ⟨b0', f0', ob, cb, e, _, c1, hB⟩ := (hv.move hmv).get (k := 1) rfl
  obtain ⟨rfl, rfl⟩ : b0 = b0' ∧ f0 = f0' := by simpa using e
  have hgg := h.below hb1
  obtain ⟨w1, hw1⟩ : ∃ w1, w1 = w.alloc (.cells #[.pointer (some ⟨G, 0, none⟩)] 60) := ⟨_, rfl⟩
  have m1 : w1.cell? ⟨w.heap.size, 0, none⟩ = some (.pointer (some ⟨G, 0, none⟩)) := by rw [hw1]; simp
  rw [← hw1] at hmv c0 c1 hA hB hgg
  rw [ha8] at c0 hA
  rw [hb8] at c1 hB
  rw [Nat.add_zero] at c0
  have HSUM : Hid (∀ q, Calls Tryz.prog 39 #[.agg #[.pointer (some ⟨G, 0, none⟩)], .slice oa 8 ca, .slice ob 8 cb, .int .i64 0] (w1.drewN q) fun e w' => ∃ V out c' gs' F', e = .returned (.tuple #[.slice (some ⟨V, 0, none⟩) 8 8, .int .i64 c']) ∧ out.length = 8 ∧ w1.heap.size ≤ V ∧ w'.heap[V]? = some (.cells (rowI out) 39 (0, 0)) ∧ ¬ F' V ∧ GrAt G gs' ins F' w' ∧ Mvd F F' w1 w' ∧ Mads gs gs' 72 out (fun inp => smB (bitsL gs inp a) (bitsL gs inp b) false)) := fun q => by
    have hs := sum_any (w := w1.drewN q) (F := F) (by exact hgg) _ _ a b (by exact hA) (by exact hB) (by rw [ha8, hb8]) ha hb 0 (HasL.zero _) (by rw [ha8]; omega)
    refine hs.mono ?_
    rw [ha8]
    rintro e w' ⟨V, out, c', gs', F', h1, h2, h3, h4, h5, h6, h7, h8, _, _⟩
    refine ⟨V, out, c', gs', F', h1, h2, h3, h4, h5, h6, ⟨h7.os, h7.tape, h7.output, h7.size, h7.block, h7.more⟩, h8.to (by omega) (fun inp i _ => by rw [val_zero])⟩
  have HMV : Hid (Mvd F F w w1) := hmv
  have HW1 : Hid (w.alloc (.cells #[.pointer (some ⟨G, 0, none⟩)] 60) = w1) := hw1.symm
  clear h hl hv ha8 hb8 ha hb hb1 hmv hw1 hgg hA hB e
  go_enter Tryz.func21, Tryz.ntmps21
  go_wp2
  rw [HW1.out]
  clear HW1
  go_quiet (fail)
  go_wp2_with fail
  refine (HSUM.out nq).mono ?_
  rintro e w2 ⟨V, out, c', gs', F', rfl, h1, h2, h3, h4, h5, h6, h7⟩
  have HEND : Hid (ValP G gs ins 72 8 (fun g => g = fun inp => smB (bitsL gs inp a) (bitsL gs inp b) false) (fun _ => false) F w (.returned (.tuple #[.slice (some ⟨V, 0, none⟩) 8 8, .int .i64 0])) w2) := valP_of HMV.out h1 h2 h3 h4 h5 h6 h7
  clear h1 h2 h3 h4 h5 h6 h7 m1 c0 c1
  go_wp2
  go_ret2
  exact HEND.out
set_option maxRecDepth 100000 in
set_option maxHeartbeats 4000000 in
theorem value_times {G : Nat} {gs : List (Int × Int)} {ins : Nat} {F : Nat → Prop} {w : World} (h : GrAt G gs ins F w) (hl : gs.length + 640 < 88000) (o : Option Addr) (c : Nat) (a b : List Int) (hv : WordsAt F w (.slice o 2 c) [a, b]) (ha8 : a.length = 8) (hb8 : b.length = 8) (ha : ∀ x ∈ a, HasL gs x) (hb : ∀ x ∈ b, HasL gs x) :
    Calls Tryz.prog 21 #[.agg #[.pointer (some ⟨G, 0, none⟩)], .string ⟨#[42]⟩, .slice o 2 c] w (ValP G gs ins 640 8 (fun g => g = fun inp => prodB (bitsL gs inp a) (bitsL gs inp b) 8) (fun _ => false) F w) := by
  have hb1 : Below w.heap.size w (w.alloc (.cells #[.pointer (some ⟨G, 0, none⟩)] 60)) := (Below.refl _ _).alloc (Nat.le_refl _) _
  have hmv : Mvd F F w (w.alloc (.cells #[.pointer (some ⟨G, 0, none⟩)] 60)) := Mvd.of_below hb1
  obtain ⟨b0, f0, oa, ca, rfl, _, c0, hA⟩ := (hv.move hmv).get (k := 0) rfl
  obtain ⟨b0', f0', ob, cb, e, _, c1, hB⟩ := (hv.move hmv).get (k := 1) rfl
  obtain ⟨rfl, rfl⟩ : b0 = b0' ∧ f0 = f0' := by simpa using e
  have hgg := h.below hb1
  obtain ⟨w1, hw1⟩ : ∃ w1, w1 = w.alloc (.cells #[.pointer (some ⟨G, 0, none⟩)] 60) := ⟨_, rfl⟩
  have m1 : w1.cell? ⟨w.heap.size, 0, none⟩ = some (.pointer (some ⟨G, 0, none⟩)) := by rw [hw1]; simp
  rw [← hw1] at hmv c0 c1 hA hB hgg
  rw [ha8] at c0 hA
  rw [hb8] at c1 hB
  rw [Nat.add_zero] at c0
  have HSUM : Hid (∀ q, Calls Tryz.prog 41 #[.agg #[.pointer (some ⟨G, 0, none⟩)], .slice oa 8 ca, .slice ob 8 cb] (w1.drewN q) fun e w' => ∃ V out gs' F', e = .returned (.slice (some ⟨V, 0, none⟩) 8 8) ∧ out.length = 8 ∧ w1.heap.size ≤ V ∧ w'.heap[V]? = some (.cells (rowI out) 39 (0, 0)) ∧ ¬ F' V ∧ GrAt G gs' ins F' w' ∧ Mvd F F' w1 w' ∧ Mads gs gs' 640 out (fun inp => prodB (bitsL gs inp a) (bitsL gs inp b) 8)) := fun q => by
    have hs := product_any (w := w1.drewN q) (F := F) (by exact hgg) oa ob ca cb a b (by exact hA) (by exact hB) ha8 hb8 ha hb hl
    refine hs.mono ?_
    rintro e w' ⟨V, out, gs', F', h1, h2, h3, h4, h5, h6, h7, h8⟩
    exact ⟨V, out, gs', F', h1, h2, h3, h4, h5, h6, ⟨h7.os, h7.tape, h7.output, h7.size, h7.block, h7.more⟩, h8⟩
  have HMV : Hid (Mvd F F w w1) := hmv
  have HW1 : Hid (w.alloc (.cells #[.pointer (some ⟨G, 0, none⟩)] 60) = w1) := hw1.symm
  clear h hl hv ha8 hb8 ha hb hb1 hmv hw1 hgg hA hB e
  go_enter Tryz.func21, Tryz.ntmps21
  go_wp2
  rw [HW1.out]
  clear HW1
  go_quiet (fail)
  go_wp2_with fail
  refine (HSUM.out nq).mono ?_
  rintro e w2 ⟨V, out, gs', F', rfl, h1, h2, h3, h4, h5, h6, h7⟩
  have HEND : Hid (ValP G gs ins 640 8 (fun g => g = fun inp => prodB (bitsL gs inp a) (bitsL gs inp b) 8) (fun _ => false) F w (.returned (.tuple #[.slice (some ⟨V, 0, none⟩) 8 8, .int .i64 0])) w2) := valP_of HMV.out h1 h2 h3 h4 h5 h6 h7
  clear h1 h2 h3 h4 h5 h6 h7 m1 c0 c1
  go_wp2
  go_ret2
  exact HEND.out
end Go.Proofs.YtpiglmaojonbnaaGreatDoor
