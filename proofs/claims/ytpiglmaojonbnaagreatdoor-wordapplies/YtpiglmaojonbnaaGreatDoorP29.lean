/-
  package word: value of the operators that make a bool, BY CONTRACT.
-/
import Derived.Test.YtpiglmaojonbnaaGreatDoorP28
import Derived.Test.YtpiglmaojonbnaaGreatDoorP20
namespace Go.Proofs.YtpiglmaojonbnaaGreatDoor
open Go.RowKit Go.Maps

theorem Mvd.undrewN {F F' : Nat → Prop} {w w' : World} {q : Nat} (h : Mvd F F' (w.drewN q) w') : Mvd F F' w w' := ⟨h.os, h.tape, h.output, h.size, h.block, h.more⟩
theorem TruP.undrewN {G : Nat} {gs : List (Int × Int)} {ins K : Nat} {f : List Bool → Bool} {F : Nat → Prop} {w : World} {q : Nat} {e : Ending} {w' : World} (h : TruP G gs ins K f F (w.drewN q) e w') : TruP G gs ins K f F w e w' := by
  obtain ⟨x, gs', F', h1, h2, h3, h4⟩ := h
  exact ⟨x, gs', F', h1, h2, h3.undrewN, h4⟩
theorem valP_one {G : Nat} {gs : List (Int × Int)} {ins K : Nat} {f : List Bool → Bool} {F F' : Nat → Prop} {w w1 w' : World} {x : Int} {gs' : List (Int × Int)} (hm : Mvd F F w w1) (g : GrAt G gs' ins F' w') (m : Mvd F F' w1 w') (d : Mad gs gs' K x f) :
    ValP G gs ins K 1 (fun g => g = fun inp _ => f inp) (fun _ => false) F w (.returned (.tuple #[.slice (some ⟨w'.heap.size, 0, none⟩) 1 1, .int .i64 0])) (w'.alloc (.cells #[.int .i64 x] 39)) := by
  have hb : Below w'.heap.size w' (w'.alloc (.cells #[.int .i64 x] 39)) := (Below.refl _ _).alloc (Nat.le_refl _) _
  refine ⟨w'.heap.size, [x], 0, gs', F', rfl, rfl, (hm.trans m).size, heap_alloc_new _ _, fun hf => by have := g.2.2.1 _ hf; omega, g.below hb, (hm.trans m).trans (Mvd.of_below hb), ⟨_, rfl, ⟨d.ext, d.len, fun z hz => ?_, fun inp i z hz => ?_⟩⟩, HasL.zero _, fun inp => val_zero _ _⟩
  · obtain rfl : z = x := by simpa using hz
    exact d.has
  · match i, hz with
    | 0, hz =>
      obtain rfl : x = z := by simpa using hz
      exact d.val inp
    | i + 1, hz => simp at hz
set_option maxRecDepth 100000 in
set_option maxHeartbeats 4000000 in
theorem value_ne {G : Nat} {gs : List (Int × Int)} {ins : Nat} {F : Nat → Prop} {w : World} (h : GrAt G gs ins F w) (o : Option Addr) (n c : Nat) (hl : gs.length + 4 * n < 87000) (a b : List Int) (hv : WordsAt F w (.slice o 2 c) [a, b]) (han : a.length = n) (hbn : b.length = n) (ha : ∀ x ∈ a, HasL gs x) (hb : ∀ x ∈ b, HasL gs x) :
    Calls Tryz.prog 21 #[.agg #[.pointer (some ⟨G, 0, none⟩)], .string ⟨#[60, 62]⟩, .slice o 2 c] w (ValP G gs ins (4 * n) 1 (fun g => g = fun inp _ => orF (fun i => bitsL gs inp a i ^^ bitsL gs inp b i) n) (fun _ => false) F w) := by
  have hb1 : Below w.heap.size w (w.alloc (.cells #[.pointer (some ⟨G, 0, none⟩)] 60)) := (Below.refl _ _).alloc (Nat.le_refl _) _
  have hmv : Mvd F F w (w.alloc (.cells #[.pointer (some ⟨G, 0, none⟩)] 60)) := Mvd.of_below hb1
  obtain ⟨b0, f0, oa, ca, rfl, _, c0, hA⟩ := (hv.move hmv).get (k := 0) rfl
  obtain ⟨b0', f0', ob, cb, e, _, c1, hB⟩ := (hv.move hmv).get (k := 1) rfl
  obtain ⟨rfl, rfl⟩ : b0 = b0' ∧ f0 = f0' := by simpa using e
  have hgg := h.below hb1
  obtain ⟨w1, hw1⟩ : ∃ w1, w1 = w.alloc (.cells #[.pointer (some ⟨G, 0, none⟩)] 60) := ⟨_, rfl⟩
  have m1 : w1.cell? ⟨w.heap.size, 0, none⟩ = some (.pointer (some ⟨G, 0, none⟩)) := by rw [hw1]; simp
  rw [← hw1] at hmv c0 c1 hA hB hgg
  rw [han] at c0 hA
  rw [hbn] at c1 hB
  rw [Nat.add_zero] at c0
  have HT : Hid (∀ q, Calls Tryz.prog 45 #[.agg #[.pointer (some ⟨G, 0, none⟩)], .string ⟨#[60, 62]⟩, .slice oa n ca, .slice ob n cb] (w1.drewN q) (TruP G gs ins (4 * n) (fun inp => orF (fun i => bitsL gs inp a i ^^ bitsL gs inp b i) n) F w1)) := fun q =>
    (truth_ne (w := w1.drewN q) (F := F) (by exact hgg) _ _ n _ _ a b (by exact hA) (by exact hB) han hbn ha hb hl).mono fun e w' hp => hp.undrewN
  have HMV : Hid (Mvd F F w w1) := hmv
  have HW1 : Hid (w.alloc (.cells #[.pointer (some ⟨G, 0, none⟩)] 60) = w1) := hw1.symm
  clear h hl hv han hbn ha hb hb1 hmv hw1 hgg hA hB e
  go_enter Tryz.func21, Tryz.ntmps21
  go_wp2
  rw [HW1.out]
  clear HW1
  go_quiet (fail)
  go_wp2_with fail
  refine (HT.out nq).mono ?_
  rintro e w2 ⟨x, gs', F', rfl, h1, h2, h3⟩
  have HEND : Hid (ValP G gs ins (4 * n) 1 (fun g => g = fun inp _ => orF (fun i => bitsL gs inp a i ^^ bitsL gs inp b i) n) (fun _ => false) F w (.returned (.tuple #[.slice (some ⟨w2.heap.size, 0, none⟩) 1 1, .int .i64 0])) (w2.alloc (.cells #[.int .i64 x] 39))) := valP_one HMV.out h1 h2 h3
  clear h1 h2 h3 m1 c0 c1
  go_wp2
  go_ret2
  exact HEND.out
set_option maxRecDepth 100000 in
set_option maxHeartbeats 4000000 in
theorem value_eq {G : Nat} {gs : List (Int × Int)} {ins : Nat} {F : Nat → Prop} {w : World} (h : GrAt G gs ins F w) (o : Option Addr) (n c : Nat) (hl : gs.length + 4 * n < 87000) (a b : List Int) (hv : WordsAt F w (.slice o 2 c) [a, b]) (han : a.length = n) (hbn : b.length = n) (ha : ∀ x ∈ a, HasL gs x) (hb : ∀ x ∈ b, HasL gs x) :
    Calls Tryz.prog 21 #[.agg #[.pointer (some ⟨G, 0, none⟩)], .string ⟨#[61]⟩, .slice o 2 c] w (ValP G gs ins (4 * n) 1 (fun g => g = fun inp _ => !orF (fun i => bitsL gs inp a i ^^ bitsL gs inp b i) n) (fun _ => false) F w) := by
  have hb1 : Below w.heap.size w (w.alloc (.cells #[.pointer (some ⟨G, 0, none⟩)] 60)) := (Below.refl _ _).alloc (Nat.le_refl _) _
  have hmv : Mvd F F w (w.alloc (.cells #[.pointer (some ⟨G, 0, none⟩)] 60)) := Mvd.of_below hb1
  obtain ⟨b0, f0, oa, ca, rfl, _, c0, hA⟩ := (hv.move hmv).get (k := 0) rfl
  obtain ⟨b0', f0', ob, cb, e, _, c1, hB⟩ := (hv.move hmv).get (k := 1) rfl
  obtain ⟨rfl, rfl⟩ : b0 = b0' ∧ f0 = f0' := by simpa using e
  have hgg := h.below hb1
  obtain ⟨w1, hw1⟩ : ∃ w1, w1 = w.alloc (.cells #[.pointer (some ⟨G, 0, none⟩)] 60) := ⟨_, rfl⟩
  have m1 : w1.cell? ⟨w.heap.size, 0, none⟩ = some (.pointer (some ⟨G, 0, none⟩)) := by rw [hw1]; simp
  rw [← hw1] at hmv c0 c1 hA hB hgg
  rw [han] at c0 hA
  rw [hbn] at c1 hB
  rw [Nat.add_zero] at c0
  have HT : Hid (∀ q, Calls Tryz.prog 45 #[.agg #[.pointer (some ⟨G, 0, none⟩)], .string ⟨#[61]⟩, .slice oa n ca, .slice ob n cb] (w1.drewN q) (TruP G gs ins (4 * n) (fun inp => !orF (fun i => bitsL gs inp a i ^^ bitsL gs inp b i) n) F w1)) := fun q =>
    (truth_eq (w := w1.drewN q) (F := F) (by exact hgg) _ _ n _ _ a b (by exact hA) (by exact hB) han hbn ha hb hl).mono fun e w' hp => hp.undrewN
  have HMV : Hid (Mvd F F w w1) := hmv
  have HW1 : Hid (w.alloc (.cells #[.pointer (some ⟨G, 0, none⟩)] 60) = w1) := hw1.symm
  clear h hl hv han hbn ha hb hb1 hmv hw1 hgg hA hB e
  go_enter Tryz.func21, Tryz.ntmps21
  go_wp2
  rw [HW1.out]
  clear HW1
  go_quiet (fail)
  go_wp2_with fail
  refine (HT.out nq).mono ?_
  rintro e w2 ⟨x, gs', F', rfl, h1, h2, h3⟩
  have HEND : Hid (ValP G gs ins (4 * n) 1 (fun g => g = fun inp _ => !orF (fun i => bitsL gs inp a i ^^ bitsL gs inp b i) n) (fun _ => false) F w (.returned (.tuple #[.slice (some ⟨w2.heap.size, 0, none⟩) 1 1, .int .i64 0])) (w2.alloc (.cells #[.int .i64 x] 39))) := valP_one HMV.out h1 h2 h3
  clear h1 h2 h3 m1 c0 c1
  go_wp2
  go_ret2
  exact HEND.out
set_option maxRecDepth 100000 in
set_option maxHeartbeats 4000000 in
theorem value_lt {G : Nat} {gs : List (Int × Int)} {ins : Nat} {F : Nat → Prop} {w : World} (h : GrAt G gs ins F w) (o : Option Addr) (c : Nat) (hl : gs.length + 32 < 87000) (a b : List Int) (hv : WordsAt F w (.slice o 2 c) [a, b]) (han : a.length = 8) (hbn : b.length = 8) (ha : ∀ x ∈ a, HasL gs x) (hb : ∀ x ∈ b, HasL gs x) :
    Calls Tryz.prog 21 #[.agg #[.pointer (some ⟨G, 0, none⟩)], .string ⟨#[60]⟩, .slice o 2 c] w (ValP G gs ins (32) 1 (fun g => g = fun inp _ => lessB (bitsL gs inp a) (bitsL gs inp b)) (fun _ => false) F w) := by
  have hb1 : Below w.heap.size w (w.alloc (.cells #[.pointer (some ⟨G, 0, none⟩)] 60)) := (Below.refl _ _).alloc (Nat.le_refl _) _
  have hmv : Mvd F F w (w.alloc (.cells #[.pointer (some ⟨G, 0, none⟩)] 60)) := Mvd.of_below hb1
  obtain ⟨b0, f0, oa, ca, rfl, _, c0, hA⟩ := (hv.move hmv).get (k := 0) rfl
  obtain ⟨b0', f0', ob, cb, e, _, c1, hB⟩ := (hv.move hmv).get (k := 1) rfl
  obtain ⟨rfl, rfl⟩ : b0 = b0' ∧ f0 = f0' := by simpa using e
  have hgg := h.below hb1
  obtain ⟨w1, hw1⟩ : ∃ w1, w1 = w.alloc (.cells #[.pointer (some ⟨G, 0, none⟩)] 60) := ⟨_, rfl⟩
  have m1 : w1.cell? ⟨w.heap.size, 0, none⟩ = some (.pointer (some ⟨G, 0, none⟩)) := by rw [hw1]; simp
  rw [← hw1] at hmv c0 c1 hA hB hgg
  rw [han] at c0 hA
  rw [hbn] at c1 hB
  rw [Nat.add_zero] at c0
  have HT : Hid (∀ q, Calls Tryz.prog 45 #[.agg #[.pointer (some ⟨G, 0, none⟩)], .string ⟨#[60]⟩, .slice oa 8 ca, .slice ob 8 cb] (w1.drewN q) (TruP G gs ins (32) (fun inp => lessB (bitsL gs inp a) (bitsL gs inp b)) F w1)) := fun q =>
    (truth_lt (w := w1.drewN q) (F := F) (by exact hgg) _ _ _ _ a b (by exact hA) (by exact hB) han hbn ha hb hl).mono fun e w' hp => hp.undrewN
  have HMV : Hid (Mvd F F w w1) := hmv
  have HW1 : Hid (w.alloc (.cells #[.pointer (some ⟨G, 0, none⟩)] 60) = w1) := hw1.symm
  clear h hl hv han hbn ha hb hb1 hmv hw1 hgg hA hB e
  go_enter Tryz.func21, Tryz.ntmps21
  go_wp2
  rw [HW1.out]
  clear HW1
  go_quiet (fail)
  go_wp2_with fail
  refine (HT.out nq).mono ?_
  rintro e w2 ⟨x, gs', F', rfl, h1, h2, h3⟩
  have HEND : Hid (ValP G gs ins (32) 1 (fun g => g = fun inp _ => lessB (bitsL gs inp a) (bitsL gs inp b)) (fun _ => false) F w (.returned (.tuple #[.slice (some ⟨w2.heap.size, 0, none⟩) 1 1, .int .i64 0])) (w2.alloc (.cells #[.int .i64 x] 39))) := valP_one HMV.out h1 h2 h3
  clear h1 h2 h3 m1 c0 c1
  go_wp2
  go_ret2
  exact HEND.out
set_option maxRecDepth 100000 in
set_option maxHeartbeats 4000000 in
theorem value_gt {G : Nat} {gs : List (Int × Int)} {ins : Nat} {F : Nat → Prop} {w : World} (h : GrAt G gs ins F w) (o : Option Addr) (c : Nat) (hl : gs.length + 32 < 87000) (a b : List Int) (hv : WordsAt F w (.slice o 2 c) [a, b]) (han : a.length = 8) (hbn : b.length = 8) (ha : ∀ x ∈ a, HasL gs x) (hb : ∀ x ∈ b, HasL gs x) :
    Calls Tryz.prog 21 #[.agg #[.pointer (some ⟨G, 0, none⟩)], .string ⟨#[62]⟩, .slice o 2 c] w (ValP G gs ins (32) 1 (fun g => g = fun inp _ => lessB (bitsL gs inp b) (bitsL gs inp a)) (fun _ => false) F w) := by
  have hb1 : Below w.heap.size w (w.alloc (.cells #[.pointer (some ⟨G, 0, none⟩)] 60)) := (Below.refl _ _).alloc (Nat.le_refl _) _
  have hmv : Mvd F F w (w.alloc (.cells #[.pointer (some ⟨G, 0, none⟩)] 60)) := Mvd.of_below hb1
  obtain ⟨b0, f0, oa, ca, rfl, _, c0, hA⟩ := (hv.move hmv).get (k := 0) rfl
  obtain ⟨b0', f0', ob, cb, e, _, c1, hB⟩ := (hv.move hmv).get (k := 1) rfl
  obtain ⟨rfl, rfl⟩ : b0 = b0' ∧ f0 = f0' := by simpa using e
  have hgg := h.below hb1
  obtain ⟨w1, hw1⟩ : ∃ w1, w1 = w.alloc (.cells #[.pointer (some ⟨G, 0, none⟩)] 60) := ⟨_, rfl⟩
  have m1 : w1.cell? ⟨w.heap.size, 0, none⟩ = some (.pointer (some ⟨G, 0, none⟩)) := by rw [hw1]; simp
  rw [← hw1] at hmv c0 c1 hA hB hgg
  rw [han] at c0 hA
  rw [hbn] at c1 hB
  rw [Nat.add_zero] at c0
  have HT : Hid (∀ q, Calls Tryz.prog 45 #[.agg #[.pointer (some ⟨G, 0, none⟩)], .string ⟨#[62]⟩, .slice oa 8 ca, .slice ob 8 cb] (w1.drewN q) (TruP G gs ins (32) (fun inp => lessB (bitsL gs inp b) (bitsL gs inp a)) F w1)) := fun q =>
    (truth_gt (w := w1.drewN q) (F := F) (by exact hgg) _ _ _ _ a b (by exact hA) (by exact hB) han hbn ha hb hl).mono fun e w' hp => hp.undrewN
  have HMV : Hid (Mvd F F w w1) := hmv
  have HW1 : Hid (w.alloc (.cells #[.pointer (some ⟨G, 0, none⟩)] 60) = w1) := hw1.symm
  clear h hl hv han hbn ha hb hb1 hmv hw1 hgg hA hB e
  go_enter Tryz.func21, Tryz.ntmps21
  go_wp2
  rw [HW1.out]
  clear HW1
  go_quiet (fail)
  go_wp2_with fail
  refine (HT.out nq).mono ?_
  rintro e w2 ⟨x, gs', F', rfl, h1, h2, h3⟩
  have HEND : Hid (ValP G gs ins (32) 1 (fun g => g = fun inp _ => lessB (bitsL gs inp b) (bitsL gs inp a)) (fun _ => false) F w (.returned (.tuple #[.slice (some ⟨w2.heap.size, 0, none⟩) 1 1, .int .i64 0])) (w2.alloc (.cells #[.int .i64 x] 39))) := valP_one HMV.out h1 h2 h3
  clear h1 h2 h3 m1 c0 c1
  go_wp2
  go_ret2
  exact HEND.out
set_option maxRecDepth 100000 in
set_option maxHeartbeats 4000000 in
theorem value_le {G : Nat} {gs : List (Int × Int)} {ins : Nat} {F : Nat → Prop} {w : World} (h : GrAt G gs ins F w) (o : Option Addr) (c : Nat) (hl : gs.length + 32 < 87000) (a b : List Int) (hv : WordsAt F w (.slice o 2 c) [a, b]) (han : a.length = 8) (hbn : b.length = 8) (ha : ∀ x ∈ a, HasL gs x) (hb : ∀ x ∈ b, HasL gs x) :
    Calls Tryz.prog 21 #[.agg #[.pointer (some ⟨G, 0, none⟩)], .string ⟨#[60, 61]⟩, .slice o 2 c] w (ValP G gs ins (32) 1 (fun g => g = fun inp _ => !lessB (bitsL gs inp b) (bitsL gs inp a)) (fun _ => false) F w) := by
  have hb1 : Below w.heap.size w (w.alloc (.cells #[.pointer (some ⟨G, 0, none⟩)] 60)) := (Below.refl _ _).alloc (Nat.le_refl _) _
  have hmv : Mvd F F w (w.alloc (.cells #[.pointer (some ⟨G, 0, none⟩)] 60)) := Mvd.of_below hb1
  obtain ⟨b0, f0, oa, ca, rfl, _, c0, hA⟩ := (hv.move hmv).get (k := 0) rfl
  obtain ⟨b0', f0', ob, cb, e, _, c1, hB⟩ := (hv.move hmv).get (k := 1) rfl
  obtain ⟨rfl, rfl⟩ : b0 = b0' ∧ f0 = f0' := by simpa using e
  have hgg := h.below hb1
  obtain ⟨w1, hw1⟩ : ∃ w1, w1 = w.alloc (.cells #[.pointer (some ⟨G, 0, none⟩)] 60) := ⟨_, rfl⟩
  have m1 : w1.cell? ⟨w.heap.size, 0, none⟩ = some (.pointer (some ⟨G, 0, none⟩)) := by rw [hw1]; simp
  rw [← hw1] at hmv c0 c1 hA hB hgg
  rw [han] at c0 hA
  rw [hbn] at c1 hB
  rw [Nat.add_zero] at c0
  have HT : Hid (∀ q, Calls Tryz.prog 45 #[.agg #[.pointer (some ⟨G, 0, none⟩)], .string ⟨#[60, 61]⟩, .slice oa 8 ca, .slice ob 8 cb] (w1.drewN q) (TruP G gs ins (32) (fun inp => !lessB (bitsL gs inp b) (bitsL gs inp a)) F w1)) := fun q =>
    (truth_le (w := w1.drewN q) (F := F) (by exact hgg) _ _ _ _ a b (by exact hA) (by exact hB) han hbn ha hb hl).mono fun e w' hp => hp.undrewN
  have HMV : Hid (Mvd F F w w1) := hmv
  have HW1 : Hid (w.alloc (.cells #[.pointer (some ⟨G, 0, none⟩)] 60) = w1) := hw1.symm
  clear h hl hv han hbn ha hb hb1 hmv hw1 hgg hA hB e
  go_enter Tryz.func21, Tryz.ntmps21
  go_wp2
  rw [HW1.out]
  clear HW1
  go_quiet (fail)
  go_wp2_with fail
  refine (HT.out nq).mono ?_
  rintro e w2 ⟨x, gs', F', rfl, h1, h2, h3⟩
  have HEND : Hid (ValP G gs ins (32) 1 (fun g => g = fun inp _ => !lessB (bitsL gs inp b) (bitsL gs inp a)) (fun _ => false) F w (.returned (.tuple #[.slice (some ⟨w2.heap.size, 0, none⟩) 1 1, .int .i64 0])) (w2.alloc (.cells #[.int .i64 x] 39))) := valP_one HMV.out h1 h2 h3
  clear h1 h2 h3 m1 c0 c1
  go_wp2
  go_ret2
  exact HEND.out
set_option maxRecDepth 100000 in
set_option maxHeartbeats 4000000 in
theorem value_ge {G : Nat} {gs : List (Int × Int)} {ins : Nat} {F : Nat → Prop} {w : World} (h : GrAt G gs ins F w) (o : Option Addr) (c : Nat) (hl : gs.length + 32 < 87000) (a b : List Int) (hv : WordsAt F w (.slice o 2 c) [a, b]) (han : a.length = 8) (hbn : b.length = 8) (ha : ∀ x ∈ a, HasL gs x) (hb : ∀ x ∈ b, HasL gs x) :
    Calls Tryz.prog 21 #[.agg #[.pointer (some ⟨G, 0, none⟩)], .string ⟨#[62, 61]⟩, .slice o 2 c] w (ValP G gs ins (32) 1 (fun g => g = fun inp _ => !lessB (bitsL gs inp a) (bitsL gs inp b)) (fun _ => false) F w) := by
  have hb1 : Below w.heap.size w (w.alloc (.cells #[.pointer (some ⟨G, 0, none⟩)] 60)) := (Below.refl _ _).alloc (Nat.le_refl _) _
  have hmv : Mvd F F w (w.alloc (.cells #[.pointer (some ⟨G, 0, none⟩)] 60)) := Mvd.of_below hb1
  obtain ⟨b0, f0, oa, ca, rfl, _, c0, hA⟩ := (hv.move hmv).get (k := 0) rfl
  obtain ⟨b0', f0', ob, cb, e, _, c1, hB⟩ := (hv.move hmv).get (k := 1) rfl
  obtain ⟨rfl, rfl⟩ : b0 = b0' ∧ f0 = f0' := by simpa using e
  have hgg := h.below hb1
  obtain ⟨w1, hw1⟩ : ∃ w1, w1 = w.alloc (.cells #[.pointer (some ⟨G, 0, none⟩)] 60) := ⟨_, rfl⟩
  have m1 : w1.cell? ⟨w.heap.size, 0, none⟩ = some (.pointer (some ⟨G, 0, none⟩)) := by rw [hw1]; simp
  rw [← hw1] at hmv c0 c1 hA hB hgg
  rw [han] at c0 hA
  rw [hbn] at c1 hB
  rw [Nat.add_zero] at c0
  have HT : Hid (∀ q, Calls Tryz.prog 45 #[.agg #[.pointer (some ⟨G, 0, none⟩)], .string ⟨#[62, 61]⟩, .slice oa 8 ca, .slice ob 8 cb] (w1.drewN q) (TruP G gs ins (32) (fun inp => !lessB (bitsL gs inp a) (bitsL gs inp b)) F w1)) := fun q =>
    (truth_ge (w := w1.drewN q) (F := F) (by exact hgg) _ _ _ _ a b (by exact hA) (by exact hB) han hbn ha hb hl).mono fun e w' hp => hp.undrewN
  have HMV : Hid (Mvd F F w w1) := hmv
  have HW1 : Hid (w.alloc (.cells #[.pointer (some ⟨G, 0, none⟩)] 60) = w1) := hw1.symm
  clear h hl hv han hbn ha hb hb1 hmv hw1 hgg hA hB e
  go_enter Tryz.func21, Tryz.ntmps21
  go_wp2
  rw [HW1.out]
  clear HW1
  go_quiet (fail)
  go_wp2_with fail
  refine (HT.out nq).mono ?_
  rintro e w2 ⟨x, gs', F', rfl, h1, h2, h3⟩
  have HEND : Hid (ValP G gs ins (32) 1 (fun g => g = fun inp _ => !lessB (bitsL gs inp a) (bitsL gs inp b)) (fun _ => false) F w (.returned (.tuple #[.slice (some ⟨w2.heap.size, 0, none⟩) 1 1, .int .i64 0])) (w2.alloc (.cells #[.int .i64 x] 39))) := valP_one HMV.out h1 h2 h3
  clear h1 h2 h3 m1 c0 c1
  go_wp2
  go_ret2
  exact HEND.out
set_option maxRecDepth 100000 in
set_option maxHeartbeats 4000000 in
theorem value_and {G : Nat} {gs : List (Int × Int)} {ins : Nat} {F : Nat → Prop} {w : World} (h : GrAt G gs ins F w) (o : Option Addr) (c : Nat) (hl : gs.length + 1 < 87000) (a b : List Int) (hv : WordsAt F w (.slice o 2 c) [a, b]) (han : a.length = 1) (hbn : b.length = 1) (ha : ∀ x ∈ a, HasL gs x) (hb : ∀ x ∈ b, HasL gs x) :
    Calls Tryz.prog 21 #[.agg #[.pointer (some ⟨G, 0, none⟩)], .string ⟨#[97, 110, 100]⟩, .slice o 2 c] w (ValP G gs ins (1) 1 (fun g => g = fun inp _ => bitsL gs inp a 0 && bitsL gs inp b 0) (fun _ => false) F w) := by
  have hb1 : Below w.heap.size w (w.alloc (.cells #[.pointer (some ⟨G, 0, none⟩)] 60)) := (Below.refl _ _).alloc (Nat.le_refl _) _
  have hmv : Mvd F F w (w.alloc (.cells #[.pointer (some ⟨G, 0, none⟩)] 60)) := Mvd.of_below hb1
  obtain ⟨b0, f0, oa, ca, rfl, _, c0, hA⟩ := (hv.move hmv).get (k := 0) rfl
  obtain ⟨b0', f0', ob, cb, e, _, c1, hB⟩ := (hv.move hmv).get (k := 1) rfl
  obtain ⟨rfl, rfl⟩ : b0 = b0' ∧ f0 = f0' := by simpa using e
  have hgg := h.below hb1
  obtain ⟨w1, hw1⟩ : ∃ w1, w1 = w.alloc (.cells #[.pointer (some ⟨G, 0, none⟩)] 60) := ⟨_, rfl⟩
  have m1 : w1.cell? ⟨w.heap.size, 0, none⟩ = some (.pointer (some ⟨G, 0, none⟩)) := by rw [hw1]; simp
  rw [← hw1] at hmv c0 c1 hA hB hgg
  rw [han] at c0 hA
  rw [hbn] at c1 hB
  rw [Nat.add_zero] at c0
  have HT : Hid (∀ q, Calls Tryz.prog 45 #[.agg #[.pointer (some ⟨G, 0, none⟩)], .string ⟨#[97, 110, 100]⟩, .slice oa 1 ca, .slice ob 1 cb] (w1.drewN q) (TruP G gs ins (1) (fun inp => bitsL gs inp a 0 && bitsL gs inp b 0) F w1)) := fun q =>
    (truth_and (w := w1.drewN q) (F := F) (by exact hgg) _ _ _ _ a b (by exact hA) (by exact hB) han hbn ha hb hl).mono fun e w' hp => hp.undrewN
  have HMV : Hid (Mvd F F w w1) := hmv
  have HW1 : Hid (w.alloc (.cells #[.pointer (some ⟨G, 0, none⟩)] 60) = w1) := hw1.symm
  clear h hl hv han hbn ha hb hb1 hmv hw1 hgg hA hB e
  go_enter Tryz.func21, Tryz.ntmps21
  go_wp2
  rw [HW1.out]
  clear HW1
  go_quiet (fail)
  go_wp2_with fail
  refine (HT.out nq).mono ?_
  rintro e w2 ⟨x, gs', F', rfl, h1, h2, h3⟩
  have HEND : Hid (ValP G gs ins (1) 1 (fun g => g = fun inp _ => bitsL gs inp a 0 && bitsL gs inp b 0) (fun _ => false) F w (.returned (.tuple #[.slice (some ⟨w2.heap.size, 0, none⟩) 1 1, .int .i64 0])) (w2.alloc (.cells #[.int .i64 x] 39))) := valP_one HMV.out h1 h2 h3
  clear h1 h2 h3 m1 c0 c1
  go_wp2
  go_ret2
  exact HEND.out
set_option maxRecDepth 100000 in
set_option maxHeartbeats 4000000 in
theorem value_or {G : Nat} {gs : List (Int × Int)} {ins : Nat} {F : Nat → Prop} {w : World} (h : GrAt G gs ins F w) (o : Option Addr) (c : Nat) (hl : gs.length + 1 < 87000) (a b : List Int) (hv : WordsAt F w (.slice o 2 c) [a, b]) (han : a.length = 1) (hbn : b.length = 1) (ha : ∀ x ∈ a, HasL gs x) (hb : ∀ x ∈ b, HasL gs x) :
    Calls Tryz.prog 21 #[.agg #[.pointer (some ⟨G, 0, none⟩)], .string ⟨#[111, 114]⟩, .slice o 2 c] w (ValP G gs ins (1) 1 (fun g => g = fun inp _ => bitsL gs inp a 0 || bitsL gs inp b 0) (fun _ => false) F w) := by
  have hb1 : Below w.heap.size w (w.alloc (.cells #[.pointer (some ⟨G, 0, none⟩)] 60)) := (Below.refl _ _).alloc (Nat.le_refl _) _
  have hmv : Mvd F F w (w.alloc (.cells #[.pointer (some ⟨G, 0, none⟩)] 60)) := Mvd.of_below hb1
  obtain ⟨b0, f0, oa, ca, rfl, _, c0, hA⟩ := (hv.move hmv).get (k := 0) rfl
  obtain ⟨b0', f0', ob, cb, e, _, c1, hB⟩ := (hv.move hmv).get (k := 1) rfl
  obtain ⟨rfl, rfl⟩ : b0 = b0' ∧ f0 = f0' := by simpa using e
  have hgg := h.below hb1
  obtain ⟨w1, hw1⟩ : ∃ w1, w1 = w.alloc (.cells #[.pointer (some ⟨G, 0, none⟩)] 60) := ⟨_, rfl⟩
  have m1 : w1.cell? ⟨w.heap.size, 0, none⟩ = some (.pointer (some ⟨G, 0, none⟩)) := by rw [hw1]; simp
  rw [← hw1] at hmv c0 c1 hA hB hgg
  rw [han] at c0 hA
  rw [hbn] at c1 hB
  rw [Nat.add_zero] at c0
  have HT : Hid (∀ q, Calls Tryz.prog 45 #[.agg #[.pointer (some ⟨G, 0, none⟩)], .string ⟨#[111, 114]⟩, .slice oa 1 ca, .slice ob 1 cb] (w1.drewN q) (TruP G gs ins (1) (fun inp => bitsL gs inp a 0 || bitsL gs inp b 0) F w1)) := fun q =>
    (truth_or (w := w1.drewN q) (F := F) (by exact hgg) _ _ _ _ a b (by exact hA) (by exact hB) han hbn ha hb hl).mono fun e w' hp => hp.undrewN
  have HMV : Hid (Mvd F F w w1) := hmv
  have HW1 : Hid (w.alloc (.cells #[.pointer (some ⟨G, 0, none⟩)] 60) = w1) := hw1.symm
  clear h hl hv han hbn ha hb hb1 hmv hw1 hgg hA hB e
  go_enter Tryz.func21, Tryz.ntmps21
  go_wp2
  rw [HW1.out]
  clear HW1
  go_quiet (fail)
  go_wp2_with fail
  refine (HT.out nq).mono ?_
  rintro e w2 ⟨x, gs', F', rfl, h1, h2, h3⟩
  have HEND : Hid (ValP G gs ins (1) 1 (fun g => g = fun inp _ => bitsL gs inp a 0 || bitsL gs inp b 0) (fun _ => false) F w (.returned (.tuple #[.slice (some ⟨w2.heap.size, 0, none⟩) 1 1, .int .i64 0])) (w2.alloc (.cells #[.int .i64 x] 39))) := valP_one HMV.out h1 h2 h3
  clear h1 h2 h3 m1 c0 c1
  go_wp2
  go_ret2
  exact HEND.out
set_option maxRecDepth 100000 in
set_option maxHeartbeats 4000000 in
theorem value_xor {G : Nat} {gs : List (Int × Int)} {ins : Nat} {F : Nat → Prop} {w : World} (h : GrAt G gs ins F w) (o : Option Addr) (c : Nat) (hl : gs.length + 3 < 87000) (a b : List Int) (hv : WordsAt F w (.slice o 2 c) [a, b]) (han : a.length = 1) (hbn : b.length = 1) (ha : ∀ x ∈ a, HasL gs x) (hb : ∀ x ∈ b, HasL gs x) :
    Calls Tryz.prog 21 #[.agg #[.pointer (some ⟨G, 0, none⟩)], .string ⟨#[120, 111, 114]⟩, .slice o 2 c] w (ValP G gs ins (3) 1 (fun g => g = fun inp _ => bitsL gs inp a 0 ^^ bitsL gs inp b 0) (fun _ => false) F w) := by
  have hb1 : Below w.heap.size w (w.alloc (.cells #[.pointer (some ⟨G, 0, none⟩)] 60)) := (Below.refl _ _).alloc (Nat.le_refl _) _
  have hmv : Mvd F F w (w.alloc (.cells #[.pointer (some ⟨G, 0, none⟩)] 60)) := Mvd.of_below hb1
  obtain ⟨b0, f0, oa, ca, rfl, _, c0, hA⟩ := (hv.move hmv).get (k := 0) rfl
  obtain ⟨b0', f0', ob, cb, e, _, c1, hB⟩ := (hv.move hmv).get (k := 1) rfl
  obtain ⟨rfl, rfl⟩ : b0 = b0' ∧ f0 = f0' := by simpa using e
  have hgg := h.below hb1
  obtain ⟨w1, hw1⟩ : ∃ w1, w1 = w.alloc (.cells #[.pointer (some ⟨G, 0, none⟩)] 60) := ⟨_, rfl⟩
  have m1 : w1.cell? ⟨w.heap.size, 0, none⟩ = some (.pointer (some ⟨G, 0, none⟩)) := by rw [hw1]; simp
  rw [← hw1] at hmv c0 c1 hA hB hgg
  rw [han] at c0 hA
  rw [hbn] at c1 hB
  rw [Nat.add_zero] at c0
  have HT : Hid (∀ q, Calls Tryz.prog 45 #[.agg #[.pointer (some ⟨G, 0, none⟩)], .string ⟨#[120, 111, 114]⟩, .slice oa 1 ca, .slice ob 1 cb] (w1.drewN q) (TruP G gs ins (3) (fun inp => bitsL gs inp a 0 ^^ bitsL gs inp b 0) F w1)) := fun q =>
    (truth_xor (w := w1.drewN q) (F := F) (by exact hgg) _ _ _ _ a b (by exact hA) (by exact hB) han hbn ha hb hl).mono fun e w' hp => hp.undrewN
  have HMV : Hid (Mvd F F w w1) := hmv
  have HW1 : Hid (w.alloc (.cells #[.pointer (some ⟨G, 0, none⟩)] 60) = w1) := hw1.symm
  clear h hl hv han hbn ha hb hb1 hmv hw1 hgg hA hB e
  go_enter Tryz.func21, Tryz.ntmps21
  go_wp2
  rw [HW1.out]
  clear HW1
  go_quiet (fail)
  go_wp2_with fail
  refine (HT.out nq).mono ?_
  rintro e w2 ⟨x, gs', F', rfl, h1, h2, h3⟩
  have HEND : Hid (ValP G gs ins (3) 1 (fun g => g = fun inp _ => bitsL gs inp a 0 ^^ bitsL gs inp b 0) (fun _ => false) F w (.returned (.tuple #[.slice (some ⟨w2.heap.size, 0, none⟩) 1 1, .int .i64 0])) (w2.alloc (.cells #[.int .i64 x] 39))) := valP_one HMV.out h1 h2 h3
  clear h1 h2 h3 m1 c0 c1
  go_wp2
  go_ret2
  exact HEND.out
set_option maxRecDepth 100000 in
set_option maxHeartbeats 4000000 in
theorem value_imp {G : Nat} {gs : List (Int × Int)} {ins : Nat} {F : Nat → Prop} {w : World} (h : GrAt G gs ins F w) (o : Option Addr) (c : Nat) (hl : gs.length + 1 < 87000) (a b : List Int) (hv : WordsAt F w (.slice o 2 c) [a, b]) (han : a.length = 1) (hbn : b.length = 1) (ha : ∀ x ∈ a, HasL gs x) (hb : ∀ x ∈ b, HasL gs x) :
    Calls Tryz.prog 21 #[.agg #[.pointer (some ⟨G, 0, none⟩)], .string ⟨#[61, 62]⟩, .slice o 2 c] w (ValP G gs ins (1) 1 (fun g => g = fun inp _ => !bitsL gs inp a 0 || bitsL gs inp b 0) (fun _ => false) F w) := by
  have hb1 : Below w.heap.size w (w.alloc (.cells #[.pointer (some ⟨G, 0, none⟩)] 60)) := (Below.refl _ _).alloc (Nat.le_refl _) _
  have hmv : Mvd F F w (w.alloc (.cells #[.pointer (some ⟨G, 0, none⟩)] 60)) := Mvd.of_below hb1
  obtain ⟨b0, f0, oa, ca, rfl, _, c0, hA⟩ := (hv.move hmv).get (k := 0) rfl
  obtain ⟨b0', f0', ob, cb, e, _, c1, hB⟩ := (hv.move hmv).get (k := 1) rfl
  obtain ⟨rfl, rfl⟩ : b0 = b0' ∧ f0 = f0' := by simpa using e
  have hgg := h.below hb1
  obtain ⟨w1, hw1⟩ : ∃ w1, w1 = w.alloc (.cells #[.pointer (some ⟨G, 0, none⟩)] 60) := ⟨_, rfl⟩
  have m1 : w1.cell? ⟨w.heap.size, 0, none⟩ = some (.pointer (some ⟨G, 0, none⟩)) := by rw [hw1]; simp
  rw [← hw1] at hmv c0 c1 hA hB hgg
  rw [han] at c0 hA
  rw [hbn] at c1 hB
  rw [Nat.add_zero] at c0
  have HT : Hid (∀ q, Calls Tryz.prog 45 #[.agg #[.pointer (some ⟨G, 0, none⟩)], .string ⟨#[61, 62]⟩, .slice oa 1 ca, .slice ob 1 cb] (w1.drewN q) (TruP G gs ins (1) (fun inp => !bitsL gs inp a 0 || bitsL gs inp b 0) F w1)) := fun q =>
    (truth_imp (w := w1.drewN q) (F := F) (by exact hgg) _ _ _ _ a b (by exact hA) (by exact hB) han hbn ha hb hl).mono fun e w' hp => hp.undrewN
  have HMV : Hid (Mvd F F w w1) := hmv
  have HW1 : Hid (w.alloc (.cells #[.pointer (some ⟨G, 0, none⟩)] 60) = w1) := hw1.symm
  clear h hl hv han hbn ha hb hb1 hmv hw1 hgg hA hB e
  go_enter Tryz.func21, Tryz.ntmps21
  go_wp2
  rw [HW1.out]
  clear HW1
  go_quiet (fail)
  go_wp2_with fail
  refine (HT.out nq).mono ?_
  rintro e w2 ⟨x, gs', F', rfl, h1, h2, h3⟩
  have HEND : Hid (ValP G gs ins (1) 1 (fun g => g = fun inp _ => !bitsL gs inp a 0 || bitsL gs inp b 0) (fun _ => false) F w (.returned (.tuple #[.slice (some ⟨w2.heap.size, 0, none⟩) 1 1, .int .i64 0])) (w2.alloc (.cells #[.int .i64 x] 39))) := valP_one HMV.out h1 h2 h3
  clear h1 h2 h3 m1 c0 c1
  go_wp2
  go_ret2
  exact HEND.out
set_option maxRecDepth 100000 in
set_option maxHeartbeats 4000000 in
theorem value_not {G : Nat} {gs : List (Int × Int)} {ins : Nat} {F : Nat → Prop} {w : World} (h : GrAt G gs ins F w) (o : Option Addr) (c : Nat) (hl : gs.length + 0 < 87000) (a : List Int) (hv : WordsAt F w (.slice o 1 c) [a]) (han : a.length = 1) (ha : ∀ x ∈ a, HasL gs x) :
    Calls Tryz.prog 21 #[.agg #[.pointer (some ⟨G, 0, none⟩)], .string ⟨#[110, 111, 116]⟩, .slice o 1 c] w (ValP G gs ins (0) 1 (fun g => g = fun inp _ => !bitsL gs inp a 0) (fun _ => false) F w) := by
  have hb1 : Below w.heap.size w (w.alloc (.cells #[.pointer (some ⟨G, 0, none⟩)] 60)) := (Below.refl _ _).alloc (Nat.le_refl _) _
  have hmv : Mvd F F w (w.alloc (.cells #[.pointer (some ⟨G, 0, none⟩)] 60)) := Mvd.of_below hb1
  obtain ⟨b0, f0, oa, ca, rfl, _, c0, hA⟩ := (hv.move hmv).get (k := 0) rfl
  have hgg := h.below hb1
  obtain ⟨w1, hw1⟩ : ∃ w1, w1 = w.alloc (.cells #[.pointer (some ⟨G, 0, none⟩)] 60) := ⟨_, rfl⟩
  have m1 : w1.cell? ⟨w.heap.size, 0, none⟩ = some (.pointer (some ⟨G, 0, none⟩)) := by rw [hw1]; simp
  rw [← hw1] at hmv c0 hA hgg
  rw [han] at c0 hA
  rw [Nat.add_zero] at c0
  have HT : Hid (∀ q, Calls Tryz.prog 45 #[.agg #[.pointer (some ⟨G, 0, none⟩)], .string ⟨#[110, 111, 116]⟩, .slice oa 1 ca, .slice oa 1 ca] (w1.drewN q) (TruP G gs ins (0) (fun inp => !bitsL gs inp a 0) F w1)) := fun q =>
    (truth_not (w := w1.drewN q) (F := F) (by exact hgg) _ _ _ _ a a (by exact hA) (by exact hA) han han ha ha hl).mono fun e w' hp => hp.undrewN
  have HMV : Hid (Mvd F F w w1) := hmv
  have HW1 : Hid (w.alloc (.cells #[.pointer (some ⟨G, 0, none⟩)] 60) = w1) := hw1.symm
  clear h hl hv han ha hb1 hmv hw1 hgg hA
  go_enter Tryz.func21, Tryz.ntmps21
  go_wp2
  rw [HW1.out]
  clear HW1
  go_quiet (fail)
  go_wp2_with fail
  refine (HT.out nq).mono ?_
  rintro e w2 ⟨x, gs', F', rfl, h1, h2, h3⟩
  have HEND : Hid (ValP G gs ins (0) 1 (fun g => g = fun inp _ => !bitsL gs inp a 0) (fun _ => false) F w (.returned (.tuple #[.slice (some ⟨w2.heap.size, 0, none⟩) 1 1, .int .i64 0])) (w2.alloc (.cells #[.int .i64 x] 39))) := valP_one HMV.out h1 h2 h3
  clear h1 h2 h3 m1 c0
  go_wp2
  go_ret2
  exact HEND.out
end Go.Proofs.YtpiglmaojonbnaaGreatDoor
