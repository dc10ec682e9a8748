/-
  package graph: And BY CONTRACT.
-/
import Derived.Test.YtpiglmaojonbnaaGreatDoorP05
import Derived.Test.YtpiglmaojonbnaaGreatDoorP02
namespace Go.Proofs.YtpiglmaojonbnaaGreatDoor
open Go.RowKit Go.Maps

theorem ints_two (w : World) (a b : Int) : IntsAt (w.alloc (.cells #[.int .i64 a, .int .i64 b] 39)) (.slice (some ⟨w.heap.size, 0, none⟩) 2 2) [a, b] := by
  refine ⟨by unfold maxLen; simp, some ⟨w.heap.size, 0, none⟩, 2, rfl, fun k x hx => ⟨w.heap.size, 0, rfl, ?_⟩⟩
  rcases k with _ | _ | k
  · simp at hx; subst hx; simp
  · simp at hx; subst hx; simp
  · simp at hx
theorem has_pair {G : Nat} {gs : List (Int × Int)} {ins : Nat} {F : Nat → Prop} {w : World} (h : GrAt G gs ins F w) (hl : gs.length ≤ 90000) (a b : Int) (ha : I64 a) (hb : I64 b) (r : Bool) (hr : (hasB gs a && hasB gs b) = r) :
    Calls Tryz.prog 25 #[.pointer (some ⟨G, 0, none⟩), .slice (some ⟨w.heap.size, 0, none⟩) 2 2] (w.alloc (.cells #[.int .i64 a, .int .i64 b] 39)) fun e w' => e = .returned (.bool r) ∧ w' = w.alloc (.cells #[.int .i64 a, .int .i64 b] 39) := by
  have hb1 : Below w.heap.size w (w.alloc (.cells #[.int .i64 a, .int .i64 b] 39)) := (Below.refl _ _).alloc (Nat.le_refl _) _
  refine (has_any (h.below hb1) (by omega) _ [a, b] (ints_two w a b) (fun x hx => by simp at hx; rcases hx with rfl | rfl <;> assumption)).mono ?_
  rintro e w' ⟨rfl, rfl⟩
  exact ⟨by rw [← hr]; simp, rfl⟩
theorem has_two (gs : List (Int × Int)) (a b : Int) : ([a, b].all fun x => hasB gs x) = (hasB gs a && hasB gs b) := by simp

set_option maxRecDepth 100000 in
set_option maxHeartbeats 2000000 in
/-- What is none of the graph's. -/
theorem and_bad {G : Nat} {gs : List (Int × Int)} {ins : Nat} {F : Nat → Prop} {w : World} (h : GrAt G gs ins F w) (hl : gs.length ≤ 90000) (a b : Int) (ha : I64 a) (hb : I64 b) (hn : ¬ (HasL gs a ∧ HasL gs b)) (v : Value) (he : w.cell? ⟨1, 0, none⟩ = some v) :
    Calls Tryz.prog 56 #[.pointer (some ⟨G, 0, none⟩), .int .i64 a, .int .i64 b] w fun e w' => e = .returned (.tuple #[.int .i64 0, v]) ∧ Below w.heap.size w w' := by
  have hb1 : Below w.heap.size w (w.alloc (.cells #[.int .i64 a, .int .i64 b] 39)) := (Below.refl _ _).alloc (Nat.le_refl _) _
  have he1 := cell_keep hb1 he
  have hf : (hasB gs a && hasB gs b) = false := by
    rcases Classical.em (HasL gs a) with h1 | h1
    · have : ¬ HasL gs b := fun h2 => hn ⟨h1, h2⟩
      simp [hasB_f this]
    · simp [hasB_f h1]
  have HF : Hid ((hasB gs a && hasB gs b) = false) := hf
  have H0 : Hid (GrAt G gs ins F w) := h
  have HL : Hid (gs.length ≤ 90000) := hl
  clear h hn hl hf
  go_enter Tryz.func56, Tryz.ntmps56
  go_wp2_with fail
  refine (has_pair H0.out HL.out a b ha hb false HF.out).mono ?_
  rintro e w' ⟨rfl, hw⟩
  subst hw
  go_wp2
  go_region
  all_goals go_wp2
  all_goals go_ret2
  all_goals exact ⟨rfl, hb1.drew⟩

/-- Of a lesser literal and a greater one. -/
def andX (gs : List (Int × Int)) (x y : Int) : Int := if x = 0 ∨ x = turnL y then 0 else if x = 1 ∨ x = y then y else 2 * (gs.idxOf (x, y) : Int) + 2
def andY (gs : List (Int × Int)) (x y : Int) : List (Int × Int) := if x = 0 ∨ x = turnL y then gs else if x = 1 ∨ x = y then gs else if (x, y) ∈ gs then gs else gs ++ [(x, y)]
theorem below_drewM {B : Nat} {a w : World} (h : Below B a w) (n : Nat) : Below B a (w.drewN n) := ⟨h.os, h.tape, h.output, h.size, h.block⟩
theorem off_iff {x y : Int} (h : x ≤ y) : (x = 0 ∨ x = turnL y) ↔ (x = 0 ∨ (y = x + 1 ∧ x % 2 = 0)) := by
  have := (turnL_eq y).2.2
  omega
theorem andX_eq (gs : List (Int × Int)) (a b : Int) : andX gs (min a b) (max a b) = andL gs a b := by
  have h := off_iff (x := min a b) (y := max a b) (by omega)
  unfold andX andL offB oneB
  simp only [h, Bool.or_eq_true, Bool.and_eq_true, decide_eq_true_eq]
theorem andY_eq (gs : List (Int × Int)) (a b : Int) : andY gs (min a b) (max a b) = andG gs a b := by
  have h := off_iff (x := min a b) (y := max a b) (by omega)
  unfold andY andG offB oneB
  simp only [h, Bool.or_eq_true, Bool.and_eq_true, decide_eq_true_eq]

set_option maxRecDepth 100000 in
set_option maxHeartbeats 2000000 in
theorem and_lt {G : Nat} {gs : List (Int × Int)} {ins : Nat} {F : Nat → Prop} {w : World} (h : GrAt G gs ins F w) (hl : gs.length < 90000) (a b : Int) (ha : HasL gs a) (hb : HasL gs b) (hX0 : 0 ≤ a) (hYI : I64 b) (hab : a < b) :
    Calls Tryz.prog 56 #[.pointer (some ⟨G, 0, none⟩), .int .i64 a, .int .i64 b] w fun e w' => e = .returned (.tuple #[.int .i64 (andX gs a b), .nilIface]) ∧ ∃ F', GrRaw G (andY gs a b) (andY gs a b) ins F' w' ∧ Mvd F F' w w' := by
  have hXI : I64 a := by unfold I64 at *; omega
  have HF : Hid ((hasB gs a && hasB gs b) = true) := by unfold Hid; simp [hasB_t ha, hasB_t hb]
  have hb2 : Below w.heap.size w ((w.alloc (.cells #[.int .i64 a, .int .i64 b] 39)).alloc (.cells #[.int .i64 a, .int .i64 b] 58)) := ((Below.refl _ _).alloc (Nat.le_refl _) _).alloc (by simp) _
  have H0 : Hid (GrAt G gs ins F w) := h
  have HL : Hid (gs.length < 90000) := hl
  have iA : I64 a := by unfold I64 at *; omega
  have iB : I64 b := by unfold I64 at *; omega
  obtain ⟨w2, hw2⟩ : ∃ w2, w2 = (w.alloc (.cells #[.int .i64 a, .int .i64 b] 39)).alloc (.cells #[.int .i64 a, .int .i64 b] 58) := ⟨_, rfl⟩
  have r2 : w2.heap[w.heap.size + 1]? = some (.cells #[.int .i64 a, .int .i64 b] 58 (0, 0)) := by
    rw [hw2]
    have := heap_alloc_new (w.alloc (.cells #[.int .i64 a, .int .i64 b] 39)) (.cells #[.int .i64 a, .int .i64 b] 58)
    rwa [World.size_alloc] at this
  have p0 := cell_of_row w2 (w.heap.size + 1) 0 _ _ (0, 0) r2
  have p1 := cell_of_row w2 (w.heap.size + 1) (0 + 1) _ _ (0, 0) r2
  rw [← hw2] at hb2
  have HW : Hid (w2 = (w.alloc (.cells #[.int .i64 a, .int .i64 b] 39)).alloc (.cells #[.int .i64 a, .int .i64 b] 58)) := hw2
  have h2 : GrAt G gs ins F w2 := h.below hb2
  have HB2 : Hid (Below w.heap.size w w2) := hb2
  have H2 : Hid (GrAt G gs ins F w2) := h2
  clear h h2 hl ha hb hw2 r2 hb2
  go_enter Tryz.func56, Tryz.ntmps56
  go_wp2_with fail
  refine (has_pair H0.out (Nat.le_of_lt HL.out) a b iA iB true HF.out).mono ?_
  rintro e w' ⟨rfl, hw⟩
  subst hw
  go_wp2
  rw [← HW.out]
  clear HW
  by_cases hx0 : a = 0
  · have E1 : Hid (andX gs a b = 0) := by unfold Hid andX; rw [if_pos (.inl hx0)]
    have E2 : Hid (andY gs a b = gs) := by unfold Hid andY; rw [if_pos (.inl hx0)]
    have d0 : (a == 0) = true := beq_iff_eq.2 hx0
    clear hx0
    go_quiet (fail)
    go_wp2
    go_ret2
    rw [E2.out]
    exact ⟨by rw [E1.out]; rfl, F, H2.out.2, Mvd.of_below (below_drewM HB2.out _)⟩
  · have d0 : (a == 0) = false := beq_eq_false_iff_ne.2 hx0
    have HX0 : Hid (¬ a = 0) := hx0
    clear hx0
    by_cases hxt : a = turnL b
    · have E1 : Hid (andX gs a b = 0) := by unfold Hid andX; rw [if_pos (.inr hxt)]
      have E2 : Hid (andY gs a b = gs) := by unfold Hid andY; rw [if_pos (.inr hxt)]
      have dt : (a == turnL b) = true := beq_iff_eq.2 hxt
      clear hxt
      go_quiet ((go_at_call 60; exact Calls.quiet_of_same (not_any b _ hYI)))
      go_wp2
      go_ret2
      rw [E2.out]
      exact ⟨by rw [E1.out]; rfl, F, H2.out.2, Mvd.of_below (below_drewM HB2.out _)⟩
    · have dt : (a == turnL b) = false := beq_eq_false_iff_ne.2 hxt
      have HQ : Hid (¬ (a = 0 ∨ a = turnL b)) := not_or.2 ⟨HX0.out, hxt⟩
      clear hxt
      go_quiet ((go_at_call 60; exact Calls.quiet_of_same (not_any b _ hYI)))
      by_cases hx1 : a = 1 ∨ a = b
      · have E1 : Hid (andX gs a b = b) := by unfold Hid andX; rw [if_neg HQ.out, if_pos hx1]
        have E2 : Hid (andY gs a b = gs) := by unfold Hid andY; rw [if_neg HQ.out, if_pos hx1]
        by_cases hx11 : a = 1
        · have d1 : (a == 1) = true := beq_iff_eq.2 hx11
          clear hx1 hx11
          go_wp2
          go_ret2
          rw [E2.out]
          exact ⟨by rw [E1.out]; rfl, F, H2.out.2, Mvd.of_below (below_drewM HB2.out _)⟩
        · have dy : (a == b) = true := beq_iff_eq.2 (hx1.resolve_left hx11)
          have d1 : (a == 1) = false := beq_eq_false_iff_ne.2 hx11
          clear hx1 hx11
          go_wp2
          go_ret2
          rw [E2.out]
          exact ⟨by rw [E1.out]; rfl, F, H2.out.2, Mvd.of_below (below_drewM HB2.out _)⟩
      · have d1 : (a == 1) = false := beq_eq_false_iff_ne.2 (fun h => hx1 (.inl h))
        have dy : (a == b) = false := beq_eq_false_iff_ne.2 (fun h => hx1 (.inr h))
        have hp : (a, b) ≠ (0, 0) := fun h => HX0.out (congrArg Prod.fst h)
        have HR : Hid (¬ (a = 1 ∨ a = b)) := hx1
        clear hx1
        by_cases hm : (a, b) ∈ gs
        · have E1 : Hid (andX gs a b = 2 * (gs.idxOf (a, b) : Int) + 2) := by unfold Hid andX; rw [if_neg HQ.out, if_neg HR.out]
          have E2 : Hid (andY gs a b = gs) := by unfold Hid andY; rw [if_neg HQ.out, if_neg HR.out, if_pos hm]
          have HM : Hid ((a, b) ∈ gs) := hm
          have HP : Hid ((a, b) ≠ (0, 0)) := hp
          clear hm hp
          go_wp2_with fail
          refine (gate_old (w := w2.drewN _) H2.out a b hXI hYI HP.out HM.out).mono ?_
          rintro e w3 ⟨rfl, hb3⟩
          go_wp2
          go_ret2
          rw [E2.out]
          have hm3 := (Mvd.of_below (F := F) (below_drewM HB2.out _)).trans (Mvd.of_below hb3)
          exact ⟨by rw [E1.out]; rfl, F, (GrAt.below (w := w2.drewN _) H2.out hb3).2, hm3⟩
        · have E1 : Hid (andX gs a b = 2 * (gs.length : Int) + 2) := by unfold Hid andX; rw [if_neg HQ.out, if_neg HR.out, idx_out hm]
          have E2 : Hid (andY gs a b = gs ++ [(a, b)]) := by unfold Hid andY; rw [if_neg HQ.out, if_neg HR.out, if_neg hm]
          have HM : Hid ((a, b) ∉ gs) := hm
          have HP : Hid ((a, b) ≠ (0, 0)) := hp
          clear hm hp
          go_wp2_with fail
          refine (gate_new (w := w2.drewN _) H2.out HL.out a b hXI hYI HP.out HM.out).mono ?_
          rintro e w3 ⟨rfl, F3, hr3, hm3⟩
          have HE : Hid (∃ F', GrRaw G (gs ++ [(a, b)]) (gs ++ [(a, b)]) ins F' w3 ∧ Mvd F F' w w3) := ⟨F3, hr3, (Mvd.of_below (F := F) (below_drewM HB2.out _)).trans hm3⟩
          clear hr3 hm3
          go_wp2
          go_ret2
          rw [E2.out]
          exact ⟨by rw [E1.out]; rfl, HE.out⟩

set_option maxRecDepth 100000 in
set_option maxHeartbeats 2000000 in
theorem and_gt {G : Nat} {gs : List (Int × Int)} {ins : Nat} {F : Nat → Prop} {w : World} (h : GrAt G gs ins F w) (hl : gs.length < 90000) (a b : Int) (ha : HasL gs a) (hb : HasL gs b) (hX0 : 0 ≤ b) (hYI : I64 a) (hab : b < a) :
    Calls Tryz.prog 56 #[.pointer (some ⟨G, 0, none⟩), .int .i64 a, .int .i64 b] w fun e w' => e = .returned (.tuple #[.int .i64 (andX gs b a), .nilIface]) ∧ ∃ F', GrRaw G (andY gs b a) (andY gs b a) ins F' w' ∧ Mvd F F' w w' := by
  have hXI : I64 b := by unfold I64 at *; omega
  have HF : Hid ((hasB gs a && hasB gs b) = true) := by unfold Hid; simp [hasB_t ha, hasB_t hb]
  have hb2 : Below w.heap.size w ((w.alloc (.cells #[.int .i64 a, .int .i64 b] 39)).alloc (.cells #[.int .i64 b, .int .i64 a] 58)) := ((Below.refl _ _).alloc (Nat.le_refl _) _).alloc (by simp) _
  have H0 : Hid (GrAt G gs ins F w) := h
  have HL : Hid (gs.length < 90000) := hl
  have iA : I64 a := by unfold I64 at *; omega
  have iB : I64 b := by unfold I64 at *; omega
  obtain ⟨w2, hw2⟩ : ∃ w2, w2 = (w.alloc (.cells #[.int .i64 a, .int .i64 b] 39)).alloc (.cells #[.int .i64 b, .int .i64 a] 58) := ⟨_, rfl⟩
  have r2 : w2.heap[w.heap.size + 1]? = some (.cells #[.int .i64 b, .int .i64 a] 58 (0, 0)) := by
    rw [hw2]
    have := heap_alloc_new (w.alloc (.cells #[.int .i64 a, .int .i64 b] 39)) (.cells #[.int .i64 b, .int .i64 a] 58)
    rwa [World.size_alloc] at this
  have p0 := cell_of_row w2 (w.heap.size + 1) 0 _ _ (0, 0) r2
  have p1 := cell_of_row w2 (w.heap.size + 1) (0 + 1) _ _ (0, 0) r2
  rw [← hw2] at hb2
  have HW : Hid (w2 = (w.alloc (.cells #[.int .i64 a, .int .i64 b] 39)).alloc (.cells #[.int .i64 b, .int .i64 a] 58)) := hw2
  have h2 : GrAt G gs ins F w2 := h.below hb2
  have HB2 : Hid (Below w.heap.size w w2) := hb2
  have H2 : Hid (GrAt G gs ins F w2) := h2
  clear h h2 hl ha hb hw2 r2 hb2
  go_enter Tryz.func56, Tryz.ntmps56
  go_wp2_with fail
  refine (has_pair H0.out (Nat.le_of_lt HL.out) a b iA iB true HF.out).mono ?_
  rintro e w' ⟨rfl, hw⟩
  subst hw
  go_wp2
  rw [← HW.out]
  clear HW
  by_cases hx0 : b = 0
  · have E1 : Hid (andX gs b a = 0) := by unfold Hid andX; rw [if_pos (.inl hx0)]
    have E2 : Hid (andY gs b a = gs) := by unfold Hid andY; rw [if_pos (.inl hx0)]
    have d0 : (b == 0) = true := beq_iff_eq.2 hx0
    clear hx0
    go_quiet (fail)
    go_wp2
    go_ret2
    rw [E2.out]
    exact ⟨by rw [E1.out]; rfl, F, H2.out.2, Mvd.of_below (below_drewM HB2.out _)⟩
  · have d0 : (b == 0) = false := beq_eq_false_iff_ne.2 hx0
    have HX0 : Hid (¬ b = 0) := hx0
    clear hx0
    by_cases hxt : b = turnL a
    · have E1 : Hid (andX gs b a = 0) := by unfold Hid andX; rw [if_pos (.inr hxt)]
      have E2 : Hid (andY gs b a = gs) := by unfold Hid andY; rw [if_pos (.inr hxt)]
      have dt : (b == turnL a) = true := beq_iff_eq.2 hxt
      clear hxt
      go_quiet ((go_at_call 60; exact Calls.quiet_of_same (not_any a _ hYI)))
      go_wp2
      go_ret2
      rw [E2.out]
      exact ⟨by rw [E1.out]; rfl, F, H2.out.2, Mvd.of_below (below_drewM HB2.out _)⟩
    · have dt : (b == turnL a) = false := beq_eq_false_iff_ne.2 hxt
      have HQ : Hid (¬ (b = 0 ∨ b = turnL a)) := not_or.2 ⟨HX0.out, hxt⟩
      clear hxt
      go_quiet ((go_at_call 60; exact Calls.quiet_of_same (not_any a _ hYI)))
      by_cases hx1 : b = 1 ∨ b = a
      · have E1 : Hid (andX gs b a = a) := by unfold Hid andX; rw [if_neg HQ.out, if_pos hx1]
        have E2 : Hid (andY gs b a = gs) := by unfold Hid andY; rw [if_neg HQ.out, if_pos hx1]
        by_cases hx11 : b = 1
        · have d1 : (b == 1) = true := beq_iff_eq.2 hx11
          clear hx1 hx11
          go_wp2
          go_ret2
          rw [E2.out]
          exact ⟨by rw [E1.out]; rfl, F, H2.out.2, Mvd.of_below (below_drewM HB2.out _)⟩
        · have dy : (b == a) = true := beq_iff_eq.2 (hx1.resolve_left hx11)
          have d1 : (b == 1) = false := beq_eq_false_iff_ne.2 hx11
          clear hx1 hx11
          go_wp2
          go_ret2
          rw [E2.out]
          exact ⟨by rw [E1.out]; rfl, F, H2.out.2, Mvd.of_below (below_drewM HB2.out _)⟩
      · have d1 : (b == 1) = false := beq_eq_false_iff_ne.2 (fun h => hx1 (.inl h))
        have dy : (b == a) = false := beq_eq_false_iff_ne.2 (fun h => hx1 (.inr h))
        have hp : (b, a) ≠ (0, 0) := fun h => HX0.out (congrArg Prod.fst h)
        have HR : Hid (¬ (b = 1 ∨ b = a)) := hx1
        clear hx1
        by_cases hm : (b, a) ∈ gs
        · have E1 : Hid (andX gs b a = 2 * (gs.idxOf (b, a) : Int) + 2) := by unfold Hid andX; rw [if_neg HQ.out, if_neg HR.out]
          have E2 : Hid (andY gs b a = gs) := by unfold Hid andY; rw [if_neg HQ.out, if_neg HR.out, if_pos hm]
          have HM : Hid ((b, a) ∈ gs) := hm
          have HP : Hid ((b, a) ≠ (0, 0)) := hp
          clear hm hp
          go_wp2_with fail
          refine (gate_old (w := w2.drewN _) H2.out b a hXI hYI HP.out HM.out).mono ?_
          rintro e w3 ⟨rfl, hb3⟩
          go_wp2
          go_ret2
          rw [E2.out]
          have hm3 := (Mvd.of_below (F := F) (below_drewM HB2.out _)).trans (Mvd.of_below hb3)
          exact ⟨by rw [E1.out]; rfl, F, (GrAt.below (w := w2.drewN _) H2.out hb3).2, hm3⟩
        · have E1 : Hid (andX gs b a = 2 * (gs.length : Int) + 2) := by unfold Hid andX; rw [if_neg HQ.out, if_neg HR.out, idx_out hm]
          have E2 : Hid (andY gs b a = gs ++ [(b, a)]) := by unfold Hid andY; rw [if_neg HQ.out, if_neg HR.out, if_neg hm]
          have HM : Hid ((b, a) ∉ gs) := hm
          have HP : Hid ((b, a) ≠ (0, 0)) := hp
          clear hm hp
          go_wp2_with fail
          refine (gate_new (w := w2.drewN _) H2.out HL.out b a hXI hYI HP.out HM.out).mono ?_
          rintro e w3 ⟨rfl, F3, hr3, hm3⟩
          have HE : Hid (∃ F', GrRaw G (gs ++ [(b, a)]) (gs ++ [(b, a)]) ins F' w3 ∧ Mvd F F' w w3) := ⟨F3, hr3, (Mvd.of_below (F := F) (below_drewM HB2.out _)).trans hm3⟩
          clear hr3 hm3
          go_wp2
          go_ret2
          rw [E2.out]
          exact ⟨by rw [E1.out]; rfl, HE.out⟩

set_option maxRecDepth 100000 in
set_option maxHeartbeats 2000000 in
theorem and_eq {G : Nat} {gs : List (Int × Int)} {ins : Nat} {F : Nat → Prop} {w : World} (h : GrAt G gs ins F w) (hl : gs.length < 90000) (a : Int) (ha : HasL gs a) (_hX0 : 0 ≤ a) (hYI : I64 a) (_hab : a ≤ a) :
    Calls Tryz.prog 56 #[.pointer (some ⟨G, 0, none⟩), .int .i64 a, .int .i64 a] w fun e w' => e = .returned (.tuple #[.int .i64 (andX gs a a), .nilIface]) ∧ ∃ F', GrRaw G (andY gs a a) (andY gs a a) ins F' w' ∧ Mvd F F' w w' := by
  have hXI : I64 a := by unfold I64 at *; omega
  have HF : Hid ((hasB gs a && hasB gs a) = true) := by unfold Hid; simp [hasB_t ha]
  have hb2 : Below w.heap.size w ((w.alloc (.cells #[.int .i64 a, .int .i64 a] 39)).alloc (.cells #[.int .i64 a, .int .i64 a] 58)) := ((Below.refl _ _).alloc (Nat.le_refl _) _).alloc (by simp) _
  have H0 : Hid (GrAt G gs ins F w) := h
  have HL : Hid (gs.length < 90000) := hl
  have iA : I64 a := by unfold I64 at *; omega
  have iB : I64 a := by unfold I64 at *; omega
  obtain ⟨w2, hw2⟩ : ∃ w2, w2 = (w.alloc (.cells #[.int .i64 a, .int .i64 a] 39)).alloc (.cells #[.int .i64 a, .int .i64 a] 58) := ⟨_, rfl⟩
  have r2 : w2.heap[w.heap.size + 1]? = some (.cells #[.int .i64 a, .int .i64 a] 58 (0, 0)) := by
    rw [hw2]
    have := heap_alloc_new (w.alloc (.cells #[.int .i64 a, .int .i64 a] 39)) (.cells #[.int .i64 a, .int .i64 a] 58)
    rwa [World.size_alloc] at this
  have p0 := cell_of_row w2 (w.heap.size + 1) 0 _ _ (0, 0) r2
  have p1 := cell_of_row w2 (w.heap.size + 1) (0 + 1) _ _ (0, 0) r2
  rw [← hw2] at hb2
  have HW : Hid (w2 = (w.alloc (.cells #[.int .i64 a, .int .i64 a] 39)).alloc (.cells #[.int .i64 a, .int .i64 a] 58)) := hw2
  have h2 : GrAt G gs ins F w2 := h.below hb2
  have HB2 : Hid (Below w.heap.size w w2) := hb2
  have H2 : Hid (GrAt G gs ins F w2) := h2
  clear h h2 hl ha hw2 r2 hb2
  go_enter Tryz.func56, Tryz.ntmps56
  go_wp2_with fail
  refine (has_pair H0.out (Nat.le_of_lt HL.out) a a iA iB true HF.out).mono ?_
  rintro e w' ⟨rfl, hw⟩
  subst hw
  go_wp2
  rw [← HW.out]
  clear HW
  by_cases hx0 : a = 0
  · have E1 : Hid (andX gs a a = 0) := by unfold Hid andX; rw [if_pos (.inl hx0)]
    have E2 : Hid (andY gs a a = gs) := by unfold Hid andY; rw [if_pos (.inl hx0)]
    have d0 : (a == 0) = true := beq_iff_eq.2 hx0
    clear hx0
    go_quiet (fail)
    go_wp2
    go_ret2
    rw [E2.out]
    exact ⟨by rw [E1.out]; rfl, F, H2.out.2, Mvd.of_below (below_drewM HB2.out _)⟩
  · have d0 : (a == 0) = false := beq_eq_false_iff_ne.2 hx0
    have HX0 : Hid (¬ a = 0) := hx0
    clear hx0
    by_cases hxt : a = turnL a
    · have E1 : Hid (andX gs a a = 0) := by unfold Hid andX; rw [if_pos (.inr hxt)]
      have E2 : Hid (andY gs a a = gs) := by unfold Hid andY; rw [if_pos (.inr hxt)]
      have dt : (a == turnL a) = true := beq_iff_eq.2 hxt
      clear hxt
      go_quiet ((go_at_call 60; exact Calls.quiet_of_same (not_any a _ hYI)))
      go_wp2
      go_ret2
      rw [E2.out]
      exact ⟨by rw [E1.out]; rfl, F, H2.out.2, Mvd.of_below (below_drewM HB2.out _)⟩
    · have dt : (a == turnL a) = false := beq_eq_false_iff_ne.2 hxt
      have HQ : Hid (¬ (a = 0 ∨ a = turnL a)) := not_or.2 ⟨HX0.out, hxt⟩
      clear hxt
      go_quiet ((go_at_call 60; exact Calls.quiet_of_same (not_any a _ hYI)))
      by_cases hx1 : a = 1 ∨ a = a
      · have E1 : Hid (andX gs a a = a) := by unfold Hid andX; rw [if_neg HQ.out, if_pos hx1]
        have E2 : Hid (andY gs a a = gs) := by unfold Hid andY; rw [if_neg HQ.out, if_pos hx1]
        by_cases hx11 : a = 1
        · have d1 : (a == 1) = true := beq_iff_eq.2 hx11
          clear hx1 hx11
          go_wp2
          go_ret2
          rw [E2.out]
          exact ⟨by rw [E1.out]; rfl, F, H2.out.2, Mvd.of_below (below_drewM HB2.out _)⟩
        · have dy : (a == a) = true := beq_iff_eq.2 (hx1.resolve_left hx11)
          have d1 : (a == 1) = false := beq_eq_false_iff_ne.2 hx11
          clear hx1 hx11
          go_wp2
          go_ret2
          rw [E2.out]
          exact ⟨by rw [E1.out]; rfl, F, H2.out.2, Mvd.of_below (below_drewM HB2.out _)⟩
      · exact absurd (Or.inr rfl) hx1

theorem and_ok {G : Nat} {gs : List (Int × Int)} {ins : Nat} {F : Nat → Prop} {w : World} (h : GrAt G gs ins F w) (hl : gs.length < 90000) (a b : Int) (ha : HasL gs a) (hb : HasL gs b) :
    Calls Tryz.prog 56 #[.pointer (some ⟨G, 0, none⟩), .int .i64 a, .int .i64 b] w fun e w' => e = .returned (.tuple #[.int .i64 (andL gs a b), .nilIface]) ∧ ∃ F', GrAt G (andG gs a b) ins F' w' ∧ Mvd F F' w w' := by
  have ia : I64 a := by unfold HasL at ha; unfold I64; omega
  have ib : I64 b := by unfold HasL at hb; unfold I64; omega
  have hg := h.1.and ha hb
  rw [← andX_eq, ← andY_eq] at *
  rcases Int.lt_trichotomy a b with hab | hab | hab
  · rw [show min a b = a by omega, show max a b = b by omega] at *
    refine (and_lt h hl a b ha hb ha.1 ib hab).mono ?_
    rintro e w' ⟨rfl, F', h1, h2⟩
    exact ⟨rfl, F', ⟨hg, h1⟩, h2⟩
  · subst hab
    rw [show min a a = a by omega, show max a a = a by omega] at *
    refine (and_eq h hl a ha ha.1 ia (Int.le_refl _)).mono ?_
    rintro e w' ⟨rfl, F', h1, h2⟩
    exact ⟨rfl, F', ⟨hg, h1⟩, h2⟩
  · rw [show min a b = b by omega, show max a b = a by omega] at *
    refine (and_gt h hl a b ha hb hb.1 ia hab).mono ?_
    rintro e w' ⟨rfl, F', h1, h2⟩
    exact ⟨rfl, F', ⟨hg, h1⟩, h2⟩
end Go.Proofs.YtpiglmaojonbnaaGreatDoor
