/-
  package graph: Or, either, Xor, If, Input, Parts BY CONTRACT.
-/
import Derived.Test.YtpiglmaojonbnaaDoorP09
import Derived.Test.YtpiglmaojonbnaaDoorP03
import Derived.Deep.RegionLaw
namespace Go.Proofs.YtpiglmaojonbnaaDoor
open Go.RowKit Go.Maps

theorem HasL.i64 {gs : List (Int × Int)} {a : Int} (h : HasL gs a) (hl : gs.length ≤ 90010) : I64 a := by unfold HasL at h; unfold I64; omega
theorem I64.turn {a : Int} (h : I64 a) : I64 (turnL a) := by
  have := (turnL_eq a).2.2
  unfold I64 at *
  omega

set_option maxRecDepth 100000 in
theorem or_bad {G : Nat} {gs : List (Int × Int)} {ins : Nat} {F : Nat → Prop} {w : World} (h : GrAt G gs ins F w) (hl : gs.length ≤ 90000) (a b : Int) (ha : I64 a) (hb : I64 b) (hn : ¬ (HasL gs a ∧ HasL gs b)) (t : TypeId) (p : Value) (he : w.cell? ⟨1, 0, none⟩ = some (.iface t p)) :
    Calls Tryd.prog 64 #[.pointer (some ⟨G, 0, none⟩), .int .i64 a, .int .i64 b] w fun e w' => e = .returned (.tuple #[.int .i64 0, .iface t p]) ∧ Below w.heap.size w w' := by
  have H0 : Hid (GrAt G gs ins F w) := h
  have HL : Hid (gs.length ≤ 90000) := hl
  have HN : Hid (¬ (HasL gs (turnL a) ∧ HasL gs (turnL b))) := fun h => hn ⟨HasL.turn_iff.1 h.1, HasL.turn_iff.1 h.2⟩
  clear h hl hn
  go_enter Tryd.func64, Tryd.ntmps64
  go_wp2_with (first
    | (go_at_call 45; refine (not_any _ _ (by assumption)).mono ?_; rintro e w' ⟨rfl, rfl⟩)
    | (go_at_call 41; refine (and_bad H0.out HL.out _ _ ha.turn hb.turn HN.out _ he).mono ?_; rintro e w' ⟨rfl, hb1⟩))
  go_ret2
  exact ⟨rfl, hb1⟩
set_option maxRecDepth 100000 in
theorem or_ok {G : Nat} {gs : List (Int × Int)} {ins : Nat} {F : Nat → Prop} {w : World} (h : GrAt G gs ins F w) (hl : gs.length < 90000) (a b : Int) (ha : HasL gs a) (hb : HasL gs b) :
    Calls Tryd.prog 64 #[.pointer (some ⟨G, 0, none⟩), .int .i64 a, .int .i64 b] w fun e w' => e = .returned (.tuple #[.int .i64 (orL gs a b), .nilIface]) ∧ ∃ F', GrAt G (orG gs a b) ins F' w' ∧ Mvd F F' w w' := by
  have H0 : Hid (GrAt G gs ins F w) := h
  have HL : Hid (gs.length < 90000) := hl
  have ia := ha.i64 (by omega)
  have ib := hb.i64 (by omega)
  have HA : Hid (HasL gs (turnL a)) := ha.turn
  have HB : Hid (HasL gs (turnL b)) := hb.turn
  have ix : I64 (andL gs (turnL a) (turnL b)) := (andL_has ha.turn hb.turn).i64 (by have := (andG_length gs (turnL a) (turnL b)).2; omega)
  clear h hl ha hb
  unfold orL orG
  go_enter Tryd.func64, Tryd.ntmps64
  go_wp2_with (first
    | (go_at_call 45; refine (not_any _ _ (by assumption)).mono ?_; rintro e w' ⟨rfl, rfl⟩)
    | (go_at_call 41; refine (and_ok H0.out HL.out _ _ HA.out HB.out).mono ?_; rintro e w' ⟨rfl, hE⟩))
  go_ret2
  exact ⟨rfl, hE⟩

theorem ints_four (w : World) (a b c d : Int) : IntsAt (w.alloc (.cells #[.int .i64 a, .int .i64 b, .int .i64 c, .int .i64 d] 34)) (.slice (some ⟨w.heap.size, 0, none⟩) 4 4) [a, b, c, d] := by
  refine ⟨by unfold maxLen; simp, some ⟨w.heap.size, 0, none⟩, 4, rfl, fun k x hx => ⟨w.heap.size, 0, rfl, ?_⟩⟩
  rcases k with _ | _ | _ | _ | k
  · simp at hx; subst hx; simp
  · simp at hx; subst hx; simp
  · simp at hx; subst hx; simp
  · simp at hx; subst hx; simp
  · simp at hx
theorem has_four {G : Nat} {gs : List (Int × Int)} {ins : Nat} {F : Nat → Prop} {w : World} (h : GrAt G gs ins F w) (hl : gs.length ≤ 90000) (a b c d : Int) (ha : I64 a) (hb : I64 b) (hc : I64 c) (hd : I64 d) (r : Bool) (hr : (hasB gs a && (hasB gs b && (hasB gs c && hasB gs d))) = r) :
    Calls Tryd.prog 60 #[.pointer (some ⟨G, 0, none⟩), .slice (some ⟨w.heap.size, 0, none⟩) 4 4] (w.alloc (.cells #[.int .i64 a, .int .i64 b, .int .i64 c, .int .i64 d] 34)) fun e w' => e = .returned (.bool r) ∧ w' = w.alloc (.cells #[.int .i64 a, .int .i64 b, .int .i64 c, .int .i64 d] 34) := by
  have hb1 : Below w.heap.size w (w.alloc (.cells #[.int .i64 a, .int .i64 b, .int .i64 c, .int .i64 d] 34)) := (Below.refl _ _).alloc (Nat.le_refl _) _
  refine (has_any (h.below hb1) (by omega) _ [a, b, c, d] (ints_four w a b c d) (fun x hx => by simp at hx; rcases hx with rfl | rfl | rfl | rfl <;> assumption)).mono ?_
  rintro e w' ⟨rfl, rfl⟩
  exact ⟨by rw [← hr]; simp, rfl⟩
set_option maxRecDepth 100000 in
theorem either_bad {G : Nat} {gs : List (Int × Int)} {ins : Nat} {F : Nat → Prop} {w : World} (h : GrAt G gs ins F w) (hl : gs.length ≤ 90000) (a b c d : Int) (ha : I64 a) (hb : I64 b) (hc : I64 c) (hd : I64 d) (hn : ¬ (HasL gs a ∧ HasL gs b ∧ HasL gs c ∧ HasL gs d)) (t : TypeId) (p : Value) (he : w.cell? ⟨1, 0, none⟩ = some (.iface t p)) :
    Calls Tryd.prog 62 #[.pointer (some ⟨G, 0, none⟩), .int .i64 a, .int .i64 b, .int .i64 c, .int .i64 d] w fun e w' => e = .returned (.tuple #[.int .i64 0, .iface t p]) ∧ Below w.heap.size w w' := by
  have hb1 : Below w.heap.size w (w.alloc (.cells #[.int .i64 a, .int .i64 b, .int .i64 c, .int .i64 d] 34)) := (Below.refl _ _).alloc (Nat.le_refl _) _
  have he1 := cell_keep hb1 he
  have HF : Hid ((hasB gs a && (hasB gs b && (hasB gs c && hasB gs d))) = false) := by
    unfold Hid
    cases hx : (hasB gs a && (hasB gs b && (hasB gs c && hasB gs d)))
    · rfl
    · simp only [Bool.and_eq_true, hasB_iff] at hx
      exact absurd hx hn
  have H0 : Hid (GrAt G gs ins F w) := h
  have HL : Hid (gs.length ≤ 90000) := hl
  clear h hl hn
  go_enter Tryd.func62, Tryd.ntmps62
  go_wp2_with fail
  refine (has_four H0.out HL.out a b c d ha hb hc hd false HF.out).mono ?_
  rintro e w' ⟨rfl, hw⟩
  subst hw
  go_wp2
  go_region
  all_goals go_wp2
  all_goals go_ret2
  all_goals exact ⟨rfl, hb1.drew⟩
set_option maxRecDepth 100000 in
set_option maxHeartbeats 1000000 in
theorem either_ok {G : Nat} {gs : List (Int × Int)} {ins : Nat} {F : Nat → Prop} {w : World} (h : GrAt G gs ins F w) (hl : gs.length < 89990) (a b c d : Int) (ha : HasL gs a) (hb : HasL gs b) (hc : HasL gs c) (hd : HasL gs d) :
    Calls Tryd.prog 62 #[.pointer (some ⟨G, 0, none⟩), .int .i64 a, .int .i64 b, .int .i64 c, .int .i64 d] w fun e w' => e = .returned (.tuple #[.int .i64 (eitherL gs a b c d), .nilIface]) ∧ ∃ F', GrAt G (eitherG gs a b c d) ins F' w' ∧ Mvd F F' w w' := by
  have hb1 : Below w.heap.size w (w.alloc (.cells #[.int .i64 a, .int .i64 b, .int .i64 c, .int .i64 d] 34)) := (Below.refl _ _).alloc (Nat.le_refl _) _
  have HF : Hid ((hasB gs a && (hasB gs b && (hasB gs c && hasB gs d))) = true) := by unfold Hid; simp [hasB_t ha, hasB_t hb, hasB_t hc, hasB_t hd]
  have H0 : Hid (GrAt G gs ins F w) := h
  have H1 : Hid (GrAt G gs ins F (w.alloc (.cells #[.int .i64 a, .int .i64 b, .int .i64 c, .int .i64 d] 34))) := h.below hb1
  have l1 := andG_length gs a b
  have l2 := andG_length (andG gs a b) c d
  have HL : Hid (gs.length ≤ 90000) := Nat.le_trans (Nat.le_of_lt hl) (by omega)
  have L0 : Hid (gs.length < 90000) := Nat.lt_of_lt_of_le hl (by omega)
  have L1 : Hid ((andG gs a b).length < 90000) := by unfold Hid; omega
  have L2 : Hid ((andG (andG gs a b) c d).length < 90000) := by unfold Hid; omega
  have ia := ha.i64 (by omega)
  have ib := hb.i64 (by omega)
  have ic := hc.i64 (by omega)
  have id := hd.i64 (by omega)
  have HA : Hid (HasL gs a) := ha
  have HB : Hid (HasL gs b) := hb
  have HC : Hid (HasL (andG gs a b) c) := hc.mono l1.1
  have HD : Hid (HasL (andG gs a b) d) := hd.mono l1.1
  have HX : Hid (HasL (andG (andG gs a b) c d) (andL gs a b)) := (andL_has ha hb).mono l2.1
  have HY : Hid (HasL (andG (andG gs a b) c d) (andL (andG gs a b) c d)) := andL_has (hc.mono l1.1) (hd.mono l1.1)
  clear h hl ha hb hc hd l1 l2
  unfold eitherL eitherG
  go_enter Tryd.func62, Tryd.ntmps62
  go_wp2_with fail
  refine (has_four H0.out HL.out a b c d ia ib ic id true HF.out).mono ?_
  rintro e w' ⟨rfl, hw⟩
  subst hw
  go_wp2_with fail
  refine (and_ok H1.out L0.out a b HA.out HB.out).mono ?_
  rintro e w1 ⟨rfl, F1, h1, m1⟩
  have G1 : Hid (GrAt _ _ _ _ _) := h1
  have M1 : Hid (Mvd _ _ _ _) := m1
  clear h1 m1
  go_wp2_with fail
  refine (and_ok G1.out L1.out c d HC.out HD.out).mono ?_
  rintro e w2 ⟨rfl, F2, h2, m2⟩
  have G2 : Hid (GrAt _ _ _ _ _) := h2
  have M2 : Hid (Mvd _ _ _ _) := m2
  clear h2 m2
  go_wp2_with fail
  refine (or_ok G2.out L2.out _ _ HX.out HY.out).mono ?_
  rintro e w3 ⟨rfl, F3, h3, m3⟩
  have G3 : Hid (GrAt _ _ _ _ _) := h3
  have M3 : Hid (Mvd _ _ _ _) := m3
  clear h3 m3
  go_wp2
  go_ret2
  exact ⟨rfl, F3, G3.out, (((Mvd.of_below hb1).trans M1.out).trans M2.out).trans M3.out⟩
end Go.Proofs.YtpiglmaojonbnaaDoor

/-
  A CALL INSIDE A DRAWN REGION.
-/
namespace Go.Proofs.YtpiglmaojonbnaaDoor
open Go.RowKit

theorem step_call {P : Program} {ops : Array Oper} {o : Oper} {a : Act} {w : World} {K : Act → World → Prop} {Q : Exit → Act → World → Prop} {E : Prop} (hgd : o.guard = none) (f : FuncId) (vs : Array Value) (hrun : (execOp a.eval o).run P w = .ok (.enter f vs) w)
    (h : Calls P f vs w fun
      | .returned v, w' => K (a.put o.dst v) w'
      | .panicked c, w' => Q (.panic c) a w'
      | .outgrown, _ => LetsOut Q) : if Region.wanted o (yielded ops a.tmps) = true then Oper.wp P o a w K Q else E := by
  have hw : Region.wanted o (yielded ops a.tmps) = true := by simp [Region.wanted, hgd]
  rw [if_pos hw]
  unfold Oper.wp
  rw [hrun]
  exact h
end Go.Proofs.YtpiglmaojonbnaaDoor
