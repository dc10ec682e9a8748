/-
  package graph: Or, either, Xor, If, Input, Parts BY CONTRACT.
-/
import Derived.Test.YtpiglmaojonbnaaGreatDoorP06
import Derived.Test.YtpiglmaojonbnaaGreatDoorP01
import Derived.Deep.RegionLaw
namespace Go.Proofs.YtpiglmaojonbnaaGreatDoor
open Go.RowKit Go.Maps

theorem HasL.i64 {gs : List (Int × Int)} {a : Int} (h : HasL gs a) (hl : gs.length ≤ 90010) : I64 a := by unfold HasL at h; unfold I64; omega
theorem I64.turn {a : Int} (h : I64 a) : I64 (turnL a) := by
  have := (turnL_eq a).2.2
  unfold I64 at *
  omega

set_option maxRecDepth 100000 in
theorem or_bad {G : Nat} {gs : List (Int × Int)} {ins : Nat} {F : Nat → Prop} {w : World} (h : GrAt G gs ins F w) (hl : gs.length ≤ 90000) (a b : Int) (ha : I64 a) (hb : I64 b) (hn : ¬ (HasL gs a ∧ HasL gs b)) (t : TypeId) (p : Value) (he : w.cell? ⟨1, 0, none⟩ = some (.iface t p)) :
    Calls Tryz.prog 78 #[.pointer (some ⟨G, 0, none⟩), .int .i64 a, .int .i64 b] w fun e w' => e = .returned (.tuple #[.int .i64 0, .iface t p]) ∧ Below w.heap.size w w' := by
  have H0 : Hid (GrAt G gs ins F w) := h
  have HL : Hid (gs.length ≤ 90000) := hl
  have HN : Hid (¬ (HasL gs (turnL a) ∧ HasL gs (turnL b))) := fun h => hn ⟨HasL.turn_iff.1 h.1, HasL.turn_iff.1 h.2⟩
  clear h hl hn
  go_enter Tryz.func78, Tryz.ntmps78
  go_wp2_with (first
    | (go_at_call 60; refine (not_any _ _ (by assumption)).mono ?_; rintro e w' ⟨rfl, rfl⟩)
    | (go_at_call 56; refine (and_bad H0.out HL.out _ _ ha.turn hb.turn HN.out _ he).mono ?_; rintro e w' ⟨rfl, hb1⟩))
  go_ret2
  exact ⟨rfl, hb1⟩
set_option maxRecDepth 100000 in
theorem or_ok {G : Nat} {gs : List (Int × Int)} {ins : Nat} {F : Nat → Prop} {w : World} (h : GrAt G gs ins F w) (hl : gs.length < 90000) (a b : Int) (ha : HasL gs a) (hb : HasL gs b) :
    Calls Tryz.prog 78 #[.pointer (some ⟨G, 0, none⟩), .int .i64 a, .int .i64 b] w fun e w' => e = .returned (.tuple #[.int .i64 (orL gs a b), .nilIface]) ∧ ∃ F', GrAt G (orG gs a b) ins F' w' ∧ Mvd F F' w w' := by
  have H0 : Hid (GrAt G gs ins F w) := h
  have HL : Hid (gs.length < 90000) := hl
  have ia := ha.i64 (by omega)
  have ib := hb.i64 (by omega)
  have HA : Hid (HasL gs (turnL a)) := ha.turn
  have HB : Hid (HasL gs (turnL b)) := hb.turn
  have ix : I64 (andL gs (turnL a) (turnL b)) := (andL_has ha.turn hb.turn).i64 (by have := (andG_length gs (turnL a) (turnL b)).2; omega)
  clear h hl ha hb
  unfold orL orG
  go_enter Tryz.func78, Tryz.ntmps78
  go_wp2_with (first
    | (go_at_call 60; refine (not_any _ _ (by assumption)).mono ?_; rintro e w' ⟨rfl, rfl⟩)
    | (go_at_call 56; refine (and_ok H0.out HL.out _ _ HA.out HB.out).mono ?_; rintro e w' ⟨rfl, hE⟩))
  go_ret2
  exact ⟨rfl, hE⟩

theorem ints_four (w : World) (a b c d : Int) : IntsAt (w.alloc (.cells #[.int .i64 a, .int .i64 b, .int .i64 c, .int .i64 d] 39)) (.slice (some ⟨w.heap.size, 0, none⟩) 4 4) [a, b, c, d] := by
  refine ⟨by unfold maxLen; simp, some ⟨w.heap.size, 0, none⟩, 4, rfl, fun k x hx => ⟨w.heap.size, 0, rfl, ?_⟩⟩
  rcases k with _ | _ | _ | _ | k
  · simp at hx; subst hx; simp
  · simp at hx; subst hx; simp
  · simp at hx; subst hx; simp
  · simp at hx; subst hx; simp
  · simp at hx
theorem has_four {G : Nat} {gs : List (Int × Int)} {ins : Nat} {F : Nat → Prop} {w : World} (h : GrAt G gs ins F w) (hl : gs.length ≤ 90000) (a b c d : Int) (ha : I64 a) (hb : I64 b) (hc : I64 c) (hd : I64 d) (r : Bool) (hr : (hasB gs a && (hasB gs b && (hasB gs c && hasB gs d))) = r) :
    Calls Tryz.prog 25 #[.pointer (some ⟨G, 0, none⟩), .slice (some ⟨w.heap.size, 0, none⟩) 4 4] (w.alloc (.cells #[.int .i64 a, .int .i64 b, .int .i64 c, .int .i64 d] 39)) fun e w' => e = .returned (.bool r) ∧ w' = w.alloc (.cells #[.int .i64 a, .int .i64 b, .int .i64 c, .int .i64 d] 39) := by
  have hb1 : Below w.heap.size w (w.alloc (.cells #[.int .i64 a, .int .i64 b, .int .i64 c, .int .i64 d] 39)) := (Below.refl _ _).alloc (Nat.le_refl _) _
  refine (has_any (h.below hb1) (by omega) _ [a, b, c, d] (ints_four w a b c d) (fun x hx => by simp at hx; rcases hx with rfl | rfl | rfl | rfl <;> assumption)).mono ?_
  rintro e w' ⟨rfl, rfl⟩
  exact ⟨by rw [← hr]; simp, rfl⟩
set_option maxRecDepth 100000 in
theorem either_bad {G : Nat} {gs : List (Int × Int)} {ins : Nat} {F : Nat → Prop} {w : World} (h : GrAt G gs ins F w) (hl : gs.length ≤ 90000) (a b c d : Int) (ha : I64 a) (hb : I64 b) (hc : I64 c) (hd : I64 d) (hn : ¬ (HasL gs a ∧ HasL gs b ∧ HasL gs c ∧ HasL gs d)) (t : TypeId) (p : Value) (he : w.cell? ⟨1, 0, none⟩ = some (.iface t p)) :
    Calls Tryz.prog 76 #[.pointer (some ⟨G, 0, none⟩), .int .i64 a, .int .i64 b, .int .i64 c, .int .i64 d] w fun e w' => e = .returned (.tuple #[.int .i64 0, .iface t p]) ∧ Below w.heap.size w w' := by
  have hb1 : Below w.heap.size w (w.alloc (.cells #[.int .i64 a, .int .i64 b, .int .i64 c, .int .i64 d] 39)) := (Below.refl _ _).alloc (Nat.le_refl _) _
  have he1 := cell_keep hb1 he
  have HF : Hid ((hasB gs a && (hasB gs b && (hasB gs c && hasB gs d))) = false) := by
    unfold Hid
    cases hx : (hasB gs a && (hasB gs b && (hasB gs c && hasB gs d)))
    · rfl
    · simp only [Bool.and_eq_true, hasB_iff] at hx
      exact absurd hx hn
  have H0 : Hid (GrAt G gs ins F w) := h
  have HL : Hid (gs.length ≤ 90000) := hl
  clear h hl hn
  go_enter Tryz.func76, Tryz.ntmps76
  go_wp2_with fail
  refine (has_four H0.out HL.out a b c d ha hb hc hd false HF.out).mono ?_
  rintro e w' ⟨rfl, hw⟩
  subst hw
  go_wp2
  go_region
  all_goals go_wp2
  all_goals go_ret2
  all_goals exact ⟨rfl, hb1.drew⟩
set_option maxRecDepth 100000 in
set_option maxHeartbeats 1000000 in
theorem either_ok {G : Nat} {gs : List (Int × Int)} {ins : Nat} {F : Nat → Prop} {w : World} (h : GrAt G gs ins F w) (hl : gs.length < 89990) (a b c d : Int) (ha : HasL gs a) (hb : HasL gs b) (hc : HasL gs c) (hd : HasL gs d) :
    Calls Tryz.prog 76 #[.pointer (some ⟨G, 0, none⟩), .int .i64 a, .int .i64 b, .int .i64 c, .int .i64 d] w fun e w' => e = .returned (.tuple #[.int .i64 (eitherL gs a b c d), .nilIface]) ∧ ∃ F', GrAt G (eitherG gs a b c d) ins F' w' ∧ Mvd F F' w w' := by
  have hb1 : Below w.heap.size w (w.alloc (.cells #[.int .i64 a, .int .i64 b, .int .i64 c, .int .i64 d] 39)) := (Below.refl _ _).alloc (Nat.le_refl _) _
  have HF : Hid ((hasB gs a && (hasB gs b && (hasB gs c && hasB gs d))) = true) := by unfold Hid; simp [hasB_t ha, hasB_t hb, hasB_t hc, hasB_t hd]
  have H0 : Hid (GrAt G gs ins F w) := h
  have H1 : Hid (GrAt G gs ins F (w.alloc (.cells #[.int .i64 a, .int .i64 b, .int .i64 c, .int .i64 d] 39))) := h.below hb1
  have l1 := andG_length gs a b
  have l2 := andG_length (andG gs a b) c d
  have HL : Hid (gs.length ≤ 90000) := Nat.le_trans (Nat.le_of_lt hl) (by omega)
  have L0 : Hid (gs.length < 90000) := Nat.lt_of_lt_of_le hl (by omega)
  have L1 : Hid ((andG gs a b).length < 90000) := by unfold Hid; omega
  have L2 : Hid ((andG (andG gs a b) c d).length < 90000) := by unfold Hid; omega
  have ia := ha.i64 (by omega)
  have ib := hb.i64 (by omega)
  have ic := hc.i64 (by omega)
  have id := hd.i64 (by omega)
  have HA : Hid (HasL gs a) := ha
  have HB : Hid (HasL gs b) := hb
  have HC : Hid (HasL (andG gs a b) c) := hc.mono l1.1
  have HD : Hid (HasL (andG gs a b) d) := hd.mono l1.1
  have HX : Hid (HasL (andG (andG gs a b) c d) (andL gs a b)) := (andL_has ha hb).mono l2.1
  have HY : Hid (HasL (andG (andG gs a b) c d) (andL (andG gs a b) c d)) := andL_has (hc.mono l1.1) (hd.mono l1.1)
  clear h hl ha hb hc hd l1 l2
  unfold eitherL eitherG
  go_enter Tryz.func76, Tryz.ntmps76
  go_wp2_with fail
  refine (has_four H0.out HL.out a b c d ia ib ic id true HF.out).mono ?_
  rintro e w' ⟨rfl, hw⟩
  subst hw
  go_wp2_with fail
  refine (and_ok H1.out L0.out a b HA.out HB.out).mono ?_
  rintro e w1 ⟨rfl, F1, h1, m1⟩
  have G1 : Hid (GrAt _ _ _ _ _) := h1
  have M1 : Hid (Mvd _ _ _ _) := m1
  clear h1 m1
  go_wp2_with fail
  refine (and_ok G1.out L1.out c d HC.out HD.out).mono ?_
  rintro e w2 ⟨rfl, F2, h2, m2⟩
  have G2 : Hid (GrAt _ _ _ _ _) := h2
  have M2 : Hid (Mvd _ _ _ _) := m2
  clear h2 m2
  go_wp2_with fail
  refine (or_ok G2.out L2.out _ _ HX.out HY.out).mono ?_
  rintro e w3 ⟨rfl, F3, h3, m3⟩
  have G3 : Hid (GrAt _ _ _ _ _) := h3
  have M3 : Hid (Mvd _ _ _ _) := m3
  clear h3 m3
  go_wp2
  go_ret2
  exact ⟨rfl, F3, G3.out, (((Mvd.of_below hb1).trans M1.out).trans M2.out).trans M3.out⟩
end Go.Proofs.YtpiglmaojonbnaaGreatDoor

/-
  A CALL INSIDE A DRAWN REGION.
-/
namespace Go.Proofs.YtpiglmaojonbnaaGreatDoor
open Go.RowKit

theorem step_call {P : Program} {ops : Array Oper} {o : Oper} {a : Act} {w : World} {K : Act → World → Prop} {Q : Exit → Act → World → Prop} {E : Prop} (hgd : o.guard = none) (f : FuncId) (vs : Array Value) (hrun : (execOp a.eval o).run P w = .ok (.enter f vs) w)
    (h : Calls P f vs w fun
      | .returned v, w' => K (a.put o.dst v) w'
      | .panicked c, w' => Q (.panic c) a w'
      | .outgrown, _ => LetsOut Q) : if Region.wanted o (yielded ops a.tmps) = true then Oper.wp P o a w K Q else E := by
  have hw : Region.wanted o (yielded ops a.tmps) = true := by simp [Region.wanted, hgd]
  rw [if_pos hw]
  unfold Oper.wp
  rw [hrun]
  exact h
end Go.Proofs.YtpiglmaojonbnaaGreatDoor

/-
  package graph: Xor, If, Input, Parts BY CONTRACT.
-/
namespace Go.Proofs.YtpiglmaojonbnaaGreatDoor
open Go.RowKit Go.Maps
def xorL (gs : List (Int × Int)) (a b : Int) : Int := eitherL gs a (turnL b) (turnL a) b
def xorG (gs : List (Int × Int)) (a b : Int) : List (Int × Int) := eitherG gs a (turnL b) (turnL a) b
def ifL (gs : List (Int × Int)) (c a b : Int) : Int := eitherL gs c a (turnL c) b
def ifG (gs : List (Int × Int)) (c a b : Int) : List (Int × Int) := eitherG gs c a (turnL c) b

set_option maxRecDepth 100000 in
theorem xor_bad {G : Nat} {gs : List (Int × Int)} {ins : Nat} {F : Nat → Prop} {w : World} (h : GrAt G gs ins F w) (hl : gs.length ≤ 90000) (a b : Int) (ha : I64 a) (hb : I64 b) (hn : ¬ (HasL gs a ∧ HasL gs b)) (t : TypeId) (p : Value) (he : w.cell? ⟨1, 0, none⟩ = some (.iface t p)) :
    Calls Tryz.prog 77 #[.pointer (some ⟨G, 0, none⟩), .int .i64 a, .int .i64 b] w fun e w' => e = .returned (.tuple #[.int .i64 0, .iface t p]) ∧ Below w.heap.size w w' := by
  have H0 : Hid (GrAt G gs ins F w) := h
  have HL : Hid (gs.length ≤ 90000) := hl
  have HN : Hid (¬ (HasL gs a ∧ HasL gs (turnL b) ∧ HasL gs (turnL a) ∧ HasL gs b)) := fun h => hn ⟨h.1, h.2.2.2⟩
  clear h hl hn
  go_enter Tryz.func77, Tryz.ntmps77
  go_wp2_with (first
    | (go_at_call 60; refine (not_any _ _ (by assumption)).mono ?_; rintro e w' ⟨rfl, rfl⟩)
    | (go_at_call 76; refine (either_bad H0.out HL.out _ _ _ _ ha hb.turn ha.turn hb HN.out t p he).mono ?_; rintro e w' ⟨rfl, hb1⟩))
  go_ret2
  exact ⟨rfl, hb1⟩
set_option maxRecDepth 100000 in
theorem xor_ok {G : Nat} {gs : List (Int × Int)} {ins : Nat} {F : Nat → Prop} {w : World} (h : GrAt G gs ins F w) (hl : gs.length < 89990) (a b : Int) (ha : HasL gs a) (hb : HasL gs b) :
    Calls Tryz.prog 77 #[.pointer (some ⟨G, 0, none⟩), .int .i64 a, .int .i64 b] w fun e w' => e = .returned (.tuple #[.int .i64 (xorL gs a b), .nilIface]) ∧ ∃ F', GrAt G (xorG gs a b) ins F' w' ∧ Mvd F F' w w' := by
  have H0 : Hid (GrAt G gs ins F w) := h
  have HL : Hid (gs.length < 89990) := hl
  have ia := ha.i64 (by omega)
  have ib := hb.i64 (by omega)
  have HA : Hid (HasL gs a) := ha
  have HB : Hid (HasL gs b) := hb
  clear h hl ha hb
  unfold xorL xorG
  go_enter Tryz.func77, Tryz.ntmps77
  go_wp2_with (first
    | (go_at_call 60; refine (not_any _ _ (by assumption)).mono ?_; rintro e w' ⟨rfl, rfl⟩)
    | (go_at_call 76; refine (either_ok H0.out HL.out _ _ _ _ HA.out HB.out.turn HA.out.turn HB.out).mono ?_; rintro e w' ⟨rfl, hE⟩))
  go_ret2
  exact ⟨rfl, hE⟩
set_option maxRecDepth 100000 in
theorem if_bad {G : Nat} {gs : List (Int × Int)} {ins : Nat} {F : Nat → Prop} {w : World} (h : GrAt G gs ins F w) (hl : gs.length ≤ 90000) (c a b : Int) (hc : I64 c) (ha : I64 a) (hb : I64 b) (hn : ¬ (HasL gs c ∧ HasL gs a ∧ HasL gs b)) (t : TypeId) (p : Value) (he : w.cell? ⟨1, 0, none⟩ = some (.iface t p)) :
    Calls Tryz.prog 57 #[.pointer (some ⟨G, 0, none⟩), .int .i64 c, .int .i64 a, .int .i64 b] w fun e w' => e = .returned (.tuple #[.int .i64 0, .iface t p]) ∧ Below w.heap.size w w' := by
  have H0 : Hid (GrAt G gs ins F w) := h
  have HL : Hid (gs.length ≤ 90000) := hl
  have HN : Hid (¬ (HasL gs c ∧ HasL gs a ∧ HasL gs (turnL c) ∧ HasL gs b)) := fun h => hn ⟨h.1, h.2.1, h.2.2.2⟩
  clear h hl hn
  go_enter Tryz.func57, Tryz.ntmps57
  go_wp2_with (first
    | (go_at_call 60; refine (not_any _ _ (by assumption)).mono ?_; rintro e w' ⟨rfl, rfl⟩)
    | (go_at_call 76; refine (either_bad H0.out HL.out _ _ _ _ hc ha hc.turn hb HN.out t p he).mono ?_; rintro e w' ⟨rfl, hb1⟩))
  go_ret2
  exact ⟨rfl, hb1⟩
set_option maxRecDepth 100000 in
theorem if_ok {G : Nat} {gs : List (Int × Int)} {ins : Nat} {F : Nat → Prop} {w : World} (h : GrAt G gs ins F w) (hl : gs.length < 89990) (c a b : Int) (hc : HasL gs c) (ha : HasL gs a) (hb : HasL gs b) :
    Calls Tryz.prog 57 #[.pointer (some ⟨G, 0, none⟩), .int .i64 c, .int .i64 a, .int .i64 b] w fun e w' => e = .returned (.tuple #[.int .i64 (ifL gs c a b), .nilIface]) ∧ ∃ F', GrAt G (ifG gs c a b) ins F' w' ∧ Mvd F F' w w' := by
  have H0 : Hid (GrAt G gs ins F w) := h
  have HL : Hid (gs.length < 89990) := hl
  have ic := hc.i64 (by omega)
  have HA : Hid (HasL gs a) := ha
  have HB : Hid (HasL gs b) := hb
  have HC : Hid (HasL gs c) := hc
  clear h hl ha hb hc
  unfold ifL ifG
  go_enter Tryz.func57, Tryz.ntmps57
  go_wp2_with (first
    | (go_at_call 60; refine (not_any _ _ (by assumption)).mono ?_; rintro e w' ⟨rfl, rfl⟩)
    | (go_at_call 76; refine (either_ok H0.out HL.out _ _ _ _ HC.out HA.out HC.out.turn HB.out).mono ?_; rintro e w' ⟨rfl, hE⟩))
  go_ret2
  exact ⟨rfl, hE⟩

theorem MapAt.input {gs : List (Int × Int)} {mv : Value} {F : Nat → Prop} {w : World} (h : MapAt gs mv F w) : MapAt (gs ++ [(0, 0)]) mv F w := by
  rcases h with ⟨rfl, h⟩ | ⟨B, n, D, rfl, hB, hn, hm, r⟩
  · exact .inl ⟨rfl, fun p hp => by
      rcases List.mem_append.1 hp with hp | hp
      · exact h p hp
      · simpa using hp⟩
  · refine .inr ⟨B, n, D, rfl, hB, by simp; omega, hm, fun p h1 h2 hp => ?_⟩
    obtain ⟨r1, r2⟩ := r p h1 h2 hp
    refine ⟨by rw [r1]; simp [hp], fun hp' => ?_⟩
    have hm : p ∈ gs := by
      rcases List.mem_append.1 hp' with hp' | hp'
      · exact hp'
      · exact absurd (by simpa using hp') hp
    rw [r2 hm, idx_app hm]
theorem GrRaw.setIns {G : Nat} {gs ms : List (Int × Int)} {ins : Nat} {F : Nat → Prop} {w : World} (h : GrRaw G gs ms ins F w) (n : Nat) : GrRaw G gs ms n F (w.setCell ⟨G, 2, none⟩ (.int .i64 n)) ∧ Mvd F F w (w.setCell ⟨G, 2, none⟩ (.int .i64 n)) := by
  obtain ⟨k1, k2, t, sv, mv, k3, k4, k5, k6⟩ := h
  have hbl : ∀ k, k ≠ G → (w.setCell ⟨G, 2, none⟩ (.int .i64 n)).heap[k]? = w.heap[k]? := fun k hk => Below.heap_setCell _ _ _ _ hk
  refine ⟨⟨k1, fun k hk => by rw [size_setCell]; exact k2 k hk, t, sv, mv, heap_setCell_at k3 _, owns_keep k4 (fun k hk => hbl k (k5 k hk).2), k5, ?_⟩, ⟨rfl, rfl, rfl, by rw [size_setCell]; exact Nat.le_refl _, fun k _ hn => hbl k (fun e => hn (by rw [e]; exact k1)), fun k hk => .inl hk⟩⟩
  rcases k6 with k6 | ⟨B, m, D, rfl, hB, hn, hm, r⟩
  · exact .inl k6
  · refine .inr ⟨B, m, D, rfl, hB, hn, map_keep hm (hbl B (fun e => ?_)), r⟩
    subst e
    obtain ⟨es, clock, hbB, _⟩ := hm
    rw [k3] at hbB
    cases hbB
set_option maxRecDepth 100000 in
theorem input_ok {G : Nat} {gs : List (Int × Int)} {ins : Nat} {F : Nat → Prop} {w : World} (h : GrAt G gs ins F w) (hl : gs.length < 90000) (hi : ins ≤ gs.length) :
    Calls Tryz.prog 7 #[.pointer (some ⟨G, 0, none⟩)] w fun e w' => e = .returned (.tuple #[.int .i64 (2 * (gs.length : Int) + 2), .nilIface]) ∧ ∃ F', GrAt G (gs ++ [(0, 0)]) (ins + 1) F' w' ∧ Mvd F F' w w' := by
  have H0 : Hid (GrAt G gs ins F w) := h
  have HL : Hid (gs.length < 90000) := hl
  have HI : Hid (ins < 90000) := Nat.lt_of_le_of_lt hi hl
  clear h hl hi
  go_enter Tryz.func7, Tryz.ntmps7
  go_wp2_with fail
  refine (add_any H0.out HL.out 0 0).mono ?_
  rintro e w1 ⟨rfl, F1, h1, m1⟩
  obtain ⟨t, sv, mv, g3, d0, d1, d2, _, _, _⟩ := h1.cells
  have f2 : w1.frozen? ⟨G, 0 + 2, none⟩ = false := frozen_row g3
  have hs := h1.setIns (ins + 1)
  have HE : Hid (∃ F', GrAt G (gs ++ [(0, 0)]) (ins + 1) F' (w1.setCell ⟨G, 2, none⟩ (.int .i64 ((ins + 1 : Nat) : Int))) ∧ Mvd F F' w (w1.setCell ⟨G, 2, none⟩ (.int .i64 ((ins + 1 : Nat) : Int)))) := by
    obtain ⟨⟨k1, k2, t, sv, mv, k3, k4, k5, k6⟩, hm⟩ := hs
    exact ⟨F1, ⟨H0.out.1.input, k1, k2, t, sv, mv, k3, k4, k5, k6.input⟩, m1.trans hm⟩
  have hwr : wrap64 ((ins : Int) + 1) = ((ins + 1 : Nat) : Int) := by have := HI.out; unfold wrap64; omega
  have HW : Hid (wrap64 ((ins : Int) + 1) = ((ins + 1 : Nat) : Int)) := hwr
  clear h1 m1 g3 d0 d1 hs hwr
  go_wp2
  go_ret2
  rw [HW.out]
  exact ⟨rfl, HE.out⟩

theorem results_tmp4 {fn : Func} {t u v x : Tmp} (h : fn.results = #[.tmp t, .tmp u, .tmp v, .tmp x]) (tmps : Array Value) (P : Program) (w : World) :
    (results fn tmps).run P w = .ok (.tuple #[tmps.getD t undef, tmps.getD u undef, tmps.getD v undef, tmps.getD x undef]) w := by
  simp [results, h]
/-- An input's pair. -/
def inpB (p : Int × Int) : Bool := decide (p = (0, 0))
set_option maxRecDepth 100000 in
theorem pair_eq (a b : Int) (ha : I64 a) (hb : I64 b) (w : World) : (Op.equalIn 10000 58 (.agg #[.int .i64 a, .int .i64 b]) (.agg #[.int .i64 0, .int .i64 0])).run Tryz.prog w = .ok (inpB (a, b)) w := by
  have h0 : I64 0 := by unfold I64; omega
  obtain ⟨r, hr, hi⟩ := run_equal_deep w (m := 2) (by omega) pairAt pairWide (pairKey (p := (a, b)) ha hb) (pairKey (p := (0, 0)) h0 h0)
  have e : r = inpB (a, b) := by
    unfold inpB
    by_cases hab : (a, b) = ((0 : Int), (0 : Int))
    · rw [decide_eq_true hab]
      exact hi.2 (by rw [hab])
    · rw [decide_eq_false hab]
      cases r
      · rfl
      · exact absurd (pairK_inj (p := (a, b)) (q := (0, 0)) ha hb h0 h0 (hi.1 rfl)) hab
  rw [e] at hr
  exact hr
set_option maxRecDepth 100000 in
theorem isInput_any (a b : Int) (ha : I64 a) (hb : I64 b) (w : World) : Calls Tryz.prog 48 #[.agg #[.int .i64 a, .int .i64 b]] w fun e w' => e = .returned (.bool (inpB (a, b))) ∧ w' = w.alloc (.cells #[.int .i64 a, .int .i64 b] 58) := by
  have hq := pair_eq a b ha hb (w.alloc (.cells #[.int .i64 a, .int .i64 b] 58))
  go_enter Tryz.func48, Tryz.ntmps48
  go_wp2
  go_ret
  exact ⟨rfl, rfl⟩

theorem pair_cells {w : World} {v : Value} {gs : List (Int × Int)} (h : w.ownsRow 0 58 2 v gs.length (pcells gs)) {i : Nat} {p : Int × Int} (hi : gs[i]? = some p) : ∃ g c, v = .slice (some ⟨g, 0, none⟩) gs.length c ∧ g < w.heap.size ∧ w.cell? ⟨g, i * 2, none⟩ = some (.int .i64 p.1) ∧ w.cell? ⟨g, i * 2 + 1, none⟩ = some (.int .i64 p.2) := by
  have hlt : i < gs.length := (List.getElem?_eq_some_iff.1 hi).1
  obtain ⟨g, cap, rfl, _, hg⟩ := h.form (by omega)
  have hc := h.cells (g := g) rfl
  have hadd : ∀ j, (⟨g, 0, none⟩ : Addr).add j = ⟨g, j, none⟩ := fun j => by unfold Addr.add; split <;> simp_all
  have e := pcells_at gs i p hi
  refine ⟨g, cap, rfl, hg, ?_, ?_⟩
  · have := hc _ _ e.1
    rw [hadd] at this
    rw [show i * 2 = 2 * i by omega]; exact this
  · have := hc _ _ e.2
    rw [hadd] at this
    rw [show i * 2 + 1 = 2 * i + 1 by omega]; exact this
theorem Gs.i64 {gs : List (Int × Int)} (h : Gs gs) (hl : gs.length ≤ 90000) {i : Nat} {p : Int × Int} (hi : gs[i]? = some p) : I64 p.1 ∧ I64 p.2 := by
  have hlt : i < gs.length := (List.getElem?_eq_some_iff.1 hi).1
  rcases h.each i p hi with rfl | ⟨h1, h2, h3⟩
  · unfold I64; simp
  · unfold I64; omega

end Go.Proofs.YtpiglmaojonbnaaGreatDoor
