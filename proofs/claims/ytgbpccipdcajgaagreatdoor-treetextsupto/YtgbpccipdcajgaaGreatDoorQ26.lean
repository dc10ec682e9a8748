/-
  package tree's alikeEquations, alikeNodes, alike BY THEIR CONTRACTS, whatever they are given: where they say yes, the programs are the same.
-/
import Derived.Test.YtgbpccipdcajgaaGreatDoorQ25
import Derived.Test.YtgbpccipdcajgaaGreatDoorQ20
namespace Go.Proofs.YtgbpccipdcajgaaGreatDoor
open Go.RowKit
attribute [local go_sem ↓] Go.wp_at_zero Go.wp_at_succ
def SameEq (a b : Ex) : Prop := ∃ (kind : ByteArray) (ns ns' : List Ex) (t : Ex), a = .mk kind 0 b0 [lst ns, t] ∧ b = .mk kind 0 b0 [lst ns', t] ∧ nameCells ns = nameCells ns'
def SameEqs (l l' : List Ex) : Prop := l.length = l'.length ∧ ∀ m (h1 : m < l.length) (h2 : m < l'.length), SameEq l[m] l'[m]
def SameNd (a b : Ex) : Prop := ∃ (name : ByteArray) (ins ins' outs outs' owns owns' qs qs' : List Ex), a = .mk name 0 b0 [lst ins, lst outs, lst owns, lst qs] ∧ b = .mk name 0 b0 [lst ins', lst outs', lst owns', lst qs'] ∧ varCells ins = varCells ins' ∧ varCells outs = varCells outs' ∧ varCells owns = varCells owns' ∧ SameEqs qs qs'
def SameNds (l l' : List Ex) : Prop := l.length = l'.length ∧ ∀ m (h1 : m < l.length) (h2 : m < l'.length), SameNd l[m] l'[m]
set_option maxRecDepth 100000 in
set_option maxHeartbeats 1000000 in
theorem alikeEq_is (k k' : ByteArray) (ns ns' : List Ex) (op op' : ByteArray) (n n' : Int) (s s' : ByteArray) (l l' : List Ex) (w : World) (S S' : Nat → Prop) (no no' o o' : Option Addr) (nc nc' c c' : Nat) (ys ys' : List Value) (g1 : RowAt w S 1 (.slice no ns.length nc) ns.length (nameCells ns)) (g2 : RowAt w S' 1 (.slice no' ns'.length nc') ns'.length (nameCells ns')) (h1 : RowAt w S 4 (.slice o l.length c) l.length ys) (h2 : ExIn w S l ys) (h3 : RowAt w S' 4 (.slice o' l'.length c') l'.length ys') (h4 : ExIn w S' l' ys') :
  Calls Tryz.prog 123 #[.agg #[.string k, .slice no ns.length nc, .string op, .int .i64 n, .string s, .slice o l.length c], .agg #[.string k', .slice no' ns'.length nc', .string op', .int .i64 n', .string s', .slice o' l'.length c']] w (Tells (SameEq (.mk k 0 b0 [lst ns, .mk op n s l]) (.mk k' 0 b0 [lst ns', .mk op' n' s' l'])) w) := by
 have hbA : Below w.heap.size w ((w.alloc (tqObj k (.slice no ns.length nc) op n s (.slice o l.length c))).alloc (tqObj k' (.slice no' ns'.length nc') op' n' s' (.slice o' l'.length c'))) := ((Below.refl _ _).alloc (Nat.le_refl _) _).alloc (by simp) _
 have H1 : Hid (RowAt w S 4 (.slice o l.length c) l.length ys) := h1
 have H2 : Hid (ExIn w S l ys) := h2
 have H3 : Hid (RowAt w S' 4 (.slice o' l'.length c') l'.length ys') := h3
 have H4 : Hid (ExIn w S' l' ys') := h4
 have G1 : Hid (RowAt w S 1 (.slice no ns.length nc) ns.length (nameCells ns)) := g1
 have G2 : Hid (RowAt w S' 1 (.slice no' ns'.length nc') ns'.length (nameCells ns')) := g2
 obtain ⟨P, hP⟩ : ∃ P, P = SameEq (.mk k 0 b0 [lst ns, .mk op n s l]) (.mk k' 0 b0 [lst ns', .mk op' n' s' l']) := ⟨_, rfl⟩
 rw [← hP]
 have HP : Hid (P = SameEq (.mk k 0 b0 [lst ns, .mk op n s l]) (.mk k' 0 b0 [lst ns', .mk op' n' s' l'])) := hP
 clear h1 h2 h3 h4 g1 g2 hP
 by_cases e1 : k = k'
 ·subst e1
  go_enter Tryz.func123, Tryz.ntmps123
  go_wp2_with fail
  refine (eqTexts_is _ S S' no no' nc nc' ns ns' (G1.out.keep (Stays.below hbA (fun k hk => hk))) (G2.out.keep (Stays.below hbA (fun k hk => hk)))).mono ?_
  rintro e w1 ⟨r, rfl, hr, k1, rfl⟩
  have hb1 := below_drewN hbA k1
  cases r with
  | false =>
   clear hr
   go_wp2
   go_ret
   exact ⟨false, rfl, by simp, hb1⟩
  | true =>
   have HN : Hid (nameCells ns = nameCells ns') := hr rfl
   clear hr
   go_wp2_with fail
   refine (alikeTerms_is (SizeOf.sizeOf l + 1) op n s l op' n' s' l' (by omega) _ S S' o o' c c' ys ys' (H1.out.keep (Stays.below hb1 (fun k hk => hk))) (H2.out.keep (Stays.below hb1 (fun k hk => hk))) (H3.out.keep (Stays.below hb1 (fun k hk => hk))) (H4.out.keep (Stays.below hb1 (fun k hk => hk)))).mono ?_
   rintro e w2 ⟨r, rfl, hr, hb2⟩
   have hb3 := hb1.trans (hb2.mono (by show _ ≤ (World.alloc _ _).heap.size; simp; omega))
   have HR : Hid (r = true → P) := fun h => by
    obtain ⟨q1, q2, q3, q4⟩ := hr h
    subst q1 q2 q3 q4
    rw [HP.out]
    exact ⟨k, ns, ns', _, rfl, rfl, HN.out⟩
   clear hr
   go_wp2
   go_ret
   exact ⟨r, by cases r <;> rfl, HR.out, hb3⟩
 ·have e1' := bytes_ne e1
  clear e1
  go_enter Tryz.func123, Tryz.ntmps123
  go_wp2
  go_ret
  exact ⟨false, rfl, by simp, hbA⟩
set_option maxRecDepth 100000 in
set_option maxHeartbeats 1000000 in
theorem eqfQ_is (l l' : List Ex) (w : World) (S S' : Nat → Prop) (o o' : Option Addr) (c c' : Nat) (ys ys' : List Value) (h1 : RowAt w S 6 (.slice o l.length c) l.length ys) (h2 : EqIn w S l ys) (h3 : RowAt w S' 6 (.slice o' l'.length c') l'.length ys') (h4 : EqIn w S' l' ys') :
  Calls Tryz.prog 122 #[.slice o l.length c, .slice o' l'.length c', .func (.func 123) #[] #[]] w (Tells (SameEqs l l') w) := by
 have hl := h1.len
 unfold maxLen at hl
 have hl' := h3.len
 unfold maxLen at hl'
 have H1 : Hid (RowAt w S 6 (.slice o l.length c) l.length ys) := h1
 have H2 : Hid (EqIn w S l ys) := h2
 have H3 : Hid (RowAt w S' 6 (.slice o' l'.length c') l'.length ys') := h3
 have H4 : Hid (EqIn w S' l' ys') := h4
 clear h1 h2 h3 h4
 by_cases hlen : l.length = l'.length
 ·have HL : Hid (l.length = l'.length) := hlen
  have hlen' : (l'.length : Int) = (l.length : Int) := by omega
  rw [← hlen]
  clear hlen hl'
  go_enter Tryz.func122, Tryz.ntmps122
  go_wp2
  go_loopw [17] (fun t wr => ∃ i : Nat, i ≤ l.length ∧ t = .int .i64 i ∧ Below w.heap.size w wr ∧ ∀ m (h1 : m < l.length) (h2 : m < l'.length), m < i → SameEq l[m] l'[m]) (fun t _ => l.length - (intOf t).toNat)
  case atStart => exact ⟨0, Nat.zero_le _, rfl, Below.refl _ _, fun m _ _ h => absurd h (by omega)⟩
  case round =>
   obtain ⟨i, hi, rfl, hbr, hall⟩ := hrel
   have HA : Hid (∀ m (h1 : m < l.length) (h2 : m < l'.length), m < i → SameEq l[m] l'[m]) := hall
   clear hall
   by_cases hlt : i < l.length
   ·have hlt' : i < l'.length := by rw [← HL.out]; exact hlt
    obtain ⟨kd, ns, no, nc, op, n, s, es, oo, cc, zs, e, m0, m1, m2, m3, m4, m5, r0, r1, r2⟩ := H2.out.at hlt
    obtain ⟨kd', ns', no', nc', op', n', s', es', oo', cc', zs', e', k0, k1, k2, k3, k4, k5, t0, t1, t2⟩ := H4.out.at hlt'
    obtain ⟨p, f, rfl, _, g⟩ := row_get H1.out (by have := H1.out.1; omega)
    obtain ⟨p', f', rfl, _, g'⟩ := row_get H3.out (by have := H3.out.1; omega)
    have x0 := cell_keep hbr (g _ _ m0)
    have x1 := cell_keep hbr (g _ _ m1)
    have x2 := cell_keep hbr (g _ _ m2)
    have x3 := cell_keep hbr (g _ _ m3)
    have x4 := cell_keep hbr (g _ _ m4)
    have x5 := cell_keep hbr (g _ _ m5)
    have y0 := cell_keep hbr (g' _ _ k0)
    have y1 := cell_keep hbr (g' _ _ k1)
    have y2 := cell_keep hbr (g' _ _ k2)
    have y3 := cell_keep hbr (g' _ _ k3)
    have y4 := cell_keep hbr (g' _ _ k4)
    have y5 := cell_keep hbr (g' _ _ k5)
    rw [← Nat.add_assoc] at x1 x2 x3 x4 x5 y1 y2 y3 y4 y5
    clear m0 m1 m2 m3 m4 m5 k0 k1 k2 k3 k4 k5
    have i0 : (0 : Int) ≤ (i : Int) := by omega
    have i1 : (i : Int) < (l.length : Int) := by omega
    have i2 : (i : Int) < (l'.length : Int) := by omega
    have hpl : p' < wr.heap.size := lt_of_cell y0
    have hbz := hbr.size
    have hbA : Below w.heap.size w ((wr.alloc (tqObj kd (.slice no ns.length nc) op n s (.slice oo es.length cc))).alloc (tqObj kd' (.slice no' ns'.length nc') op' n' s' (.slice oo' es'.length cc'))) := (hbr.alloc hbz _).alloc (by simp; omega) _
    have HE : Hid (l[i] = .mk kd 0 b0 [lst ns, .mk op n s es] ∧ l'[i] = .mk kd' 0 b0 [lst ns', .mk op' n' s' es']) := ⟨e, e'⟩
    have HR : Hid (RowAt w S 1 (.slice no ns.length nc) ns.length (nameCells ns) ∧ RowAt w S 4 (.slice oo es.length cc) es.length zs ∧ ExIn w S es zs) := ⟨r0, r1, r2⟩
    have HT : Hid (RowAt w S' 1 (.slice no' ns'.length nc') ns'.length (nameCells ns') ∧ RowAt w S' 4 (.slice oo' es'.length cc') es'.length zs' ∧ ExIn w S' es' zs') := ⟨t0, t1, t2⟩
    clear g g' r0 r1 r2 t0 t1 t2 e e'
    go_wp2_with fail
    refine (alikeEq_is kd kd' ns ns' op op' n n' s s' es es' _ S S' no no' oo oo' nc nc' cc cc' zs zs' (HR.out.1.keep (Stays.below hbA (fun k hk => hk))) (HT.out.1.keep (Stays.below hbA (fun k hk => hk))) (HR.out.2.1.keep (Stays.below hbA (fun k hk => hk))) (HR.out.2.2.keep (Stays.below hbA (fun k hk => hk))) (HT.out.2.1.keep (Stays.below hbA (fun k hk => hk))) (HT.out.2.2.keep (Stays.below hbA (fun k hk => hk)))).mono ?_
    rintro e w4 ⟨r, rfl, hr, hb4⟩
    cases r with
    | false =>
     clear hr
     go_wp2
     go_ret
     exact ⟨false, rfl, by simp, hbA.trans (hb4.mono (by simp; omega))⟩
    | true =>
     have HB : Hid (∀ m (h1 : m < l.length) (h2 : m < l'.length), m < i + 1 → SameEq l[m] l'[m]) := fun m h1 h2 h => by
      rcases Nat.lt_succ_iff_lt_or_eq.1 h with h | rfl
      ·exact HA.out m h1 h2 h
      ·rw [HE.out.1, HE.out.2]; exact hr rfl
     clear hr
     go_wp2
     exact ⟨⟨i + 1, by omega, by go_num, hbA.trans (hb4.mono (by simp; omega)), HB.out⟩, by simp [intOf]; omega⟩
   ·go_wp2
    go_ret
    exact ⟨true, rfl, fun _ => ⟨HL.out, fun m h1 h2 => HA.out m h1 h2 (by omega)⟩, hbr⟩
 ·have hne : ((l.length : Int) == (l'.length : Int)) = false := by simp; omega
  clear hlen
  go_enter Tryz.func122, Tryz.ntmps122
  go_wp2
  go_ret
  exact ⟨false, rfl, by simp, Below.refl _ _⟩
set_option maxRecDepth 100000 in
set_option maxHeartbeats 1000000 in
theorem alikeNode_is (name name' : ByteArray) (ins ins' outs outs' owns owns' qs qs' : List Ex) (w : World) (S S' : Nat → Prop) (o1 o2 o3 o4 o1' o2' o3' o4' : Option Addr) (c1 c2 c3 c4 c1' c2' c3' c4' : Nat) (ys ys' : List Value) (h1 : (RowAt w S 2 (.slice o1 ins.length c1) ins.length (varCells ins) ∧ RowAt w S 2 (.slice o2 outs.length c2) outs.length (varCells outs) ∧ RowAt w S 2 (.slice o3 owns.length c3) owns.length (varCells owns) ∧ RowAt w S 6 (.slice o4 qs.length c4) qs.length ys ∧ EqIn w S qs ys)) (h2 : (RowAt w S' 2 (.slice o1' ins'.length c1') ins'.length (varCells ins') ∧ RowAt w S' 2 (.slice o2' outs'.length c2') outs'.length (varCells outs') ∧ RowAt w S' 2 (.slice o3' owns'.length c3') owns'.length (varCells owns') ∧ RowAt w S' 6 (.slice o4' qs'.length c4') qs'.length ys' ∧ EqIn w S' qs' ys')) :
  Calls Tryz.prog 86 #[.agg #[.string name, .slice o1 ins.length c1, .slice o2 outs.length c2, .slice o3 owns.length c3, .slice o4 qs.length c4], .agg #[.string name', .slice o1' ins'.length c1', .slice o2' outs'.length c2', .slice o3' owns'.length c3', .slice o4' qs'.length c4']] w (Tells (SameNd (.mk name 0 b0 [lst ins, lst outs, lst owns, lst qs]) (.mk name' 0 b0 [lst ins', lst outs', lst owns', lst qs'])) w) := by
 have hb : Below w.heap.size w ((w.alloc (tnObj name (.slice o1 ins.length c1) (.slice o2 outs.length c2) (.slice o3 owns.length c3) (.slice o4 qs.length c4))).alloc (tnObj name' (.slice o1' ins'.length c1') (.slice o2' outs'.length c2') (.slice o3' owns'.length c3') (.slice o4' qs'.length c4'))) := ((Below.refl _ _).alloc (Nat.le_refl _) _).alloc (by simp) _
 have H1 : Hid (RowAt w S 2 (.slice o1 ins.length c1) ins.length (varCells ins) ∧ RowAt w S 2 (.slice o2 outs.length c2) outs.length (varCells outs) ∧ RowAt w S 2 (.slice o3 owns.length c3) owns.length (varCells owns) ∧ RowAt w S 6 (.slice o4 qs.length c4) qs.length ys ∧ EqIn w S qs ys) := h1
 have H2 : Hid (RowAt w S' 2 (.slice o1' ins'.length c1') ins'.length (varCells ins') ∧ RowAt w S' 2 (.slice o2' outs'.length c2') outs'.length (varCells outs') ∧ RowAt w S' 2 (.slice o3' owns'.length c3') owns'.length (varCells owns') ∧ RowAt w S' 6 (.slice o4' qs'.length c4') qs'.length ys' ∧ EqIn w S' qs' ys') := h2
 obtain ⟨P, hP⟩ : ∃ P, P = SameNd (.mk name 0 b0 [lst ins, lst outs, lst owns, lst qs]) (.mk name' 0 b0 [lst ins', lst outs', lst owns', lst qs']) := ⟨_, rfl⟩
 rw [← hP]
 have HP : Hid (P = SameNd (.mk name 0 b0 [lst ins, lst outs, lst owns, lst qs]) (.mk name' 0 b0 [lst ins', lst outs', lst owns', lst qs'])) := hP
 clear h1 h2 hP
 have HF : Hid (∀ n, Below w.heap.size w (((w.alloc (tnObj name (.slice o1 ins.length c1) (.slice o2 outs.length c2) (.slice o3 owns.length c3) (.slice o4 qs.length c4))).alloc (tnObj name' (.slice o1' ins'.length c1') (.slice o2' outs'.length c2') (.slice o3' owns'.length c3') (.slice o4' qs'.length c4'))).drewN n)) := fun n => below_drewN hb n
 by_cases e1 : name = name'
 ·subst e1
  go_enter Tryz.func86, Tryz.ntmps86
  go_wp2_with fail
  refine (eqVars_is _ S S' o1 o1' c1 c1' ins ins' (H1.out.1.keep (Stays.below hb (fun k hk => hk))) (H2.out.1.keep (Stays.below hb (fun k hk => hk)))).mono ?_
  rintro e w1 ⟨r, rfl, hr, k1, rfl⟩
  cases r with
  | false =>
   clear hr
   go_wp2
   go_ret
   exact ⟨false, rfl, by simp, HF.out _⟩
  | true =>
   have HV1 : Hid (varCells ins = varCells ins') := hr rfl
   clear hr
   go_wp2_with fail
   refine (eqVars_is _ S S' o2 o2' c2 c2' outs outs' (H1.out.2.1.keep (Stays.below (HF.out _) (fun k hk => hk))) (H2.out.2.1.keep (Stays.below (HF.out _) (fun k hk => hk)))).mono ?_
   rintro e w1 ⟨r, rfl, hr, k2, rfl⟩
   cases r with
   | false =>
    clear hr
    go_wp2
    go_ret
    exact ⟨false, rfl, by simp, by simpa using HF.out _⟩
   | true =>
    have HV2 : Hid (varCells outs = varCells outs') := hr rfl
    clear hr
    go_wp2_with fail
    refine (eqVars_is _ S S' o3 o3' c3 c3' owns owns' (H1.out.2.2.1.keep (Stays.below (HF.out _) (fun k hk => hk))) (H2.out.2.2.1.keep (Stays.below (HF.out _) (fun k hk => hk)))).mono ?_
    rintro e w1 ⟨r, rfl, hr, k3, rfl⟩
    cases r with
    | false =>
     clear hr
     go_wp2
     go_ret
     exact ⟨false, rfl, by simp, by simpa using HF.out _⟩
    | true =>
     have HV3 : Hid (varCells owns = varCells owns') := hr rfl
     clear hr
     go_wp2_with fail
     refine (eqfQ_is qs qs' _ S S' o4 o4' c4 c4' ys ys' (H1.out.2.2.2.1.keep (Stays.below (HF.out _) (fun k hk => hk))) (H1.out.2.2.2.2.keep (Stays.below (HF.out _) (fun k hk => hk))) (H2.out.2.2.2.1.keep (Stays.below (HF.out _) (fun k hk => hk))) (H2.out.2.2.2.2.keep (Stays.below (HF.out _) (fun k hk => hk)))).mono ?_
     rintro e w4 ⟨r, rfl, hr, hb4⟩
     have HR : Hid (r = true → P) := fun h => by
      rw [HP.out]
      exact ⟨name, ins, ins', outs, outs', owns, owns', qs, qs', rfl, rfl, HV1.out, HV2.out, HV3.out, hr h⟩
     have hb5 := (HF.out _).trans (hb4.mono (by show _ ≤ (World.alloc _ _).heap.size; simp; omega))
     clear hr
     go_wp2
     go_ret
     exact ⟨r, by cases r <;> rfl, HR.out, hb5⟩
 ·have e1' := bytes_ne e1
  clear e1
  go_enter Tryz.func86, Tryz.ntmps86
  go_wp2
  go_ret
  exact ⟨false, rfl, by simp, hb⟩
set_option maxRecDepth 100000 in
set_option maxHeartbeats 1000000 in
theorem eqfN_is (l l' : List Ex) (w : World) (S S' : Nat → Prop) (o o' : Option Addr) (c c' : Nat) (ys ys' : List Value) (h1 : RowAt w S 5 (.slice o l.length c) l.length ys) (h2 : NdIn w S l ys) (h3 : RowAt w S' 5 (.slice o' l'.length c') l'.length ys') (h4 : NdIn w S' l' ys') :
  Calls Tryz.prog 85 #[.slice o l.length c, .slice o' l'.length c', .func (.func 86) #[] #[]] w (Tells (SameNds l l') w) := by
 have hl := h1.len
 unfold maxLen at hl
 have hl' := h3.len
 unfold maxLen at hl'
 have H1 : Hid (RowAt w S 5 (.slice o l.length c) l.length ys) := h1
 have H2 : Hid (NdIn w S l ys) := h2
 have H3 : Hid (RowAt w S' 5 (.slice o' l'.length c') l'.length ys') := h3
 have H4 : Hid (NdIn w S' l' ys') := h4
 clear h1 h2 h3 h4
 by_cases hlen : l.length = l'.length
 ·have HL : Hid (l.length = l'.length) := hlen
  have hlen' : (l'.length : Int) = (l.length : Int) := by omega
  rw [← hlen]
  clear hlen hl'
  go_enter Tryz.func85, Tryz.ntmps85
  go_wp2
  go_loopw [17] (fun t wr => ∃ i : Nat, i ≤ l.length ∧ t = .int .i64 i ∧ Below w.heap.size w wr ∧ ∀ m (h1 : m < l.length) (h2 : m < l'.length), m < i → SameNd l[m] l'[m]) (fun t _ => l.length - (intOf t).toNat)
  case atStart => exact ⟨0, Nat.zero_le _, rfl, Below.refl _ _, fun m _ _ h => absurd h (by omega)⟩
  case round =>
   obtain ⟨i, hi, rfl, hbr, hall⟩ := hrel
   have HA : Hid (∀ m (h1 : m < l.length) (h2 : m < l'.length), m < i → SameNd l[m] l'[m]) := hall
   clear hall
   by_cases hlt : i < l.length
   ·have hlt' : i < l'.length := by rw [← HL.out]; exact hlt
    obtain ⟨name, ins, outs, owns, qs, o1, c1, o2, c2, o3, c3, o4, c4, zs, e, m0, m1, m2, m3, m4, r1, r2, r3, r4, r5⟩ := H2.out.at hlt
    obtain ⟨name', ins', outs', owns', qs', o1', c1', o2', c2', o3', c3', o4', c4', zs', e', k0, k1, k2, k3, k4, t1, t2, t3, t4, t5⟩ := H4.out.at hlt'
    obtain ⟨p, f, rfl, _, g⟩ := row_get H1.out (by have := H1.out.1; omega)
    obtain ⟨p', f', rfl, _, g'⟩ := row_get H3.out (by have := H3.out.1; omega)
    have x0 := cell_keep hbr (g _ _ m0)
    have x1 := cell_keep hbr (g _ _ m1)
    have x2 := cell_keep hbr (g _ _ m2)
    have x3 := cell_keep hbr (g _ _ m3)
    have x4 := cell_keep hbr (g _ _ m4)
    have y0 := cell_keep hbr (g' _ _ k0)
    have y1 := cell_keep hbr (g' _ _ k1)
    have y2 := cell_keep hbr (g' _ _ k2)
    have y3 := cell_keep hbr (g' _ _ k3)
    have y4 := cell_keep hbr (g' _ _ k4)
    rw [← Nat.add_assoc] at x1 x2 x3 x4 y1 y2 y3 y4
    clear m0 m1 m2 m3 m4 k0 k1 k2 k3 k4
    have i0 : (0 : Int) ≤ (i : Int) := by omega
    have i1 : (i : Int) < (l.length : Int) := by omega
    have i2 : (i : Int) < (l'.length : Int) := by omega
    have hpl : p' < wr.heap.size := lt_of_cell y0
    have hbz := hbr.size
    have hbA : Below w.heap.size w ((wr.alloc (tnObj name (.slice o1 ins.length c1) (.slice o2 outs.length c2) (.slice o3 owns.length c3) (.slice o4 qs.length c4))).alloc (tnObj name' (.slice o1' ins'.length c1') (.slice o2' outs'.length c2') (.slice o3' owns'.length c3') (.slice o4' qs'.length c4'))) := (hbr.alloc hbz _).alloc (by simp; omega) _
    have HE : Hid (l[i] = .mk name 0 b0 [lst ins, lst outs, lst owns, lst qs] ∧ l'[i] = .mk name' 0 b0 [lst ins', lst outs', lst owns', lst qs']) := ⟨e, e'⟩
    have HR : Hid (RowAt w S 2 (.slice o1 ins.length c1) ins.length (varCells ins) ∧ RowAt w S 2 (.slice o2 outs.length c2) outs.length (varCells outs) ∧ RowAt w S 2 (.slice o3 owns.length c3) owns.length (varCells owns) ∧ RowAt w S 6 (.slice o4 qs.length c4) qs.length zs ∧ EqIn w S qs zs) := ⟨r1, r2, r3, r4, r5⟩
    have HT : Hid (RowAt w S' 2 (.slice o1' ins'.length c1') ins'.length (varCells ins') ∧ RowAt w S' 2 (.slice o2' outs'.length c2') outs'.length (varCells outs') ∧ RowAt w S' 2 (.slice o3' owns'.length c3') owns'.length (varCells owns') ∧ RowAt w S' 6 (.slice o4' qs'.length c4') qs'.length zs' ∧ EqIn w S' qs' zs') := ⟨t1, t2, t3, t4, t5⟩
    clear g g' r1 r2 r3 r4 r5 t1 t2 t3 t4 t5 e e'
    go_wp2_with fail
    refine (alikeNode_is name name' ins ins' outs outs' owns owns' qs qs' _ S S' o1 o2 o3 o4 o1' o2' o3' o4' c1 c2 c3 c4 c1' c2' c3' c4' zs zs' ⟨(HR.out.1.keep (Stays.below hbA (fun k hk => hk))), (HR.out.2.1.keep (Stays.below hbA (fun k hk => hk))), (HR.out.2.2.1.keep (Stays.below hbA (fun k hk => hk))), (HR.out.2.2.2.1.keep (Stays.below hbA (fun k hk => hk))), (HR.out.2.2.2.2.keep (Stays.below hbA (fun k hk => hk)))⟩ ⟨(HT.out.1.keep (Stays.below hbA (fun k hk => hk))), (HT.out.2.1.keep (Stays.below hbA (fun k hk => hk))), (HT.out.2.2.1.keep (Stays.below hbA (fun k hk => hk))), (HT.out.2.2.2.1.keep (Stays.below hbA (fun k hk => hk))), (HT.out.2.2.2.2.keep (Stays.below hbA (fun k hk => hk)))⟩).mono ?_
    rintro e w4 ⟨r, rfl, hr, hb4⟩
    cases r with
    | false =>
     clear hr
     go_wp2
     go_ret
     exact ⟨false, rfl, by simp, hbA.trans (hb4.mono (by simp; omega))⟩
    | true =>
     have HB : Hid (∀ m (h1 : m < l.length) (h2 : m < l'.length), m < i + 1 → SameNd l[m] l'[m]) := fun m h1 h2 h => by
      rcases Nat.lt_succ_iff_lt_or_eq.1 h with h | rfl
      ·exact HA.out m h1 h2 h
      ·rw [HE.out.1, HE.out.2]; exact hr rfl
     clear hr
     go_wp2
     exact ⟨⟨i + 1, by omega, by go_num, hbA.trans (hb4.mono (by simp; omega)), HB.out⟩, by simp [intOf]; omega⟩
   ·go_wp2
    go_ret
    exact ⟨true, rfl, fun _ => ⟨HL.out, fun m h1 h2 => HA.out m h1 h2 (by omega)⟩, hbr⟩
 ·have hne : ((l.length : Int) == (l'.length : Int)) = false := by simp; omega
  clear hlen
  go_enter Tryz.func85, Tryz.ntmps85
  go_wp2
  go_ret
  exact ⟨false, rfl, by simp, Below.refl _ _⟩
set_option maxRecDepth 100000 in
set_option maxHeartbeats 1000000 in
theorem alike_is (l l' : List Ex) (w : World) (S S' : Nat → Prop) (o o' : Option Addr) (c c' : Nat) (ys ys' : List Value) (h1 : RowAt w S 5 (.slice o l.length c) l.length ys) (h2 : NdIn w S l ys) (h3 : RowAt w S' 5 (.slice o' l'.length c') l'.length ys') (h4 : NdIn w S' l' ys') :
  Calls Tryz.prog 49 #[.slice o l.length c, .slice o' l'.length c'] w (Tells (SameNds l l') w) := by
 have HC : Hid (Calls Tryz.prog 85 #[.slice o l.length c, .slice o' l'.length c', .func (.func 86) #[] #[]] w (Tells (SameNds l l') w)) := eqfN_is l l' w S S' o o' c c' ys ys' h1 h2 h3 h4
 clear h1 h2 h3 h4
 go_enter Tryz.func49, Tryz.ntmps49
 go_wp2_with fail
 refine HC.out.mono ?_
 rintro e w4 ⟨r, rfl, hr, hb4⟩
 have HR : Hid (r = true → SameNds l l') := hr
 clear hr
 go_wp2
 go_ret
 exact ⟨r, rfl, HR.out, hb4⟩
theorem EqIn.same {w : World} {S : Nat → Prop} {l : List Ex} {xs : List Value} (h : EqIn w S l xs) : ∀ {l' : List Ex}, SameEqs l l' → EqIn w S l' xs := by
 induction h with
 | nil =>
  intro l' h
  obtain rfl : l' = [] := List.eq_nil_of_length_eq_zero (by simpa using h.1.symm)
  exact .nil
 | cons kind ns e es nv xs ys h1 h2 _ ih =>
  intro l' h
  cases l' with
  | nil => exact absurd h.1 (by simp)
  | cons a l' =>
   obtain ⟨k, ms, ms', t, q1, q2, q3⟩ := h.2 0 (by simp) (by simp)
   simp only [List.getElem_cons_zero, Ex.mk.injEq, lst, List.cons.injEq, and_true, true_and] at q1 q2
   obtain ⟨rfl, rfl, rfl⟩ := q1
   subst q2
   have hlen : ns.length = ms'.length := by have := congrArg List.length q3; simpa [nameCells] using this
   rw [hlen, q3] at h1
   exact .cons kind ms' e l' nv xs ys h1 h2 (ih ⟨by simpa using h.1, fun m h1 h2 => h.2 (m + 1) (by simpa using h1) (by simpa using h2)⟩)
theorem varCells_len {a b : List Ex} (h : varCells a = varCells b) : a.length = b.length := by
 have := congrArg List.length h
 rw [varCells_length, varCells_length] at this
 omega
theorem NdIn.same {w : World} {S : Nat → Prop} {l : List Ex} {xs : List Value} (h : NdIn w S l xs) : ∀ {l' : List Ex}, SameNds l l' → NdIn w S l' xs := by
 induction h with
 | nil =>
  intro l' h
  obtain rfl : l' = [] := List.eq_nil_of_length_eq_zero (by simpa using h.1.symm)
  exact .nil
 | cons name ins outs owns qs es v1 v2 v3 v4 xs ys h1 h2 h3 h4 h5 _ ih =>
  intro l' h
  cases l' with
  | nil => exact absurd h.1 (by simp)
  | cons a l' =>
   obtain ⟨nm, i1, i2, o1, o2, w1, w2, s1, s2, q1, q2, q3, q4, q5, q6⟩ := h.2 0 (by simp) (by simp)
   simp only [List.getElem_cons_zero, Ex.mk.injEq, lst, List.cons.injEq, and_true, true_and] at q1 q2
   obtain ⟨rfl, rfl, rfl, rfl, rfl⟩ := q1
   subst q2
   rw [varCells_len q3, q3] at h1
   rw [varCells_len q4, q4] at h2
   rw [varCells_len q5, q5] at h3
   have h5' := h5.same q6
   rw [q6.1] at h4
   exact .cons name i2 o2 w2 s2 l' v1 v2 v3 v4 xs ys h1 h2 h3 h4 h5' (ih ⟨by simpa using h.1, fun m h1 h2 => h.2 (m + 1) (by simpa using h1) (by simpa using h2)⟩)
end Go.Proofs.YtgbpccipdcajgaaGreatDoor
