/-
  package tree's alike BY ITS CONTRACT: terms.
-/
import Derived.Test.YtglkpgcmlbhkpabGreatDoorQ20
import Derived.Test.YtglkpgcmlbhkpabGreatDoorQ15
import Derived.Test.YtglkpgcmlbhkpabGreatDoorQ09
namespace Go.Proofs.YtglkpgcmlbhkpabGreatDoor
open Go.RowKit
attribute [local go_sem ↓] Go.wp_at_zero Go.wp_at_succ

abbrev teObj (op : ByteArray) (n : Int) (s : ByteArray) (v : Value) : Obj := .cells #[.string op, .int .i64 n, .string s, v] 62
abbrev AlikeT (m : Nat) : Prop := ∀ (op : ByteArray) (n : Int) (s : ByteArray) (l : List Ex), SizeOf.sizeOf l < m → ∀ (w : World) (S S' : Nat → Prop) (o o' : Option Addr) (c c' : Nat) (ys ys' : List Value), RowAt w S 4 (.slice o l.length c) l.length ys → ExIn w S l ys → RowAt w S' 4 (.slice o' l.length c') l.length ys' → ExIn w S' l ys' →
    Calls Tryz.prog 187 #[.agg #[.string op, .int .i64 n, .string s, .slice o l.length c], .agg #[.string op, .int .i64 n, .string s, .slice o' l.length c']] w fun e w' => e = .returned (.bool true) ∧ Below w.heap.size w w'
set_option maxRecDepth 100000 in
set_option maxHeartbeats 1000000 in
theorem eqfE_any (m : Nat) (IH : AlikeT m) (l : List Ex) (hm : SizeOf.sizeOf l < m + 1) (w : World) (S S' : Nat → Prop) (o o' : Option Addr) (c c' : Nat) (ys ys' : List Value) (h1 : RowAt w S 4 (.slice o l.length c) l.length ys) (h2 : ExIn w S l ys) (h3 : RowAt w S' 4 (.slice o' l.length c') l.length ys') (h4 : ExIn w S' l ys') :
    Calls Tryz.prog 213 #[.slice o l.length c, .slice o' l.length c', .func (.func 187) #[] #[]] w fun e w' => e = .returned (.bool true) ∧ Below w.heap.size w w' := by
  have hl := h1.len
  unfold maxLen at hl
  have H1 : Hid (RowAt w S 4 (.slice o l.length c) l.length ys) := h1
  have H2 : Hid (ExIn w S l ys) := h2
  have H3 : Hid (RowAt w S' 4 (.slice o' l.length c') l.length ys') := h3
  have H4 : Hid (ExIn w S' l ys') := h4
  have HI : Hid (AlikeT m) := IH
  clear h1 h2 h3 h4 IH
  go_enter Tryz.func213, Tryz.ntmps213
  go_wp2
  go_loopw [17] (fun t wr => ∃ i : Nat, i ≤ l.length ∧ t = .int .i64 i ∧ Below w.heap.size w wr) (fun t _ => l.length - (intOf t).toNat)
  case atStart => exact ⟨0, Nat.zero_le _, rfl, Below.refl _ _⟩
  case round =>
    obtain ⟨i, hi, rfl, hbr⟩ := hrel
    by_cases hlt : i < l.length
    · obtain ⟨op', n', s', es, oo, cc, zs, e, m0, m1, m2, m3, r1, r2⟩ := H2.out.at hlt
      obtain ⟨op'', n'', s'', es', oo', cc', zs', e', k0, k1, k2, k3, r3, r4⟩ := H4.out.at hlt
      rw [e] at e'
      injection e' with e1 e2 e3 e4
      subst e1 e2 e3 e4
      obtain ⟨p, f, rfl, _, g⟩ := row_get H1.out (by have := H1.out.1; omega)
      obtain ⟨p', f', rfl, _, g'⟩ := row_get H3.out (by have := H3.out.1; omega)
      have x0 := cell_keep hbr (g _ _ m0)
      have x1 := cell_keep hbr (g _ _ m1)
      have x2 := cell_keep hbr (g _ _ m2)
      have x3 := cell_keep hbr (g _ _ m3)
      have y0 := cell_keep hbr (g' _ _ k0)
      have y1 := cell_keep hbr (g' _ _ k1)
      have y2 := cell_keep hbr (g' _ _ k2)
      have y3 := cell_keep hbr (g' _ _ k3)
      rw [← Nat.add_assoc] at x1 x2 x3 y1 y2 y3
      clear m0 m1 m2 m3 k0 k1 k2 k3
      have i0 : (0 : Int) ≤ (i : Int) := by omega
      have i1 : (i : Int) < (l.length : Int) := by omega
      have hpl : p' < wr.heap.size := lt_of_cell y0
      have hsz := size_part hlt e
      have hbz := hbr.size
      have hbA : Below w.heap.size w ((wr.alloc (teObj op' n' s' (.slice oo es.length cc))).alloc (teObj op' n' s' (.slice oo' es.length cc'))) := (hbr.alloc hbz _).alloc (by simp; omega) _
      have Hr : Hid (Calls Tryz.prog 187 #[.agg #[.string op', .int .i64 n', .string s', .slice oo es.length cc], .agg #[.string op', .int .i64 n', .string s', .slice oo' es.length cc']] ((wr.alloc (teObj op' n' s' (.slice oo es.length cc))).alloc (teObj op' n' s' (.slice oo' es.length cc'))) fun e w' => e = .returned (.bool true) ∧ Below ((wr.alloc (teObj op' n' s' (.slice oo es.length cc))).alloc (teObj op' n' s' (.slice oo' es.length cc'))).heap.size ((wr.alloc (teObj op' n' s' (.slice oo es.length cc))).alloc (teObj op' n' s' (.slice oo' es.length cc'))) w') := HI.out op' n' s' es (by omega) ((wr.alloc (teObj op' n' s' (.slice oo es.length cc))).alloc (teObj op' n' s' (.slice oo' es.length cc'))) S S' oo oo' cc cc' zs zs' (r1.keep (Stays.below hbA (fun k hk => hk))) (r2.keep (Stays.below hbA (fun k hk => hk))) (r3.keep (Stays.below hbA (fun k hk => hk))) (r4.keep (Stays.below hbA (fun k hk => hk)))
      clear g g' r1 r2 r3 r4 hsz
      go_wp2_with fail
      refine Hr.out.mono ?_
      rintro e w4 ⟨rfl, hb4⟩
      go_wp2
      exact ⟨⟨i + 1, by omega, by go_num, hbA.trans (hb4.mono (by simp; omega))⟩, by simp [intOf]; omega⟩
    · go_wp2
      go_ret
      exact ⟨rfl, hbr⟩

set_option maxRecDepth 100000 in
set_option maxHeartbeats 1000000 in
theorem alikeTerms_any : ∀ (m : Nat), AlikeT m
  | 0 => fun _ _ _ _ h => absurd h (Nat.not_lt_zero _)
  | m + 1 => by
    intro op n s l hm w S S' o o' c c' ys ys' h1 h2 h3 h4
    have IH := alikeTerms_any m
    have hbA : Below w.heap.size w ((w.alloc (teObj op n s (.slice o l.length c))).alloc (teObj op n s (.slice o' l.length c'))) := ((Below.refl _ _).alloc (Nat.le_refl _) _).alloc (by simp) _
    have h1 := h1.keep (Stays.below hbA (fun k hk => hk))
    have h2 := h2.keep (Stays.below hbA (fun k hk => hk))
    have h3 := h3.keep (Stays.below hbA (fun k hk => hk))
    have h4 := h4.keep (Stays.below hbA (fun k hk => hk))
    have Hr : Hid (Calls Tryz.prog 213 #[.slice o l.length c, .slice o' l.length c', .func (.func 187) #[] #[]] ((w.alloc (teObj op n s (.slice o l.length c))).alloc (teObj op n s (.slice o' l.length c'))) fun e w' => e = .returned (.bool true) ∧ Below ((w.alloc (teObj op n s (.slice o l.length c))).alloc (teObj op n s (.slice o' l.length c'))).heap.size ((w.alloc (teObj op n s (.slice o l.length c))).alloc (teObj op n s (.slice o' l.length c'))) w') := eqfE_any m IH l hm _ S S' o o' c c' ys ys' h1 h2 h3 h4
    clear h1 h2 h3 h4 IH
    go_enter Tryz.func187, Tryz.ntmps187
    go_wp2_with fail
    refine Hr.out.mono ?_
    rintro e w4 ⟨rfl, hb4⟩
    go_wp2
    go_ret
    exact ⟨rfl, hbA.trans (hb4.mono (by simp; omega))⟩
end Go.Proofs.YtglkpgcmlbhkpabGreatDoor

/-
  package tree's alike BY ITS CONTRACT: equations.
-/
namespace Go.Proofs.YtglkpgcmlbhkpabGreatDoor
open Go.RowKit
attribute [local go_sem ↓] Go.wp_at_zero Go.wp_at_succ

abbrev tqObj (k : ByteArray) (v : Value) (op : ByteArray) (n : Int) (s : ByteArray) (u : Value) : Obj := .cells #[.string k, v, .string op, .int .i64 n, .string s, u] 98
set_option maxRecDepth 100000 in
set_option maxHeartbeats 1000000 in
theorem alikeEq_any (k : ByteArray) (ns : List Ex) (op : ByteArray) (n : Int) (s : ByteArray) (l : List Ex) (w : World) (S S' : Nat → Prop) (no no' o o' : Option Addr) (nc nc' c c' : Nat) (ys ys' : List Value) (g1 : RowAt w S 1 (.slice no ns.length nc) ns.length (nameCells ns)) (g2 : RowAt w S' 1 (.slice no' ns.length nc') ns.length (nameCells ns)) (h1 : RowAt w S 4 (.slice o l.length c) l.length ys) (h2 : ExIn w S l ys) (h3 : RowAt w S' 4 (.slice o' l.length c') l.length ys') (h4 : ExIn w S' l ys') :
    Calls Tryz.prog 134 #[.agg #[.string k, .slice no ns.length nc, .string op, .int .i64 n, .string s, .slice o l.length c], .agg #[.string k, .slice no' ns.length nc', .string op, .int .i64 n, .string s, .slice o' l.length c']] w fun e w' => e = .returned (.bool true) ∧ Below w.heap.size w w' := by
  have hbA : Below w.heap.size w ((w.alloc (tqObj k (.slice no ns.length nc) op n s (.slice o l.length c))).alloc (tqObj k (.slice no' ns.length nc') op n s (.slice o' l.length c'))) := ((Below.refl _ _).alloc (Nat.le_refl _) _).alloc (by simp) _
  have H1 : Hid (RowAt w S 4 (.slice o l.length c) l.length ys) := h1
  have H2 : Hid (ExIn w S l ys) := h2
  have H3 : Hid (RowAt w S' 4 (.slice o' l.length c') l.length ys') := h3
  have H4 : Hid (ExIn w S' l ys') := h4
  have G1 : Hid (RowAt w S 1 (.slice no ns.length nc) ns.length (nameCells ns)) := g1
  have G2 : Hid (RowAt w S' 1 (.slice no' ns.length nc') ns.length (nameCells ns)) := g2
  clear h1 h2 h3 h4 g1 g2
  go_enter Tryz.func134, Tryz.ntmps134
  go_wp2_with fail
  refine (eqTexts_any _ S S' no no' nc nc' ns (G1.out.keep (Stays.below hbA (fun k hk => hk))) (G2.out.keep (Stays.below hbA (fun k hk => hk)))).mono ?_
  rintro e w1 ⟨rfl, k1, rfl⟩
  have hb1 := below_drewN hbA k1
  go_wp2_with fail
  refine (alikeTerms_any (SizeOf.sizeOf l + 1) op n s l (by omega) _ S S' o o' c c' ys ys' (H1.out.keep (Stays.below hb1 (fun k hk => hk))) (H2.out.keep (Stays.below hb1 (fun k hk => hk))) (H3.out.keep (Stays.below hb1 (fun k hk => hk))) (H4.out.keep (Stays.below hb1 (fun k hk => hk)))).mono ?_
  rintro e w2 ⟨rfl, hb2⟩
  go_wp2
  go_ret
  exact ⟨rfl, hb1.trans (hb2.mono (by show _ ≤ (World.alloc _ _).heap.size; simp; omega))⟩
set_option maxRecDepth 100000 in
set_option maxHeartbeats 1000000 in
theorem eqfQ_any (l : List Ex) (w : World) (S S' : Nat → Prop) (o o' : Option Addr) (c c' : Nat) (ys ys' : List Value) (h1 : RowAt w S 6 (.slice o l.length c) l.length ys) (h2 : EqIn w S l ys) (h3 : RowAt w S' 6 (.slice o' l.length c') l.length ys') (h4 : EqIn w S' l ys') :
    Calls Tryz.prog 133 #[.slice o l.length c, .slice o' l.length c', .func (.func 134) #[] #[]] w fun e w' => e = .returned (.bool true) ∧ Below w.heap.size w w' := by
  have hl := h1.len
  unfold maxLen at hl
  have H1 : Hid (RowAt w S 6 (.slice o l.length c) l.length ys) := h1
  have H2 : Hid (EqIn w S l ys) := h2
  have H3 : Hid (RowAt w S' 6 (.slice o' l.length c') l.length ys') := h3
  have H4 : Hid (EqIn w S' l ys') := h4
  clear h1 h2 h3 h4
  go_enter Tryz.func133, Tryz.ntmps133
  go_wp2
  go_loopw [17] (fun t wr => ∃ i : Nat, i ≤ l.length ∧ t = .int .i64 i ∧ Below w.heap.size w wr) (fun t _ => l.length - (intOf t).toNat)
  case atStart => exact ⟨0, Nat.zero_le _, rfl, Below.refl _ _⟩
  case round =>
    obtain ⟨i, hi, rfl, hbr⟩ := hrel
    by_cases hlt : i < l.length
    · obtain ⟨kd, ns, no, nc, op, n, s, es, oo, cc, zs, e, m0, m1, m2, m3, m4, m5, r0, r1, r2⟩ := H2.out.at hlt
      obtain ⟨kd', ns', no', nc', op', n', s', es', oo', cc', zs', e', k0, k1, k2, k3, k4, k5, t0, t1, t2⟩ := H4.out.at hlt
      rw [e] at e'
      simp only [Ex.mk.injEq, lst, List.cons.injEq, and_true, true_and] at e'
      obtain ⟨rfl, rfl, rfl, rfl, rfl, rfl⟩ := e'
      obtain ⟨p, f, rfl, _, g⟩ := row_get H1.out (by have := H1.out.1; omega)
      obtain ⟨p', f', rfl, _, g'⟩ := row_get H3.out (by have := H3.out.1; omega)
      have x0 := cell_keep hbr (g _ _ m0)
      have x1 := cell_keep hbr (g _ _ m1)
      have x2 := cell_keep hbr (g _ _ m2)
      have x3 := cell_keep hbr (g _ _ m3)
      have x4 := cell_keep hbr (g _ _ m4)
      have x5 := cell_keep hbr (g _ _ m5)
      have y0 := cell_keep hbr (g' _ _ k0)
      have y1 := cell_keep hbr (g' _ _ k1)
      have y2 := cell_keep hbr (g' _ _ k2)
      have y3 := cell_keep hbr (g' _ _ k3)
      have y4 := cell_keep hbr (g' _ _ k4)
      have y5 := cell_keep hbr (g' _ _ k5)
      rw [← Nat.add_assoc] at x1 x2 x3 x4 x5 y1 y2 y3 y4 y5
      clear m0 m1 m2 m3 m4 m5 k0 k1 k2 k3 k4 k5
      have i0 : (0 : Int) ≤ (i : Int) := by omega
      have i1 : (i : Int) < (l.length : Int) := by omega
      have hpl : p' < wr.heap.size := lt_of_cell y0
      have hbz := hbr.size
      have hbA : Below w.heap.size w ((wr.alloc (tqObj kd (.slice no ns.length nc) op n s (.slice oo es.length cc))).alloc (tqObj kd (.slice no' ns.length nc') op n s (.slice oo' es.length cc'))) := (hbr.alloc hbz _).alloc (by simp; omega) _
      have HR : Hid (RowAt w S 1 (.slice no ns.length nc) ns.length (nameCells ns) ∧ RowAt w S 4 (.slice oo es.length cc) es.length zs ∧ ExIn w S es zs) := ⟨r0, r1, r2⟩
      have HT : Hid (RowAt w S' 1 (.slice no' ns.length nc') ns.length (nameCells ns) ∧ RowAt w S' 4 (.slice oo' es.length cc') es.length zs' ∧ ExIn w S' es zs') := ⟨t0, t1, t2⟩
      clear g g' r0 r1 r2 t0 t1 t2
      go_wp2_with fail
      refine (alikeEq_any kd ns op n s es _ S S' no no' oo oo' nc nc' cc cc' zs zs' (HR.out.1.keep (Stays.below hbA (fun k hk => hk))) (HT.out.1.keep (Stays.below hbA (fun k hk => hk))) (HR.out.2.1.keep (Stays.below hbA (fun k hk => hk))) (HR.out.2.2.keep (Stays.below hbA (fun k hk => hk))) (HT.out.2.1.keep (Stays.below hbA (fun k hk => hk))) (HT.out.2.2.keep (Stays.below hbA (fun k hk => hk)))).mono ?_
      rintro e w4 ⟨rfl, hb4⟩
      go_wp2
      exact ⟨⟨i + 1, by omega, by go_num, hbA.trans (hb4.mono (by simp; omega))⟩, by simp [intOf]; omega⟩
    · go_wp2
      go_ret
      exact ⟨rfl, hbr⟩
end Go.Proofs.YtglkpgcmlbhkpabGreatDoor

/-
  package tree's alike BY ITS CONTRACT: nodes.
-/
namespace Go.Proofs.YtglkpgcmlbhkpabGreatDoor
open Go.RowKit
attribute [local go_sem ↓] Go.wp_at_zero Go.wp_at_succ

abbrev tnObj (name : ByteArray) (a b c d : Value) : Obj := .cells #[.string name, a, b, c, d] 84
set_option maxRecDepth 100000 in
set_option maxHeartbeats 1000000 in
theorem alikeNode_any (name : ByteArray) (ins outs owns qs : List Ex) (w : World) (S S' : Nat → Prop) (o1 o2 o3 o4 o1' o2' o3' o4' : Option Addr) (c1 c2 c3 c4 c1' c2' c3' c4' : Nat) (ys ys' : List Value) (h1 : (RowAt w S 2 (.slice o1 ins.length c1) ins.length (varCells ins) ∧ RowAt w S 2 (.slice o2 outs.length c2) outs.length (varCells outs) ∧ RowAt w S 2 (.slice o3 owns.length c3) owns.length (varCells owns) ∧ RowAt w S 6 (.slice o4 qs.length c4) qs.length ys ∧ EqIn w S qs ys)) (h2 : (RowAt w S' 2 (.slice o1' ins.length c1') ins.length (varCells ins) ∧ RowAt w S' 2 (.slice o2' outs.length c2') outs.length (varCells outs) ∧ RowAt w S' 2 (.slice o3' owns.length c3') owns.length (varCells owns) ∧ RowAt w S' 6 (.slice o4' qs.length c4') qs.length ys' ∧ EqIn w S' qs ys')) :
    Calls Tryz.prog 87 #[.agg #[.string name, .slice o1 ins.length c1, .slice o2 outs.length c2, .slice o3 owns.length c3, .slice o4 qs.length c4], .agg #[.string name, .slice o1' ins.length c1', .slice o2' outs.length c2', .slice o3' owns.length c3', .slice o4' qs.length c4']] w fun e w' => e = .returned (.bool true) ∧ Below w.heap.size w w' := by
  have hb : Below w.heap.size w ((w.alloc (tnObj name (.slice o1 ins.length c1) (.slice o2 outs.length c2) (.slice o3 owns.length c3) (.slice o4 qs.length c4))).alloc (tnObj name (.slice o1' ins.length c1') (.slice o2' outs.length c2') (.slice o3' owns.length c3') (.slice o4' qs.length c4'))) := ((Below.refl _ _).alloc (Nat.le_refl _) _).alloc (by simp) _
  have H1 : Hid (RowAt w S 2 (.slice o1 ins.length c1) ins.length (varCells ins) ∧ RowAt w S 2 (.slice o2 outs.length c2) outs.length (varCells outs) ∧ RowAt w S 2 (.slice o3 owns.length c3) owns.length (varCells owns) ∧ RowAt w S 6 (.slice o4 qs.length c4) qs.length ys ∧ EqIn w S qs ys) := h1
  have H2 : Hid (RowAt w S' 2 (.slice o1' ins.length c1') ins.length (varCells ins) ∧ RowAt w S' 2 (.slice o2' outs.length c2') outs.length (varCells outs) ∧ RowAt w S' 2 (.slice o3' owns.length c3') owns.length (varCells owns) ∧ RowAt w S' 6 (.slice o4' qs.length c4') qs.length ys' ∧ EqIn w S' qs ys') := h2
  clear h1 h2
  go_enter Tryz.func87, Tryz.ntmps87
  go_wp2_with fail
  refine (eqVars_any _ S S' o1 o1' c1 c1' ins (H1.out.1.keep (Stays.below hb (fun k hk => hk))) (H2.out.1.keep (Stays.below hb (fun k hk => hk)))).mono ?_
  rintro e w1 ⟨rfl, k1, rfl⟩
  go_wp2_with fail
  refine (eqVars_any _ S S' o2 o2' c2 c2' outs (H1.out.2.1.keep (Stays.below (below_drewN hb _) (fun k hk => hk))) (H2.out.2.1.keep (Stays.below (below_drewN hb _) (fun k hk => hk)))).mono ?_
  rintro e w1 ⟨rfl, k2, rfl⟩
  go_wp2_with fail
  refine (eqVars_any _ S S' o3 o3' c3 c3' owns (H1.out.2.2.1.keep (Stays.below (below_drewN hb _) (fun k hk => hk))) (H2.out.2.2.1.keep (Stays.below (below_drewN hb _) (fun k hk => hk)))).mono ?_
  rintro e w1 ⟨rfl, k3, rfl⟩
  have hbF : ∀ n, Below w.heap.size w (((w.alloc (tnObj name (.slice o1 ins.length c1) (.slice o2 outs.length c2) (.slice o3 owns.length c3) (.slice o4 qs.length c4))).alloc (tnObj name (.slice o1' ins.length c1') (.slice o2' outs.length c2') (.slice o3' owns.length c3') (.slice o4' qs.length c4'))).drewN n) := fun n => below_drewN hb n
  have HF : Hid _ := hbF
  clear hbF
  go_wp2_with fail
  refine (eqfQ_any qs _ S S' o4 o4' c4 c4' ys ys' (H1.out.2.2.2.1.keep (Stays.below (HF.out _) (fun k hk => hk))) (H1.out.2.2.2.2.keep (Stays.below (HF.out _) (fun k hk => hk))) (H2.out.2.2.2.1.keep (Stays.below (HF.out _) (fun k hk => hk))) (H2.out.2.2.2.2.keep (Stays.below (HF.out _) (fun k hk => hk)))).mono ?_
  rintro e w4 ⟨rfl, hb4⟩
  go_wp2
  go_ret
  exact ⟨rfl, (HF.out _).trans (hb4.mono (by show _ ≤ (World.alloc _ _).heap.size; simp; omega))⟩
set_option maxRecDepth 100000 in
set_option maxHeartbeats 1000000 in
theorem eqfN_any (l : List Ex) (w : World) (S S' : Nat → Prop) (o o' : Option Addr) (c c' : Nat) (ys ys' : List Value) (h1 : RowAt w S 5 (.slice o l.length c) l.length ys) (h2 : NdIn w S l ys) (h3 : RowAt w S' 5 (.slice o' l.length c') l.length ys') (h4 : NdIn w S' l ys') :
    Calls Tryz.prog 86 #[.slice o l.length c, .slice o' l.length c', .func (.func 87) #[] #[]] w fun e w' => e = .returned (.bool true) ∧ Below w.heap.size w w' := by
  have hl := h1.len
  unfold maxLen at hl
  have H1 : Hid (RowAt w S 5 (.slice o l.length c) l.length ys) := h1
  have H2 : Hid (NdIn w S l ys) := h2
  have H3 : Hid (RowAt w S' 5 (.slice o' l.length c') l.length ys') := h3
  have H4 : Hid (NdIn w S' l ys') := h4
  clear h1 h2 h3 h4
  go_enter Tryz.func86, Tryz.ntmps86
  go_wp2
  go_loopw [17] (fun t wr => ∃ i : Nat, i ≤ l.length ∧ t = .int .i64 i ∧ Below w.heap.size w wr) (fun t _ => l.length - (intOf t).toNat)
  case atStart => exact ⟨0, Nat.zero_le _, rfl, Below.refl _ _⟩
  case round =>
    obtain ⟨i, hi, rfl, hbr⟩ := hrel
    by_cases hlt : i < l.length
    · obtain ⟨name, ins, outs, owns, qs, o1, c1, o2, c2, o3, c3, o4, c4, zs, e, m0, m1, m2, m3, m4, r1, r2, r3, r4, r5⟩ := H2.out.at hlt
      obtain ⟨name', ins', outs', owns', qs', o1', c1', o2', c2', o3', c3', o4', c4', zs', e', k0, k1, k2, k3, k4, q1, q2, q3, q4, q5⟩ := H4.out.at hlt
      rw [e] at e'
      simp only [Ex.mk.injEq, lst, List.cons.injEq, and_true, true_and] at e'
      obtain ⟨rfl, rfl, rfl, rfl, rfl⟩ := e'
      obtain ⟨p, f, rfl, _, g⟩ := row_get H1.out (by have := H1.out.1; omega)
      obtain ⟨p', f', rfl, _, g'⟩ := row_get H3.out (by have := H3.out.1; omega)
      have x0 := cell_keep hbr (g _ _ m0)
      have x1 := cell_keep hbr (g _ _ m1)
      have x2 := cell_keep hbr (g _ _ m2)
      have x3 := cell_keep hbr (g _ _ m3)
      have x4 := cell_keep hbr (g _ _ m4)
      have y0 := cell_keep hbr (g' _ _ k0)
      have y1 := cell_keep hbr (g' _ _ k1)
      have y2 := cell_keep hbr (g' _ _ k2)
      have y3 := cell_keep hbr (g' _ _ k3)
      have y4 := cell_keep hbr (g' _ _ k4)
      rw [← Nat.add_assoc] at x1 x2 x3 x4 y1 y2 y3 y4
      clear m0 m1 m2 m3 m4 k0 k1 k2 k3 k4
      have i0 : (0 : Int) ≤ (i : Int) := by omega
      have i1 : (i : Int) < (l.length : Int) := by omega
      have hpl : p' < wr.heap.size := lt_of_cell y0
      have hbz := hbr.size
      have hbA : Below w.heap.size w ((wr.alloc (tnObj name (.slice o1 ins.length c1) (.slice o2 outs.length c2) (.slice o3 owns.length c3) (.slice o4 qs.length c4))).alloc (tnObj name (.slice o1' ins.length c1') (.slice o2' outs.length c2') (.slice o3' owns.length c3') (.slice o4' qs.length c4'))) := (hbr.alloc hbz _).alloc (by simp; omega) _
      have HR : Hid (RowAt w S 2 (.slice o1 ins.length c1) ins.length (varCells ins) ∧ RowAt w S 2 (.slice o2 outs.length c2) outs.length (varCells outs) ∧ RowAt w S 2 (.slice o3 owns.length c3) owns.length (varCells owns) ∧ RowAt w S 6 (.slice o4 qs.length c4) qs.length zs ∧ EqIn w S qs zs) := ⟨r1, r2, r3, r4, r5⟩
      have HT : Hid (RowAt w S' 2 (.slice o1' ins.length c1') ins.length (varCells ins) ∧ RowAt w S' 2 (.slice o2' outs.length c2') outs.length (varCells outs) ∧ RowAt w S' 2 (.slice o3' owns.length c3') owns.length (varCells owns) ∧ RowAt w S' 6 (.slice o4' qs.length c4') qs.length zs' ∧ EqIn w S' qs zs') := ⟨q1, q2, q3, q4, q5⟩
      clear g g' r1 r2 r3 r4 r5 q1 q2 q3 q4 q5
      go_wp2_with fail
      refine (alikeNode_any name ins outs owns qs _ S S' o1 o2 o3 o4 o1' o2' o3' o4' c1 c2 c3 c4 c1' c2' c3' c4' zs zs' ⟨(HR.out.1.keep (Stays.below hbA (fun k hk => hk))), (HR.out.2.1.keep (Stays.below hbA (fun k hk => hk))), (HR.out.2.2.1.keep (Stays.below hbA (fun k hk => hk))), (HR.out.2.2.2.1.keep (Stays.below hbA (fun k hk => hk))), (HR.out.2.2.2.2.keep (Stays.below hbA (fun k hk => hk)))⟩ ⟨(HT.out.1.keep (Stays.below hbA (fun k hk => hk))), (HT.out.2.1.keep (Stays.below hbA (fun k hk => hk))), (HT.out.2.2.1.keep (Stays.below hbA (fun k hk => hk))), (HT.out.2.2.2.1.keep (Stays.below hbA (fun k hk => hk))), (HT.out.2.2.2.2.keep (Stays.below hbA (fun k hk => hk)))⟩).mono ?_
      rintro e w4 ⟨rfl, hb4⟩
      go_wp2
      exact ⟨⟨i + 1, by omega, by go_num, hbA.trans (hb4.mono (by simp; omega))⟩, by simp [intOf]; omega⟩
    · go_wp2
      go_ret
      exact ⟨rfl, hbr⟩
set_option maxRecDepth 100000 in
set_option maxHeartbeats 1000000 in
theorem alike_any (l : List Ex) (w : World) (S S' : Nat → Prop) (o o' : Option Addr) (c c' : Nat) (ys ys' : List Value) (h1 : RowAt w S 5 (.slice o l.length c) l.length ys) (h2 : NdIn w S l ys) (h3 : RowAt w S' 5 (.slice o' l.length c') l.length ys') (h4 : NdIn w S' l ys') :
    Calls Tryz.prog 38 #[.slice o l.length c, .slice o' l.length c'] w fun e w' => e = .returned (.bool true) ∧ Below w.heap.size w w' := by
  have H1 : Hid (RowAt w S 5 (.slice o l.length c) l.length ys) := h1
  have H2 : Hid (NdIn w S l ys) := h2
  have H3 : Hid (RowAt w S' 5 (.slice o' l.length c') l.length ys') := h3
  have H4 : Hid (NdIn w S' l ys') := h4
  clear h1 h2 h3 h4
  go_enter Tryz.func38, Tryz.ntmps38
  go_wp2_with fail
  refine (eqfN_any l _ S S' o o' c c' ys ys' H1.out H2.out H3.out H4.out).mono ?_
  rintro e w4 ⟨rfl, hb4⟩
  go_wp2
  go_ret
  exact ⟨rfl, hb4⟩
end Go.Proofs.YtglkpgcmlbhkpabGreatDoor

/-
  HOW LONG THE LISTS ARE THAT ARE READ (mathematics alone): no longer than there are tokens, and four.
-/
namespace Go.Proofs.YtglkpgcmlbhkpabGreatDoor

/-- No list in these is longer. -/
inductive Fit (N : Nat) : List Ex → Prop
  | nil : Fit N []
  | cons (op : ByteArray) (n : Int) (s : ByteArray) (l es : List Ex) : l.length ≤ N → Fit N l → Fit N es → Fit N (.mk op n s l :: es)
theorem Fit.append {N : Nat} {a b : List Ex} (h : Fit N a) (g : Fit N b) : Fit N (a ++ b) := by
  induction h with
  | nil => exact g
  | cons op n s l es h1 h2 _ _ ih => exact .cons op n s l _ h1 h2 ih
theorem Fit.one {N : Nat} {op : ByteArray} {n : Int} {s : ByteArray} {l : List Ex} (h1 : l.length ≤ N) (h2 : Fit N l) : Fit N [.mk op n s l] := .cons op n s l [] h1 h2 .nil
theorem Fit.leaf {N : Nat} {op : ByteArray} {n : Int} {s : ByteArray} : Fit N [.mk op n s []] := .one (Nat.zero_le _) .nil

section
variable (l : List Tk)
/-- What must hold ahead of a call: no more is gathered than was read. -/
def Pre (c : Cd) (i : Nat) : Prop := match c with
  | .loop _ a => a.length = 1 ∧ Fit (l.length + 4) a
  | .more a | .vars a | .owns a | .names a | .eqs a | .nodes a => a.length ≤ i ∧ Fit (l.length + 4) a
  | _ => True
def Post (c : Cd) (i : Nat) (e : List Ex) (j : Nat) : Prop := Fit (l.length + 4) e ∧ match c with
  | .term | .left _ | .not | .cmp | .un | .atom | .one | .eq | .node => e.length = 1 ∧ i < j ∧ j ≤ l.length
  | .loop _ _ => e.length = 1 ∧ i ≤ j ∧ (i ≤ l.length → j ≤ l.length)
  | .args | .more _ | .vars _ | .owns _ | .names _ | .eqs _ | .nodes _ => e.length ≤ j ∧ i ≤ j ∧ (i ≤ l.length → j ≤ l.length)
/-- All its calls are so, and so is what it tells. -/
def Vc (Q : List Ex → Nat → Prop) : Act → Prop
  | .ret (.ok e j) => Q e j
  | .ret (.bad _ _) => True
  | .call c i _ k => Pre l c i ∧ ∀ e j, Post l c i e j → Vc Q (k e j)
end
section
variable {l : List Tk}
theorem tx_lt {i : Nat} {x : List UInt8} (h : tx l i x = true) (hx : x ≠ []) : i < l.length := by
  rcases Nat.lt_or_ge i l.length with h1 | h1
  · exact h1
  · exfalso
    have : tkx l i = b0 := by unfold tkx; rw [dif_neg (by omega)]
    rw [tx, this, ByteArray.toList_eq] at h
    simp at h
    exact hx h
theorem txs_lt {i : Nat} {xs : List (List UInt8)} (h : txs l i xs = true) (hx : [] ∉ xs) : i < l.length := by
  rw [txs, List.any_eq_true] at h
  obtain ⟨x, h1, h2⟩ := h
  exact tx_lt h2 (fun e => hx (e ▸ h1))
theorem kind_lt {i : Nat} {x : List UInt8} (h : ((tkk l i).toList == x) = true) (hx : x ≠ []) : i < l.length := by
  rcases Nat.lt_or_ge i l.length with h1 | h1
  · exact h1
  · exfalso
    have : tkk l i = b0 := by unfold tkk; rw [dif_neg (by omega)]
    rw [this, ByteArray.toList_eq] at h
    simp at h
    exact hx h
theorem Vc.exp {Q : List Ex → Nat → Prop} {i : Nat} {x : List UInt8} {k : Nat → Act} (hx : x ≠ []) (h : i < l.length → Vc l Q (k (i + 1))) : Vc l Q (expA l i x k) := by
  unfold expA
  split
  · rename_i g; exact h (tx_lt g hx)
  · exact trivial
theorem Vc.nam {Q : List Ex → Nat → Prop} {i : Nat} {k : Nat → Act} (h : i < l.length → Vc l Q (k (i + 1))) : Vc l Q (nameA l i k) := by
  unfold nameA
  split
  · rename_i g; exact h (kind_lt g (by simp))
  · exact trivial
theorem Vc.down {Q : List Ex → Nat → Prop} {i d : Nat} {k : Act} (h : Vc l Q k) : Vc l Q (downA i d k) := by
  unfold downA
  split
  · exact trivial
  · exact h
theorem Vc.ite {Q : List Ex → Nat → Prop} {c : Bool} {x y : Act} (h : c = true → Vc l Q x) (g : c = false → Vc l Q y) : Vc l Q (if c then x else y) := by
  cases c with
  | true => exact h rfl
  | false => exact g rfl
theorem Vc.call {Q : List Ex → Nat → Prop} {c : Cd} {i d : Nat} {k : List Ex → Nat → Act} (h : Pre l c i) (g : ∀ e j, Post l c i e j → Vc l Q (k e j)) : Vc l Q (.call c i d k) := ⟨h, g⟩
theorem Vc.ret {Q : List Ex → Nat → Prop} {e : List Ex} {j : Nat} (h : Q e j) : Vc l Q (retA e j) := h
theorem post_part {v : Lv} {i j : Nat} {e : List Ex} (h : Post l v.part i e j) : Fit (l.length + 4) e ∧ e.length = 1 ∧ i < j ∧ j ≤ l.length := by cases v <;> exact h
theorem pre_part {v : Lv} {i : Nat} : Pre l v.part i := by cases v <;> exact trivial
theorem fit_nm {i : Nat} : Fit (l.length + 4) [nm l i] := .leaf
theorem fit_lst {a b : List Ex} (h : a.length ≤ l.length) (h1 : Fit (l.length + 4) a) (h2 : Fit (l.length + 4) b) : Fit (l.length + 4) (lst a :: b) := .cons _ _ _ a b (by omega) h1 h2

theorem vc_end {kind : ByteArray} {names : List Ex} {i i0 d : Nat} (h1 : names.length ≤ l.length) (h2 : Fit (l.length + 4) names) (hi : i0 < i) : Vc l (Post l .eq i0) (endA l kind names i d) :=
  .call trivial fun e j ⟨f, h3, h4, h5⟩ => .exp (by decide) fun h6 => .ret ⟨.one (by simp [h3]) (fit_lst h1 h2 f), rfl, by omega, by omega⟩
theorem vc_body {name : ByteArray} {ins : List Ex} {i i0 d : Nat} (h1 : ins.length ≤ l.length) (h2 : Fit (l.length + 4) ins) (hi : i0 < i) : Vc l (Post l .node i0) (bodyA l name ins i d) := by
  refine .exp (by decide) fun a1 => .exp (by decide) fun a2 => .exp (by decide) fun a3 => .call trivial fun o i1 ⟨f1, b1, b2, b3⟩ => .call ⟨by omega, f1⟩ fun outs i2 ⟨f2, c1, c2, c3⟩ => .exp (by decide) fun a4 => .exp (by decide) fun a5 => ?_
  have R : ∀ (owns : List Ex) (i : Nat), owns.length ≤ l.length → Fit (l.length + 4) owns → i0 < i → Vc l (Post l .node i0) (expA l i tLet fun i => .call (.eqs []) i d fun qs i => expA l i tTel fun i => retA [.mk name 0 b0 [lst ins, lst outs, lst owns, lst qs]] i) := by
    intro owns i g1 g2 g3
    exact .exp (by decide) fun a1 => .call ⟨Nat.zero_le _, .nil⟩ fun qs j ⟨f3, d1, d2, d3⟩ => .exp (by decide) fun a6 => .ret ⟨.one (by simp) (fit_lst h1 h2 (fit_lst (by omega) f2 (fit_lst g1 g2 (fit_lst (by omega) f3 .nil)))), rfl, by omega, by omega⟩
  refine .ite (fun g => .call ⟨Nat.zero_le _, .nil⟩ fun owns j ⟨f3, d1, d2, d3⟩ => ?_) (fun _ => R [] _ (Nat.zero_le _) .nil (by omega))
  have := tx_lt g (by decide)
  exact R owns j (by have := d3 (by omega); omega) f3 (by omega)

theorem vc_step (c : Cd) (i d : Nat) (h : Pre l c i) : Vc l (Post l c i) (step l c i d) := by
  cases c with
  | term =>
    refine .ite (fun g => ?_) (fun _ => ?_)
    · exact .down (.call trivial fun a i1 ⟨f1, a1, a2, a3⟩ => .exp (by decide) fun _ => .call trivial fun b i2 ⟨f2, b1, b2, b3⟩ => .exp (by decide) fun _ => .call trivial fun c i3 ⟨f3, c1, c2, c3⟩ => .ret ⟨.one (by simp [a1, b1, c1]) ((f1.append f2).append f3), rfl, by omega, by omega⟩)
    · exact .call trivial fun a j ⟨f1, a1, a2, a3⟩ => .ite (fun g => .down (.call trivial fun b k ⟨f2, b1, b2, b3⟩ => .ret ⟨.one (by simp [a1, b1]) (f1.append f2), rfl, by omega, by omega⟩)) (fun _ => .ret ⟨f1, a1, a2, a3⟩)
  | left v => exact .call pre_part fun a j hp => .call ⟨(post_part hp).2.1, (post_part hp).1⟩ fun b k ⟨f2, b1, b2, b3⟩ => .ret ⟨f2, b1, by have := (post_part hp).2.2.1; omega, b3 (post_part hp).2.2.2⟩
  | loop v a =>
    obtain ⟨h1, h2⟩ := h
    refine .ite (fun g => .call pre_part fun b j hp => ?_) (fun _ => .ret ⟨h2, h1, Nat.le_refl _, fun h => h⟩)
    obtain ⟨f1, a1, a2, a3⟩ := post_part hp
    exact .call ⟨rfl, .one (by simp [h1, a1]) (h2.append f1)⟩ fun e k ⟨f2, b1, b2, b3⟩ => .ret ⟨f2, b1, by omega, fun _ => b3 a3⟩
  | not => exact .ite (fun g => .down (.call trivial fun a j ⟨f1, a1, a2, a3⟩ => .ret ⟨.one (by simp [a1]) f1, rfl, by omega, a3⟩)) (fun _ => .call trivial fun a j ⟨f1, a1, a2, a3⟩ => .ret ⟨f1, a1, a2, a3⟩)
  | cmp => exact .call trivial fun a j ⟨f1, a1, a2, a3⟩ => .ite (fun g => .call trivial fun b k ⟨f2, b1, b2, b3⟩ => .ret ⟨.one (by simp [a1, b1]) (f1.append f2), rfl, by omega, b3⟩) (fun _ => .ret ⟨f1, a1, a2, a3⟩)
  | un => exact .ite (fun g => .down (.call trivial fun a j ⟨f1, a1, a2, a3⟩ => .ret ⟨.one (by simp [a1]) f1, rfl, by omega, a3⟩)) (fun _ => .ite (fun g => .down (.call trivial fun a j ⟨f1, a1, a2, a3⟩ => .ret ⟨.one (by simp [a1]) f1, rfl, by omega, a3⟩)) (fun _ => .call trivial fun a j ⟨f1, a1, a2, a3⟩ => .ret ⟨f1, a1, a2, a3⟩))
  | atom =>
    refine .ite (fun g => .ret ⟨.leaf, rfl, by omega, kind_lt g (by simp)⟩) fun _ => .ite (fun g => .ret ⟨.leaf, rfl, by omega, txs_lt g (by decide)⟩) fun _ => .ite (fun g => ?_) fun _ => .ite (fun g => ?_) fun _ => trivial
    · exact .ite (fun g1 => .down (.call trivial fun a j ⟨f1, a1, a2, a3⟩ => .exp (by decide) fun h => .ret ⟨.one (by omega) f1, rfl, by omega, by omega⟩)) (fun _ => .ret ⟨.leaf, rfl, by omega, kind_lt g (by simp)⟩)
    · exact .down (.call trivial fun a j ⟨f1, a1, a2, a3⟩ => .exp (by decide) fun h => .ret ⟨f1, a1, by omega, by omega⟩)
  | args => exact .ite (fun g => .ret ⟨.nil, Nat.zero_le _, Nat.le_refl _, fun h => h⟩) (fun _ => .call trivial fun a j ⟨f1, a1, a2, a3⟩ => .call ⟨by omega, f1⟩ fun b k ⟨f2, b1, b2, b3⟩ => .ret ⟨f2, b1, by omega, fun _ => b3 a3⟩)
  | more a => exact .ite (fun g => .call trivial fun b j ⟨f1, a1, a2, a3⟩ => .call ⟨by have := h.1; simp; omega, h.2.append f1⟩ fun e k ⟨f2, b1, b2, b3⟩ => .ret ⟨f2, b1, by omega, fun _ => b3 a3⟩) (fun _ => .ret ⟨h.2, h.1, Nat.le_refl _, fun h => h⟩)
  | one => simp only [step]; exact .nam fun a1 => .exp (by decide) fun a2 => .ite (fun g => .ret ⟨.leaf, rfl, by omega, tx_lt g (by decide)⟩) (fun _ => .exp (by decide) fun a3 => .ret ⟨.leaf, rfl, by omega, by omega⟩)
  | vars a => exact .ite (fun g => .call trivial fun b j ⟨f1, a1, a2, a3⟩ => .call ⟨by have := h.1; simp; omega, h.2.append f1⟩ fun e k ⟨f2, b1, b2, b3⟩ => .ret ⟨f2, b1, by omega, fun _ => b3 a3⟩) (fun _ => .ret ⟨h.2, h.1, Nat.le_refl _, fun h => h⟩)
  | owns a => exact .call trivial fun b j ⟨f1, a1, a2, a3⟩ => .exp (by decide) fun h1 => .ite (fun g => .call ⟨by have := h.1; simp; omega, h.2.append f1⟩ fun e k ⟨f2, b1, b2, b3⟩ => .ret ⟨f2, b1, by omega, fun _ => b3 (by omega)⟩) (fun _ => .ret ⟨h.2.append f1, by have := h.1; simp; omega, by omega, fun _ => by omega⟩)
  | names a => exact .ite (fun g => .nam fun h1 => .call ⟨by have := h.1; simp; omega, h.2.append fit_nm⟩ fun e k ⟨f2, b1, b2, b3⟩ => .ret ⟨f2, b1, by omega, fun _ => b3 (by omega)⟩) (fun _ => .ret ⟨h.2, h.1, Nat.le_refl _, fun h => h⟩)
  | eq =>
    refine .ite (fun g => vc_end (Nat.zero_le _) .nil (by omega)) fun _ => .ite (fun g => ?_) fun _ => .nam fun h1 => .exp (by decide) fun h2 => vc_end (by simp; omega) fit_nm (by omega)
    exact .nam fun h1 => .exp (by decide) fun h2 => .nam fun h3 => .call ⟨by simp, (fit_nm (l := l)).append fit_nm⟩ fun ns j ⟨f2, b1, b2, b3⟩ => .exp (by decide) fun h4 => .exp (by decide) fun h5 => vc_end (by omega) f2 (by omega)
  | eqs a => exact .ite (fun g => .ret ⟨h.2, h.1, Nat.le_refl _, fun h => h⟩) (fun _ => .call trivial fun b j ⟨f1, a1, a2, a3⟩ => .call ⟨by have := h.1; simp; omega, h.2.append f1⟩ fun e k ⟨f2, b1, b2, b3⟩ => .ret ⟨f2, b1, by omega, fun _ => b3 a3⟩)
  | node =>
    simp only [step]
    refine .exp (by decide) fun h1 => .nam fun h2 => .exp (by decide) fun h3 => .ite (fun g => vc_body (Nat.zero_le _) .nil (by omega)) fun _ => .call trivial fun b j ⟨f1, a1, a2, a3⟩ => .call ⟨by omega, f1⟩ fun ins k ⟨f2, b1, b2, b3⟩ => ?_
    have := b3 a3
    exact vc_body (by omega) f2 (by omega)
  | nodes a => exact .ite (fun g => .ret ⟨h.2, h.1, Nat.le_refl _, fun h => h⟩) (fun _ => .ite (fun _ => trivial) fun _ => .call trivial fun b j ⟨f1, a1, a2, a3⟩ => .call ⟨by have := h.1; simp; omega, h.2.append f1⟩ fun e k ⟨f2, b1, b2, b3⟩ => .ret ⟨f2, b1, by omega, fun _ => b3 a3⟩)
theorem Run.vc {a : Act} {r : Res} (h : Run l a r) : ∀ Q, Vc l Q a → ∀ e j, r = .ok e j → Q e j := by
  induction h with
  | ret r => intro Q hv e j hr; subst hr; exact hv
  | ok c i d k e j r h1 h2 ih1 ih2 => intro Q hv e' j' hr; exact ih2 Q (hv.2 e j (ih1 _ (vc_step c i d hv.1) e j rfl)) e' j' hr
  | bad c i d k j b h1 ih1 => intro Q hv e' j' hr; cases hr
/-- Nodes that are read have no longer lists. -/
theorem Parse.fit {es : List Ex} {j : Nat} (h : Parse l (.nodes []) 0 0 (.ok es j)) : Fit (l.length + 4) es ∧ es.length ≤ l.length := by
  obtain ⟨h1, h2, h3, h4⟩ := Run.vc h _ (vc_step (.nodes []) 0 0 ⟨Nat.zero_le _, .nil⟩) es j rfl
  exact ⟨h1, by have := h4 (by omega); omega⟩
end
end Go.Proofs.YtglkpgcmlbhkpabGreatDoor
