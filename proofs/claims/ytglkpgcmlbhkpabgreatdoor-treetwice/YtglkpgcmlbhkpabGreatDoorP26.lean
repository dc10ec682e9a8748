/-
  lustrumref1.SameExpr BY ITS CONTRACT: what holds the same is the same.
-/
import Derived.Test.YtglkpgcmlbhkpabGreatDoorP21
import Derived.Deep.QuietTactic
import Derived.BigQuiet
import Derived.WalkSmall
import Derived.Test.YtglkpgcmlbhkpabGreatDoorP19
namespace Go.Proofs.YtglkpgcmlbhkpabGreatDoor
open Go.RowKit
attribute [local go_sem ↓] Go.wp_at_zero Go.wp_at_succ

theorem size_part {l : List Ex} {i : Nat} (hi : i < l.length) {op : ByteArray} {n : Int} {s : ByteArray} {es : List Ex} (e : l[i] = .mk op n s es) : SizeOf.sizeOf es < SizeOf.sizeOf l := by
  have h := List.sizeOf_lt_of_mem (List.getElem_mem hi)
  rw [e] at h
  simp only [Ex.mk.sizeOf_spec] at h
  omega
abbrev reObj (op : ByteArray) (n : Int) (s : ByteArray) (v : Value) : Obj := .cells #[.string op, .int .i64 n, .string s, v] 38
set_option maxRecDepth 100000 in
set_option maxHeartbeats 1000000 in
theorem sameExpr_any : ∀ (m : Nat) (op : ByteArray) (n : Int) (s : ByteArray) (l : List Ex), SizeOf.sizeOf l < m → ∀ (w : World) (S S' : Nat → Prop) (o o' : Option Addr) (c c' : Nat) (ys ys' : List Value), RowAt w S 4 (.slice o l.length c) l.length ys → ExIn w S l ys → RowAt w S' 4 (.slice o' l.length c') l.length ys' → ExIn w S' l ys' →
    Calls Tryz.prog 45 #[.agg #[.string op, .int .i64 n, .string s, .slice o l.length c], .agg #[.string op, .int .i64 n, .string s, .slice o' l.length c']] w fun e w' => e = .returned (.bool true) ∧ Below w.heap.size w w'
  | 0, _, _, _, _, h => absurd h (Nat.not_lt_zero _)
  | m + 1, op, n, s, l, hm => by
    intro w S S' o o' c c' ys ys' h1 h2 h3 h4
    have IH := sameExpr_any m
    have hl := h1.len
    unfold maxLen at hl
    have H1 : Hid (RowAt w S 4 (.slice o l.length c) l.length ys) := h1
    have H2 : Hid (ExIn w S l ys) := h2
    have H3 : Hid (RowAt w S' 4 (.slice o' l.length c') l.length ys') := h3
    have H4 : Hid (ExIn w S' l ys') := h4
    have hbA : Below w.heap.size w ((w.alloc (reObj op n s (.slice o l.length c))).alloc (reObj op n s (.slice o' l.length c'))) := ((Below.refl _ _).alloc (Nat.le_refl _) _).alloc (by simp) _
    have HA : Hid (((w.alloc (reObj op n s (.slice o l.length c))).alloc (reObj op n s (.slice o' l.length c'))).heap[w.heap.size]? = some (reObj op n s (.slice o l.length c))) := alloc_row _ (heap_alloc_new w _)
    have HB : Hid (((w.alloc (reObj op n s (.slice o l.length c))).alloc (reObj op n s (.slice o' l.length c'))).heap[w.heap.size + 1]? = some (reObj op n s (.slice o' l.length c'))) := two_new w _ _
    clear h1 h2 h3 h4
    go_enter Tryz.func45, Tryz.ntmps45
    go_wp2
    go_loopw [5] (fun t wr => ∃ i : Nat, i ≤ l.length ∧ t = .int .i64 i ∧ Below (w.heap.size + 1 + 1) ((w.alloc (reObj op n s (.slice o l.length c))).alloc (reObj op n s (.slice o' l.length c'))) wr) (fun t _ => l.length - (intOf t).toNat)
    case atStart => exact ⟨0, Nat.zero_le _, rfl, Below.refl _ _⟩
    case round =>
      obtain ⟨i, hi, rfl, hbr⟩ := hrel
      have hbr' : Below ((w.alloc (reObj op n s (.slice o l.length c))).alloc (reObj op n s (.slice o' l.length c'))).heap.size ((w.alloc (reObj op n s (.slice o l.length c))).alloc (reObj op n s (.slice o' l.length c'))) wr := by simpa using hbr
      have hbw : Below w.heap.size w wr := hbA.trans (hbr.mono (by omega))
      obtain ⟨a0, a1, a2, a3, _⟩ := blk4 (row_keep hbr' HA.out)
      obtain ⟨b0, b1, b2, b3, _⟩ := blk4 (row_keep hbr' HB.out)
      by_cases hlt : i < l.length
      · obtain ⟨op', n', s', es, oo, cc, zs, e, x0, x1, x2, x3, r1, r2⟩ := H2.out.at hlt
        obtain ⟨op'', n'', s'', es', oo', cc', zs', e', y0, y1, y2, y3, r3, r4⟩ := H4.out.at hlt
        rw [e] at e'
        injection e' with e1 e2 e3 e4
        subst e1 e2 e3 e4
        obtain ⟨p, f, rfl, _, g⟩ := row_get H1.out (by have := H1.out.1; omega)
        obtain ⟨p', f', rfl, _, g'⟩ := row_get H3.out (by have := H3.out.1; omega)
        have x0 := cell_keep hbw (g _ _ x0)
        have x1 := cell_keep hbw (g _ _ x1)
        have x2 := cell_keep hbw (g _ _ x2)
        have x3 := cell_keep hbw (g _ _ x3)
        have y0 := cell_keep hbw (g' _ _ y0)
        have y1 := cell_keep hbw (g' _ _ y1)
        have y2 := cell_keep hbw (g' _ _ y2)
        have y3 := cell_keep hbw (g' _ _ y3)
        rw [← Nat.add_assoc] at x1 x2 x3 y1 y2 y3
        have i0 : (0 : Int) ≤ (i : Int) := by omega
        have i1 : (i : Int) < (l.length : Int) := by omega
        have hsz := size_part hlt e
        have Hr : Hid (Calls Tryz.prog 45 #[.agg #[.string op', .int .i64 n', .string s', .slice oo es.length cc], .agg #[.string op', .int .i64 n', .string s', .slice oo' es.length cc']] wr.drew fun e w' => e = .returned (.bool true) ∧ Below wr.drew.heap.size wr.drew w') := IH op' n' s' es (by omega) wr.drew S S' oo oo' cc cc' zs zs' (r1.keep (Stays.below hbw.drew (fun k hk => hk))) (r2.keep (Stays.below hbw.drew (fun k hk => hk))) (r3.keep (Stays.below hbw.drew (fun k hk => hk))) (r4.keep (Stays.below hbw.drew (fun k hk => hk)))
        clear g g' r1 r2 r3 r4 IH hbw hsz
        go_wp2
        go_region_law (refine step_call rfl 45 #[.agg #[.string op', .int .i64 n', .string s', .slice oo es.length cc], .agg #[.string op', .int .i64 n', .string s', .slice oo' es.length cc']] (by kernel_rfl) ?_; refine Hr.out.mono ?_; rintro e w4 ⟨rfl, hb4⟩)
        all_goals
          go_wp2
          have hs4 := hbr.size
          simp only [World.size_alloc] at hs4
          exact ⟨⟨i + 1, by omega, by go_num, (hbr.drew).trans (hb4.mono (by show _ ≤ wr.heap.size; omega))⟩, by simp [intOf]; omega⟩
      · go_wp2
        go_ret
        exact ⟨rfl, hbw⟩
end Go.Proofs.YtglkpgcmlbhkpabGreatDoor

/-
  package tree's alike BY ITS CONTRACT: what holds the same is alike: variables, texts, terms.
-/
namespace Go.Proofs.YtglkpgcmlbhkpabGreatDoor
open Go.RowKit
attribute [local go_sem ↓] Go.wp_at_zero Go.wp_at_succ

set_option maxHeartbeats 1000000 in
theorem eqTexts_any (w : World) (S S' : Nat → Prop) (o o' : Option Addr) (c c' : Nat) (ns : List Ex) (h1 : RowAt w S 1 (.slice o ns.length c) ns.length (nameCells ns)) (h2 : RowAt w S' 1 (.slice o' ns.length c') ns.length (nameCells ns)) :
    Calls Tryz.prog 186 #[.slice o ns.length c, .slice o' ns.length c'] w fun e w' => e = .returned (.bool true) ∧ ∃ k, w' = w.drewN k := by
  have hl := h1.len
  unfold maxLen at hl
  have H1 : Hid _ := h1
  have H2 : Hid _ := h2
  clear h1 h2
  go_enter Tryz.func186, Tryz.ntmps186
  go_wp2
  go_loopw [13] (fun i wr => ∃ j k : Nat, j ≤ ns.length ∧ i = .int .i64 j ∧ wr = w.drewN k) (fun i _ => ns.length - (intOf i).toNat)
  case atStart => exact ⟨0, 0, Nat.zero_le _, rfl, rfl⟩
  case round =>
    obtain ⟨j, k, hj, rfl, rfl⟩ := hrel
    by_cases hlt : j < ns.length
    · obtain ⟨b, off, rfl, _, hc⟩ := row_get H1.out (by rw [nameCells_length]; omega)
      obtain ⟨b', off', rfl, _, hc'⟩ := row_get H2.out (by rw [nameCells_length]; omega)
      have x0 := hc j _ (nameCells_at hlt)
      have x1 := hc' j _ (nameCells_at hlt)
      clear hc hc'
      have hi0 : (0 : Int) ≤ (j : Int) := by omega
      have hi1 : (j : Int) < (ns.length : Int) := by omega
      go_wp2
      go_quiet (fail)
      go_wp2
      refine ⟨⟨j + 1, _, by omega, by go_num, rfl⟩, ?_⟩
      simp [intOf]; omega
    · go_wp2
      go_ret
      exact ⟨rfl, k, rfl⟩
set_option maxHeartbeats 1000000 in
theorem eqVars_any (w : World) (S S' : Nat → Prop) (o o' : Option Addr) (c c' : Nat) (vs : List Ex) (h1 : RowAt w S 2 (.slice o vs.length c) vs.length (varCells vs)) (h2 : RowAt w S' 2 (.slice o' vs.length c') vs.length (varCells vs)) :
    Calls Tryz.prog 132 #[.slice o vs.length c, .slice o' vs.length c'] w fun e w' => e = .returned (.bool true) ∧ ∃ k, w' = w.drewN k := by
  have hl := h1.len
  unfold maxLen at hl
  have H1 : Hid _ := h1
  have H2 : Hid _ := h2
  clear h1 h2
  go_enter Tryz.func132, Tryz.ntmps132
  go_wp2
  go_loopw [13] (fun i wr => ∃ j k : Nat, j ≤ vs.length ∧ i = .int .i64 j ∧ wr = w.drewN k) (fun i _ => vs.length - (intOf i).toNat)
  case atStart => exact ⟨0, 0, Nat.zero_le _, rfl, rfl⟩
  case round =>
    obtain ⟨j, k, hj, rfl, rfl⟩ := hrel
    by_cases hlt : j < vs.length
    · obtain ⟨b, off, rfl, _, hc⟩ := row_get H1.out (by rw [varCells_length]; omega)
      obtain ⟨b', off', rfl, _, hc'⟩ := row_get H2.out (by rw [varCells_length]; omega)
      have x0 := hc _ _ (varCells_at hlt).1
      have x1 := hc _ _ (varCells_at hlt).2
      have y0 := hc' _ _ (varCells_at hlt).1
      have y1 := hc' _ _ (varCells_at hlt).2
      rw [← Nat.add_assoc] at x1 y1
      clear hc hc'
      have hi0 : (0 : Int) ≤ (j : Int) := by omega
      have hi1 : (j : Int) < (vs.length : Int) := by omega
      go_wp2
      go_quiet (fail)
      go_wp2
      refine ⟨⟨j + 1, _, by omega, by go_num, rfl⟩, ?_⟩
      simp [intOf]; omega
    · go_wp2
      go_ret
      exact ⟨rfl, k, rfl⟩
end Go.Proofs.YtglkpgcmlbhkpabGreatDoor

/-
  package tree's alike BY ITS CONTRACT: terms.
-/
namespace Go.Proofs.YtglkpgcmlbhkpabGreatDoor
open Go.RowKit
attribute [local go_sem ↓] Go.wp_at_zero Go.wp_at_succ

abbrev teObj (op : ByteArray) (n : Int) (s : ByteArray) (v : Value) : Obj := .cells #[.string op, .int .i64 n, .string s, v] 62
abbrev AlikeT (m : Nat) : Prop := ∀ (op : ByteArray) (n : Int) (s : ByteArray) (l : List Ex), SizeOf.sizeOf l < m → ∀ (w : World) (S S' : Nat → Prop) (o o' : Option Addr) (c c' : Nat) (ys ys' : List Value), RowAt w S 4 (.slice o l.length c) l.length ys → ExIn w S l ys → RowAt w S' 4 (.slice o' l.length c') l.length ys' → ExIn w S' l ys' →
    Calls Tryz.prog 187 #[.agg #[.string op, .int .i64 n, .string s, .slice o l.length c], .agg #[.string op, .int .i64 n, .string s, .slice o' l.length c']] w fun e w' => e = .returned (.bool true) ∧ Below w.heap.size w w'
set_option maxRecDepth 100000 in
set_option maxHeartbeats 1000000 in
theorem eqfE_any (m : Nat) (IH : AlikeT m) (l : List Ex) (hm : SizeOf.sizeOf l < m + 1) (w : World) (S S' : Nat → Prop) (o o' : Option Addr) (c c' : Nat) (ys ys' : List Value) (h1 : RowAt w S 4 (.slice o l.length c) l.length ys) (h2 : ExIn w S l ys) (h3 : RowAt w S' 4 (.slice o' l.length c') l.length ys') (h4 : ExIn w S' l ys') :
    Calls Tryz.prog 213 #[.slice o l.length c, .slice o' l.length c', .func (.func 187) #[] #[]] w fun e w' => e = .returned (.bool true) ∧ Below w.heap.size w w' := by
  have hl := h1.len
  unfold maxLen at hl
  have H1 : Hid (RowAt w S 4 (.slice o l.length c) l.length ys) := h1
  have H2 : Hid (ExIn w S l ys) := h2
  have H3 : Hid (RowAt w S' 4 (.slice o' l.length c') l.length ys') := h3
  have H4 : Hid (ExIn w S' l ys') := h4
  have HI : Hid (AlikeT m) := IH
  clear h1 h2 h3 h4 IH
  go_enter Tryz.func213, Tryz.ntmps213
  go_wp2
  go_loopw [17] (fun t wr => ∃ i : Nat, i ≤ l.length ∧ t = .int .i64 i ∧ Below w.heap.size w wr) (fun t _ => l.length - (intOf t).toNat)
  case atStart => exact ⟨0, Nat.zero_le _, rfl, Below.refl _ _⟩
  case round =>
    obtain ⟨i, hi, rfl, hbr⟩ := hrel
    by_cases hlt : i < l.length
    · obtain ⟨op', n', s', es, oo, cc, zs, e, m0, m1, m2, m3, r1, r2⟩ := H2.out.at hlt
      obtain ⟨op'', n'', s'', es', oo', cc', zs', e', k0, k1, k2, k3, r3, r4⟩ := H4.out.at hlt
      rw [e] at e'
      injection e' with e1 e2 e3 e4
      subst e1 e2 e3 e4
      obtain ⟨p, f, rfl, _, g⟩ := row_get H1.out (by have := H1.out.1; omega)
      obtain ⟨p', f', rfl, _, g'⟩ := row_get H3.out (by have := H3.out.1; omega)
      have x0 := cell_keep hbr (g _ _ m0)
      have x1 := cell_keep hbr (g _ _ m1)
      have x2 := cell_keep hbr (g _ _ m2)
      have x3 := cell_keep hbr (g _ _ m3)
      have y0 := cell_keep hbr (g' _ _ k0)
      have y1 := cell_keep hbr (g' _ _ k1)
      have y2 := cell_keep hbr (g' _ _ k2)
      have y3 := cell_keep hbr (g' _ _ k3)
      rw [← Nat.add_assoc] at x1 x2 x3 y1 y2 y3
      clear m0 m1 m2 m3 k0 k1 k2 k3
      have i0 : (0 : Int) ≤ (i : Int) := by omega
      have i1 : (i : Int) < (l.length : Int) := by omega
      have hpl : p' < wr.heap.size := lt_of_cell y0
      have hsz := size_part hlt e
      have hbz := hbr.size
      have hbA : Below w.heap.size w ((wr.alloc (teObj op' n' s' (.slice oo es.length cc))).alloc (teObj op' n' s' (.slice oo' es.length cc'))) := (hbr.alloc hbz _).alloc (by simp; omega) _
      have Hr : Hid (Calls Tryz.prog 187 #[.agg #[.string op', .int .i64 n', .string s', .slice oo es.length cc], .agg #[.string op', .int .i64 n', .string s', .slice oo' es.length cc']] ((wr.alloc (teObj op' n' s' (.slice oo es.length cc))).alloc (teObj op' n' s' (.slice oo' es.length cc'))) fun e w' => e = .returned (.bool true) ∧ Below ((wr.alloc (teObj op' n' s' (.slice oo es.length cc))).alloc (teObj op' n' s' (.slice oo' es.length cc'))).heap.size ((wr.alloc (teObj op' n' s' (.slice oo es.length cc))).alloc (teObj op' n' s' (.slice oo' es.length cc'))) w') := HI.out op' n' s' es (by omega) ((wr.alloc (teObj op' n' s' (.slice oo es.length cc))).alloc (teObj op' n' s' (.slice oo' es.length cc'))) S S' oo oo' cc cc' zs zs' (r1.keep (Stays.below hbA (fun k hk => hk))) (r2.keep (Stays.below hbA (fun k hk => hk))) (r3.keep (Stays.below hbA (fun k hk => hk))) (r4.keep (Stays.below hbA (fun k hk => hk)))
      clear g g' r1 r2 r3 r4 hsz
      go_wp2_with fail
      refine Hr.out.mono ?_
      rintro e w4 ⟨rfl, hb4⟩
      go_wp2
      exact ⟨⟨i + 1, by omega, by go_num, hbA.trans (hb4.mono (by simp; omega))⟩, by simp [intOf]; omega⟩
    · go_wp2
      go_ret
      exact ⟨rfl, hbr⟩

set_option maxRecDepth 100000 in
set_option maxHeartbeats 1000000 in
theorem alikeTerms_any : ∀ (m : Nat), AlikeT m
  | 0 => fun _ _ _ _ h => absurd h (Nat.not_lt_zero _)
  | m + 1 => by
    intro op n s l hm w S S' o o' c c' ys ys' h1 h2 h3 h4
    have IH := alikeTerms_any m
    have hbA : Below w.heap.size w ((w.alloc (teObj op n s (.slice o l.length c))).alloc (teObj op n s (.slice o' l.length c'))) := ((Below.refl _ _).alloc (Nat.le_refl _) _).alloc (by simp) _
    have h1 := h1.keep (Stays.below hbA (fun k hk => hk))
    have h2 := h2.keep (Stays.below hbA (fun k hk => hk))
    have h3 := h3.keep (Stays.below hbA (fun k hk => hk))
    have h4 := h4.keep (Stays.below hbA (fun k hk => hk))
    have Hr : Hid (Calls Tryz.prog 213 #[.slice o l.length c, .slice o' l.length c', .func (.func 187) #[] #[]] ((w.alloc (teObj op n s (.slice o l.length c))).alloc (teObj op n s (.slice o' l.length c'))) fun e w' => e = .returned (.bool true) ∧ Below ((w.alloc (teObj op n s (.slice o l.length c))).alloc (teObj op n s (.slice o' l.length c'))).heap.size ((w.alloc (teObj op n s (.slice o l.length c))).alloc (teObj op n s (.slice o' l.length c'))) w') := eqfE_any m IH l hm _ S S' o o' c c' ys ys' h1 h2 h3 h4
    clear h1 h2 h3 h4 IH
    go_enter Tryz.func187, Tryz.ntmps187
    go_wp2_with fail
    refine Hr.out.mono ?_
    rintro e w4 ⟨rfl, hb4⟩
    go_wp2
    go_ret
    exact ⟨rfl, hbA.trans (hb4.mono (by simp; omega))⟩
end Go.Proofs.YtglkpgcmlbhkpabGreatDoor

/-
  package tree's alike BY ITS CONTRACT: equations.
-/
namespace Go.Proofs.YtglkpgcmlbhkpabGreatDoor
open Go.RowKit
attribute [local go_sem ↓] Go.wp_at_zero Go.wp_at_succ

abbrev tqObj (k : ByteArray) (v : Value) (op : ByteArray) (n : Int) (s : ByteArray) (u : Value) : Obj := .cells #[.string k, v, .string op, .int .i64 n, .string s, u] 98
set_option maxRecDepth 100000 in
set_option maxHeartbeats 1000000 in
theorem alikeEq_any (k : ByteArray) (ns : List Ex) (op : ByteArray) (n : Int) (s : ByteArray) (l : List Ex) (w : World) (S S' : Nat → Prop) (no no' o o' : Option Addr) (nc nc' c c' : Nat) (ys ys' : List Value) (g1 : RowAt w S 1 (.slice no ns.length nc) ns.length (nameCells ns)) (g2 : RowAt w S' 1 (.slice no' ns.length nc') ns.length (nameCells ns)) (h1 : RowAt w S 4 (.slice o l.length c) l.length ys) (h2 : ExIn w S l ys) (h3 : RowAt w S' 4 (.slice o' l.length c') l.length ys') (h4 : ExIn w S' l ys') :
    Calls Tryz.prog 134 #[.agg #[.string k, .slice no ns.length nc, .string op, .int .i64 n, .string s, .slice o l.length c], .agg #[.string k, .slice no' ns.length nc', .string op, .int .i64 n, .string s, .slice o' l.length c']] w fun e w' => e = .returned (.bool true) ∧ Below w.heap.size w w' := by
  have hbA : Below w.heap.size w ((w.alloc (tqObj k (.slice no ns.length nc) op n s (.slice o l.length c))).alloc (tqObj k (.slice no' ns.length nc') op n s (.slice o' l.length c'))) := ((Below.refl _ _).alloc (Nat.le_refl _) _).alloc (by simp) _
  have H1 : Hid (RowAt w S 4 (.slice o l.length c) l.length ys) := h1
  have H2 : Hid (ExIn w S l ys) := h2
  have H3 : Hid (RowAt w S' 4 (.slice o' l.length c') l.length ys') := h3
  have H4 : Hid (ExIn w S' l ys') := h4
  have G1 : Hid (RowAt w S 1 (.slice no ns.length nc) ns.length (nameCells ns)) := g1
  have G2 : Hid (RowAt w S' 1 (.slice no' ns.length nc') ns.length (nameCells ns)) := g2
  clear h1 h2 h3 h4 g1 g2
  go_enter Tryz.func134, Tryz.ntmps134
  go_wp2_with fail
  refine (eqTexts_any _ S S' no no' nc nc' ns (G1.out.keep (Stays.below hbA (fun k hk => hk))) (G2.out.keep (Stays.below hbA (fun k hk => hk)))).mono ?_
  rintro e w1 ⟨rfl, k1, rfl⟩
  have hb1 := below_drewN hbA k1
  go_wp2_with fail
  refine (alikeTerms_any (SizeOf.sizeOf l + 1) op n s l (by omega) _ S S' o o' c c' ys ys' (H1.out.keep (Stays.below hb1 (fun k hk => hk))) (H2.out.keep (Stays.below hb1 (fun k hk => hk))) (H3.out.keep (Stays.below hb1 (fun k hk => hk))) (H4.out.keep (Stays.below hb1 (fun k hk => hk)))).mono ?_
  rintro e w2 ⟨rfl, hb2⟩
  go_wp2
  go_ret
  exact ⟨rfl, hb1.trans (hb2.mono (by show _ ≤ (World.alloc _ _).heap.size; simp; omega))⟩
set_option maxRecDepth 100000 in
set_option maxHeartbeats 1000000 in
theorem eqfQ_any (l : List Ex) (w : World) (S S' : Nat → Prop) (o o' : Option Addr) (c c' : Nat) (ys ys' : List Value) (h1 : RowAt w S 6 (.slice o l.length c) l.length ys) (h2 : EqIn w S l ys) (h3 : RowAt w S' 6 (.slice o' l.length c') l.length ys') (h4 : EqIn w S' l ys') :
    Calls Tryz.prog 133 #[.slice o l.length c, .slice o' l.length c', .func (.func 134) #[] #[]] w fun e w' => e = .returned (.bool true) ∧ Below w.heap.size w w' := by
  have hl := h1.len
  unfold maxLen at hl
  have H1 : Hid (RowAt w S 6 (.slice o l.length c) l.length ys) := h1
  have H2 : Hid (EqIn w S l ys) := h2
  have H3 : Hid (RowAt w S' 6 (.slice o' l.length c') l.length ys') := h3
  have H4 : Hid (EqIn w S' l ys') := h4
  clear h1 h2 h3 h4
  go_enter Tryz.func133, Tryz.ntmps133
  go_wp2
  go_loopw [17] (fun t wr => ∃ i : Nat, i ≤ l.length ∧ t = .int .i64 i ∧ Below w.heap.size w wr) (fun t _ => l.length - (intOf t).toNat)
  case atStart => exact ⟨0, Nat.zero_le _, rfl, Below.refl _ _⟩
  case round =>
    obtain ⟨i, hi, rfl, hbr⟩ := hrel
    by_cases hlt : i < l.length
    · obtain ⟨kd, ns, no, nc, op, n, s, es, oo, cc, zs, e, m0, m1, m2, m3, m4, m5, r0, r1, r2⟩ := H2.out.at hlt
      obtain ⟨kd', ns', no', nc', op', n', s', es', oo', cc', zs', e', k0, k1, k2, k3, k4, k5, t0, t1, t2⟩ := H4.out.at hlt
      rw [e] at e'
      simp only [Ex.mk.injEq, lst, List.cons.injEq, and_true, true_and] at e'
      obtain ⟨rfl, rfl, rfl, rfl, rfl, rfl⟩ := e'
      obtain ⟨p, f, rfl, _, g⟩ := row_get H1.out (by have := H1.out.1; omega)
      obtain ⟨p', f', rfl, _, g'⟩ := row_get H3.out (by have := H3.out.1; omega)
      have x0 := cell_keep hbr (g _ _ m0)
      have x1 := cell_keep hbr (g _ _ m1)
      have x2 := cell_keep hbr (g _ _ m2)
      have x3 := cell_keep hbr (g _ _ m3)
      have x4 := cell_keep hbr (g _ _ m4)
      have x5 := cell_keep hbr (g _ _ m5)
      have y0 := cell_keep hbr (g' _ _ k0)
      have y1 := cell_keep hbr (g' _ _ k1)
      have y2 := cell_keep hbr (g' _ _ k2)
      have y3 := cell_keep hbr (g' _ _ k3)
      have y4 := cell_keep hbr (g' _ _ k4)
      have y5 := cell_keep hbr (g' _ _ k5)
      rw [← Nat.add_assoc] at x1 x2 x3 x4 x5 y1 y2 y3 y4 y5
      clear m0 m1 m2 m3 m4 m5 k0 k1 k2 k3 k4 k5
      have i0 : (0 : Int) ≤ (i : Int) := by omega
      have i1 : (i : Int) < (l.length : Int) := by omega
      have hpl : p' < wr.heap.size := lt_of_cell y0
      have hbz := hbr.size
      have hbA : Below w.heap.size w ((wr.alloc (tqObj kd (.slice no ns.length nc) op n s (.slice oo es.length cc))).alloc (tqObj kd (.slice no' ns.length nc') op n s (.slice oo' es.length cc'))) := (hbr.alloc hbz _).alloc (by simp; omega) _
      have HR : Hid (RowAt w S 1 (.slice no ns.length nc) ns.length (nameCells ns) ∧ RowAt w S 4 (.slice oo es.length cc) es.length zs ∧ ExIn w S es zs) := ⟨r0, r1, r2⟩
      have HT : Hid (RowAt w S' 1 (.slice no' ns.length nc') ns.length (nameCells ns) ∧ RowAt w S' 4 (.slice oo' es.length cc') es.length zs' ∧ ExIn w S' es zs') := ⟨t0, t1, t2⟩
      clear g g' r0 r1 r2 t0 t1 t2
      go_wp2_with fail
      refine (alikeEq_any kd ns op n s es _ S S' no no' oo oo' nc nc' cc cc' zs zs' (HR.out.1.keep (Stays.below hbA (fun k hk => hk))) (HT.out.1.keep (Stays.below hbA (fun k hk => hk))) (HR.out.2.1.keep (Stays.below hbA (fun k hk => hk))) (HR.out.2.2.keep (Stays.below hbA (fun k hk => hk))) (HT.out.2.1.keep (Stays.below hbA (fun k hk => hk))) (HT.out.2.2.keep (Stays.below hbA (fun k hk => hk)))).mono ?_
      rintro e w4 ⟨rfl, hb4⟩
      go_wp2
      exact ⟨⟨i + 1, by omega, by go_num, hbA.trans (hb4.mono (by simp; omega))⟩, by simp [intOf]; omega⟩
    · go_wp2
      go_ret
      exact ⟨rfl, hbr⟩
end Go.Proofs.YtglkpgcmlbhkpabGreatDoor
