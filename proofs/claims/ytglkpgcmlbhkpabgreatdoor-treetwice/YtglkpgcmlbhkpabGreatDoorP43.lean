/-
  slices.Equal of texts and of variables BY CONTRACT, whatever they are given: where it says yes, the cells are the same.
-/
import Derived.Test.YtglkpgcmlbhkpabGreatDoorP26
namespace Go.Proofs.YtglkpgcmlbhkpabGreatDoor
open Go.RowKit
attribute [local go_sem ↓] Go.wp_at_zero Go.wp_at_succ

theorem nameCells_ext {ns ns' : List Ex} (hl : ns.length = ns'.length) (h : ∀ m (h1 : m < ns.length) (h2 : m < ns'.length), ns[m].op = ns'[m].op) : nameCells ns = nameCells ns' := by
  unfold nameCells
  apply List.ext_getElem (by simpa using hl)
  intro m h1 h2
  simp only [List.getElem_map]
  rw [h m (by simpa using h1) (by simpa using h2)]
theorem bytes_ne {a b : ByteArray} (h : ¬ a = b) : (a.toList == b.toList) = false := by
  rw [beq_eq_false_iff_ne, ByteArray.toList_eq, ByteArray.toList_eq]
  intro e
  exact h (ByteArray.ext (Array.toList_inj.1 e))
set_option maxHeartbeats 1000000 in
theorem eqTexts_is (w : World) (S S' : Nat → Prop) (o o' : Option Addr) (c c' : Nat) (ns ns' : List Ex) (h1 : RowAt w S 1 (.slice o ns.length c) ns.length (nameCells ns)) (h2 : RowAt w S' 1 (.slice o' ns'.length c') ns'.length (nameCells ns')) :
    Calls Tryz.prog 186 #[.slice o ns.length c, .slice o' ns'.length c'] w fun e w' => ∃ r : Bool, e = .returned (.bool r) ∧ (r = true → nameCells ns = nameCells ns') ∧ ∃ k, w' = w.drewN k := by
  have hl := h1.len
  unfold maxLen at hl
  have hl' := h2.len
  unfold maxLen at hl'
  have H1 : Hid (RowAt w S 1 (.slice o ns.length c) ns.length (nameCells ns)) := h1
  have H2 : Hid (RowAt w S' 1 (.slice o' ns'.length c') ns'.length (nameCells ns')) := h2
  clear h1 h2
  by_cases hlen : ns.length = ns'.length
  · have HL : Hid (ns.length = ns'.length) := hlen
    have hlen' : (ns'.length : Int) = (ns.length : Int) := by omega
    rw [← hlen]
    clear hlen hl'
    go_enter Tryz.func186, Tryz.ntmps186
    go_wp2
    go_loopw [13] (fun i wr => ∃ j k : Nat, j ≤ ns.length ∧ i = .int .i64 j ∧ wr = w.drewN k ∧ ∀ m (h1 : m < ns.length) (h2 : m < ns'.length), m < j → ns[m].op = ns'[m].op) (fun i _ => ns.length - (intOf i).toNat)
    case atStart => exact ⟨0, 0, Nat.zero_le _, rfl, rfl, fun m _ _ h => absurd h (by omega)⟩
    case round =>
      obtain ⟨j, k, hj, rfl, rfl, hall⟩ := hrel
      by_cases hlt : j < ns.length
      · have hlt' : j < ns'.length := by rw [← HL.out]; exact hlt
        obtain ⟨b, off, rfl, _, hc⟩ := row_get H1.out (by rw [nameCells_length]; omega)
        obtain ⟨b', off', rfl, _, hc'⟩ := row_get H2.out (by rw [nameCells_length]; omega)
        have x0 := hc j _ (nameCells_at hlt)
        have x1 := hc' j _ (nameCells_at hlt')
        clear hc hc'
        have hi0 : (0 : Int) ≤ (j : Int) := by omega
        have hi1 : (j : Int) < (ns.length : Int) := by omega
        have hi2 : (j : Int) < (ns'.length : Int) := by omega
        by_cases he : ns[j].op = ns'[j].op
        · rw [← he] at x1
          have HA : Hid (∀ m (h1 : m < ns.length) (h2 : m < ns'.length), m < j + 1 → ns[m].op = ns'[m].op) := fun m h1 h2 h => by
            rcases Nat.lt_succ_iff_lt_or_eq.1 h with h | rfl
            · exact hall m h1 h2 h
            · exact he
          clear hall he
          go_wp2
          go_quiet (fail)
          go_wp2
          refine ⟨⟨j + 1, _, by omega, by go_num, rfl, HA.out⟩, ?_⟩
          simp [intOf]; omega
        · have he' : (ns[j].op.toList == ns'[j].op.toList) = false := bytes_ne he
          clear hall
          go_wp2
          go_quiet (fail)
          go_wp2
          go_ret
          exact ⟨false, rfl, by simp, k + nq, World.drewN_drewN _ _ _⟩
      · have HA : Hid (∀ m (h1 : m < ns.length) (h2 : m < ns'.length), m < j → ns[m].op = ns'[m].op) := hall
        clear hall
        go_wp2
        go_ret
        exact ⟨true, rfl, fun _ => nameCells_ext HL.out (fun m h1 h2 => HA.out m h1 h2 (by omega)), k, rfl⟩
  · have hne : ((ns.length : Int) == (ns'.length : Int)) = false := by simp; omega
    clear hlen
    go_enter Tryz.func186, Tryz.ntmps186
    go_wp2
    go_ret
    exact ⟨false, rfl, by simp, 0, rfl⟩
theorem varCells_ext : ∀ {ns ns' : List Ex} (_ : ns.length = ns'.length) (_ : ∀ m (h1 : m < ns.length) (h2 : m < ns'.length), (ns[m].op = ns'[m].op ∧ ns[m].n = ns'[m].n)), varCells ns = varCells ns'
  | [], [], _, _ => rfl
  | [], _ :: _, h, _ => by simp at h
  | _ :: _, [], h, _ => by simp at h
  | a :: l, a' :: l', h, g => by
    have h0 := g 0 (by simp) (by simp)
    have hr := varCells_ext (ns := l) (ns' := l') (by simpa using h) (fun m h1 h2 => g (m + 1) (by simpa using h1) (by simpa using h2))
    simp only [List.getElem_cons_zero] at h0
    unfold varCells at hr ⊢
    rw [List.flatMap_cons, List.flatMap_cons, hr, h0.1, h0.2]
set_option maxHeartbeats 1000000 in
theorem eqVars_is (w : World) (S S' : Nat → Prop) (o o' : Option Addr) (c c' : Nat) (ns ns' : List Ex) (h1 : RowAt w S 2 (.slice o ns.length c) ns.length (varCells ns)) (h2 : RowAt w S' 2 (.slice o' ns'.length c') ns'.length (varCells ns')) :
    Calls Tryz.prog 132 #[.slice o ns.length c, .slice o' ns'.length c'] w fun e w' => ∃ r : Bool, e = .returned (.bool r) ∧ (r = true → varCells ns = varCells ns') ∧ ∃ k, w' = w.drewN k := by
  have hl := h1.len
  unfold maxLen at hl
  have hl' := h2.len
  unfold maxLen at hl'
  have H1 : Hid (RowAt w S 2 (.slice o ns.length c) ns.length (varCells ns)) := h1
  have H2 : Hid (RowAt w S' 2 (.slice o' ns'.length c') ns'.length (varCells ns')) := h2
  clear h1 h2
  by_cases hlen : ns.length = ns'.length
  · have HL : Hid (ns.length = ns'.length) := hlen
    have hlen' : (ns'.length : Int) = (ns.length : Int) := by omega
    rw [← hlen]
    clear hlen hl'
    go_enter Tryz.func132, Tryz.ntmps132
    go_wp2
    go_loopw [13] (fun i wr => ∃ j k : Nat, j ≤ ns.length ∧ i = .int .i64 j ∧ wr = w.drewN k ∧ ∀ m (h1 : m < ns.length) (h2 : m < ns'.length), m < j → (ns[m].op = ns'[m].op ∧ ns[m].n = ns'[m].n)) (fun i _ => ns.length - (intOf i).toNat)
    case atStart => exact ⟨0, 0, Nat.zero_le _, rfl, rfl, fun m _ _ h => absurd h (by omega)⟩
    case round =>
      obtain ⟨j, k, hj, rfl, rfl, hall⟩ := hrel
      by_cases hlt : j < ns.length
      · have hlt' : j < ns'.length := by rw [← HL.out]; exact hlt
        obtain ⟨b, off, rfl, _, hc⟩ := row_get H1.out (by rw [varCells_length]; omega)
        obtain ⟨b', off', rfl, _, hc'⟩ := row_get H2.out (by rw [varCells_length]; omega)
        have x0 := hc _ _ (varCells_at hlt).1
        have x1 := hc _ _ (varCells_at hlt).2
        have y0 := hc' _ _ (varCells_at hlt').1
        have y1 := hc' _ _ (varCells_at hlt').2
        rw [← Nat.add_assoc] at x1 y1
        clear hc hc'
        have hi0 : (0 : Int) ≤ (j : Int) := by omega
        have hi1 : (j : Int) < (ns.length : Int) := by omega
        have hi2 : (j : Int) < (ns'.length : Int) := by omega
        by_cases he : ns[j].op = ns'[j].op
        · by_cases hn : ns[j].n = ns'[j].n
          · rw [← he] at y0
            rw [← hn] at y1
            have HA : Hid (∀ m (h1 : m < ns.length) (h2 : m < ns'.length), m < j + 1 → (ns[m].op = ns'[m].op ∧ ns[m].n = ns'[m].n)) := fun m h1 h2 h => by
              rcases Nat.lt_succ_iff_lt_or_eq.1 h with h | rfl
              · exact hall m h1 h2 h
              · exact ⟨he, hn⟩
            clear hall he hn
            go_wp2
            go_quiet (fail)
            go_wp2
            refine ⟨⟨j + 1, _, by omega, by go_num, rfl, HA.out⟩, ?_⟩
            simp [intOf]; omega
          · have hn' : (ns[j].n == ns'[j].n) = false := by simpa using hn
            rw [← he] at y0
            clear hall he
            go_wp2
            go_quiet (fail)
            go_wp2
            go_ret
            exact ⟨false, rfl, by simp, k + nq, World.drewN_drewN _ _ _⟩
        · have he' : (ns[j].op.toList == ns'[j].op.toList) = false := bytes_ne he
          clear hall
          go_wp2
          go_quiet (fail)
          go_wp2
          go_ret
          exact ⟨false, rfl, by simp, k + nq, World.drewN_drewN _ _ _⟩
      · have HA : Hid (∀ m (h1 : m < ns.length) (h2 : m < ns'.length), m < j → (ns[m].op = ns'[m].op ∧ ns[m].n = ns'[m].n)) := hall
        clear hall
        go_wp2
        go_ret
        exact ⟨true, rfl, fun _ => varCells_ext HL.out (fun m h1 h2 => HA.out m h1 h2 (by omega)), k, rfl⟩
  · have hne : ((ns.length : Int) == (ns'.length : Int)) = false := by simp; omega
    clear hlen
    go_enter Tryz.func132, Tryz.ntmps132
    go_wp2
    go_ret
    exact ⟨false, rfl, by simp, 0, rfl⟩
end Go.Proofs.YtglkpgcmlbhkpabGreatDoor

/-
  package tree's alikeTerms BY ITS CONTRACT, whatever it is given: where it says yes, the terms are the same.
-/
namespace Go.Proofs.YtglkpgcmlbhkpabGreatDoor
open Go.RowKit
attribute [local go_sem ↓] Go.wp_at_zero Go.wp_at_succ

/-- It answers yes or no; if yes, this holds. -/
def Tells (p : Prop) (w : World) (e : Ending) (w' : World) : Prop := ∃ r : Bool, e = .returned (.bool r) ∧ (r = true → p) ∧ Below w.heap.size w w'
abbrev TellT (m : Nat) : Prop := ∀ (op : ByteArray) (n : Int) (s : ByteArray) (l : List Ex) (op' : ByteArray) (n' : Int) (s' : ByteArray) (l' : List Ex), SizeOf.sizeOf l < m → ∀ (w : World) (S S' : Nat → Prop) (o o' : Option Addr) (c c' : Nat) (ys ys' : List Value), RowAt w S 4 (.slice o l.length c) l.length ys → ExIn w S l ys → RowAt w S' 4 (.slice o' l'.length c') l'.length ys' → ExIn w S' l' ys' →
    Calls Tryz.prog 187 #[.agg #[.string op, .int .i64 n, .string s, .slice o l.length c], .agg #[.string op', .int .i64 n', .string s', .slice o' l'.length c']] w (Tells (op = op' ∧ n = n' ∧ s = s' ∧ l = l') w)
set_option maxRecDepth 100000 in
set_option maxHeartbeats 1000000 in
theorem eqfE_is (m : Nat) (IH : TellT m) (l l' : List Ex) (hm : SizeOf.sizeOf l < m + 1) (w : World) (S S' : Nat → Prop) (o o' : Option Addr) (c c' : Nat) (ys ys' : List Value) (h1 : RowAt w S 4 (.slice o l.length c) l.length ys) (h2 : ExIn w S l ys) (h3 : RowAt w S' 4 (.slice o' l'.length c') l'.length ys') (h4 : ExIn w S' l' ys') :
    Calls Tryz.prog 213 #[.slice o l.length c, .slice o' l'.length c', .func (.func 187) #[] #[]] w (Tells (l = l') w) := by
  have hl := h1.len
  unfold maxLen at hl
  have hl' := h3.len
  unfold maxLen at hl'
  have H1 : Hid (RowAt w S 4 (.slice o l.length c) l.length ys) := h1
  have H2 : Hid (ExIn w S l ys) := h2
  have H3 : Hid (RowAt w S' 4 (.slice o' l'.length c') l'.length ys') := h3
  have H4 : Hid (ExIn w S' l' ys') := h4
  have HI : Hid (TellT m) := IH
  clear h1 h2 h3 h4 IH
  by_cases hlen : l.length = l'.length
  · have HL : Hid (l.length = l'.length) := hlen
    have hlen' : (l'.length : Int) = (l.length : Int) := by omega
    rw [← hlen]
    clear hlen hl'
    go_enter Tryz.func213, Tryz.ntmps213
    go_wp2
    go_loopw [17] (fun t wr => ∃ i : Nat, i ≤ l.length ∧ t = .int .i64 i ∧ Below w.heap.size w wr ∧ ∀ m (h1 : m < l.length) (h2 : m < l'.length), m < i → l[m] = l'[m]) (fun t _ => l.length - (intOf t).toNat)
    case atStart => exact ⟨0, Nat.zero_le _, rfl, Below.refl _ _, fun m _ _ h => absurd h (by omega)⟩
    case round =>
      obtain ⟨i, hi, rfl, hbr, hall⟩ := hrel
      have HA : Hid (∀ m (h1 : m < l.length) (h2 : m < l'.length), m < i → l[m] = l'[m]) := hall
      clear hall
      by_cases hlt : i < l.length
      · have hlt' : i < l'.length := by rw [← HL.out]; exact hlt
        obtain ⟨op, n, s, es, oo, cc, zs, e, m0, m1, m2, m3, r1, r2⟩ := H2.out.at hlt
        obtain ⟨op', n', s', es', oo', cc', zs', e', k0, k1, k2, k3, r3, r4⟩ := H4.out.at hlt'
        obtain ⟨p, f, rfl, _, g⟩ := row_get H1.out (by have := H1.out.1; omega)
        obtain ⟨p', f', rfl, _, g'⟩ := row_get H3.out (by have := H3.out.1; omega)
        have x0 := cell_keep hbr (g _ _ m0)
        have x1 := cell_keep hbr (g _ _ m1)
        have x2 := cell_keep hbr (g _ _ m2)
        have x3 := cell_keep hbr (g _ _ m3)
        have y0 := cell_keep hbr (g' _ _ k0)
        have y1 := cell_keep hbr (g' _ _ k1)
        have y2 := cell_keep hbr (g' _ _ k2)
        have y3 := cell_keep hbr (g' _ _ k3)
        rw [← Nat.add_assoc] at x1 x2 x3 y1 y2 y3
        clear m0 m1 m2 m3 k0 k1 k2 k3
        have i0 : (0 : Int) ≤ (i : Int) := by omega
        have i1 : (i : Int) < (l.length : Int) := by omega
        have i2 : (i : Int) < (l'.length : Int) := by omega
        have hpl : p' < wr.heap.size := lt_of_cell y0
        have hsz := size_part hlt e
        have hbz := hbr.size
        have hbA : Below w.heap.size w ((wr.alloc (teObj op n s (.slice oo es.length cc))).alloc (teObj op' n' s' (.slice oo' es'.length cc'))) := (hbr.alloc hbz _).alloc (by simp; omega) _
        have Hr : Hid (Calls Tryz.prog 187 #[.agg #[.string op, .int .i64 n, .string s, .slice oo es.length cc], .agg #[.string op', .int .i64 n', .string s', .slice oo' es'.length cc']] ((wr.alloc (teObj op n s (.slice oo es.length cc))).alloc (teObj op' n' s' (.slice oo' es'.length cc'))) (Tells (op = op' ∧ n = n' ∧ s = s' ∧ es = es') ((wr.alloc (teObj op n s (.slice oo es.length cc))).alloc (teObj op' n' s' (.slice oo' es'.length cc'))))) := HI.out op n s es op' n' s' es' (by omega) _ S S' oo oo' cc cc' zs zs' (r1.keep (Stays.below hbA (fun k hk => hk))) (r2.keep (Stays.below hbA (fun k hk => hk))) (r3.keep (Stays.below hbA (fun k hk => hk))) (r4.keep (Stays.below hbA (fun k hk => hk)))
        have HE : Hid (l[i] = .mk op n s es ∧ l'[i] = .mk op' n' s' es') := ⟨e, e'⟩
        clear g g' r1 r2 r3 r4 hsz e e'
        go_wp2_with fail
        refine Hr.out.mono ?_
        rintro e w4 ⟨r, rfl, hr, hb4⟩
        cases r with
        | false =>
          clear hr
          go_wp2
          go_ret
          exact ⟨false, rfl, by simp, hbA.trans (hb4.mono (by simp; omega))⟩
        | true =>
          obtain ⟨q1, q2, q3, q4⟩ := hr rfl
          have HB : Hid (∀ m (h1 : m < l.length) (h2 : m < l'.length), m < i + 1 → l[m] = l'[m]) := fun m h1 h2 h => by
            rcases Nat.lt_succ_iff_lt_or_eq.1 h with h | rfl
            · exact HA.out m h1 h2 h
            · rw [HE.out.1, HE.out.2, q1, q2, q3, q4]
          clear hr q1 q2 q3 q4
          go_wp2
          exact ⟨⟨i + 1, by omega, by go_num, hbA.trans (hb4.mono (by simp; omega)), HB.out⟩, by simp [intOf]; omega⟩
      · go_wp2
        go_ret
        exact ⟨true, rfl, fun _ => List.ext_getElem HL.out (fun m h1 h2 => HA.out m h1 h2 (by omega)), hbr⟩
  · have hne : ((l.length : Int) == (l'.length : Int)) = false := by simp; omega
    clear hlen
    go_enter Tryz.func213, Tryz.ntmps213
    go_wp2
    go_ret
    exact ⟨false, rfl, by simp, Below.refl _ _⟩

set_option maxRecDepth 100000 in
set_option maxHeartbeats 1000000 in
theorem alikeTerms_is : ∀ (m : Nat), TellT m
  | 0 => fun _ _ _ _ _ _ _ _ h => absurd h (Nat.not_lt_zero _)
  | m + 1 => by
    intro op n s l op' n' s' l' hm w S S' o o' c c' ys ys' h1 h2 h3 h4
    have IH := alikeTerms_is m
    have hbA : Below w.heap.size w ((w.alloc (teObj op n s (.slice o l.length c))).alloc (teObj op' n' s' (.slice o' l'.length c'))) := ((Below.refl _ _).alloc (Nat.le_refl _) _).alloc (by simp) _
    have h1 := h1.keep (Stays.below hbA (fun k hk => hk))
    have h2 := h2.keep (Stays.below hbA (fun k hk => hk))
    have h3 := h3.keep (Stays.below hbA (fun k hk => hk))
    have h4 := h4.keep (Stays.below hbA (fun k hk => hk))
    have Hr : Hid (Calls Tryz.prog 213 #[.slice o l.length c, .slice o' l'.length c', .func (.func 187) #[] #[]] ((w.alloc (teObj op n s (.slice o l.length c))).alloc (teObj op' n' s' (.slice o' l'.length c'))) (Tells (l = l') ((w.alloc (teObj op n s (.slice o l.length c))).alloc (teObj op' n' s' (.slice o' l'.length c'))))) := eqfE_is m IH l l' hm _ S S' o o' c c' ys ys' h1 h2 h3 h4
    clear h1 h2 h3 h4 IH
    by_cases e1 : op = op'
    · subst e1
      by_cases e2 : n = n'
      · subst e2
        by_cases e3 : s = s'
        · subst e3
          go_enter Tryz.func187, Tryz.ntmps187
          go_wp2_with fail
          refine Hr.out.mono ?_
          rintro e w4 ⟨r, rfl, hr, hb4⟩
          go_wp2
          go_ret
          exact ⟨r, by cases r <;> rfl, fun h => (by refine ⟨?_, ?_, ?_, hr h⟩ <;> first | rfl | trivial), hbA.trans (hb4.mono (by simp; omega))⟩
        · have e3' := bytes_ne e3
          clear e3
          go_enter Tryz.func187, Tryz.ntmps187
          go_wp2
          go_ret
          exact ⟨false, rfl, by simp, hbA⟩
      · have e2' : (n == n') = false := by simpa using e2
        clear e2
        go_enter Tryz.func187, Tryz.ntmps187
        go_wp2
        go_ret
        exact ⟨false, rfl, by simp, hbA⟩
    · have e1' := bytes_ne e1
      clear e1
      go_enter Tryz.func187, Tryz.ntmps187
      go_wp2
      go_ret
      exact ⟨false, rfl, by simp, hbA⟩
end Go.Proofs.YtglkpgcmlbhkpabGreatDoor
