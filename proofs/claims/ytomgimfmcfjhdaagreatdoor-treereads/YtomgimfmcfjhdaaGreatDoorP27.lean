/-
  lustrumref1.SameTexts, SameVars, SameExpr, SameNodes BY THEIR CONTRACTS: what holds the same is the same.
-/
import Derived.Test.YtomgimfmcfjhdaaGreatDoorP17
import Derived.Deep.QuietTactic
import Derived.BigQuiet
import Derived.WalkSmall
namespace Go.Proofs.YtomgimfmcfjhdaaGreatDoor
open Go.RowKit
attribute [local go_sem ↓] Go.wp_at_zero Go.wp_at_succ

theorem row_get {w : World} {S : Nat → Prop} {size n m : Nat} {o : Option Addr} {c : Nat} {xs : List Value} (h : RowAt w S size (.slice o m c) n xs) (hn : 0 < xs.length) : ∃ b off, o = some ⟨b, off, none⟩ ∧ b < w.heap.size ∧ ∀ k x, xs[k]? = some x → w.cell? ⟨b, off + k, none⟩ = some x := by
  obtain ⟨b, off, c', e, hb, hl, hc⟩ := h.at hn
  injection e with e
  exact ⟨b, off, e, hl, hc⟩
theorem RowAt.len {w : World} {S : Nat → Prop} {size n : Nat} {v : Value} {xs : List Value} (h : RowAt w S size v n xs) : n ≤ maxLen := h.2.1
theorem nameCells_at {ns : List Ex} {i : Nat} (hi : i < ns.length) : (nameCells ns)[i]? = some (.string ns[i].op) := by
  simp [nameCells, hi]
theorem varCells_at : ∀ {vs : List Ex} {i : Nat} (hi : i < vs.length), (varCells vs)[i * 2]? = some (.string vs[i].op) ∧ (varCells vs)[i * 2 + 1]? = some (.int .i64 vs[i].n)
  | [], i, hi => by simp at hi
  | v :: vs, 0, _ => ⟨rfl, rfl⟩
  | v :: vs, i + 1, hi => by
    have := varCells_at (vs := vs) (i := i) (by simpa using hi)
    have e : varCells (v :: vs) = .string v.op :: .int .i64 v.n :: varCells vs := rfl
    rw [e, show (i + 1) * 2 = i * 2 + 1 + 1 from by omega, List.getElem?_cons_succ, List.getElem?_cons_succ, List.getElem?_cons_succ, List.getElem?_cons_succ]
    exact this
theorem varCells_length : ∀ (vs : List Ex), (varCells vs).length = vs.length * 2
  | [] => rfl
  | v :: vs => by have := varCells_length vs; simp only [varCells, List.flatMap_cons, List.length_append, List.length_cons, List.length_nil] at this ⊢; omega
theorem nameCells_length (ns : List Ex) : (nameCells ns).length = ns.length := by simp [nameCells]
theorem ExIn.at {w : World} {S : Nat → Prop} {l : List Ex} {xs : List Value} (h : ExIn w S l xs) : ∀ {i : Nat} (hi : i < l.length), ∃ op n s es o c ys, l[i] = .mk op n s es ∧ xs[i * 4]? = some (.string op) ∧ xs[i * 4 + 1]? = some (.int .i64 n) ∧ xs[i * 4 + 2]? = some (.string s) ∧ xs[i * 4 + 3]? = some (.slice o es.length c) ∧ RowAt w S 4 (.slice o es.length c) es.length ys ∧ ExIn w S es ys := by
  induction h with
  | nil => intro i hi; simp at hi
  | cons op n s l es lv xs ys h1 h2 h3 _ ih =>
    intro i hi
    cases i with
    | zero =>
      obtain ⟨o, c, rfl⟩ := h1.form
      exact ⟨op, n, s, l, o, c, xs, rfl, rfl, rfl, rfl, rfl, h1, h2⟩
    | succ i =>
      obtain ⟨op', n', s', l', o, c, zs, e, a0, a1, a2, a3, a4, a5⟩ := ih (i := i) (by simpa using hi)
      refine ⟨op', n', s', l', o, c, zs, by simpa using e, ?_, ?_, ?_, ?_, a4, a5⟩
      · rw [show (i + 1) * 4 = i * 4 + 1 + 1 + 1 + 1 from by omega]; simpa using a0
      · rw [show (i + 1) * 4 + 1 = i * 4 + 1 + 1 + 1 + 1 + 1 from by omega]; simpa using a1
      · rw [show (i + 1) * 4 + 2 = i * 4 + 2 + 1 + 1 + 1 + 1 from by omega]; simpa using a2
      · rw [show (i + 1) * 4 + 3 = i * 4 + 3 + 1 + 1 + 1 + 1 from by omega]; simpa using a3
theorem EqIn.at {w : World} {S : Nat → Prop} {l : List Ex} {xs : List Value} (h : EqIn w S l xs) : ∀ {i : Nat} (hi : i < l.length), ∃ kind ns no nc op n s es o c ys, l[i] = .mk kind 0 b0 [lst ns, .mk op n s es] ∧ xs[i * 6]? = some (.string kind) ∧ xs[i * 6 + 1]? = some (.slice no ns.length nc) ∧ xs[i * 6 + 2]? = some (.string op) ∧ xs[i * 6 + 3]? = some (.int .i64 n) ∧ xs[i * 6 + 4]? = some (.string s) ∧ xs[i * 6 + 5]? = some (.slice o es.length c) ∧ RowAt w S 1 (.slice no ns.length nc) ns.length (nameCells ns) ∧ RowAt w S 4 (.slice o es.length c) es.length ys ∧ ExIn w S es ys := by
  induction h with
  | nil => intro i hi; simp at hi
  | cons kind ns e es nv xs ys h1 h2 h3 ih =>
    intro i hi
    obtain ⟨op, n, s, l, o, c, zs, rfl, rfl, h4, h5⟩ := h2.one'
    cases i with
    | zero =>
      obtain ⟨no, nc, rfl⟩ := h1.form
      exact ⟨kind, ns, no, nc, op, n, s, l, o, c, zs, rfl, rfl, rfl, rfl, rfl, rfl, rfl, h1, h4, h5⟩
    | succ i =>
      obtain ⟨kind', ns', no, nc, op', n', s', l', o, c, zs, e, a0, a1, a2, a3, a4, a5, a6, a7, a8⟩ := ih (i := i) (by simpa using hi)
      refine ⟨kind', ns', no, nc, op', n', s', l', o, c, zs, by simpa using e, ?_, ?_, ?_, ?_, ?_, ?_, a6, a7, a8⟩
      · rw [show (i + 1) * 6 = i * 6 + 1 + 1 + 1 + 1 + 1 + 1 from by omega]; simpa using a0
      · rw [show (i + 1) * 6 + 1 = i * 6 + 1 + 1 + 1 + 1 + 1 + 1 + 1 from by omega]; simpa using a1
      · rw [show (i + 1) * 6 + 2 = i * 6 + 2 + 1 + 1 + 1 + 1 + 1 + 1 from by omega]; simpa using a2
      · rw [show (i + 1) * 6 + 3 = i * 6 + 3 + 1 + 1 + 1 + 1 + 1 + 1 from by omega]; simpa using a3
      · rw [show (i + 1) * 6 + 4 = i * 6 + 4 + 1 + 1 + 1 + 1 + 1 + 1 from by omega]; simpa using a4
      · rw [show (i + 1) * 6 + 5 = i * 6 + 5 + 1 + 1 + 1 + 1 + 1 + 1 from by omega]; simpa using a5
theorem NdIn.at {w : World} {S : Nat → Prop} {l : List Ex} {xs : List Value} (h : NdIn w S l xs) : ∀ {i : Nat} (hi : i < l.length), ∃ name ins outs owns qs o1 c1 o2 c2 o3 c3 o4 c4 ys, l[i] = .mk name 0 b0 [lst ins, lst outs, lst owns, lst qs] ∧ xs[i * 5]? = some (.string name) ∧ xs[i * 5 + 1]? = some (.slice o1 ins.length c1) ∧ xs[i * 5 + 2]? = some (.slice o2 outs.length c2) ∧ xs[i * 5 + 3]? = some (.slice o3 owns.length c3) ∧ xs[i * 5 + 4]? = some (.slice o4 qs.length c4) ∧ RowAt w S 2 (.slice o1 ins.length c1) ins.length (varCells ins) ∧ RowAt w S 2 (.slice o2 outs.length c2) outs.length (varCells outs) ∧ RowAt w S 2 (.slice o3 owns.length c3) owns.length (varCells owns) ∧ RowAt w S 6 (.slice o4 qs.length c4) qs.length ys ∧ EqIn w S qs ys := by
  induction h with
  | nil => intro i hi; simp at hi
  | cons name ins outs owns qs es v1 v2 v3 v4 xs ys h1 h2 h3 h4 h5 _ ih =>
    intro i hi
    cases i with
    | zero =>
      obtain ⟨o1, c1, rfl⟩ := h1.form
      obtain ⟨o2, c2, rfl⟩ := h2.form
      obtain ⟨o3, c3, rfl⟩ := h3.form
      obtain ⟨o4, c4, rfl⟩ := h4.form
      exact ⟨name, ins, outs, owns, qs, o1, c1, o2, c2, o3, c3, o4, c4, xs, rfl, rfl, rfl, rfl, rfl, rfl, h1, h2, h3, h4, h5⟩
    | succ i =>
      obtain ⟨name', ins', outs', owns', qs', o1, c1, o2, c2, o3, c3, o4, c4, zs, e, a0, a1, a2, a3, a4, b1, b2, b3, b4, b5⟩ := ih (i := i) (by simpa using hi)
      refine ⟨name', ins', outs', owns', qs', o1, c1, o2, c2, o3, c3, o4, c4, zs, by simpa using e, ?_, ?_, ?_, ?_, ?_, b1, b2, b3, b4, b5⟩
      · rw [show (i + 1) * 5 = i * 5 + 1 + 1 + 1 + 1 + 1 from by omega]; simpa using a0
      · rw [show (i + 1) * 5 + 1 = i * 5 + 1 + 1 + 1 + 1 + 1 + 1 from by omega]; simpa using a1
      · rw [show (i + 1) * 5 + 2 = i * 5 + 2 + 1 + 1 + 1 + 1 + 1 from by omega]; simpa using a2
      · rw [show (i + 1) * 5 + 3 = i * 5 + 3 + 1 + 1 + 1 + 1 + 1 from by omega]; simpa using a3
      · rw [show (i + 1) * 5 + 4 = i * 5 + 4 + 1 + 1 + 1 + 1 + 1 from by omega]; simpa using a4

set_option maxHeartbeats 1000000 in
theorem sameTexts_any (w : World) (S S' : Nat → Prop) (o o' : Option Addr) (c c' : Nat) (ns : List Ex) (h1 : RowAt w S 1 (.slice o ns.length c) ns.length (nameCells ns)) (h2 : RowAt w S' 1 (.slice o' ns.length c') ns.length (nameCells ns)) :
    Calls Tryz.prog 41 #[.slice o ns.length c, .slice o' ns.length c'] w fun e w' => e = .returned (.bool true) ∧ ∃ k, w' = w.drewN k := by
  have hl := h1.len
  unfold maxLen at hl
  have H1 : Hid _ := h1
  have H2 : Hid _ := h2
  clear h1 h2
  go_enter Tryz.func41, Tryz.ntmps41
  go_wp2
  go_loopw [5] (fun i wr => ∃ j k : Nat, j ≤ ns.length ∧ i = .int .i64 j ∧ wr = w.drewN k) (fun i _ => ns.length - (intOf i).toNat)
  case atStart => exact ⟨0, 0, Nat.zero_le _, rfl, rfl⟩
  case round =>
    obtain ⟨j, k, hj, rfl, rfl⟩ := hrel
    by_cases hlt : j < ns.length
    · obtain ⟨b, off, rfl, _, hc⟩ := row_get H1.out (by rw [nameCells_length]; omega)
      obtain ⟨b', off', rfl, _, hc'⟩ := row_get H2.out (by rw [nameCells_length]; omega)
      have x0 := hc j _ (nameCells_at hlt)
      have x1 := hc' j _ (nameCells_at hlt)
      clear hc hc'
      have hi0 : (0 : Int) ≤ (j : Int) := by omega
      have hi1 : (j : Int) < (ns.length : Int) := by omega
      go_wp2
      go_quiet (fail)
      go_wp2
      refine ⟨⟨j + 1, _, by omega, by go_num, rfl⟩, ?_⟩
      simp [intOf]; omega
    · go_wp2
      go_ret
      exact ⟨rfl, k, rfl⟩
set_option maxHeartbeats 1000000 in
theorem sameVars_any (w : World) (S S' : Nat → Prop) (o o' : Option Addr) (c c' : Nat) (vs : List Ex) (h1 : RowAt w S 2 (.slice o vs.length c) vs.length (varCells vs)) (h2 : RowAt w S' 2 (.slice o' vs.length c') vs.length (varCells vs)) :
    Calls Tryz.prog 40 #[.slice o vs.length c, .slice o' vs.length c'] w fun e w' => e = .returned (.bool true) ∧ ∃ k, w' = w.drewN k := by
  have hl := h1.len
  unfold maxLen at hl
  have H1 : Hid _ := h1
  have H2 : Hid _ := h2
  clear h1 h2
  go_enter Tryz.func40, Tryz.ntmps40
  go_wp2
  go_loopw [5] (fun i wr => ∃ j k : Nat, j ≤ vs.length ∧ i = .int .i64 j ∧ wr = w.drewN k) (fun i _ => vs.length - (intOf i).toNat)
  case atStart => exact ⟨0, 0, Nat.zero_le _, rfl, rfl⟩
  case round =>
    obtain ⟨j, k, hj, rfl, rfl⟩ := hrel
    by_cases hlt : j < vs.length
    · obtain ⟨b, off, rfl, _, hc⟩ := row_get H1.out (by rw [varCells_length]; omega)
      obtain ⟨b', off', rfl, _, hc'⟩ := row_get H2.out (by rw [varCells_length]; omega)
      have x0 := hc _ _ (varCells_at hlt).1
      have x1 := hc _ _ (varCells_at hlt).2
      have y0 := hc' _ _ (varCells_at hlt).1
      have y1 := hc' _ _ (varCells_at hlt).2
      rw [← Nat.add_assoc] at x1 y1
      clear hc hc'
      have hi0 : (0 : Int) ≤ (j : Int) := by omega
      have hi1 : (j : Int) < (vs.length : Int) := by omega
      go_wp2
      go_quiet (fail)
      go_wp2
      refine ⟨⟨j + 1, _, by omega, by go_num, rfl⟩, ?_⟩
      simp [intOf]; omega
    · go_wp2
      go_ret
      exact ⟨rfl, k, rfl⟩
end Go.Proofs.YtomgimfmcfjhdaaGreatDoor

/-
  lustrumref1.SameExpr BY ITS CONTRACT: what holds the same is the same.
-/
namespace Go.Proofs.YtomgimfmcfjhdaaGreatDoor
open Go.RowKit
attribute [local go_sem ↓] Go.wp_at_zero Go.wp_at_succ

theorem size_part {l : List Ex} {i : Nat} (hi : i < l.length) {op : ByteArray} {n : Int} {s : ByteArray} {es : List Ex} (e : l[i] = .mk op n s es) : SizeOf.sizeOf es < SizeOf.sizeOf l := by
  have h := List.sizeOf_lt_of_mem (List.getElem_mem hi)
  rw [e] at h
  simp only [Ex.mk.sizeOf_spec] at h
  omega
abbrev reObj (op : ByteArray) (n : Int) (s : ByteArray) (v : Value) : Obj := .cells #[.string op, .int .i64 n, .string s, v] 94
set_option maxRecDepth 100000 in
set_option maxHeartbeats 1000000 in
theorem sameExpr_any : ∀ (m : Nat) (op : ByteArray) (n : Int) (s : ByteArray) (l : List Ex), SizeOf.sizeOf l < m → ∀ (w : World) (S S' : Nat → Prop) (o o' : Option Addr) (c c' : Nat) (ys ys' : List Value), RowAt w S 4 (.slice o l.length c) l.length ys → ExIn w S l ys → RowAt w S' 4 (.slice o' l.length c') l.length ys' → ExIn w S' l ys' →
    Calls Tryz.prog 42 #[.agg #[.string op, .int .i64 n, .string s, .slice o l.length c], .agg #[.string op, .int .i64 n, .string s, .slice o' l.length c']] w fun e w' => e = .returned (.bool true) ∧ Below w.heap.size w w'
  | 0, _, _, _, _, h => absurd h (Nat.not_lt_zero _)
  | m + 1, op, n, s, l, hm => by
    intro w S S' o o' c c' ys ys' h1 h2 h3 h4
    have IH := sameExpr_any m
    have hl := h1.len
    unfold maxLen at hl
    have H1 : Hid (RowAt w S 4 (.slice o l.length c) l.length ys) := h1
    have H2 : Hid (ExIn w S l ys) := h2
    have H3 : Hid (RowAt w S' 4 (.slice o' l.length c') l.length ys') := h3
    have H4 : Hid (ExIn w S' l ys') := h4
    have hbA : Below w.heap.size w ((w.alloc (reObj op n s (.slice o l.length c))).alloc (reObj op n s (.slice o' l.length c'))) := ((Below.refl _ _).alloc (Nat.le_refl _) _).alloc (by simp) _
    have HA : Hid (((w.alloc (reObj op n s (.slice o l.length c))).alloc (reObj op n s (.slice o' l.length c'))).heap[w.heap.size]? = some (reObj op n s (.slice o l.length c))) := alloc_row _ (heap_alloc_new w _)
    have HB : Hid (((w.alloc (reObj op n s (.slice o l.length c))).alloc (reObj op n s (.slice o' l.length c'))).heap[w.heap.size + 1]? = some (reObj op n s (.slice o' l.length c'))) := two_new w _ _
    clear h1 h2 h3 h4
    go_enter Tryz.func42, Tryz.ntmps42
    go_wp2
    go_loopw [5] (fun t wr => ∃ i : Nat, i ≤ l.length ∧ t = .int .i64 i ∧ Below (w.heap.size + 1 + 1) ((w.alloc (reObj op n s (.slice o l.length c))).alloc (reObj op n s (.slice o' l.length c'))) wr) (fun t _ => l.length - (intOf t).toNat)
    case atStart => exact ⟨0, Nat.zero_le _, rfl, Below.refl _ _⟩
    case round =>
      obtain ⟨i, hi, rfl, hbr⟩ := hrel
      have hbr' : Below ((w.alloc (reObj op n s (.slice o l.length c))).alloc (reObj op n s (.slice o' l.length c'))).heap.size ((w.alloc (reObj op n s (.slice o l.length c))).alloc (reObj op n s (.slice o' l.length c'))) wr := by simpa using hbr
      have hbw : Below w.heap.size w wr := hbA.trans (hbr.mono (by omega))
      obtain ⟨a0, a1, a2, a3, _⟩ := blk4 (row_keep hbr' HA.out)
      obtain ⟨b0, b1, b2, b3, _⟩ := blk4 (row_keep hbr' HB.out)
      by_cases hlt : i < l.length
      · obtain ⟨op', n', s', es, oo, cc, zs, e, x0, x1, x2, x3, r1, r2⟩ := H2.out.at hlt
        obtain ⟨op'', n'', s'', es', oo', cc', zs', e', y0, y1, y2, y3, r3, r4⟩ := H4.out.at hlt
        rw [e] at e'
        injection e' with e1 e2 e3 e4
        subst e1 e2 e3 e4
        obtain ⟨p, f, rfl, _, g⟩ := row_get H1.out (by have := H1.out.1; omega)
        obtain ⟨p', f', rfl, _, g'⟩ := row_get H3.out (by have := H3.out.1; omega)
        have x0 := cell_keep hbw (g _ _ x0)
        have x1 := cell_keep hbw (g _ _ x1)
        have x2 := cell_keep hbw (g _ _ x2)
        have x3 := cell_keep hbw (g _ _ x3)
        have y0 := cell_keep hbw (g' _ _ y0)
        have y1 := cell_keep hbw (g' _ _ y1)
        have y2 := cell_keep hbw (g' _ _ y2)
        have y3 := cell_keep hbw (g' _ _ y3)
        rw [← Nat.add_assoc] at x1 x2 x3 y1 y2 y3
        have i0 : (0 : Int) ≤ (i : Int) := by omega
        have i1 : (i : Int) < (l.length : Int) := by omega
        have hsz := size_part hlt e
        have Hr : Hid (Calls Tryz.prog 42 #[.agg #[.string op', .int .i64 n', .string s', .slice oo es.length cc], .agg #[.string op', .int .i64 n', .string s', .slice oo' es.length cc']] wr.drew fun e w' => e = .returned (.bool true) ∧ Below wr.drew.heap.size wr.drew w') := IH op' n' s' es (by omega) wr.drew S S' oo oo' cc cc' zs zs' (r1.keep (Stays.below hbw.drew (fun k hk => hk))) (r2.keep (Stays.below hbw.drew (fun k hk => hk))) (r3.keep (Stays.below hbw.drew (fun k hk => hk))) (r4.keep (Stays.below hbw.drew (fun k hk => hk)))
        clear g g' r1 r2 r3 r4 IH hbw hsz
        go_wp2
        go_region_law (refine step_call rfl 42 #[.agg #[.string op', .int .i64 n', .string s', .slice oo es.length cc], .agg #[.string op', .int .i64 n', .string s', .slice oo' es.length cc']] (by kernel_rfl) ?_; refine Hr.out.mono ?_; rintro e w4 ⟨rfl, hb4⟩)
        all_goals
          go_wp2
          have hs4 := hbr.size
          simp only [World.size_alloc] at hs4
          exact ⟨⟨i + 1, by omega, by go_num, (hbr.drew).trans (hb4.mono (by show _ ≤ wr.heap.size; omega))⟩, by simp [intOf]; omega⟩
      · go_wp2
        go_ret
        exact ⟨rfl, hbw⟩
end Go.Proofs.YtomgimfmcfjhdaaGreatDoor
