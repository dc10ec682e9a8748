/-
  lustrumlaw1.varsOf, ExprOf BY THEIR CONTRACTS: the same in new memory.
-/
import Derived.Test.YtglkpgcmlbhkpabGreatDoorQ23
import Derived.Test.YtglkpgcmlbhkpabGreatDoorQ21
namespace Go.Proofs.YtglkpgcmlbhkpabGreatDoor
open Go.RowKit
attribute [local go_sem ↓] Go.wp_at_zero Go.wp_at_succ

abbrev tTerm : Obj := .cells #[.string ⟨#[]⟩, .int .i64 0, .string ⟨#[]⟩, .slice none 0 0] 62
set_option maxRecDepth 100000 in
set_option maxHeartbeats 1000000 in
theorem varsOf_any (w : World) (S : Nat → Prop) (o : Option Addr) (c : Nat) (vs : List Ex) (h : RowAt w S 2 (.slice o vs.length c) vs.length (varCells vs)) (hn : vs.length ≤ 5864062014805) :
    Calls Tryz.prog 39 #[.slice o vs.length c] w fun e w' => (∃ so sc, e = .returned (.slice so vs.length sc) ∧ RowAt w' (From w.heap.size) 2 (.slice so vs.length sc) vs.length (varCells vs)) ∧ Below w.heap.size w w' := by
  obtain ⟨i0, hi0, hz0, hz1, hz2⟩ := info_parts Tryz.infoVar
  have H : Hid (RowAt w S 2 (.slice o vs.length c) vs.length (varCells vs)) := h
  clear h
  go_enter Tryz.func39, Tryz.ntmps39
  go_wp2
  go_loopw [3, 4] (fun v t wr => ∃ (i : Nat) (so : Option Addr) (sc : Nat), i ≤ vs.length ∧ t = .int .i64 i ∧ v = .slice so i sc ∧ wr.ownsRow w.heap.size 170 2 (.slice so i sc) i (varCells (vs.take i)) ∧ Below w.heap.size w wr) (fun _ t _ => vs.length - (intOf t).toNat)
  case atStart => exact ⟨0, none, 0, Nat.zero_le _, rfl, rfl, World.ownsRow_nil _ _ _ _, Below.refl _ _⟩
  case round =>
    obtain ⟨i, so, sc, hi, rfl, rfl, hown, hb⟩ := hrel
    by_cases hlt : i < vs.length
    · obtain ⟨b, off, rfl, _, g⟩ := row_get H.out (by rw [varCells_length]; omega)
      have c0 := cell_keep hb (g _ _ (varCells_at hlt).1)
      have c1 := cell_keep hb (g _ _ (varCells_at hlt).2)
      rw [← Nat.add_assoc] at c1
      have i0' : (0 : Int) ≤ (i : Int) := by omega
      have i1 : (i : Int) < (vs.length : Int) := by omega
      have hn63 : i + 1 ≤ maxLen := by unfold maxLen; omega
      have hby : (i + 1) * 24 ≤ 140737488355328 := by omega
      have hdr : (wr.drew).ownsRow w.heap.size 170 2 (.slice so i sc) i (varCells (vs.take i)) := hown
      have HO : Hid (∀ o, (wr.drew.alloc o).ownsRow w.heap.size 170 2 (.slice so i sc) i (varCells (vs.take i))) := fun o => hdr.alloc o
      have hnb : (wr.drew.alloc (.cells #[.string vs[i].op, .int .i64 vs[i].n] 170)).heap[wr.heap.size]? = some (.cells #[.string vs[i].op, .int .i64 vs[i].n] 170) := by
        show (wr.heap.push _)[wr.heap.size]? = _
        simp
      have HN' : Hid _ := World.news_of_block hnb
      have hrow : Hid (∀ k, (Value.slice so i sc).ownBlock = some k → w.heap.size ≤ k ∧ k < wr.heap.size) := fun k hk => ownsRow_block hown hk
      have hsz : w.heap.size ≤ (wr.drew.alloc (.cells #[.string vs[i].op, .int .i64 vs[i].n] 170)).heap.size := Nat.le_trans hb.size (by show _ ≤ (wr.heap.push _).size; simp)
      clear hnb hdr g
      go_wp2
      go_region_law (refine step_append_lies _ rfl (.tmp 11) (.tmp 23) 68 rfl w.heap.size 170 i0 _ 2 24 Tryz.underlying68 hi0 hz0 hz1 hz2 rfl (by omega) (.slice so i sc) i (varCells (vs.take i)) (by simp [Act.eval]) (HO.out _) ⟨wr.heap.size, 0, none⟩ 1 1 [.string vs[i].op, .int .i64 vs[i].n] (by simp [Act.eval]) rfl HN'.out (by simp [Value.oneCell']) (by omega) hn63 hby hsz _ rfl (fun g cap w3 hown3 hgrow hat hlt3 => ?_))
      all_goals
        rw [← varCells_take vs i hlt] at hown3
        have hB3 : Below w.heap.size w w3 := ((hb.alloc hb.size _).drew).grown hgrow (Nat.le_trans hb.size (by show _ ≤ (wr.heap.push _).size; simp)) (fun k hk => (hrow.out k hk).1)
        clear HO HN' hrow hsz hgrow hat hown c0 c1
        go_wp2
        exact ⟨⟨i + 1, some ⟨g, 0, none⟩, cap, by omega, by go_num, rfl, hown3, hB3⟩, by simp [intOf]; omega⟩
    · go_wp2
      go_ret
      obtain rfl : i = vs.length := by omega
      rw [List.take_length] at hown
      exact ⟨⟨_, _, rfl, RowAt.of_owns hown⟩, hb⟩

set_option maxRecDepth 100000 in
set_option maxHeartbeats 1000000 in
theorem exprOf_any : ∀ (m : Nat) (op : ByteArray) (n : Int) (s : ByteArray) (l : List Ex), SizeOf.sizeOf l < m → l.length ≤ 2199023255552 → Fit 2199023255552 l → ∀ (w : World) (S : Nat → Prop) (o : Option Addr) (c : Nat) (ys : List Value), RowAt w S 4 (.slice o l.length c) l.length ys → ExIn w S l ys →
    Calls Tryz.prog 23 #[.agg #[.string op, .int .i64 n, .string s, .slice o l.length c]] w fun e w' => (∃ so sc ys', e = .returned (.agg #[.string op, .int .i64 n, .string s, .slice so l.length sc]) ∧ RowAt w' (From w.heap.size) 4 (.slice so l.length sc) l.length ys' ∧ ExIn w' (From w.heap.size) l ys') ∧ Below w.heap.size w w'
  | 0, _, _, _, _, h => absurd h (Nat.not_lt_zero _)
  | m + 1, op, n, s, l, hm => by
    intro hl hf w S o c ys h1 h2
    obtain ⟨i0, hi0, hz0, hz1, hz2⟩ := info_parts Tryz.infoExpr
    have IH := exprOf_any m
    have H1 : Hid (RowAt w S 4 (.slice o l.length c) l.length ys) := h1
    have H2 : Hid (ExIn w S l ys) := h2
    clear h1 h2
    go_enter Tryz.func23, Tryz.ntmps23
    have hbA : Below w.heap.size w (((w.alloc (.cells #[.string op, .int .i64 n, .string s, .slice o l.length c] 38)).alloc tTerm).alloc (teObj op n s (.slice none 0 0))) := (((Below.refl _ _).alloc (Nat.le_refl _) _).alloc (by simp) _).alloc (by simp; omega) _
    have HA : Hid ((((w.alloc (.cells #[.string op, .int .i64 n, .string s, .slice o l.length c] 38)).alloc tTerm).alloc (teObj op n s (.slice none 0 0))).heap[w.heap.size]? = some (.cells #[.string op, .int .i64 n, .string s, .slice o l.length c] 38)) := alloc_row _ (alloc_row _ (heap_alloc_new w _))
    have HB : Hid ((((w.alloc (.cells #[.string op, .int .i64 n, .string s, .slice o l.length c] 38)).alloc tTerm).alloc (teObj op n s (.slice none 0 0))).heap[w.heap.size + 1]? = some tTerm) := alloc_row _ (two_new w _ _)
    have HC : Hid ((((w.alloc (.cells #[.string op, .int .i64 n, .string s, .slice o l.length c] 38)).alloc tTerm).alloc (teObj op n s (.slice none 0 0))).heap[w.heap.size + 1 + 1]? = some (teObj op n s (.slice none 0 0))) := heap_alloc_new' (by simp) _
    go_wp2
    go_loopw [4] (fun t wr => ∃ (i : Nat) (so : Option Addr) (sc : Nat) (cells : List Value), i ≤ l.length ∧ t = .int .i64 i ∧ Below w.heap.size w wr ∧ w.heap.size + 1 + 1 + 1 ≤ wr.heap.size ∧ Hid (wr.heap[w.heap.size]? = some (.cells #[.string op, .int .i64 n, .string s, .slice o l.length c] 38)) ∧ Hid (wr.heap[w.heap.size + 1]? = some tTerm) ∧ Hid (wr.heap[w.heap.size + 1 + 1]? = some (teObj op n s (.slice so i sc))) ∧ Hid (wr.ownsRow (w.heap.size + 1 + 1 + 1) 62 4 (.slice so i sc) i cells) ∧ Hid (ExIn wr (fun k => w.heap.size + 1 + 1 + 1 ≤ k ∧ (Value.slice so i sc).ownBlock ≠ some k) (l.take i) cells)) (fun t _ => l.length - (intOf t).toNat)
    case atStart => exact ⟨0, none, 0, [], Nat.zero_le _, rfl, hbA, by simp, HA, HB, HC, World.ownsRow_nil _ _ _ _, .nil⟩
    case round =>
      clear HA HB HC hbA
      obtain ⟨i, so, sc, cells, hi, rfl, hb, hsz, HAr, HBr, HCr, HO, HI⟩ := hrel
      obtain ⟨_, _, _, a3, _⟩ := blk4 HAr.out
      obtain ⟨d0, d1, d2, d3, df⟩ := blk4 HCr.out
      by_cases hlt : i < l.length
      · obtain ⟨op', n', s', es, oo, cc, zs, e, x0, x1, x2, x3, r1, r2⟩ := H2.out.at hlt
        obtain ⟨p, f, rfl, _, g⟩ := row_get H1.out (by have := H1.out.1; omega)
        have x0 := cell_keep hb (g _ _ x0)
        have x1 := cell_keep hb (g _ _ x1)
        have x2 := cell_keep hb (g _ _ x2)
        have x3 := cell_keep hb (g _ _ x3)
        rw [← Nat.add_assoc] at x1 x2 x3
        have i0' : (0 : Int) ≤ (i : Int) := by omega
        have i1 : (i : Int) < (l.length : Int) := by omega
        have hsp := size_part hlt e
        obtain ⟨hfl, hff⟩ := hf.at hlt e
        have Hr : Hid (Calls Tryz.prog 23 #[.agg #[.string op', .int .i64 n', .string s', .slice oo es.length cc]] wr.drew fun e w' => (∃ so sc ys', e = .returned (.agg #[.string op', .int .i64 n', .string s', .slice so es.length sc]) ∧ RowAt w' (From wr.drew.heap.size) 4 (.slice so es.length sc) es.length ys' ∧ ExIn w' (From wr.drew.heap.size) es ys') ∧ Below wr.drew.heap.size wr.drew w') := IH op' n' s' es (by omega) hfl hff wr.drew S oo cc zs (r1.keep (Stays.below hb.drew (fun k hk => hk))) (r2.keep (Stays.below hb.drew (fun k hk => hk)))
        have hn63 : i + 1 ≤ maxLen := by unfold maxLen; omega
        have hby : (i + 1) * 64 ≤ 140737488355328 := by omega
        have hrw : Hid (∀ k, (Value.slice so i sc).ownBlock = some k → w.heap.size + 1 + 1 + 1 ≤ k ∧ k < wr.heap.size) := fun k hk => ownsRow_block HO.out hk
        have e' : Hid (l[i] = .mk op' n' s' es) := e
        clear g r1 r2 IH hsp hfl hff e
        go_wp2
        go_region_law (first
          | (refine step_append_lies _ rfl (.tmp 20) (.tmp 27) 60 rfl (w.heap.size + 1 + 1 + 1) 62 i0 _ 4 64 Tryz.underlying60 hi0 hz0 hz1 hz2 rfl (by omega) (.slice so i sc) i cells (by simp [Act.eval]) HO4.out ⟨w4.heap.size, 0, none⟩ 1 1 [.string op', .int .i64 n', .string s', .slice so' es.length sc'] (by simp [Act.eval]) rfl HN'.out (by simp [Value.oneCell']) (by omega) hn63 hby (by rw [World.size_alloc]; omega) (w4.heap.size + 1) (by simp) ?_; intro g2 cap w5 hown5 hgrow hat hlt5; have HC5 : Hid _ := heap_grown hgrow (b := w.heap.size + 1 + 1) (fun hk => by have := (hrw.out _ hk).1; omega) (alloc_row _ HC4.out); have q3 := (blk4 HC5.out).2.2.2.1; have qf := (blk4 HC5.out).2.2.2.2 3)
          | (refine step_call rfl 23 #[.agg #[.string op', .int .i64 n', .string s', .slice oo es.length cc]] (by kernel_rfl) ?_; refine Hr.out.mono ?_; rintro e w4 ⟨⟨so', sc', ys', rfl, hrow', hin'⟩, hb4⟩; have hs4 : wr.heap.size ≤ w4.heap.size := hb4.size; have hb4' : Below wr.heap.size wr w4 := (Below.refl _ _).drew.trans hb4; have HC4 : Hid _ := row_keep hb4' HCr.out; obtain ⟨v0, v1, v2, v3, vf⟩ := blk4 HC4.out; have hltc : w.heap.size + 1 + 1 < w4.heap.size := (by omega); have HO4 : Hid _ := (ownsRow_mv (ba := w.heap.size + 1 + 1) HO.out (Mv.of_below hb4') (by omega)).alloc (.cells #[.string op', .int .i64 n', .string s', .slice so' es.length sc'] 62); have HN' : Hid _ := World.news_of_block (heap_alloc_new w4 (.cells #[.string op', .int .i64 n', .string s', .slice so' es.length sc'] 62)); dsimp only))
        all_goals
          have hbg : Below (w.heap.size + 1 + 1) w4 w5 := ((Below.refl _ _).alloc (by omega) _).grown hgrow (by simp; omega) (fun k hk => by have := (hrw.out k hk).1; omega)
          have hbs := hbg.size
          have HB5 : Hid ((w5.setCell ⟨w.heap.size + 1 + 1, 3, none⟩ (.slice (some ⟨g2, 0, none⟩) (i + 1) cap)).heap[w.heap.size + 1]? = some tTerm) := (Below.heap_setCell _ _ _ _ (by show w.heap.size + 1 ≠ w.heap.size + 1 + 1; omega)).trans (heap_grown hgrow (fun hk => by have := (hrw.out _ hk).1; omega) (alloc_row _ (row_keep hb4' HBr.out)))
          have HA5 : Hid ((w5.setCell ⟨w.heap.size + 1 + 1, 3, none⟩ (.slice (some ⟨g2, 0, none⟩) (i + 1) cap)).heap[w.heap.size]? = some (.cells #[.string op, .int .i64 n, .string s, .slice (some ⟨p, f, none⟩) l.length c] 38)) := (Below.heap_setCell _ _ _ _ (by show w.heap.size ≠ w.heap.size + 1 + 1; omega)).trans (heap_grown hgrow (fun hk => by have := (hrw.out _ hk).1; omega) (alloc_row _ (row_keep hb4' HAr.out)))
          have St0 := (grow_old (base := w.heap.size + 1 + 1 + 1) (b := w.heap.size + 1 + 1) (n := i + 1) (cap := cap) (Mv.of_below hb4') (by omega) hgrow hat).trans (Stays.set (S' := fun k => w.heap.size + 1 + 1 + 1 ≤ k ∧ (Value.slice (some ⟨g2, 0, none⟩) (i + 1) cap).ownBlock ≠ some k) (p := ⟨w.heap.size + 1 + 1, 3, none⟩) (.slice (some ⟨g2, 0, none⟩) (i + 1) cap) (fun k hk => ⟨by show k ≠ w.heap.size + 1 + 1; omega, hk⟩)) (by omega)
          have St1 := (grow_new (base := w.heap.size + 1 + 1 + 1) (H := wr.heap.size) (n := i + 1) (cap := cap) (by omega) (fun k hk => (hrw.out k hk).2) hgrow hat).trans (Stays.set (S' := fun k => w.heap.size + 1 + 1 + 1 ≤ k ∧ (Value.slice (some ⟨g2, 0, none⟩) (i + 1) cap).ownBlock ≠ some k) (p := ⟨w.heap.size + 1 + 1, 3, none⟩) (.slice (some ⟨g2, 0, none⟩) (i + 1) cap) (fun k hk => ⟨by show k ≠ w.heap.size + 1 + 1; omega, hk⟩)) (by omega)
          have hBf : Below w.heap.size w (w5.setCell ⟨w.heap.size + 1 + 1, 3, none⟩ (.slice (some ⟨g2, 0, none⟩) (i + 1) cap)) := (hb.trans ((hb4'.mono hb.size).trans (hbg.mono (by omega)))).setCell (by show w.heap.size ≤ w.heap.size + 1 + 1; omega) _
          have HI5 : Hid (ExIn (w5.setCell ⟨w.heap.size + 1 + 1, 3, none⟩ (.slice (some ⟨g2, 0, none⟩) (i + 1) cap)) (fun k => w.heap.size + 1 + 1 + 1 ≤ k ∧ (Value.slice (some ⟨g2, 0, none⟩) (i + 1) cap).ownBlock ≠ some k) (l.take (i + 1)) (cells ++ [.string op', .int .i64 n', .string s', .slice so' es.length sc'])) := by
            rw [List.take_succ_eq_append_getElem hlt, e'.out]
            exact (HI.out.keep St0).append (.cons _ _ _ es [] _ ys' [] (hrow'.keep St1) (hin'.keep St1) .nil)
          clear St0 St1 hrow' hin'
          go_wp2
          exact ⟨⟨i + 1, some ⟨g2, 0, none⟩, cap, _, by omega, by go_num, hBf, by simp; omega, HA5, HB5, set_row HC5.out, ownsRow_mv hown5 (Mv.setAt (w.heap.size + 1 + 1) 3 _ _) (by omega), HI5⟩, by simp [intOf]; omega⟩
      · obtain ⟨z0, z1, z2, z3, zf⟩ := blk4 HBr.out
        have zf0 := zf 0
        have zf1 := zf 1
        have zf2 := zf 2
        have zf3 := zf 3
        obtain rfl : i = l.length := by omega
        go_wp2
        have hr := set4_row (a := .string op) (b := .int .i64 n) (c := .string s) (e := .slice so l.length sc) HBr.out
        obtain ⟨y0, y1, y2, y3, _⟩ := blk4 hr
        simp only [set4] at y0 y1 y2 y3
        have hin := HI.out
        rw [List.take_length] at hin
        have St : ∀ {S : Nat → Prop}, (∀ k, S k → w.heap.size + 1 + 1 + 1 ≤ k) → Stays S (From w.heap.size) wr (set4 wr (w.heap.size + 1) (.string op) (.int .i64 n) (.string s) (.slice so l.length sc)) := fun hs => set4_stays (fun k hk => by have := hs k hk; exact ⟨by omega, by unfold From; omega⟩)
        exact bodyPost_ret (v := .agg #[.string op, .int .i64 n, .string s, .slice so l.length sc]) (by simp [results, Tryz.results23, go_sem, y0, y1, y2, y3]) rfl ⟨⟨so, sc, cells, rfl, (RowAt.of_owns HO.out).keep (St (fun k hk => hk)), hin.keep (St (fun k hk => hk.1))⟩, hb.trans (set4_below (by omega))⟩
end Go.Proofs.YtglkpgcmlbhkpabGreatDoor
