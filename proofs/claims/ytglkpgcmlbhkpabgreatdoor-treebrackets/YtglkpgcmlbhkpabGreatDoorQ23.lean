/-
  lustrumlaw1.backVars, BackExpr BY THEIR CONTRACTS: the same in new memory.
-/
import Derived.Test.YtglkpgcmlbhkpabGreatDoorQ17
import Derived.Test.YtglkpgcmlbhkpabGreatDoorQ21
import Derived.Test.YtglkpgcmlbhkpabGreatDoorQ20
import Derived.Test.YtglkpgcmlbhkpabGreatDoorQ22
import Derived.Deep.RegionLaw
namespace Go.Proofs.YtglkpgcmlbhkpabGreatDoor
open Go.RowKit
attribute [local go_sem ↓] Go.wp_at_zero Go.wp_at_succ

theorem varCells_take (vs : List Ex) (i : Nat) (hi : i < vs.length) : varCells (vs.take (i + 1)) = varCells (vs.take i) ++ [.string vs[i].op, .int .i64 vs[i].n] := by
  rw [← varCells_snoc, List.take_succ_eq_append_getElem hi]
set_option maxRecDepth 100000 in
set_option maxHeartbeats 1000000 in
theorem backVars_any (w : World) (S : Nat → Prop) (o : Option Addr) (c : Nat) (vs : List Ex) (h : RowAt w S 2 (.slice o vs.length c) vs.length (varCells vs)) (hn : vs.length ≤ 1000000) :
    Calls Tryz.prog 46 #[.slice o vs.length c] w fun e w' => (∃ so sc, e = .returned (.slice so vs.length sc) ∧ RowAt w' (From w.heap.size) 2 (.slice so vs.length sc) vs.length (varCells vs)) ∧ Below w.heap.size w w' := by
  obtain ⟨i0, hi0, hz0, hz1, hz2⟩ := info_parts Tryz.infoRVar
  have H : Hid (RowAt w S 2 (.slice o vs.length c) vs.length (varCells vs)) := h
  clear h
  go_enter Tryz.func46, Tryz.ntmps46
  go_wp2
  go_loopw [3, 4] (fun v t wr => ∃ (i : Nat) (so : Option Addr) (sc : Nat), i ≤ vs.length ∧ t = .int .i64 i ∧ v = .slice so i sc ∧ wr.ownsRow w.heap.size 41 2 (.slice so i sc) i (varCells (vs.take i)) ∧ Below w.heap.size w wr) (fun _ t _ => vs.length - (intOf t).toNat)
  case atStart => exact ⟨0, none, 0, Nat.zero_le _, rfl, rfl, World.ownsRow_nil _ _ _ _, Below.refl _ _⟩
  case round =>
    obtain ⟨i, so, sc, hi, rfl, rfl, hown, hb⟩ := hrel
    by_cases hlt : i < vs.length
    · obtain ⟨b, off, rfl, _, g⟩ := row_get H.out (by rw [varCells_length]; omega)
      have c0 := cell_keep hb (g _ _ (varCells_at hlt).1)
      have c1 := cell_keep hb (g _ _ (varCells_at hlt).2)
      rw [← Nat.add_assoc] at c1
      have i0' : (0 : Int) ≤ (i : Int) := by omega
      have i1 : (i : Int) < (vs.length : Int) := by omega
      have hn63 : i + 1 ≤ maxLen := by unfold maxLen; omega
      have hby : (i + 1) * 24 ≤ 140737488355328 := by omega
      have hdr : (wr.drew).ownsRow w.heap.size 41 2 (.slice so i sc) i (varCells (vs.take i)) := hown
      have HO : Hid (∀ o, (wr.drew.alloc o).ownsRow w.heap.size 41 2 (.slice so i sc) i (varCells (vs.take i))) := fun o => hdr.alloc o
      have hnb : (wr.drew.alloc (.cells #[.string vs[i].op, .int .i64 vs[i].n] 41)).heap[wr.heap.size]? = some (.cells #[.string vs[i].op, .int .i64 vs[i].n] 41) := by
        show (wr.heap.push _)[wr.heap.size]? = _
        simp
      have HN' : Hid _ := World.news_of_block hnb
      have hrow : Hid (∀ k, (Value.slice so i sc).ownBlock = some k → w.heap.size ≤ k ∧ k < wr.heap.size) := fun k hk => ownsRow_block hown hk
      have hsz : w.heap.size ≤ (wr.drew.alloc (.cells #[.string vs[i].op, .int .i64 vs[i].n] 41)).heap.size := Nat.le_trans hb.size (by show _ ≤ (wr.heap.push _).size; simp)
      clear hnb hdr g
      go_wp2
      go_region_law (refine step_append_lies _ rfl (.tmp 11) (.tmp 23) 42 rfl w.heap.size 41 i0 _ 2 24 Tryz.underlying42 hi0 hz0 hz1 hz2 rfl (by omega) (.slice so i sc) i (varCells (vs.take i)) (by simp [Act.eval]) (HO.out _) ⟨wr.heap.size, 0, none⟩ 1 1 [.string vs[i].op, .int .i64 vs[i].n] (by simp [Act.eval]) rfl HN'.out (by simp [Value.oneCell']) (by omega) hn63 hby hsz _ rfl (fun g cap w3 hown3 hgrow hat hlt3 => ?_))
      all_goals
        rw [← varCells_take vs i hlt] at hown3
        have hB3 : Below w.heap.size w w3 := ((hb.alloc hb.size _).drew).grown hgrow (Nat.le_trans hb.size (by show _ ≤ (wr.heap.push _).size; simp)) (fun k hk => (hrow.out k hk).1)
        clear HO HN' hrow hsz hgrow hat hown c0 c1
        go_wp2
        exact ⟨⟨i + 1, some ⟨g, 0, none⟩, cap, by omega, by go_num, rfl, hown3, hB3⟩, by simp [intOf]; omega⟩
    · go_wp2
      go_ret
      obtain rfl : i = vs.length := by omega
      rw [List.take_length] at hown
      exact ⟨⟨_, _, rfl, RowAt.of_owns hown⟩, hb⟩

theorem Fit.at {N : Nat} {l : List Ex} (h : Fit N l) : ∀ {i : Nat} (hi : i < l.length) {op : ByteArray} {n : Int} {s : ByteArray} {es : List Ex}, l[i] = .mk op n s es → es.length ≤ N ∧ Fit N es := by
  induction h with
  | nil => intro i hi; simp at hi
  | cons op n s l es h1 h2 _ _ ih =>
    intro i hi op' n' s' es' e
    cases i with
    | zero =>
      simp only [List.getElem_cons_zero, Ex.mk.injEq] at e
      obtain ⟨_, _, _, rfl⟩ := e
      exact ⟨h1, h2⟩
    | succ i => exact ih (i := i) (by simpa using hi) (by simpa using e)
set_option maxRecDepth 100000 in
set_option maxHeartbeats 1000000 in
theorem back_any : ∀ (m : Nat) (op : ByteArray) (n : Int) (s : ByteArray) (l : List Ex), SizeOf.sizeOf l < m → l.length ≤ 1000000 → Fit 1000000 l → ∀ (w : World) (S : Nat → Prop) (o : Option Addr) (c : Nat) (ys : List Value), RowAt w S 4 (.slice o l.length c) l.length ys → ExIn w S l ys →
    Calls Tryz.prog 47 #[.agg #[.string op, .int .i64 n, .string s, .slice o l.length c]] w fun e w' => (∃ so sc ys', e = .returned (.agg #[.string op, .int .i64 n, .string s, .slice so l.length sc]) ∧ RowAt w' (From w.heap.size) 4 (.slice so l.length sc) l.length ys' ∧ ExIn w' (From w.heap.size) l ys') ∧ Below w.heap.size w w'
  | 0, _, _, _, _, h => absurd h (Nat.not_lt_zero _)
  | m + 1, op, n, s, l, hm => by
    intro hl hf w S o c ys h1 h2
    obtain ⟨i0, hi0, hz0, hz1, hz2⟩ := info_parts Tryz.infoRExpr
    have IH := back_any m
    have H1 : Hid (RowAt w S 4 (.slice o l.length c) l.length ys) := h1
    have H2 : Hid (ExIn w S l ys) := h2
    clear h1 h2
    go_enter Tryz.func47, Tryz.ntmps47
    have hbA : Below w.heap.size w (((w.alloc (.cells #[.string op, .int .i64 n, .string s, .slice o l.length c] 62)).alloc rTerm).alloc (reObj op n s (.slice none 0 0))) := (((Below.refl _ _).alloc (Nat.le_refl _) _).alloc (by simp) _).alloc (by simp; omega) _
    have HA : Hid ((((w.alloc (.cells #[.string op, .int .i64 n, .string s, .slice o l.length c] 62)).alloc rTerm).alloc (reObj op n s (.slice none 0 0))).heap[w.heap.size]? = some (.cells #[.string op, .int .i64 n, .string s, .slice o l.length c] 62)) := alloc_row _ (alloc_row _ (heap_alloc_new w _))
    have HB : Hid ((((w.alloc (.cells #[.string op, .int .i64 n, .string s, .slice o l.length c] 62)).alloc rTerm).alloc (reObj op n s (.slice none 0 0))).heap[w.heap.size + 1]? = some rTerm) := alloc_row _ (two_new w _ _)
    have HC : Hid ((((w.alloc (.cells #[.string op, .int .i64 n, .string s, .slice o l.length c] 62)).alloc rTerm).alloc (reObj op n s (.slice none 0 0))).heap[w.heap.size + 1 + 1]? = some (reObj op n s (.slice none 0 0))) := heap_alloc_new' (by simp) _
    go_wp2
    go_loopw [4] (fun t wr => ∃ (i : Nat) (so : Option Addr) (sc : Nat) (cells : List Value), i ≤ l.length ∧ t = .int .i64 i ∧ Below w.heap.size w wr ∧ w.heap.size + 1 + 1 + 1 ≤ wr.heap.size ∧ Hid (wr.heap[w.heap.size]? = some (.cells #[.string op, .int .i64 n, .string s, .slice o l.length c] 62)) ∧ Hid (wr.heap[w.heap.size + 1]? = some rTerm) ∧ Hid (wr.heap[w.heap.size + 1 + 1]? = some (reObj op n s (.slice so i sc))) ∧ Hid (wr.ownsRow (w.heap.size + 1 + 1 + 1) 38 4 (.slice so i sc) i cells) ∧ Hid (ExIn wr (fun k => w.heap.size + 1 + 1 + 1 ≤ k ∧ (Value.slice so i sc).ownBlock ≠ some k) (l.take i) cells)) (fun t _ => l.length - (intOf t).toNat)
    case atStart => exact ⟨0, none, 0, [], Nat.zero_le _, rfl, hbA, by simp, HA, HB, HC, World.ownsRow_nil _ _ _ _, .nil⟩
    case round =>
      clear HA HB HC hbA
      obtain ⟨i, so, sc, cells, hi, rfl, hb, hsz, HAr, HBr, HCr, HO, HI⟩ := hrel
      obtain ⟨_, _, _, a3, _⟩ := blk4 HAr.out
      obtain ⟨d0, d1, d2, d3, df⟩ := blk4 HCr.out
      by_cases hlt : i < l.length
      · obtain ⟨op', n', s', es, oo, cc, zs, e, x0, x1, x2, x3, r1, r2⟩ := H2.out.at hlt
        obtain ⟨p, f, rfl, _, g⟩ := row_get H1.out (by have := H1.out.1; omega)
        have x0 := cell_keep hb (g _ _ x0)
        have x1 := cell_keep hb (g _ _ x1)
        have x2 := cell_keep hb (g _ _ x2)
        have x3 := cell_keep hb (g _ _ x3)
        rw [← Nat.add_assoc] at x1 x2 x3
        have i0' : (0 : Int) ≤ (i : Int) := by omega
        have i1 : (i : Int) < (l.length : Int) := by omega
        have hsp := size_part hlt e
        obtain ⟨hfl, hff⟩ := hf.at hlt e
        have Hr : Hid (Calls Tryz.prog 47 #[.agg #[.string op', .int .i64 n', .string s', .slice oo es.length cc]] wr.drew fun e w' => (∃ so sc ys', e = .returned (.agg #[.string op', .int .i64 n', .string s', .slice so es.length sc]) ∧ RowAt w' (From wr.drew.heap.size) 4 (.slice so es.length sc) es.length ys' ∧ ExIn w' (From wr.drew.heap.size) es ys') ∧ Below wr.drew.heap.size wr.drew w') := IH op' n' s' es (by omega) hfl hff wr.drew S oo cc zs (r1.keep (Stays.below hb.drew (fun k hk => hk))) (r2.keep (Stays.below hb.drew (fun k hk => hk)))
        have hn63 : i + 1 ≤ maxLen := by unfold maxLen; omega
        have hby : (i + 1) * 64 ≤ 140737488355328 := by omega
        have hrw : Hid (∀ k, (Value.slice so i sc).ownBlock = some k → w.heap.size + 1 + 1 + 1 ≤ k ∧ k < wr.heap.size) := fun k hk => ownsRow_block HO.out hk
        have e' : Hid (l[i] = .mk op' n' s' es) := e
        clear g r1 r2 IH hsp hfl hff e
        go_wp2
        go_region_law (first
          | (refine step_append_lies _ rfl (.tmp 20) (.tmp 27) 36 rfl (w.heap.size + 1 + 1 + 1) 38 i0 _ 4 64 Tryz.underlying36 hi0 hz0 hz1 hz2 rfl (by omega) (.slice so i sc) i cells (by simp [Act.eval]) HO4.out ⟨w4.heap.size, 0, none⟩ 1 1 [.string op', .int .i64 n', .string s', .slice so' es.length sc'] (by simp [Act.eval]) rfl HN'.out (by simp [Value.oneCell']) (by omega) hn63 hby (by rw [World.size_alloc]; omega) (w4.heap.size + 1) (by simp) ?_; intro g2 cap w5 hown5 hgrow hat hlt5; have HC5 : Hid _ := heap_grown hgrow (b := w.heap.size + 1 + 1) (fun hk => by have := (hrw.out _ hk).1; omega) (alloc_row _ HC4.out); have q3 := (blk4 HC5.out).2.2.2.1; have qf := (blk4 HC5.out).2.2.2.2 3)
          | (refine step_call rfl 47 #[.agg #[.string op', .int .i64 n', .string s', .slice oo es.length cc]] (by kernel_rfl) ?_; refine Hr.out.mono ?_; rintro e w4 ⟨⟨so', sc', ys', rfl, hrow', hin'⟩, hb4⟩; have hs4 : wr.heap.size ≤ w4.heap.size := hb4.size; have hb4' : Below wr.heap.size wr w4 := (Below.refl _ _).drew.trans hb4; have HC4 : Hid _ := row_keep hb4' HCr.out; obtain ⟨v0, v1, v2, v3, vf⟩ := blk4 HC4.out; have hltc : w.heap.size + 1 + 1 < w4.heap.size := (by omega); have HO4 : Hid _ := (ownsRow_mv (ba := w.heap.size + 1 + 1) HO.out (Mv.of_below hb4') (by omega)).alloc (.cells #[.string op', .int .i64 n', .string s', .slice so' es.length sc'] 38); have HN' : Hid _ := World.news_of_block (heap_alloc_new w4 (.cells #[.string op', .int .i64 n', .string s', .slice so' es.length sc'] 38)); dsimp only))
        all_goals
          have hbg : Below (w.heap.size + 1 + 1) w4 w5 := ((Below.refl _ _).alloc (by omega) _).grown hgrow (by simp; omega) (fun k hk => by have := (hrw.out k hk).1; omega)
          have hbs := hbg.size
          have HB5 : Hid ((w5.setCell ⟨w.heap.size + 1 + 1, 3, none⟩ (.slice (some ⟨g2, 0, none⟩) (i + 1) cap)).heap[w.heap.size + 1]? = some rTerm) := (Below.heap_setCell _ _ _ _ (by show w.heap.size + 1 ≠ w.heap.size + 1 + 1; omega)).trans (heap_grown hgrow (fun hk => by have := (hrw.out _ hk).1; omega) (alloc_row _ (row_keep hb4' HBr.out)))
          have HA5 : Hid ((w5.setCell ⟨w.heap.size + 1 + 1, 3, none⟩ (.slice (some ⟨g2, 0, none⟩) (i + 1) cap)).heap[w.heap.size]? = some (.cells #[.string op, .int .i64 n, .string s, .slice (some ⟨p, f, none⟩) l.length c] 62)) := (Below.heap_setCell _ _ _ _ (by show w.heap.size ≠ w.heap.size + 1 + 1; omega)).trans (heap_grown hgrow (fun hk => by have := (hrw.out _ hk).1; omega) (alloc_row _ (row_keep hb4' HAr.out)))
          have St0 := (grow_old (base := w.heap.size + 1 + 1 + 1) (b := w.heap.size + 1 + 1) (n := i + 1) (cap := cap) (Mv.of_below hb4') (by omega) hgrow hat).trans (Stays.set (S' := fun k => w.heap.size + 1 + 1 + 1 ≤ k ∧ (Value.slice (some ⟨g2, 0, none⟩) (i + 1) cap).ownBlock ≠ some k) (p := ⟨w.heap.size + 1 + 1, 3, none⟩) (.slice (some ⟨g2, 0, none⟩) (i + 1) cap) (fun k hk => ⟨by show k ≠ w.heap.size + 1 + 1; omega, hk⟩)) (by omega)
          have St1 := (grow_new (base := w.heap.size + 1 + 1 + 1) (H := wr.heap.size) (n := i + 1) (cap := cap) (by omega) (fun k hk => (hrw.out k hk).2) hgrow hat).trans (Stays.set (S' := fun k => w.heap.size + 1 + 1 + 1 ≤ k ∧ (Value.slice (some ⟨g2, 0, none⟩) (i + 1) cap).ownBlock ≠ some k) (p := ⟨w.heap.size + 1 + 1, 3, none⟩) (.slice (some ⟨g2, 0, none⟩) (i + 1) cap) (fun k hk => ⟨by show k ≠ w.heap.size + 1 + 1; omega, hk⟩)) (by omega)
          have hBf : Below w.heap.size w (w5.setCell ⟨w.heap.size + 1 + 1, 3, none⟩ (.slice (some ⟨g2, 0, none⟩) (i + 1) cap)) := (hb.trans ((hb4'.mono hb.size).trans (hbg.mono (by omega)))).setCell (by show w.heap.size ≤ w.heap.size + 1 + 1; omega) _
          have HI5 : Hid (ExIn (w5.setCell ⟨w.heap.size + 1 + 1, 3, none⟩ (.slice (some ⟨g2, 0, none⟩) (i + 1) cap)) (fun k => w.heap.size + 1 + 1 + 1 ≤ k ∧ (Value.slice (some ⟨g2, 0, none⟩) (i + 1) cap).ownBlock ≠ some k) (l.take (i + 1)) (cells ++ [.string op', .int .i64 n', .string s', .slice so' es.length sc'])) := by
            rw [List.take_succ_eq_append_getElem hlt, e'.out]
            exact (HI.out.keep St0).append (.cons _ _ _ es [] _ ys' [] (hrow'.keep St1) (hin'.keep St1) .nil)
          clear St0 St1 hrow' hin'
          go_wp2
          exact ⟨⟨i + 1, some ⟨g2, 0, none⟩, cap, _, by omega, by go_num, hBf, by simp; omega, HA5, HB5, set_row HC5.out, ownsRow_mv hown5 (Mv.setAt (w.heap.size + 1 + 1) 3 _ _) (by omega), HI5⟩, by simp [intOf]; omega⟩
      · obtain ⟨z0, z1, z2, z3, zf⟩ := blk4 HBr.out
        have zf0 := zf 0
        have zf1 := zf 1
        have zf2 := zf 2
        have zf3 := zf 3
        obtain rfl : i = l.length := by omega
        go_wp2
        have hr := set4_row (a := .string op) (b := .int .i64 n) (c := .string s) (e := .slice so l.length sc) HBr.out
        obtain ⟨y0, y1, y2, y3, _⟩ := blk4 hr
        simp only [set4] at y0 y1 y2 y3
        have hin := HI.out
        rw [List.take_length] at hin
        have St : ∀ {S : Nat → Prop}, (∀ k, S k → w.heap.size + 1 + 1 + 1 ≤ k) → Stays S (From w.heap.size) wr (set4 wr (w.heap.size + 1) (.string op) (.int .i64 n) (.string s) (.slice so l.length sc)) := fun hs => set4_stays (fun k hk => by have := hs k hk; exact ⟨by omega, by unfold From; omega⟩)
        exact bodyPost_ret (v := .agg #[.string op, .int .i64 n, .string s, .slice so l.length sc]) (by simp [results, Tryz.results47, go_sem, y0, y1, y2, y3]) rfl ⟨⟨so, sc, cells, rfl, (RowAt.of_owns HO.out).keep (St (fun k hk => hk)), hin.keep (St (fun k hk => hk.1))⟩, hb.trans (set4_below (by omega))⟩
end Go.Proofs.YtglkpgcmlbhkpabGreatDoor

/-
  lustrumref1's READER OF NODES: equation BY ITS CONTRACTS, but for lists of names.
-/
namespace Go.Proofs.YtglkpgcmlbhkpabGreatDoor
open Go.RowKit
attribute [local go_sem ↓] Go.wp_at_zero Go.wp_at_succ

abbrev rEq : Obj := .cells #[.string ⟨#[]⟩, .slice none 0 0, .string ⟨#[]⟩, .int .i64 0, .string ⟨#[]⟩, .slice none 0 0] 45
abbrev qEq (kind : ByteArray) (so : Option Addr) (m sc : Nat) : Obj := .cells #[.string kind, .slice so m sc, .string ⟨#[]⟩, .int .i64 0, .string ⟨#[]⟩, .slice none 0 0] 45
/-- An equation's cells, whatever they hold. -/
def Shape6 (v : Value) : Prop := ∃ (kind : ByteArray) (so : Option Addr) (m sc : Nat) (op : ByteArray) (x : Int) (s : ByteArray) (so' : Option Addr) (m' sc' : Nat), v = .agg #[.string kind, .slice so m sc, .string op, .int .i64 x, .string s, .slice so' m' sc']
/-- From where it stood to where it stands: an equation was read; or it failed; or it had failed. -/
inductive ERel (l : List Tk) (base : Nat) (w' : World) : St → St → Value → Prop
  | ok (i j : Nat) (kind : ByteArray) (ns : List Ex) (so : Option Addr) (sc : Nat) (op : ByteArray) (x : Int) (s : ByteArray) (es : List Ex) (so' : Option Addr) (sc' : Nat) (ys : List Value) : Parse l .eq i 0 (.ok [.mk kind 0 b0 [lst ns, .mk op x s es]] j) → i < j → RowAt w' (From base) 1 (.slice so ns.length sc) ns.length (nameCells ns) → RowAt w' (From base) 4 (.slice so' es.length sc') es.length ys → ExIn w' (From base) es ys → ERel l base w' (.here i) (.here j) (.agg #[.string kind, .slice so ns.length sc, .string op, .int .i64 x, .string s, .slice so' es.length sc'])
  | fail (i j : Nat) (bd : Bool) (v : Value) : Parse l .eq i 0 (.bad j bd) → Shape6 v → ERel l base w' (.here i) (.bad j bd) v
  | stay (j : Nat) (bd : Bool) (v : Value) : Shape6 v → ERel l base w' (.bad j bd) (.bad j bd) v
/-- What stands ahead of an equation's term. -/
inductive EPre (l : List Tk) : St → St → ByteArray → List Ex → Prop
  | here (i k : Nat) (kind : ByteArray) (ns : List Ex) : (∀ r, Run l (endA l kind ns k 0) r → Parse l .eq i 0 r) → i < k → EPre l (.here i) (.here k) kind ns
  | bad (i j : Nat) (bd : Bool) (kind : ByteArray) (ns : List Ex) : Parse l .eq i 0 (.bad j bd) → EPre l (.here i) (.bad j bd) kind ns
  | stay (j : Nat) (bd : Bool) (kind : ByteArray) (ns : List Ex) : EPre l (.bad j bd) (.bad j bd) kind ns
theorem EPre.done {l : List Tk} {base base2 : Nat} {w5 w' : World} {st st2 st5 : St} {kind : ByteArray} {ns : List Ex} {so : Option Addr} {m sc : Nat} {op s : ByteArray} {x : Int} {so' : Option Addr} {m' sc' : Nat} (h : EPre l st st2 kind ns) (q : QRel l .term 0 base2 w5 st2 st5 (.agg #[.string op, .int .i64 x, .string s, .slice so' m' sc'])) (hk : Stays (From base2) (From base) w5 w') (hn : st2.isAt = true → m = ns.length ∧ RowAt w' (From base) 1 (.slice so m sc) m (nameCells ns)) : ERel l base w' st (st5.want l tSemi) (.agg #[.string kind, .slice so m sc, .string op, .int .i64 x, .string s, .slice so' m' sc']) := by
  have sh : Shape6 (.agg #[.string kind, .slice so m sc, .string op, .int .i64 x, .string s, .slice so' m' sc']) := ⟨_, _, _, _, _, _, _, _, _, _, rfl⟩
  cases h with
  | here i k _ _ HP hik =>
    obtain ⟨rfl, hrn⟩ := hn rfl
    cases st5 with
    | bad j bd => exact .fail i j bd _ (HP _ (Run.stop q.badOf)) sh
    | here j =>
      obtain ⟨es, ys, rfl, hp, hij, hrow, hin⟩ := q.inv
      cases hx : tx l j tSemi with
      | false =>
        rw [show (St.here j).want l tSemi = .bad j false from by simp only [St.want, hx, Bool.false_eq_true, if_false]]
        exact .fail i j false _ (HP _ (Run.then hp (Run.unexp hx))) sh
      | true =>
        rw [show (St.here j).want l tSemi = .here (j + 1) from by simp only [St.want, hx, if_true]]
        exact .ok i (j + 1) _ ns so sc op x s es so' sc' ys (HP _ (Run.then hp (Run.exp hx Run.done))) (by omega) hrn (hrow.keep hk) (hin.keep hk)
  | bad i j bd _ _ hp =>
    obtain rfl := q.stays
    exact .fail i j bd _ hp sh
  | stay j bd _ _ =>
    obtain rfl := q.stays
    exact .stay j bd _ sh
theorem pass_other {l : List Tk} {st : St} {x : List UInt8} (h : st.tx l x = false) : st.pass l x = st := by
  cases st with
  | bad j bd => rfl
  | here j => have h' : tx l j x = false := h; simp only [St.pass, h', Bool.false_eq_true, if_false]
theorem EPre.one {l : List Tk} {st : St} (g1 : st.tx l tAssert = false) (g2 : st.tx l tCheck = false) (g3 : st.tx l tOpen = false) : EPre l st ((st.name l).want l tEq) sSet [.mk (st.nm l) 0 b0 []] := by
  cases st with
  | bad j bd => exact .stay j bd _ _
  | here i =>
    have g0 : txs l i [tAssert, tCheck] = false := by
      simp only [txs, List.any_cons, List.any_nil, Bool.or_false, Bool.or_eq_false_iff]
      exact ⟨g1, g2⟩
    cases h1 : isName l i with
    | false =>
      have e1 : ((St.here i).name l).want l tEq = .bad i false := by simp [St.name, h1, St.want]
      rw [e1]
      exact .bad i i false _ _ (Run.ifF g0 (Run.ifF g3 (Run.ifF h1 (.ret _))))
    | true =>
      have e2 : (St.here i).nm l = tkx l i := by simp [St.nm, h1]
      rw [e2]
      cases h2 : tx l (i + 1) tEq with
      | false =>
        have e1 : ((St.here i).name l).want l tEq = .bad (i + 1) false := by simp [St.name, h1, h2, St.want]
        rw [e1]
        exact .bad i _ false _ _ (Run.ifF g0 (Run.ifF g3 (Run.ifT h1 (Run.unexp h2))))
      | true =>
        have e1 : ((St.here i).name l).want l tEq = .here (i + 1 + 1) := by simp [St.name, h1, h2, St.want]
        rw [e1]
        exact .here i _ _ _ (fun r hr => Run.ifF g0 (Run.ifF g3 (Run.ifT h1 (Run.exp h2 hr)))) (by omega)
theorem EPre.word {l : List Tk} {i : Nat} {x : List UInt8} (hx : x ∈ [tAssert, tCheck]) (h : tx l i x = true) : EPre l (.here i) (.here (i + 1)) ⟨x.toArray⟩ [] := by
  have g0 : txs l i [tAssert, tCheck] = true := by
    simp only [txs, List.any_eq_true]
    exact ⟨x, hx, h⟩
  have e : tkx l i = ⟨x.toArray⟩ := tx_eq h
  refine .here i (i + 1) _ _ (fun r hr => Run.ifT g0 ?_) (by omega)
  rw [e]; exact hr

end Go.Proofs.YtglkpgcmlbhkpabGreatDoor

/-
  lustrumref1's READER OF NODES: equation BY ITS CONTRACT.
-/
namespace Go.Proofs.YtglkpgcmlbhkpabGreatDoor
open Go.RowKit
attribute [local go_sem ↓] Go.wp_at_zero Go.wp_at_succ

theorem want_isAt {l : List Tk} {st : St} {x : List UInt8} (h : (st.want l x).isAt = true) : st.isAt = true := by
  cases st with
  | bad j bd => exact h
  | here j => rfl
def rnamesA (l : List Tk) (i : Nat) (k : List Ex → Nat → Act) : Act := nameA l (i + 1) fun j => expA l j tComma fun k' => nameA l k' fun m => .call (.names [nm l (i + 1), nm l k']) m 0 k
/-- Names so far. -/
inductive NRel (l : List Tk) (i : Nat) : St → List Ex → Prop
  | here (j : Nat) (ns : List Ex) : (∀ k r, Run l (.call (.names ns) j 0 k) r → Run l (rnamesA l i k) r) → i < j → ns.length ≤ j → NRel l i (.here j) ns
  | bad (j : Nat) (bd : Bool) (ns : List Ex) : (∀ k, Run l (rnamesA l i k) (.bad j bd)) → NRel l i (.bad j bd) ns
theorem NRel.num {l : List Tk} {i j : Nat} {ns : List Ex} (h : NRel l i (.here j) ns) : i < j ∧ ns.length ≤ j := by
  cases h with
  | here _ _ _ h1 h2 => exact ⟨h1, h2⟩
theorem NRel.first {l : List Tk} {i : Nat} : NRel l i ((((St.here (i + 1)).name l).want l tComma).name l) [.mk ((St.here (i + 1)).nm l) 0 b0 [], .mk ((((St.here (i + 1)).name l).want l tComma).nm l) 0 b0 []] := by
  cases h1 : isName l (i + 1) with
  | false =>
    rw [show (((St.here (i + 1)).name l).want l tComma).name l = .bad (i + 1) false from by simp [St.name, h1, St.want]]
    exact .bad _ _ _ (fun k => Run.ifF h1 (.ret _))
  | true =>
    rw [show (St.here (i + 1)).nm l = tkx l (i + 1) from by simp [St.nm, h1]]
    cases h2 : tx l (i + 1 + 1) tComma with
    | false =>
      rw [show (((St.here (i + 1)).name l).want l tComma).name l = .bad (i + 1 + 1) false from by simp [St.name, h1, h2, St.want]]
      exact .bad _ _ _ (fun k => Run.ifT h1 (Run.unexp h2))
    | true =>
      rw [show ((St.here (i + 1)).name l).want l tComma = .here (i + 1 + 1 + 1) from by simp [St.name, h1, h2, St.want]]
      cases h3 : isName l (i + 1 + 1 + 1) with
      | false =>
        rw [show (St.here (i + 1 + 1 + 1)).name l = .bad (i + 1 + 1 + 1) false from by simp [St.name, h3]]
        exact .bad _ _ _ (fun k => Run.ifT h1 (Run.exp h2 (Run.ifF h3 (.ret _))))
      | true =>
        rw [show (St.here (i + 1 + 1 + 1)).name l = .here (i + 1 + 1 + 1 + 1) from by simp [St.name, h3], show (St.here (i + 1 + 1 + 1)).nm l = tkx l (i + 1 + 1 + 1) from by simp [St.nm, h3]]
        exact .here _ _ (fun k r hr => Run.ifT h1 (Run.exp h2 (Run.ifT h3 hr))) (by omega) (by simp)
theorem NRel.next {l : List Tk} {i j : Nat} {ns : List Ex} (h : NRel l i (.here j) ns) (hc : tx l j tComma = true) : NRel l i ((St.here (j + 1)).name l) (ns ++ [.mk ((St.here (j + 1)).nm l) 0 b0 []]) := by
  cases h with
  | here _ _ HP hij hl =>
    cases h1 : isName l (j + 1) with
    | false =>
      rw [show (St.here (j + 1)).name l = .bad (j + 1) false from by simp [St.name, h1]]
      exact .bad _ _ _ (fun k => HP k _ (Run.stop (Run.ifT hc (Run.ifF h1 (.ret _)))))
    | true =>
      rw [show (St.here (j + 1)).name l = .here (j + 1 + 1) from by simp [St.name, h1], show (St.here (j + 1)).nm l = tkx l (j + 1) from by simp [St.nm, h1]]
      refine .here _ _ (fun k r hr => HP k r ?_) (by omega) (by simp; omega)
      cases hr with
      | ok _ _ _ _ e j _ h3 h2 => exact Run.then (Run.ifT hc (Run.ifT h1 (Run.tail h3))) h2
      | bad _ _ _ _ j b h3 => exact Run.stop (Run.ifT hc (Run.ifT h1 (Run.tail h3)))
theorem NRel.done {l : List Tk} {i : Nat} {st' : St} {ns : List Ex} (h : NRel l i st' ns) (g0 : txs l i [tAssert, tCheck] = false) (g3 : tx l i tOpen = true) (hc : st'.tx l tComma = false) : EPre l (.here i) ((st'.want l tShut).want l tEq) sSet ns := by
  cases h with
  | bad j bd _ HP => exact .bad i j bd _ _ (Run.ifF g0 (Run.ifT g3 (HP _)))
  | here j _ HP hij hl =>
    have hc' : tx l j tComma = false := hc
    have G : ∀ k r, Run l (k ns j) r → Run l (rnamesA l i k) r := fun k r h => HP k r (Run.then (Run.ifF hc' Run.done) h)
    cases h1 : tx l j tShut with
    | false =>
      rw [show ((St.here j).want l tShut).want l tEq = .bad j false from by simp [St.want, h1]]
      exact .bad i j false _ _ (Run.ifF g0 (Run.ifT g3 (G _ _ (Run.unexp h1))))
    | true =>
      cases h2 : tx l (j + 1) tEq with
      | false =>
        rw [show ((St.here j).want l tShut).want l tEq = .bad (j + 1) false from by simp [St.want, h1, h2]]
        exact .bad i _ false _ _ (Run.ifF g0 (Run.ifT g3 (G _ _ (Run.exp h1 (Run.unexp h2)))))
      | true =>
        rw [show ((St.here j).want l tShut).want l tEq = .here (j + 1 + 1) from by simp [St.want, h1, h2]]
        exact .here i _ _ _ (fun r hr => Run.ifF g0 (Run.ifT g3 (G _ _ (Run.exp h1 (Run.exp h2 hr))))) (by omega)

end Go.Proofs.YtglkpgcmlbhkpabGreatDoor

/-
  lustrumref1's READER OF NODES: where it stands and what is still to be read (mathematics alone).
-/
namespace Go.Proofs.YtglkpgcmlbhkpabGreatDoor
open Go.RowKit

/-- It stands here, and this is still to be read; or it failed. -/
inductive KRel (l : List Tk) (P : Res → Prop) (i : Nat) : St → (Nat → Act) → Prop
  | here (j : Nat) (k : Nat → Act) : (∀ r, Run l (k j) r → P r) → i ≤ j → KRel l P i (.here j) k
  | bad (j : Nat) (bd : Bool) (k : Nat → Act) : P (.bad j bd) → KRel l P i (.bad j bd) k
section
variable {l : List Tk} {P : Res → Prop} {i : Nat} {st : St}
theorem KRel.any {k k' : Nat → Act} (h : KRel l P i st k) (hs : st.isAt = false) : KRel l P i st k' := by
  cases h with
  | here j _ _ _ => cases hs
  | bad j bd _ hp => exact .bad j bd _ hp
theorem KRel.to {k k' : Nat → Act} (h : KRel l P i st k) (hk : ∀ j, st = .here j → ∀ r, Run l (k' j) r → Run l (k j) r) : KRel l P i st k' := by
  cases h with
  | here j _ hp hij => exact .here j _ (fun r hr => hp r (hk j rfl r hr)) hij
  | bad j bd _ hp => exact .bad j bd _ hp
theorem KRel.want {x : List UInt8} {k : Nat → Act} (h : KRel l P i st (fun j => expA l j x k)) : KRel l P i (st.want l x) k := by
  cases h with
  | bad j bd _ hp => exact .bad j bd _ hp
  | here j _ hp hij =>
    cases hx : tx l j x with
    | false =>
      rw [show (St.here j).want l x = .bad j false from by simp only [St.want, hx, Bool.false_eq_true, if_false]]
      exact .bad j false _ (hp _ (Run.unexp hx))
    | true =>
      rw [show (St.here j).want l x = .here (j + 1) from by simp only [St.want, hx, if_true]]
      exact .here (j + 1) _ (fun r hr => hp r (Run.exp hx hr)) (by omega)
theorem KRel.name {k : ByteArray → Nat → Act} (h : KRel l P i st (fun j => nameA l j (k (tkx l j)))) : KRel l P i (st.name l) (k (st.nm l)) := by
  cases h with
  | bad j bd _ hp => exact .bad j bd _ hp
  | here j _ hp hij =>
    cases hx : isName l j with
    | false =>
      rw [show (St.here j).name l = .bad j false from by simp [St.name, hx]]
      exact .bad j false _ (hp _ (Run.ifF hx (.ret _)))
    | true =>
      rw [show (St.here j).name l = .here (j + 1) from by simp [St.name, hx], show (St.here j).nm l = tkx l j from by simp [St.nm, hx]]
      exact .here (j + 1) _ (fun r hr => hp r (Run.ifT hx hr)) (by omega)
theorem KRel.vars {no : Bool} {e : Nat} {k : List Ex → Nat → Act} {st' : St} {base : Nat} {w' : World} {so : Option Addr} {m sc : Nat} (h : KRel l P i st (fun j => varsN l no j e k)) (q : VsRel l no e base w' st st' so m sc) :
    ∃ es, KRel l P i st' (k es) ∧ (st'.isAt = true → m = es.length ∧ RowAt w' (From base) 2 (.slice so m sc) m (varCells es)) := by
  cases h with
  | bad j bd _ hp =>
    cases q with
    | stay _ _ => exact ⟨[], .bad j bd _ hp, fun h => by cases h⟩
  | here j _ hp hij =>
    cases q with
    | ok _ j' es _ _ hq hjj hl hrow => exact ⟨es, .here j' _ (fun r hr => hp r (hq k r hr)) (by omega), fun _ => ⟨rfl, hrow⟩⟩
    | fail _ j' bd _ _ _ hq => exact ⟨[], .bad j' bd _ (hp _ (hq k)), fun h => by cases h⟩
theorem KRel.pass {x : List UInt8} {A B : Nat → Act} (h : KRel l P i st (fun j => if tx l j x then A (j + 1) else B j)) :
    (st.tx l x = true → KRel l P i (st.pass l x) A) ∧ (st.tx l x = false → KRel l P i (st.pass l x) B) := by
  cases h with
  | bad j bd _ hp => exact ⟨fun h => by (cases h), fun _ => .bad j bd _ hp⟩
  | here j _ hp hij =>
    refine ⟨fun h => ?_, fun h => ?_⟩
    · have hx : tx l j x = true := h
      rw [show (St.here j).pass l x = .here (j + 1) from by simp only [St.pass, hx, if_true]]
      exact .here (j + 1) _ (fun r hr => hp r (Run.ifT hx hr)) (by omega)
    · rw [pass_other h]
      have hx : tx l j x = false := h
      exact .here j _ (fun r hr => hp r (Run.ifF hx hr)) hij
/-- Own variables: one more. -/
theorem KRel.own {e : Nat} {a : List Ex} {k : List Ex → Nat → Act} {st1 : St} {s : ByteArray} {x : Int} (h : KRel l P i st (fun j => .call (.owns a) j e k)) (q : VRel l e st st1 s x) :
    KRel l P i (st1.want l tSemi) (fun j => if isName l j then .call (.owns (a ++ [.mk s x b0 []])) j e k else k (a ++ [.mk s x b0 []]) j) := by
  cases h with
  | bad j bd _ hp =>
    cases q with
    | stay _ _ => exact .bad j bd _ hp
  | here j _ hp hij =>
    cases q with
    | fail _ j' bd _ _ hq => exact .bad j' bd _ (hp _ (Run.stop (Run.stop hq)))
    | ok _ j' _ _ hq hjj =>
      cases hx : tx l j' tSemi with
      | false =>
        rw [show (St.here j').want l tSemi = .bad j' false from by simp only [St.want, hx, Bool.false_eq_true, if_false]]
        exact .bad j' false _ (hp _ (Run.stop (Run.then hq (Run.unexp hx))))
      | true =>
        rw [show (St.here j').want l tSemi = .here (j' + 1) from by simp only [St.want, hx, if_true]]
        refine .here (j' + 1) _ (fun r hr => hp r ?_) (by omega)
        cases hn : isName l (j' + 1) with
        | false =>
          simp only [hn, Bool.false_eq_true, if_false] at hr
          exact Run.then (Run.then hq (Run.exp hx (Run.ifF hn Run.done))) hr
        | true =>
          simp only [hn, if_true] at hr
          cases hr with
          | ok _ _ _ _ e j _ h3 h2 => exact Run.then (Run.then hq (Run.exp hx (Run.ifT hn (Run.tail h3)))) h2
          | bad _ _ _ _ j b h3 => exact Run.stop (Run.then hq (Run.exp hx (Run.ifT hn (Run.tail h3))))
/-- Equations: one more. -/
theorem KRel.eq {a : List Ex} {k : List Ex → Nat → Act} {st1 : St} {base : Nat} {w' : World} {v : Value} (h : KRel l P i st (fun j => .call (.eqs a) j 0 k)) (ht : st.tx l tTel = false) (q : ERel l base w' st st1 v) :
    ∃ qs, KRel l P i st1 (fun j => .call (.eqs (a ++ qs)) j 0 k) ∧ (st1.isAt = true → ∃ xs, v = .agg xs ∧ qs.length = 1 ∧ EqIn w' (From base) qs xs.toList) := by
  cases h with
  | bad j bd _ hp =>
    cases q with
    | stay _ _ => exact ⟨[], .bad j bd _ hp, fun h => by cases h⟩
  | here j _ hp hij =>
    have ht' : tx l j tTel = false := ht
    cases q with
    | fail _ j' bd _ hq => exact ⟨[], .bad j' bd _ (hp _ (Run.stop (Run.ifF ht' (Run.stop hq)))), fun h => by cases h⟩
    | ok _ j' kind ns so sc op x s es so' sc' ys hq hjj hr1 hr2 hin =>
      refine ⟨[.mk kind 0 b0 [lst ns, .mk op x s es]], .here j' _ (fun r hr => hp r ?_) (by omega), fun _ => ⟨_, rfl, rfl, .cons kind ns (.mk op x s es) [] _ _ [] hr1 (.cons op x s es _ _ ys _ hr2 hin .nil) .nil⟩⟩
      cases hr with
      | ok _ _ _ _ e j _ h3 h2 => exact Run.then (Run.ifF ht' (Run.then hq (Run.tail h3))) h2
      | bad _ _ _ _ j b h3 => exact Run.stop (Run.ifF ht' (Run.then hq (Run.tail h3)))
/-- Equations: no more. -/
theorem KRel.eqs {a : List Ex} {k : List Ex → Nat → Act} (h : KRel l P i st (fun j => .call (.eqs a) j 0 k)) (ht : st.isAt = true → st.tx l tTel = true) : KRel l P i st (k a) :=
  h.to fun j hj r hr => by
    subst hj
    have ht' : tx l j tTel = true := ht rfl
    exact Run.then (Run.ifT ht' Run.done) hr
end
end Go.Proofs.YtglkpgcmlbhkpabGreatDoor
