/-
  lustrumref1's READER OF NODES: vars BY ITS CONTRACT.
-/
import Derived.Test.YtglkpgcmlbhkpabGreatDoorP28
import Derived.Test.YtglkpgcmlbhkpabGreatDoorP21
import Derived.Test.YtglkpgcmlbhkpabGreatDoorP27
import Derived.Test.YtglkpgcmlbhkpabGreatDoorP26
import Derived.Deep.RegionLaw
namespace Go.Proofs.YtglkpgcmlbhkpabGreatDoor
open Go.RowKit
attribute [local go_sem ↓] Go.wp_at_zero Go.wp_at_succ

def varsN (l : List Tk) (no : Bool) (i d : Nat) (k : List Ex → Nat → Act) : Act := if no && tx l i tShut then k [] i else varsA i d k
/-- Variables so far. -/
inductive WRel (l : List Tk) (d : Nat) : St → St → List Ex → Prop
  | here (i j : Nat) (es : List Ex) : (∀ k r, Run l (.call (.vars es) j d k) r → Run l (varsA i d k) r) → i < j → es.length ≤ j → WRel l d (.here i) (.here j) es
  | bad (i j : Nat) (bd : Bool) (es : List Ex) : (∀ k, Run l (varsA i d k) (.bad j bd)) → WRel l d (.here i) (.bad j bd) es
  | stay (j : Nat) (bd : Bool) (es : List Ex) : WRel l d (.bad j bd) (.bad j bd) es
/-- From where it stood to where it stands: variables were read; or it failed; or it had failed. -/
inductive VsRel (l : List Tk) (no : Bool) (d : Nat) (base : Nat) (w' : World) : St → St → Option Addr → Nat → Nat → Prop
  | ok (i j : Nat) (es : List Ex) (so : Option Addr) (sc : Nat) : (∀ k r, Run l (k es j) r → Run l (varsN l no i d k) r) → i ≤ j → es.length ≤ j → RowAt w' (From base) 2 (.slice so es.length sc) es.length (varCells es) → VsRel l no d base w' (.here i) (.here j) so es.length sc
  | fail (i j : Nat) (bd : Bool) (so : Option Addr) (m sc : Nat) : (∀ k, Run l (varsN l no i d k) (.bad j bd)) → VsRel l no d base w' (.here i) (.bad j bd) so m sc
  | stay (j : Nat) (bd : Bool) (so : Option Addr) (m sc : Nat) : VsRel l no d base w' (.bad j bd) (.bad j bd) so m sc
theorem WRel.first {l : List Tk} {d : Nat} {st st1 : St} {s : ByteArray} {x : Int} (q : VRel l d st st1 s x) : WRel l d st st1 [.mk s x b0 []] := by
  cases q with
  | ok i j s x hp hij => exact .here i j _ (fun k r h => Run.then hp h) hij (by simp; omega)
  | fail i j bd s x hp => exact .bad i j bd _ (fun k => Run.stop hp)
  | stay j bd s x => exact .stay j bd _
theorem WRel.num {l : List Tk} {d j : Nat} {st : St} {es : List Ex} (h : WRel l d st (.here j) es) : es.length ≤ j := by
  cases h with
  | here i _ _ _ _ hl => exact hl
theorem WRel.next {l : List Tk} {d j : Nat} {st st5 : St} {es : List Ex} {s : ByteArray} {x : Int} (h : WRel l d st (.here j) es) (hc : tx l j tSemi = true) (q : VRel l d (.here (j + 1)) st5 s x) : ∃ es', WRel l d st st5 es' ∧ ∀ k, st5 = .here k → j < k ∧ es' = es ++ [.mk s x b0 []] := by
  cases h with
  | here i _ _ HP hij hl =>
    cases q with
    | ok _ k s x hp hjk =>
      refine ⟨es ++ [.mk s x b0 []], .here i k _ (fun k r hr => HP k r ?_) (by omega) (by simp; omega), fun k' hk => by cases hk; exact ⟨by omega, rfl⟩⟩
      cases hr with
      | ok _ _ _ _ e j _ h1 h2 => exact Run.then (Run.ifT hc (Run.then hp (Run.tail h1))) h2
      | bad _ _ _ _ j b h1 => exact Run.stop (Run.ifT hc (Run.then hp (Run.tail h1)))
    | fail _ k bd s x hp => exact ⟨[], .bad i k bd _ (fun k => HP k _ (Run.stop (Run.ifT hc (Run.stop hp)))), fun k' hk => by cases hk⟩
theorem WRel.done {l : List Tk} {no : Bool} {d base : Nat} {w' : World} {st st' : St} {es : List Ex} {so : Option Addr} {m sc : Nat} (h : WRel l d st st' es) (hno : (no && st.tx l tShut) = false) (hc : st'.tx l tSemi = false) (hr : st'.isAt = true → m = es.length ∧ RowAt w' (From base) 2 (.slice so m sc) m (varCells es)) : VsRel l no d base w' st st' so m sc := by
  cases h with
  | here i j _ HP hij hl =>
    obtain ⟨rfl, hrow⟩ := hr rfl
    have hno' : (no && tx l i tShut) = false := hno
    have hc' : tx l j tSemi = false := hc
    exact .ok i j es so sc (fun k r h => by rw [varsN, hno']; exact HP k r (Run.then (Run.ifF hc' Run.done) h)) (by omega) hl hrow
  | bad i j bd _ HP =>
    have hno' : (no && tx l i tShut) = false := hno
    exact .fail i j bd _ _ _ (fun k => by rw [varsN, hno']; exact HP k)
  | stay j bd _ => exact .stay j bd _ _ _

theorem Tryz.infoRVar : (Tryz.prog.info? 41).map (fun i => (i.zero, i.size, i.bytes)) = some (some (.agg #[.string ⟨#[]⟩, .int .i64 0]), 2, 24) := by kernel_rfl
end Go.Proofs.YtglkpgcmlbhkpabGreatDoor

/-
  lustrumlaw1.backVars, BackExpr BY THEIR CONTRACTS: the same in new memory.
-/
namespace Go.Proofs.YtglkpgcmlbhkpabGreatDoor
open Go.RowKit
attribute [local go_sem ↓] Go.wp_at_zero Go.wp_at_succ

theorem varCells_take (vs : List Ex) (i : Nat) (hi : i < vs.length) : varCells (vs.take (i + 1)) = varCells (vs.take i) ++ [.string vs[i].op, .int .i64 vs[i].n] := by
  rw [← varCells_snoc, List.take_succ_eq_append_getElem hi]
set_option maxRecDepth 100000 in
set_option maxHeartbeats 1000000 in
theorem backVars_any (w : World) (S : Nat → Prop) (o : Option Addr) (c : Nat) (vs : List Ex) (h : RowAt w S 2 (.slice o vs.length c) vs.length (varCells vs)) (hn : vs.length ≤ 1000000) :
    Calls Tryz.prog 46 #[.slice o vs.length c] w fun e w' => (∃ so sc, e = .returned (.slice so vs.length sc) ∧ RowAt w' (From w.heap.size) 2 (.slice so vs.length sc) vs.length (varCells vs)) ∧ Below w.heap.size w w' := by
  obtain ⟨i0, hi0, hz0, hz1, hz2⟩ := info_parts Tryz.infoRVar
  have H : Hid (RowAt w S 2 (.slice o vs.length c) vs.length (varCells vs)) := h
  clear h
  go_enter Tryz.func46, Tryz.ntmps46
  go_wp2
  go_loopw [3, 4] (fun v t wr => ∃ (i : Nat) (so : Option Addr) (sc : Nat), i ≤ vs.length ∧ t = .int .i64 i ∧ v = .slice so i sc ∧ wr.ownsRow w.heap.size 41 2 (.slice so i sc) i (varCells (vs.take i)) ∧ Below w.heap.size w wr) (fun _ t _ => vs.length - (intOf t).toNat)
  case atStart => exact ⟨0, none, 0, Nat.zero_le _, rfl, rfl, World.ownsRow_nil _ _ _ _, Below.refl _ _⟩
  case round =>
    obtain ⟨i, so, sc, hi, rfl, rfl, hown, hb⟩ := hrel
    by_cases hlt : i < vs.length
    · obtain ⟨b, off, rfl, _, g⟩ := row_get H.out (by rw [varCells_length]; omega)
      have c0 := cell_keep hb (g _ _ (varCells_at hlt).1)
      have c1 := cell_keep hb (g _ _ (varCells_at hlt).2)
      rw [← Nat.add_assoc] at c1
      have i0' : (0 : Int) ≤ (i : Int) := by omega
      have i1 : (i : Int) < (vs.length : Int) := by omega
      have hn63 : i + 1 ≤ maxLen := by unfold maxLen; omega
      have hby : (i + 1) * 24 ≤ 140737488355328 := by omega
      have hdr : (wr.drew).ownsRow w.heap.size 41 2 (.slice so i sc) i (varCells (vs.take i)) := hown
      have HO : Hid (∀ o, (wr.drew.alloc o).ownsRow w.heap.size 41 2 (.slice so i sc) i (varCells (vs.take i))) := fun o => hdr.alloc o
      have hnb : (wr.drew.alloc (.cells #[.string vs[i].op, .int .i64 vs[i].n] 41)).heap[wr.heap.size]? = some (.cells #[.string vs[i].op, .int .i64 vs[i].n] 41) := by
        show (wr.heap.push _)[wr.heap.size]? = _
        simp
      have HN' : Hid _ := World.news_of_block hnb
      have hrow : Hid (∀ k, (Value.slice so i sc).ownBlock = some k → w.heap.size ≤ k ∧ k < wr.heap.size) := fun k hk => ownsRow_block hown hk
      have hsz : w.heap.size ≤ (wr.drew.alloc (.cells #[.string vs[i].op, .int .i64 vs[i].n] 41)).heap.size := Nat.le_trans hb.size (by show _ ≤ (wr.heap.push _).size; simp)
      clear hnb hdr g
      go_wp2
      go_region_law (refine step_append_lies _ rfl (.tmp 11) (.tmp 23) 42 rfl w.heap.size 41 i0 _ 2 24 Tryz.underlying42 hi0 hz0 hz1 hz2 rfl (by omega) (.slice so i sc) i (varCells (vs.take i)) (by simp [Act.eval]) (HO.out _) ⟨wr.heap.size, 0, none⟩ 1 1 [.string vs[i].op, .int .i64 vs[i].n] (by simp [Act.eval]) rfl HN'.out (by simp [Value.oneCell']) (by omega) hn63 hby hsz _ rfl (fun g cap w3 hown3 hgrow hat hlt3 => ?_))
      all_goals
        rw [← varCells_take vs i hlt] at hown3
        have hB3 : Below w.heap.size w w3 := ((hb.alloc hb.size _).drew).grown hgrow (Nat.le_trans hb.size (by show _ ≤ (wr.heap.push _).size; simp)) (fun k hk => (hrow.out k hk).1)
        clear HO HN' hrow hsz hgrow hat hown c0 c1
        go_wp2
        exact ⟨⟨i + 1, some ⟨g, 0, none⟩, cap, by omega, by go_num, rfl, hown3, hB3⟩, by simp [intOf]; omega⟩
    · go_wp2
      go_ret
      obtain rfl : i = vs.length := by omega
      rw [List.take_length] at hown
      exact ⟨⟨_, _, rfl, RowAt.of_owns hown⟩, hb⟩

theorem Fit.at {N : Nat} {l : List Ex} (h : Fit N l) : ∀ {i : Nat} (hi : i < l.length) {op : ByteArray} {n : Int} {s : ByteArray} {es : List Ex}, l[i] = .mk op n s es → es.length ≤ N ∧ Fit N es := by
  induction h with
  | nil => intro i hi; simp at hi
  | cons op n s l es h1 h2 _ _ ih =>
    intro i hi op' n' s' es' e
    cases i with
    | zero =>
      simp only [List.getElem_cons_zero, Ex.mk.injEq] at e
      obtain ⟨_, _, _, rfl⟩ := e
      exact ⟨h1, h2⟩
    | succ i => exact ih (i := i) (by simpa using hi) (by simpa using e)
set_option maxRecDepth 100000 in
set_option maxHeartbeats 1000000 in
theorem back_any : ∀ (m : Nat) (op : ByteArray) (n : Int) (s : ByteArray) (l : List Ex), SizeOf.sizeOf l < m → l.length ≤ 1000000 → Fit 1000000 l → ∀ (w : World) (S : Nat → Prop) (o : Option Addr) (c : Nat) (ys : List Value), RowAt w S 4 (.slice o l.length c) l.length ys → ExIn w S l ys →
    Calls Tryz.prog 47 #[.agg #[.string op, .int .i64 n, .string s, .slice o l.length c]] w fun e w' => (∃ so sc ys', e = .returned (.agg #[.string op, .int .i64 n, .string s, .slice so l.length sc]) ∧ RowAt w' (From w.heap.size) 4 (.slice so l.length sc) l.length ys' ∧ ExIn w' (From w.heap.size) l ys') ∧ Below w.heap.size w w'
  | 0, _, _, _, _, h => absurd h (Nat.not_lt_zero _)
  | m + 1, op, n, s, l, hm => by
    intro hl hf w S o c ys h1 h2
    obtain ⟨i0, hi0, hz0, hz1, hz2⟩ := info_parts Tryz.infoRExpr
    have IH := back_any m
    have H1 : Hid (RowAt w S 4 (.slice o l.length c) l.length ys) := h1
    have H2 : Hid (ExIn w S l ys) := h2
    clear h1 h2
    go_enter Tryz.func47, Tryz.ntmps47
    have hbA : Below w.heap.size w (((w.alloc (.cells #[.string op, .int .i64 n, .string s, .slice o l.length c] 62)).alloc rTerm).alloc (reObj op n s (.slice none 0 0))) := (((Below.refl _ _).alloc (Nat.le_refl _) _).alloc (by simp) _).alloc (by simp; omega) _
    have HA : Hid ((((w.alloc (.cells #[.string op, .int .i64 n, .string s, .slice o l.length c] 62)).alloc rTerm).alloc (reObj op n s (.slice none 0 0))).heap[w.heap.size]? = some (.cells #[.string op, .int .i64 n, .string s, .slice o l.length c] 62)) := alloc_row _ (alloc_row _ (heap_alloc_new w _))
    have HB : Hid ((((w.alloc (.cells #[.string op, .int .i64 n, .string s, .slice o l.length c] 62)).alloc rTerm).alloc (reObj op n s (.slice none 0 0))).heap[w.heap.size + 1]? = some rTerm) := alloc_row _ (two_new w _ _)
    have HC : Hid ((((w.alloc (.cells #[.string op, .int .i64 n, .string s, .slice o l.length c] 62)).alloc rTerm).alloc (reObj op n s (.slice none 0 0))).heap[w.heap.size + 1 + 1]? = some (reObj op n s (.slice none 0 0))) := heap_alloc_new' (by simp) _
    go_wp2
    go_loopw [4] (fun t wr => ∃ (i : Nat) (so : Option Addr) (sc : Nat) (cells : List Value), i ≤ l.length ∧ t = .int .i64 i ∧ Below w.heap.size w wr ∧ w.heap.size + 1 + 1 + 1 ≤ wr.heap.size ∧ Hid (wr.heap[w.heap.size]? = some (.cells #[.string op, .int .i64 n, .string s, .slice o l.length c] 62)) ∧ Hid (wr.heap[w.heap.size + 1]? = some rTerm) ∧ Hid (wr.heap[w.heap.size + 1 + 1]? = some (reObj op n s (.slice so i sc))) ∧ Hid (wr.ownsRow (w.heap.size + 1 + 1 + 1) 38 4 (.slice so i sc) i cells) ∧ Hid (ExIn wr (fun k => w.heap.size + 1 + 1 + 1 ≤ k ∧ (Value.slice so i sc).ownBlock ≠ some k) (l.take i) cells)) (fun t _ => l.length - (intOf t).toNat)
    case atStart => exact ⟨0, none, 0, [], Nat.zero_le _, rfl, hbA, by simp, HA, HB, HC, World.ownsRow_nil _ _ _ _, .nil⟩
    case round =>
      clear HA HB HC hbA
      obtain ⟨i, so, sc, cells, hi, rfl, hb, hsz, HAr, HBr, HCr, HO, HI⟩ := hrel
      obtain ⟨_, _, _, a3, _⟩ := blk4 HAr.out
      obtain ⟨d0, d1, d2, d3, df⟩ := blk4 HCr.out
      by_cases hlt : i < l.length
      · obtain ⟨op', n', s', es, oo, cc, zs, e, x0, x1, x2, x3, r1, r2⟩ := H2.out.at hlt
        obtain ⟨p, f, rfl, _, g⟩ := row_get H1.out (by have := H1.out.1; omega)
        have x0 := cell_keep hb (g _ _ x0)
        have x1 := cell_keep hb (g _ _ x1)
        have x2 := cell_keep hb (g _ _ x2)
        have x3 := cell_keep hb (g _ _ x3)
        rw [← Nat.add_assoc] at x1 x2 x3
        have i0' : (0 : Int) ≤ (i : Int) := by omega
        have i1 : (i : Int) < (l.length : Int) := by omega
        have hsp := size_part hlt e
        obtain ⟨hfl, hff⟩ := hf.at hlt e
        have Hr : Hid (Calls Tryz.prog 47 #[.agg #[.string op', .int .i64 n', .string s', .slice oo es.length cc]] wr.drew fun e w' => (∃ so sc ys', e = .returned (.agg #[.string op', .int .i64 n', .string s', .slice so es.length sc]) ∧ RowAt w' (From wr.drew.heap.size) 4 (.slice so es.length sc) es.length ys' ∧ ExIn w' (From wr.drew.heap.size) es ys') ∧ Below wr.drew.heap.size wr.drew w') := IH op' n' s' es (by omega) hfl hff wr.drew S oo cc zs (r1.keep (Stays.below hb.drew (fun k hk => hk))) (r2.keep (Stays.below hb.drew (fun k hk => hk)))
        have hn63 : i + 1 ≤ maxLen := by unfold maxLen; omega
        have hby : (i + 1) * 64 ≤ 140737488355328 := by omega
        have hrw : Hid (∀ k, (Value.slice so i sc).ownBlock = some k → w.heap.size + 1 + 1 + 1 ≤ k ∧ k < wr.heap.size) := fun k hk => ownsRow_block HO.out hk
        have e' : Hid (l[i] = .mk op' n' s' es) := e
        clear g r1 r2 IH hsp hfl hff e
        go_wp2
        go_region_law (first
          | (refine step_append_lies _ rfl (.tmp 20) (.tmp 27) 36 rfl (w.heap.size + 1 + 1 + 1) 38 i0 _ 4 64 Tryz.underlying36 hi0 hz0 hz1 hz2 rfl (by omega) (.slice so i sc) i cells (by simp [Act.eval]) HO4.out ⟨w4.heap.size, 0, none⟩ 1 1 [.string op', .int .i64 n', .string s', .slice so' es.length sc'] (by simp [Act.eval]) rfl HN'.out (by simp [Value.oneCell']) (by omega) hn63 hby (by rw [World.size_alloc]; omega) (w4.heap.size + 1) (by simp) ?_; intro g2 cap w5 hown5 hgrow hat hlt5; have HC5 : Hid _ := heap_grown hgrow (b := w.heap.size + 1 + 1) (fun hk => by have := (hrw.out _ hk).1; omega) (alloc_row _ HC4.out); have q3 := (blk4 HC5.out).2.2.2.1; have qf := (blk4 HC5.out).2.2.2.2 3)
          | (refine step_call rfl 47 #[.agg #[.string op', .int .i64 n', .string s', .slice oo es.length cc]] (by kernel_rfl) ?_; refine Hr.out.mono ?_; rintro e w4 ⟨⟨so', sc', ys', rfl, hrow', hin'⟩, hb4⟩; have hs4 : wr.heap.size ≤ w4.heap.size := hb4.size; have hb4' : Below wr.heap.size wr w4 := (Below.refl _ _).drew.trans hb4; have HC4 : Hid _ := row_keep hb4' HCr.out; obtain ⟨v0, v1, v2, v3, vf⟩ := blk4 HC4.out; have hltc : w.heap.size + 1 + 1 < w4.heap.size := (by omega); have HO4 : Hid _ := (ownsRow_mv (ba := w.heap.size + 1 + 1) HO.out (Mv.of_below hb4') (by omega)).alloc (.cells #[.string op', .int .i64 n', .string s', .slice so' es.length sc'] 38); have HN' : Hid _ := World.news_of_block (heap_alloc_new w4 (.cells #[.string op', .int .i64 n', .string s', .slice so' es.length sc'] 38)); dsimp only))
        all_goals
          have hbg : Below (w.heap.size + 1 + 1) w4 w5 := ((Below.refl _ _).alloc (by omega) _).grown hgrow (by simp; omega) (fun k hk => by have := (hrw.out k hk).1; omega)
          have hbs := hbg.size
          have HB5 : Hid ((w5.setCell ⟨w.heap.size + 1 + 1, 3, none⟩ (.slice (some ⟨g2, 0, none⟩) (i + 1) cap)).heap[w.heap.size + 1]? = some rTerm) := (Below.heap_setCell _ _ _ _ (by show w.heap.size + 1 ≠ w.heap.size + 1 + 1; omega)).trans (heap_grown hgrow (fun hk => by have := (hrw.out _ hk).1; omega) (alloc_row _ (row_keep hb4' HBr.out)))
          have HA5 : Hid ((w5.setCell ⟨w.heap.size + 1 + 1, 3, none⟩ (.slice (some ⟨g2, 0, none⟩) (i + 1) cap)).heap[w.heap.size]? = some (.cells #[.string op, .int .i64 n, .string s, .slice (some ⟨p, f, none⟩) l.length c] 62)) := (Below.heap_setCell _ _ _ _ (by show w.heap.size ≠ w.heap.size + 1 + 1; omega)).trans (heap_grown hgrow (fun hk => by have := (hrw.out _ hk).1; omega) (alloc_row _ (row_keep hb4' HAr.out)))
          have St0 := (grow_old (base := w.heap.size + 1 + 1 + 1) (b := w.heap.size + 1 + 1) (n := i + 1) (cap := cap) (Mv.of_below hb4') (by omega) hgrow hat).trans (Stays.set (S' := fun k => w.heap.size + 1 + 1 + 1 ≤ k ∧ (Value.slice (some ⟨g2, 0, none⟩) (i + 1) cap).ownBlock ≠ some k) (p := ⟨w.heap.size + 1 + 1, 3, none⟩) (.slice (some ⟨g2, 0, none⟩) (i + 1) cap) (fun k hk => ⟨by show k ≠ w.heap.size + 1 + 1; omega, hk⟩)) (by omega)
          have St1 := (grow_new (base := w.heap.size + 1 + 1 + 1) (H := wr.heap.size) (n := i + 1) (cap := cap) (by omega) (fun k hk => (hrw.out k hk).2) hgrow hat).trans (Stays.set (S' := fun k => w.heap.size + 1 + 1 + 1 ≤ k ∧ (Value.slice (some ⟨g2, 0, none⟩) (i + 1) cap).ownBlock ≠ some k) (p := ⟨w.heap.size + 1 + 1, 3, none⟩) (.slice (some ⟨g2, 0, none⟩) (i + 1) cap) (fun k hk => ⟨by show k ≠ w.heap.size + 1 + 1; omega, hk⟩)) (by omega)
          have hBf : Below w.heap.size w (w5.setCell ⟨w.heap.size + 1 + 1, 3, none⟩ (.slice (some ⟨g2, 0, none⟩) (i + 1) cap)) := (hb.trans ((hb4'.mono hb.size).trans (hbg.mono (by omega)))).setCell (by show w.heap.size ≤ w.heap.size + 1 + 1; omega) _
          have HI5 : Hid (ExIn (w5.setCell ⟨w.heap.size + 1 + 1, 3, none⟩ (.slice (some ⟨g2, 0, none⟩) (i + 1) cap)) (fun k => w.heap.size + 1 + 1 + 1 ≤ k ∧ (Value.slice (some ⟨g2, 0, none⟩) (i + 1) cap).ownBlock ≠ some k) (l.take (i + 1)) (cells ++ [.string op', .int .i64 n', .string s', .slice so' es.length sc'])) := by
            rw [List.take_succ_eq_append_getElem hlt, e'.out]
            exact (HI.out.keep St0).append (.cons _ _ _ es [] _ ys' [] (hrow'.keep St1) (hin'.keep St1) .nil)
          clear St0 St1 hrow' hin'
          go_wp2
          exact ⟨⟨i + 1, some ⟨g2, 0, none⟩, cap, _, by omega, by go_num, hBf, by simp; omega, HA5, HB5, set_row HC5.out, ownsRow_mv hown5 (Mv.setAt (w.heap.size + 1 + 1) 3 _ _) (by omega), HI5⟩, by simp [intOf]; omega⟩
      · obtain ⟨z0, z1, z2, z3, zf⟩ := blk4 HBr.out
        have zf0 := zf 0
        have zf1 := zf 1
        have zf2 := zf 2
        have zf3 := zf 3
        obtain rfl : i = l.length := by omega
        go_wp2
        have hr := set4_row (a := .string op) (b := .int .i64 n) (c := .string s) (e := .slice so l.length sc) HBr.out
        obtain ⟨y0, y1, y2, y3, _⟩ := blk4 hr
        simp only [set4] at y0 y1 y2 y3
        have hin := HI.out
        rw [List.take_length] at hin
        have St : ∀ {S : Nat → Prop}, (∀ k, S k → w.heap.size + 1 + 1 + 1 ≤ k) → Stays S (From w.heap.size) wr (set4 wr (w.heap.size + 1) (.string op) (.int .i64 n) (.string s) (.slice so l.length sc)) := fun hs => set4_stays (fun k hk => by have := hs k hk; exact ⟨by omega, by unfold From; omega⟩)
        exact bodyPost_ret (v := .agg #[.string op, .int .i64 n, .string s, .slice so l.length sc]) (by simp [results, Tryz.results47, go_sem, y0, y1, y2, y3]) rfl ⟨⟨so, sc, cells, rfl, (RowAt.of_owns HO.out).keep (St (fun k hk => hk)), hin.keep (St (fun k hk => hk.1))⟩, hb.trans (set4_below (by omega))⟩
end Go.Proofs.YtglkpgcmlbhkpabGreatDoor

/-
  lustrumref1's READER OF NODES: equation BY ITS CONTRACTS, but for lists of names.
-/
namespace Go.Proofs.YtglkpgcmlbhkpabGreatDoor
open Go.RowKit
attribute [local go_sem ↓] Go.wp_at_zero Go.wp_at_succ

abbrev rEq : Obj := .cells #[.string ⟨#[]⟩, .slice none 0 0, .string ⟨#[]⟩, .int .i64 0, .string ⟨#[]⟩, .slice none 0 0] 45
abbrev qEq (kind : ByteArray) (so : Option Addr) (m sc : Nat) : Obj := .cells #[.string kind, .slice so m sc, .string ⟨#[]⟩, .int .i64 0, .string ⟨#[]⟩, .slice none 0 0] 45
/-- An equation's cells, whatever they hold. -/
def Shape6 (v : Value) : Prop := ∃ (kind : ByteArray) (so : Option Addr) (m sc : Nat) (op : ByteArray) (x : Int) (s : ByteArray) (so' : Option Addr) (m' sc' : Nat), v = .agg #[.string kind, .slice so m sc, .string op, .int .i64 x, .string s, .slice so' m' sc']
/-- From where it stood to where it stands: an equation was read; or it failed; or it had failed. -/
inductive ERel (l : List Tk) (base : Nat) (w' : World) : St → St → Value → Prop
  | ok (i j : Nat) (kind : ByteArray) (ns : List Ex) (so : Option Addr) (sc : Nat) (op : ByteArray) (x : Int) (s : ByteArray) (es : List Ex) (so' : Option Addr) (sc' : Nat) (ys : List Value) : Parse l .eq i 0 (.ok [.mk kind 0 b0 [lst ns, .mk op x s es]] j) → i < j → RowAt w' (From base) 1 (.slice so ns.length sc) ns.length (nameCells ns) → RowAt w' (From base) 4 (.slice so' es.length sc') es.length ys → ExIn w' (From base) es ys → ERel l base w' (.here i) (.here j) (.agg #[.string kind, .slice so ns.length sc, .string op, .int .i64 x, .string s, .slice so' es.length sc'])
  | fail (i j : Nat) (bd : Bool) (v : Value) : Parse l .eq i 0 (.bad j bd) → Shape6 v → ERel l base w' (.here i) (.bad j bd) v
  | stay (j : Nat) (bd : Bool) (v : Value) : Shape6 v → ERel l base w' (.bad j bd) (.bad j bd) v
/-- What stands ahead of an equation's term. -/
inductive EPre (l : List Tk) : St → St → ByteArray → List Ex → Prop
  | here (i k : Nat) (kind : ByteArray) (ns : List Ex) : (∀ r, Run l (endA l kind ns k 0) r → Parse l .eq i 0 r) → i < k → EPre l (.here i) (.here k) kind ns
  | bad (i j : Nat) (bd : Bool) (kind : ByteArray) (ns : List Ex) : Parse l .eq i 0 (.bad j bd) → EPre l (.here i) (.bad j bd) kind ns
  | stay (j : Nat) (bd : Bool) (kind : ByteArray) (ns : List Ex) : EPre l (.bad j bd) (.bad j bd) kind ns
theorem EPre.done {l : List Tk} {base base2 : Nat} {w5 w' : World} {st st2 st5 : St} {kind : ByteArray} {ns : List Ex} {so : Option Addr} {m sc : Nat} {op s : ByteArray} {x : Int} {so' : Option Addr} {m' sc' : Nat} (h : EPre l st st2 kind ns) (q : QRel l .term 0 base2 w5 st2 st5 (.agg #[.string op, .int .i64 x, .string s, .slice so' m' sc'])) (hk : Stays (From base2) (From base) w5 w') (hn : st2.isAt = true → m = ns.length ∧ RowAt w' (From base) 1 (.slice so m sc) m (nameCells ns)) : ERel l base w' st (st5.want l tSemi) (.agg #[.string kind, .slice so m sc, .string op, .int .i64 x, .string s, .slice so' m' sc']) := by
  have sh : Shape6 (.agg #[.string kind, .slice so m sc, .string op, .int .i64 x, .string s, .slice so' m' sc']) := ⟨_, _, _, _, _, _, _, _, _, _, rfl⟩
  cases h with
  | here i k _ _ HP hik =>
    obtain ⟨rfl, hrn⟩ := hn rfl
    cases st5 with
    | bad j bd => exact .fail i j bd _ (HP _ (Run.stop q.badOf)) sh
    | here j =>
      obtain ⟨es, ys, rfl, hp, hij, hrow, hin⟩ := q.inv
      cases hx : tx l j tSemi with
      | false =>
        rw [show (St.here j).want l tSemi = .bad j false from by simp only [St.want, hx, Bool.false_eq_true, if_false]]
        exact .fail i j false _ (HP _ (Run.then hp (Run.unexp hx))) sh
      | true =>
        rw [show (St.here j).want l tSemi = .here (j + 1) from by simp only [St.want, hx, if_true]]
        exact .ok i (j + 1) _ ns so sc op x s es so' sc' ys (HP _ (Run.then hp (Run.exp hx Run.done))) (by omega) hrn (hrow.keep hk) (hin.keep hk)
  | bad i j bd _ _ hp =>
    obtain rfl := q.stays
    exact .fail i j bd _ hp sh
  | stay j bd _ _ =>
    obtain rfl := q.stays
    exact .stay j bd _ sh
theorem pass_other {l : List Tk} {st : St} {x : List UInt8} (h : st.tx l x = false) : st.pass l x = st := by
  cases st with
  | bad j bd => rfl
  | here j => have h' : tx l j x = false := h; simp only [St.pass, h', Bool.false_eq_true, if_false]
theorem EPre.one {l : List Tk} {st : St} (g1 : st.tx l tAssert = false) (g2 : st.tx l tCheck = false) (g3 : st.tx l tOpen = false) : EPre l st ((st.name l).want l tEq) sSet [.mk (st.nm l) 0 b0 []] := by
  cases st with
  | bad j bd => exact .stay j bd _ _
  | here i =>
    have g0 : txs l i [tAssert, tCheck] = false := by
      simp only [txs, List.any_cons, List.any_nil, Bool.or_false, Bool.or_eq_false_iff]
      exact ⟨g1, g2⟩
    cases h1 : isName l i with
    | false =>
      have e1 : ((St.here i).name l).want l tEq = .bad i false := by simp [St.name, h1, St.want]
      rw [e1]
      exact .bad i i false _ _ (Run.ifF g0 (Run.ifF g3 (Run.ifF h1 (.ret _))))
    | true =>
      have e2 : (St.here i).nm l = tkx l i := by simp [St.nm, h1]
      rw [e2]
      cases h2 : tx l (i + 1) tEq with
      | false =>
        have e1 : ((St.here i).name l).want l tEq = .bad (i + 1) false := by simp [St.name, h1, h2, St.want]
        rw [e1]
        exact .bad i _ false _ _ (Run.ifF g0 (Run.ifF g3 (Run.ifT h1 (Run.unexp h2))))
      | true =>
        have e1 : ((St.here i).name l).want l tEq = .here (i + 1 + 1) := by simp [St.name, h1, h2, St.want]
        rw [e1]
        exact .here i _ _ _ (fun r hr => Run.ifF g0 (Run.ifF g3 (Run.ifT h1 (Run.exp h2 hr)))) (by omega)
theorem EPre.word {l : List Tk} {i : Nat} {x : List UInt8} (hx : x ∈ [tAssert, tCheck]) (h : tx l i x = true) : EPre l (.here i) (.here (i + 1)) ⟨x.toArray⟩ [] := by
  have g0 : txs l i [tAssert, tCheck] = true := by
    simp only [txs, List.any_eq_true]
    exact ⟨x, hx, h⟩
  have e : tkx l i = ⟨x.toArray⟩ := tx_eq h
  refine .here i (i + 1) _ _ (fun r hr => Run.ifT g0 ?_) (by omega)
  rw [e]; exact hr

end Go.Proofs.YtglkpgcmlbhkpabGreatDoor
