/-
  lustrumref1.SameNodes BY ITS CONTRACT: what holds the same is the same.
-/
import Derived.Test.YtglkpgcmlbhkpabGreatDoorQ20
import Derived.Deep.RegionHeld3
import Derived.Test.YtglkpgcmlbhkpabGreatDoorQ26
import Derived.Shelf.LaysM
import Derived.Shelf.Strconv.Itoa3
import Derived.Test.YtglkpgcmlbhkpabGreatDoorProg
import Derived.Test.YtglkpgcmlbhkpabGreatDoorQ17
namespace Go.Proofs.YtglkpgcmlbhkpabGreatDoor
open Go.RowKit
attribute [local go_sem ↓] Go.wp_at_zero Go.wp_at_succ

set_option maxRecDepth 100000 in
set_option maxHeartbeats 2000000 in
theorem sameNodes_any (w : World) (S S' : Nat → Prop) (o o' : Option Addr) (c c' : Nat) (l : List Ex) (ys ys' : List Value) (h1 : RowAt w S 5 (.slice o l.length c) l.length ys) (h2 : NdIn w S l ys) (h3 : RowAt w S' 5 (.slice o' l.length c') l.length ys') (h4 : NdIn w S' l ys') :
    Calls Tryz.prog 14 #[.slice o l.length c, .slice o' l.length c'] w fun e w' => e = .returned (.bool true) ∧ Below w.heap.size w w' := by
  have hl := h1.len
  unfold maxLen at hl
  have H1 : Hid (RowAt w S 5 (.slice o l.length c) l.length ys) := h1
  have H2 : Hid (NdIn w S l ys) := h2
  have H3 : Hid (RowAt w S' 5 (.slice o' l.length c') l.length ys') := h3
  have H4 : Hid (NdIn w S' l ys') := h4
  clear h1 h2 h3 h4
  go_enter Tryz.func14, Tryz.ntmps14
  go_wp2
  go_loopw [5] (fun t wr => ∃ i : Nat, i ≤ l.length ∧ t = .int .i64 i ∧ Below w.heap.size w wr) (fun t _ => l.length - (intOf t).toNat)
  case atStart => exact ⟨0, Nat.zero_le _, rfl, Below.refl _ _⟩
  case round =>
    obtain ⟨i, hi, rfl, hbr⟩ := hrel
    rename World => wq
    by_cases hlt : i < l.length
    · obtain ⟨name, ins, outs, owns, qs, o1, c1, o2, c2, o3, c3, o4, c4, zs, e, m0, m1, m2, m3, m4, r1, r2, r3, r4, r5⟩ := H2.out.at hlt
      obtain ⟨name', ins', outs', owns', qs', o1', c1', o2', c2', o3', c3', o4', c4', zs', e', n0, n1, n2, n3, n4, q1, q2, q3, q4, q5⟩ := H4.out.at hlt
      rw [e] at e'
      simp only [Ex.mk.injEq, lst, List.cons.injEq, and_true, true_and] at e'
      obtain ⟨rfl, rfl, rfl, rfl, rfl⟩ := e'
      obtain ⟨p, f, rfl, _, g⟩ := row_get H1.out (by have := H1.out.1; omega)
      obtain ⟨p', f', rfl, _, g'⟩ := row_get H3.out (by have := H3.out.1; omega)
      have x0 := cell_keep hbr (g _ _ m0)
      have x1 := cell_keep hbr (g _ _ m1)
      have x2 := cell_keep hbr (g _ _ m2)
      have x3 := cell_keep hbr (g _ _ m3)
      have x4 := cell_keep hbr (g _ _ m4)
      have y0 := cell_keep hbr (g' _ _ n0)
      have y1 := cell_keep hbr (g' _ _ n1)
      have y2 := cell_keep hbr (g' _ _ n2)
      have y3 := cell_keep hbr (g' _ _ n3)
      have y4 := cell_keep hbr (g' _ _ n4)
      rw [← Nat.add_assoc] at x1 x2 x3 x4 y1 y2 y3 y4
      clear m0 m1 m2 m3 m4 n0 n1 n2 n3 n4
      have i0 : (0 : Int) ≤ (i : Int) := by omega
      have i1 : (i : Int) < (l.length : Int) := by omega
      have hpl : p' < wq.heap.size := lt_of_cell y0
      have hbA : Below wq.heap.size wq ((wq.alloc (.cells #[.string name, .slice o1 ins.length c1, .slice o2 outs.length c2, .slice o3 owns.length c3, .slice o4 qs.length c4] 48)).alloc (.cells #[.string name, .slice o1' ins.length c1', .slice o2' outs.length c2', .slice o3' owns.length c3', .slice o4' qs.length c4'] 48)) := ((Below.refl _ _).alloc (Nat.le_refl _) _).alloc (by simp) _
      have HA : Hid (((wq.alloc (.cells #[.string name, .slice o1 ins.length c1, .slice o2 outs.length c2, .slice o3 owns.length c3, .slice o4 qs.length c4] 48)).alloc (.cells #[.string name, .slice o1' ins.length c1', .slice o2' outs.length c2', .slice o3' owns.length c3', .slice o4' qs.length c4'] 48)).heap[wq.heap.size]? = some (.cells #[.string name, .slice o1 ins.length c1, .slice o2 outs.length c2, .slice o3 owns.length c3, .slice o4 qs.length c4] 48)) := alloc_row _ (heap_alloc_new wq _)
      have HB : Hid (((wq.alloc (.cells #[.string name, .slice o1 ins.length c1, .slice o2 outs.length c2, .slice o3 owns.length c3, .slice o4 qs.length c4] 48)).alloc (.cells #[.string name, .slice o1' ins.length c1', .slice o2' outs.length c2', .slice o3' owns.length c3', .slice o4' qs.length c4'] 48)).heap[wq.heap.size + 1]? = some (.cells #[.string name, .slice o1' ins.length c1', .slice o2' outs.length c2', .slice o3' owns.length c3', .slice o4' qs.length c4'] 48)) := two_new wq _ _
      have hbW : Below w.heap.size w ((wq.alloc (.cells #[.string name, .slice o1 ins.length c1, .slice o2 outs.length c2, .slice o3 owns.length c3, .slice o4 qs.length c4] 48)).alloc (.cells #[.string name, .slice o1' ins.length c1', .slice o2' outs.length c2', .slice o3' owns.length c3', .slice o4' qs.length c4'] 48)) := hbr.trans (hbA.mono hbr.size)
      have St : ∀ {S : Nat → Prop} {n : Nat}, Stays S S w (((wq.alloc (.cells #[.string name, .slice o1 ins.length c1, .slice o2 outs.length c2, .slice o3 owns.length c3, .slice o4 qs.length c4] 48)).alloc (.cells #[.string name, .slice o1' ins.length c1', .slice o2' outs.length c2', .slice o3' owns.length c3', .slice o4' qs.length c4'] 48)).drewN n) := fun {_ n} => Stays.below (below_drewN hbW n) (fun _ hk => hk)
      have R1 := r1.keep (St (n := 0))
      have Q1 := q1.keep (St (n := 0))
      have hql := r4.len
      unfold maxLen at hql
      go_wp2_with fail
      refine (sameVars_any _ S S' _ _ _ _ ins R1 Q1).mono ?_
      rintro e w1 ⟨rfl, k1, rfl⟩
      go_wp2_with fail
      refine (sameVars_any _ S S' _ _ _ _ outs (r2.keep (Stays.below (below_drewN hbW k1) (fun _ hk => hk))) (q2.keep (Stays.below (below_drewN hbW k1) (fun _ hk => hk)))).mono ?_
      rintro e w1 ⟨rfl, k2, rfl⟩
      go_wp2_with fail
      refine (sameVars_any _ S S' _ _ _ _ owns (r3.keep (Stays.below (below_drewN hbW _) (fun _ hk => hk))) (q3.keep (Stays.below (below_drewN hbW _) (fun _ hk => hk)))).mono ?_
      rintro e w1 ⟨rfl, k3, rfl⟩
      have hb0 : ∀ n, Below (wq.heap.size + 1 + 1) ((wq.alloc (.cells #[.string name, .slice o1 ins.length c1, .slice o2 outs.length c2, .slice o3 owns.length c3, .slice o4 qs.length c4] 48)).alloc (.cells #[.string name, .slice o1' ins.length c1', .slice o2' outs.length c2', .slice o3' owns.length c3', .slice o4' qs.length c4'] 48)) (((wq.alloc (.cells #[.string name, .slice o1 ins.length c1, .slice o2 outs.length c2, .slice o3 owns.length c3, .slice o4 qs.length c4] 48)).alloc (.cells #[.string name, .slice o1' ins.length c1', .slice o2' outs.length c2', .slice o3' owns.length c3', .slice o4' qs.length c4'] 48)).drewN n) := fun n => below_drewN (Below.refl _ _) n
      clear R1 Q1 r1 r2 r3 q1 q2 q3 x0 x1 x2 x3 x4 y0 y1 y2 y3 y4 g g' St
      have HR : Hid (RowAt w S 6 (.slice o4 qs.length c4) qs.length zs ∧ EqIn w S qs zs) := ⟨r4, r5⟩
      have HQ : Hid (RowAt w S' 6 (.slice o4' qs.length c4') qs.length zs' ∧ EqIn w S' qs zs') := ⟨q4, q5⟩
      clear r4 r5 q4 q5
      go_wp2
      go_loopw [8] (fun t wk => ∃ k : Nat, k ≤ qs.length ∧ t = .int .i64 k ∧ Below (wq.heap.size + 1 + 1) ((wq.alloc (.cells #[.string name, .slice o1 ins.length c1, .slice o2 outs.length c2, .slice o3 owns.length c3, .slice o4 qs.length c4] 48)).alloc (.cells #[.string name, .slice o1' ins.length c1', .slice o2' outs.length c2', .slice o3' owns.length c3', .slice o4' qs.length c4'] 48)) wk) (fun t _ => qs.length - (intOf t).toNat)
      case atStart => exact ⟨0, Nat.zero_le _, rfl, hb0 _⟩
      case round =>
        clear hb0
        obtain ⟨k, hk, rfl, hbk⟩ := hrel
        have hbk' : Below ((wq.alloc (.cells #[.string name, .slice o1 ins.length c1, .slice o2 outs.length c2, .slice o3 owns.length c3, .slice o4 qs.length c4] 48)).alloc (.cells #[.string name, .slice o1' ins.length c1', .slice o2' outs.length c2', .slice o3' owns.length c3', .slice o4' qs.length c4'] 48)).heap.size ((wq.alloc (.cells #[.string name, .slice o1 ins.length c1, .slice o2 outs.length c2, .slice o3 owns.length c3, .slice o4 qs.length c4] 48)).alloc (.cells #[.string name, .slice o1' ins.length c1', .slice o2' outs.length c2', .slice o3' owns.length c3', .slice o4' qs.length c4'] 48)) wr := by simpa using hbk
        have hbw : Below w.heap.size w wr := hbW.trans (hbk.mono (by have := hbr.size; omega))
        have a4 := (blk5 (row_keep hbk' HA.out)).2.2.2.2.1
        have b4 := (blk5 (row_keep hbk' HB.out)).2.2.2.2.1
        by_cases hlk : k < qs.length
        · obtain ⟨kind, ns, no, nc, op, x, tx, es, eo, ec, us, e, x0, x1, x2, x3, x4, x5, r1, r2, r3⟩ := HR.out.2.at hlk
          obtain ⟨kind', ns', no', nc', op', x', tx', es', eo', ec', us', e', y0, y1, y2, y3, y4, y5, q1, q2, q3⟩ := HQ.out.2.at hlk
          rw [e] at e'
          simp only [Ex.mk.injEq, lst, List.cons.injEq, and_true, true_and] at e'
          obtain ⟨rfl, rfl, rfl, rfl, rfl, rfl⟩ := e'
          obtain ⟨p1, f1, rfl, _, g⟩ := row_get HR.out.1 (by have := HR.out.1.1; omega)
          obtain ⟨p2, f2, rfl, _, g'⟩ := row_get HQ.out.1 (by have := HQ.out.1.1; omega)
          have x0 := cell_keep hbw (g _ _ x0)
          have y0 := cell_keep hbw (g' _ _ y0)
          have x1 := cell_keep hbw (g _ _ x1)
          have y1 := cell_keep hbw (g' _ _ y1)
          have x2 := cell_keep hbw (g _ _ x2)
          have y2 := cell_keep hbw (g' _ _ y2)
          have x3 := cell_keep hbw (g _ _ x3)
          have y3 := cell_keep hbw (g' _ _ y3)
          have x4 := cell_keep hbw (g _ _ x4)
          have y4 := cell_keep hbw (g' _ _ y4)
          have x5 := cell_keep hbw (g _ _ x5)
          have y5 := cell_keep hbw (g' _ _ y5)
          rw [← Nat.add_assoc] at x1 x2 x3 x4 x5 y1 y2 y3 y4 y5
          have k0 : (0 : Int) ≤ (k : Int) := by omega
          have k1' : (k : Int) < (qs.length : Int) := by omega
          have HS : Hid (∀ w', Below wr.heap.size wr w' → w'.cell? ⟨wq.heap.size, 4, none⟩ = some (.slice (some ⟨p1, f1, none⟩) qs.length c4) ∧ w'.cell? ⟨wq.heap.size + 1, 4, none⟩ = some (.slice (some ⟨p2, f2, none⟩) qs.length c4') ∧ w'.cell? ⟨p1, f1 + k * 6, none⟩ = some (.string kind) ∧ w'.cell? ⟨p1, f1 + k * 6 + 1, none⟩ = some (.slice no ns.length nc) ∧ w'.cell? ⟨p1, f1 + k * 6 + 2, none⟩ = some (.string op) ∧ w'.cell? ⟨p1, f1 + k * 6 + 3, none⟩ = some (.int .i64 x) ∧ w'.cell? ⟨p1, f1 + k * 6 + 4, none⟩ = some (.string tx) ∧ w'.cell? ⟨p1, f1 + k * 6 + 5, none⟩ = some (.slice eo es.length ec) ∧ w'.cell? ⟨p2, f2 + k * 6, none⟩ = some (.string kind) ∧ w'.cell? ⟨p2, f2 + k * 6 + 1, none⟩ = some (.slice no' ns.length nc') ∧ w'.cell? ⟨p2, f2 + k * 6 + 2, none⟩ = some (.string op) ∧ w'.cell? ⟨p2, f2 + k * 6 + 3, none⟩ = some (.int .i64 x) ∧ w'.cell? ⟨p2, f2 + k * 6 + 4, none⟩ = some (.string tx) ∧ w'.cell? ⟨p2, f2 + k * 6 + 5, none⟩ = some (.slice eo' es.length ec') ∧ Below wr.heap.size wr w') := fun w' hb => ⟨cell_keep hb a4, cell_keep hb b4, cell_keep hb x0, cell_keep hb x1, cell_keep hb x2, cell_keep hb x3, cell_keep hb x4, cell_keep hb x5, cell_keep hb y0, cell_keep hb y1, cell_keep hb y2, cell_keep hb y3, cell_keep hb y4, cell_keep hb y5, hb⟩
          have HT : Hid (∀ w', Below wr.heap.size wr w' → Calls Tryz.prog 44 #[.slice no ns.length nc, .slice no' ns.length nc'] w' fun e w'' => e = .returned (.bool true) ∧ Below w'.heap.size w' w'') := fun w' hb => (sameTexts_any w' S S' _ _ _ _ ns (r1.keep (Stays.below (hbw.trans (hb.mono hbw.size)) (fun _ h => h))) (q1.keep (Stays.below (hbw.trans (hb.mono hbw.size)) (fun _ h => h)))).mono (by rintro e w'' ⟨rfl, k, rfl⟩; exact ⟨rfl, below_drewN (Below.refl _ _) k⟩)
          have HE : Hid (∀ w', Below wr.heap.size wr w' → Calls Tryz.prog 45 #[.agg #[.string op, .int .i64 x, .string tx, .slice eo es.length ec], .agg #[.string op, .int .i64 x, .string tx, .slice eo' es.length ec']] w' fun e w'' => e = .returned (.bool true) ∧ Below w'.heap.size w' w'') := fun w' hb => sameExpr_any _ op x tx es (Nat.lt_succ_self _) w' S S' _ _ _ _ us us' (r2.keep (Stays.below (hbw.trans (hb.mono hbw.size)) (fun _ h => h))) (r3.keep (Stays.below (hbw.trans (hb.mono hbw.size)) (fun _ h => h))) (q2.keep (Stays.below (hbw.trans (hb.mono hbw.size)) (fun _ h => h))) (q3.keep (Stays.below (hbw.trans (hb.mono hbw.size)) (fun _ h => h)))
          clear g g' r1 r2 r3 q1 q2 q3 hbA hbW H1 H2 H3 H4 HA HB hbw HR HQ
          go_wp2
          go_region_held3 (fun w' => w'.cell? ⟨wq.heap.size, 4, none⟩ = some (.slice (some ⟨p1, f1, none⟩) qs.length c4) ∧ w'.cell? ⟨wq.heap.size + 1, 4, none⟩ = some (.slice (some ⟨p2, f2, none⟩) qs.length c4') ∧ w'.cell? ⟨p1, f1 + k * 6, none⟩ = some (.string kind) ∧ w'.cell? ⟨p1, f1 + k * 6 + 1, none⟩ = some (.slice no ns.length nc) ∧ w'.cell? ⟨p1, f1 + k * 6 + 2, none⟩ = some (.string op) ∧ w'.cell? ⟨p1, f1 + k * 6 + 3, none⟩ = some (.int .i64 x) ∧ w'.cell? ⟨p1, f1 + k * 6 + 4, none⟩ = some (.string tx) ∧ w'.cell? ⟨p1, f1 + k * 6 + 5, none⟩ = some (.slice eo es.length ec) ∧ w'.cell? ⟨p2, f2 + k * 6, none⟩ = some (.string kind) ∧ w'.cell? ⟨p2, f2 + k * 6 + 1, none⟩ = some (.slice no' ns.length nc') ∧ w'.cell? ⟨p2, f2 + k * 6 + 2, none⟩ = some (.string op) ∧ w'.cell? ⟨p2, f2 + k * 6 + 3, none⟩ = some (.int .i64 x) ∧ w'.cell? ⟨p2, f2 + k * 6 + 4, none⟩ = some (.string tx) ∧ w'.cell? ⟨p2, f2 + k * 6 + 5, none⟩ = some (.slice eo' es.length ec') ∧ Below wr.heap.size wr w')
            (first | exact HS.out _ (Below.refl _ _).drew | (go_split_ands; first | exact ⟨‹_›, ‹_›, ‹_›, ‹_›, ‹_›, ‹_›, ‹_›, ‹_›, ‹_›, ‹_›, ‹_›, ‹_›, ‹_›, ‹_›, ‹_›⟩ | exact HS.out _ (Below.trans ‹Below wr.heap.size wr _› (hbn.mono (Below.size ‹Below wr.heap.size wr _›)))))
            (first
              | (go_at_call 44; refine (HT.out _ ?_).mono ?_; (go_split_ands; exact ‹_›); rintro e w'' ⟨rfl, hbn⟩)
              | (go_at_call 45; refine (HE.out _ ?_).mono ?_; (go_split_ands; exact ‹_›); rintro e w'' ⟨rfl, hbn⟩))
          go_split_ands
          have hsz := hbk.size
          simp only [World.size_alloc] at hsz
          go_wp2
          exact ⟨⟨k + 1, by omega, by go_num, hbk.trans (Below.mono ‹Below wr.heap.size wr _› hsz)⟩, by simp [intOf]; omega⟩
        · go_wp2
          exact ⟨⟨i + 1, by omega, by go_num, hbw⟩, by simp [intOf]; omega⟩
    · go_wp2
      go_ret
      exact ⟨rfl, hbr⟩
end Go.Proofs.YtglkpgcmlbhkpabGreatDoor

/-
  lustrumlaw1.weightOf, Weight BY THEIR CONTRACTS: they answer a number; nothing changes.
-/
namespace Go.Proofs.YtglkpgcmlbhkpabGreatDoor
open Go.RowKit
attribute [local go_sem ↓] Go.wp_at_zero Go.wp_at_succ

/-- A number is answered. -/
def Numbers (w : World) (e : Ending) (w' : World) : Prop := (∃ k : Int, e = .returned (.int .i64 k)) ∧ Below w.heap.size w w'
/-- What is answered is this number. -/
def NumIs (k : Int) (w : World) (e : Ending) (w' : World) : Prop := e = .returned (.int .i64 k) ∧ Below w.heap.size w w'
abbrev WeighIs (k : Int) (op : ByteArray) (n : Int) (s : ByteArray) (l : List Ex) : Prop := ∀ (w : World) (S : Nat → Prop) (o : Option Addr) (c : Nat) (ys : List Value), RowAt w S 4 (.slice o l.length c) l.length ys → ExIn w S l ys →
    Calls Tryz.prog 16 #[.agg #[.string op, .int .i64 n, .string s, .slice o l.length c]] w (NumIs k w)
def accW (s0 : Int) (val : Nat → Int) : Nat → Int
  | 0 => s0
  | i + 1 => wrap64 (accW s0 val i + val i)
set_option maxRecDepth 100000 in
set_option maxHeartbeats 1000000 in
theorem weightOf_any : ∀ (m : Nat) (op : ByteArray) (n : Int) (s : ByteArray) (l : List Ex), SizeOf.sizeOf l < m → ∃ k, WeighIs k op n s l
  | 0 => fun _ _ _ _ h => absurd h (Nat.not_lt_zero _)
  | m + 1 => by
    intro op n s l hm
    obtain ⟨val, hval⟩ : ∃ val : Nat → Int, ∀ i (hi : i < l.length) (op : ByteArray) (n : Int) (s : ByteArray) (es : List Ex), l[i] = .mk op n s es → WeighIs (val i) op n s es := by
      refine Classical.axiomOfChoice (r := fun i k => ∀ (hi : i < l.length) (op : ByteArray) (n : Int) (s : ByteArray) (es : List Ex), l[i] = .mk op n s es → WeighIs k op n s es) (fun i => ?_)
      by_cases hi : i < l.length
      · obtain ⟨op, n, s, es, e⟩ : ∃ op n s es, l[i] = .mk op n s es := by
          cases h : l[i] with
          | mk op n s es => exact ⟨op, n, s, es, rfl⟩
        have hsp := size_part hi e
        obtain ⟨k, hk⟩ := weightOf_any m op n s es (by omega)
        refine ⟨k, fun hi' op' n' s' es' e' => ?_⟩
        rw [e] at e'
        injection e' with q1 q2 q3 q4
        subst q1 q2 q3 q4
        exact hk
      · exact ⟨0, fun hi' => absurd hi' hi⟩
    refine ⟨accW (wrap64 (1 + s.size)) val l.length, ?_⟩
    intro w S o c ys h1 h2
    have HV : Hid (∀ i (hi : i < l.length) (op : ByteArray) (n : Int) (s : ByteArray) (es : List Ex), l[i] = .mk op n s es → WeighIs (val i) op n s es) := hval
    have hl := h1.len
    unfold maxLen at hl
    have H1 : Hid (RowAt w S 4 (.slice o l.length c) l.length ys) := h1
    have H2 : Hid (ExIn w S l ys) := h2
    clear h1 h2 hval
    have hbA : Below w.heap.size w (w.alloc (reObj op n s (.slice o l.length c))) := (Below.refl _ _).alloc (Nat.le_refl _) _
    have HA : Hid _ := heap_alloc_new w (reObj op n s (.slice o l.length c))
    go_enter Tryz.func16, Tryz.ntmps16
    go_wp2
    go_loopw [3, 4] (fun v t wr => ∃ (i : Nat), i ≤ l.length ∧ t = .int .i64 i ∧ v = .int .i64 (accW (wrap64 (1 + s.size)) val i) ∧ Below w.heap.size w wr ∧ Hid (wr.heap[w.heap.size]? = some (reObj op n s (.slice o l.length c)))) (fun _ t _ => l.length - (intOf t).toNat)
    case atStart => exact ⟨0, Nat.zero_le _, rfl, rfl, hbA, HA⟩
    case round =>
      obtain ⟨i, hi, rfl, rfl, hb, HR⟩ := hrel
      obtain ⟨a0, a1, a2, a3, _⟩ := blk4 HR.out
      by_cases hlt : i < l.length
      · obtain ⟨op', n', s', es, oo, cc, zs, e, x0, x1, x2, x3, r1, r2⟩ := H2.out.at hlt
        obtain ⟨p, f, rfl, _, g⟩ := row_get H1.out (by have := H1.out.1; omega)
        have x0 := cell_keep hb (g _ _ x0)
        have x1 := cell_keep hb (g _ _ x1)
        have x2 := cell_keep hb (g _ _ x2)
        have x3 := cell_keep hb (g _ _ x3)
        rw [← Nat.add_assoc] at x1 x2 x3
        have i0' : (0 : Int) ≤ (i : Int) := by omega
        have i1 : (i : Int) < (l.length : Int) := by omega
        have Hr : Hid (Calls Tryz.prog 16 #[.agg #[.string op', .int .i64 n', .string s', .slice oo es.length cc]] wr (NumIs (val i) wr)) := HV.out i hlt op' n' s' es e wr S oo cc zs (r1.keep (Stays.below hb (fun k hk => hk))) (r2.keep (Stays.below hb (fun k hk => hk)))
        clear g e r1 r2
        go_wp2_with fail
        refine Hr.out.mono ?_
        rintro e w4 ⟨rfl, hb4⟩
        have HR4 : Hid _ := row_keep hb4 HR.out
        go_wp2
        exact ⟨⟨i + 1, by omega, by go_num, rfl, hb.trans (hb4.mono hb.size), HR4⟩, by simp [intOf]; omega⟩
      · obtain rfl : i = l.length := by omega
        go_wp2
        go_ret
        exact ⟨rfl, hb⟩
set_option maxRecDepth 100000 in
set_option maxHeartbeats 1000000 in
theorem weight_any (w : World) (S : Nat → Prop) (o : Option Addr) (c : Nat) (l : List Ex) (ys : List Value) (h1 : RowAt w S 5 (.slice o l.length c) l.length ys) (h2 : NdIn w S l ys) :
    Calls Tryz.prog 10 #[.slice o l.length c] w (Numbers w) := by
  have hl := h1.len
  unfold maxLen at hl
  have H1 : Hid (RowAt w S 5 (.slice o l.length c) l.length ys) := h1
  have H2 : Hid (NdIn w S l ys) := h2
  clear h1 h2
  go_enter Tryz.func10, Tryz.ntmps10
  go_wp2
  go_loopw [3, 4] (fun v t wr => ∃ (i : Nat) (x : Int), i ≤ l.length ∧ t = .int .i64 i ∧ v = .int .i64 x ∧ Below w.heap.size w wr) (fun _ t _ => l.length - (intOf t).toNat)
  case atStart => exact ⟨0, _, Nat.zero_le _, rfl, rfl, Below.refl _ _⟩
  case round =>
    obtain ⟨i, x, hi, rfl, rfl, hb⟩ := hrel
    rename World => wq
    by_cases hlt : i < l.length
    · obtain ⟨name, ins, outs, owns, qs, o1, c1, o2, c2, o3, c3, o4, c4, zs, e, m0, m1, m2, m3, m4, r1, r2, r3, r4, r5⟩ := H2.out.at hlt
      obtain ⟨p, f, rfl, _, g⟩ := row_get H1.out (by have := H1.out.1; omega)
      have HX : Hid (∀ w', Below w.heap.size w w' → w'.cell? ⟨p, f + i * 5, none⟩ = some (.string name) ∧ w'.cell? ⟨p, f + i * 5 + 1, none⟩ = some (.slice o1 ins.length c1) ∧ w'.cell? ⟨p, f + i * 5 + 2, none⟩ = some (.slice o2 outs.length c2) ∧ w'.cell? ⟨p, f + i * 5 + 3, none⟩ = some (.slice o3 owns.length c3) ∧ w'.cell? ⟨p, f + i * 5 + 4, none⟩ = some (.slice o4 qs.length c4)) := fun w' hb' => ⟨cell_keep hb' (g _ _ m0), by have := cell_keep hb' (g _ _ m1); rwa [← Nat.add_assoc] at this, by have := cell_keep hb' (g _ _ m2); rwa [← Nat.add_assoc] at this, by have := cell_keep hb' (g _ _ m3); rwa [← Nat.add_assoc] at this, by have := cell_keep hb' (g _ _ m4); rwa [← Nat.add_assoc] at this⟩
      obtain ⟨x0, x1, x2, x3, x4⟩ := HX.out wq hb
      have i0' : (0 : Int) ≤ (i : Int) := by omega
      have i1 : (i : Int) < (l.length : Int) := by omega
      have hq := r4.len
      unfold maxLen at hq
      have HR : Hid (RowAt w S 6 (.slice o4 qs.length c4) qs.length zs ∧ EqIn w S qs zs) := ⟨r4, r5⟩
      clear g m0 m1 m2 m3 m4 r1 r2 r3 r4 r5 e
      go_wp2
      go_quiet (fail)
      go_wp2
      go_loopw [3, 5] (fun v t wr => ∃ (k : Nat) (x : Int), k ≤ qs.length ∧ t = .int .i64 k ∧ v = .int .i64 x ∧ Below w.heap.size w wr) (fun _ t _ => qs.length - (intOf t).toNat)
      case atStart => exact ⟨0, _, Nat.zero_le _, rfl, rfl, below_drewN hb nq⟩
      case round =>
        obtain ⟨k, y, hk, rfl, rfl, hbk⟩ := hrel
        rename World => wk
        obtain ⟨x0, x1, x2, x3, x4⟩ := HX.out wk hbk
        by_cases hlk : k < qs.length
        · obtain ⟨kind, ns, no, nc, op, n, s, es, eo, ec, us, e, m0, m1, m2, m3, m4, m5, r1, r2, r3⟩ := HR.out.2.at hlk
          obtain ⟨p', f', rfl, _, g⟩ := row_get HR.out.1 (by have := HR.out.1.1; omega)
          have y0 := cell_keep hbk (g _ _ m0)
          have y1 := cell_keep hbk (g _ _ m1)
          have y2 := cell_keep hbk (g _ _ m2)
          have y3 := cell_keep hbk (g _ _ m3)
          have y4 := cell_keep hbk (g _ _ m4)
          have y5 := cell_keep hbk (g _ _ m5)
          rw [← Nat.add_assoc] at y1 y2 y3 y4 y5
          have k0' : (0 : Int) ≤ (k : Int) := by omega
          have k1 : (k : Int) < (qs.length : Int) := by omega
          obtain ⟨kw, hkw⟩ := weightOf_any _ op n s es (Nat.lt_succ_self _)
          have HE : Hid (∀ w', Below w.heap.size w w' → Calls Tryz.prog 16 #[.agg #[.string op, .int .i64 n, .string s, .slice eo es.length ec]] w' (NumIs kw w')) := fun w' hb' => hkw w' S eo ec us (r2.keep (Stays.below hb' (fun _ h => h))) (r3.keep (Stays.below hb' (fun _ h => h)))
          have HS : Hid (∀ w', Below w.heap.size w w' → w'.cell? ⟨p, f + i * 5 + 4, none⟩ = some (.slice (some ⟨p', f', none⟩) qs.length c4) ∧ w'.cell? ⟨p', f' + k * 6, none⟩ = some (.string kind) ∧ w'.cell? ⟨p', f' + k * 6 + 1, none⟩ = some (.slice no ns.length nc) ∧ w'.cell? ⟨p', f' + k * 6 + 2, none⟩ = some (.string op) ∧ w'.cell? ⟨p', f' + k * 6 + 3, none⟩ = some (.int .i64 n) ∧ w'.cell? ⟨p', f' + k * 6 + 4, none⟩ = some (.string s) ∧ w'.cell? ⟨p', f' + k * 6 + 5, none⟩ = some (.slice eo es.length ec) ∧ Below w.heap.size w w') := fun w' hb' => ⟨(HX.out w' hb').2.2.2.2, cell_keep hb' (g _ _ m0), by have := cell_keep hb' (g _ _ m1); rwa [← Nat.add_assoc] at this, by have := cell_keep hb' (g _ _ m2); rwa [← Nat.add_assoc] at this, by have := cell_keep hb' (g _ _ m3); rwa [← Nat.add_assoc] at this, by have := cell_keep hb' (g _ _ m4); rwa [← Nat.add_assoc] at this, by have := cell_keep hb' (g _ _ m5); rwa [← Nat.add_assoc] at this, hb'⟩
          clear g m0 m1 m2 m3 m4 m5 e hkw r1 r2 r3 HX HR H1 H2
          go_wp2
          go_region_held3 (fun w' => w'.cell? ⟨p, f + i * 5 + 4, none⟩ = some (.slice (some ⟨p', f', none⟩) qs.length c4) ∧ w'.cell? ⟨p', f' + k * 6, none⟩ = some (.string kind) ∧ w'.cell? ⟨p', f' + k * 6 + 1, none⟩ = some (.slice no ns.length nc) ∧ w'.cell? ⟨p', f' + k * 6 + 2, none⟩ = some (.string op) ∧ w'.cell? ⟨p', f' + k * 6 + 3, none⟩ = some (.int .i64 n) ∧ w'.cell? ⟨p', f' + k * 6 + 4, none⟩ = some (.string s) ∧ w'.cell? ⟨p', f' + k * 6 + 5, none⟩ = some (.slice eo es.length ec) ∧ Below w.heap.size w w')
            (first | exact HS.out _ hbk.drew | (go_split_ands; first | exact ⟨‹_›, ‹_›, ‹_›, ‹_›, ‹_›, ‹_›, ‹_›, ‹_›⟩ | exact HS.out _ (Below.trans ‹Below w.heap.size w _› (hbn.mono (Below.size ‹Below w.heap.size w _›)))))
            ((go_at_call 16; refine (HE.out _ ?_).mono ?_; (go_split_ands; exact ‹_›); rintro e w'' ⟨rfl, hbn⟩))
          go_split_ands
          go_wp2
          exact ⟨⟨k + 1, _, by omega, by go_num, rfl, ‹Below w.heap.size w _›⟩, by simp [intOf]; omega⟩
        · go_wp2
          exact ⟨⟨i + 1, _, by omega, by go_num, rfl, hbk⟩, by simp [intOf]; omega⟩
    · go_wp2
      go_ret
      exact ⟨⟨_, rfl⟩, hb⟩
end Go.Proofs.YtglkpgcmlbhkpabGreatDoor

/-
  THE CONTRACTS OF Go's LIBRARY THAT THE PROOFS TAKE (strconv.Itoa), laid at this program's numbers.
-/
namespace Go.Proofs
open Go.Shelf
def Tryz.laysM171_ren : Go.Shelf.Ren := ⟨fun | 171 => 225 | 243 => 239 | 246 => 243 | 283 => 248 | 284 => 249 | 285 => 250 | 286 => 251 | 129 => 254 | 317 => 253 | 318 => 255 | 319 => 256 | 320 => 257 | 337 => 259 | 338 => 260 | n => n, fun | 3 => 3 | 9 => 9 | 2 => 2 | 4 => 4 | 171 => 329 | 0 => 0 | 53 => 316 | 37 => 87 | 5 => 5 | 173 => 332 | 212 => 335 | 51 => 336 | 20 => 20 | 213 => 337 | 46 => 319 | 232 => 341 | 233 => 342 | n => n, fun | 17 => 13 | 18 => 14 | 19 => 15 | n => n⟩
theorem Tryz.laysM171 : Go.Proofs.LaysM.n171 Tryz.prog Tryz.laysM171_ren := {
  mixed := by kernel_rfl
  f129 := Tryz.func254.trans (congrArg some (by kernel_rfl))
  f171 := Tryz.func225.trans (congrArg some (by kernel_rfl))
  f243 := Tryz.func239.trans (congrArg some (by kernel_rfl))
  f246 := Tryz.func243.trans (congrArg some (by kernel_rfl))
  f283 := Tryz.func248.trans (congrArg some (by kernel_rfl))
  f284 := Tryz.func249.trans (congrArg some (by kernel_rfl))
  f285 := Tryz.func250.trans (congrArg some (by kernel_rfl))
  f286 := Tryz.func251.trans (congrArg some (by kernel_rfl))
  f317 := Tryz.func253.trans (congrArg some (by kernel_rfl))
  f318 := Tryz.func255.trans (congrArg some (by kernel_rfl))
  f319 := Tryz.func256.trans (congrArg some (by kernel_rfl))
  f320 := Tryz.func257.trans (congrArg some (by kernel_rfl))
  f337 := Tryz.func259.trans (congrArg some (by kernel_rfl))
  f338 := Tryz.func260.trans (congrArg some (by kernel_rfl))
  t0 := Tryz.underlying0
  a0 := Tryz.isAgg0
  z0 := Tryz.sizeOf0
  v0 := Tryz.zeroValue0
  t2 := Tryz.underlying2
  a2 := Tryz.isAgg2
  z2 := Tryz.sizeOf2
  v2 := Tryz.zeroValue2
  t3 := Tryz.underlying3
  a3 := Tryz.isAgg3
  z3 := Tryz.sizeOf3
  v3 := Tryz.zeroValue3
  t4 := Tryz.underlying4
  a4 := Tryz.isAgg4
  z4 := Tryz.sizeOf4
  v4 := Tryz.zeroValue4
  t5 := Tryz.underlying5
  a5 := Tryz.isAgg5
  z5 := Tryz.sizeOf5
  v5 := Tryz.zeroValue5
  t9 := Tryz.underlying9
  a9 := Tryz.isAgg9
  z9 := Tryz.sizeOf9
  v9 := Tryz.zeroValue9
  t20 := Tryz.underlying20
  a20 := Tryz.isAgg20
  z20 := Tryz.sizeOf20
  v20 := Tryz.zeroValue20
  t37 := Tryz.underlying87
  a37 := Tryz.isAgg87
  z37 := Tryz.sizeOf87
  v37 := Tryz.zeroValue87
  t46 := Tryz.underlying319
  a46 := Tryz.isAgg319
  z46 := Tryz.sizeOf319
  v46 := Tryz.zeroValue319
  t51 := Tryz.underlying336
  a51 := Tryz.isAgg336
  z51 := Tryz.sizeOf336
  v51 := Tryz.zeroValue336
  t53 := Tryz.underlying316
  a53 := Tryz.isAgg316
  z53 := Tryz.sizeOf316
  v53 := Tryz.zeroValue316
  t171 := Tryz.underlying329
  a171 := Tryz.isAgg329
  z171 := Tryz.sizeOf329
  v171 := Tryz.zeroValue329
  t173 := Tryz.underlying332
  a173 := Tryz.isAgg332
  z173 := Tryz.sizeOf332
  v173 := Tryz.zeroValue332
  t212 := Tryz.underlying335
  a212 := Tryz.isAgg335
  z212 := Tryz.sizeOf335
  v212 := Tryz.zeroValue335
  t213 := Tryz.underlying337
  a213 := Tryz.isAgg337
  z213 := Tryz.sizeOf337
  t232 := Tryz.underlying341
  a232 := Tryz.isAgg341
  z232 := Tryz.sizeOf341
  v232 := Tryz.zeroValue341
  t233 := Tryz.underlying342
  a233 := Tryz.isAgg342
  z233 := Tryz.sizeOf342
  v233 := Tryz.zeroValue342
  g17 := by kernel_rfl
  g18 := by kernel_rfl
  g19 := by kernel_rfl
  i0 := by kernel_rfl
  i2 := by kernel_rfl
  i3 := by kernel_rfl
  i4 := by kernel_rfl
  i5 := by kernel_rfl
  i9 := by kernel_rfl
  i20 := by kernel_rfl
  i37 := by kernel_rfl
  i46 := by kernel_rfl
  i51 := by kernel_rfl
  i53 := by kernel_rfl
  i171 := by kernel_rfl
  i173 := by kernel_rfl
  i212 := by kernel_rfl
  i232 := by kernel_rfl
  i233 := by kernel_rfl
  m17 := by kernel_rfl
  m18 := by kernel_rfl
  m19 := by kernel_rfl }
open Go.RowKit Go.Sort Go.Lib in
theorem Tryz.strconv_Itoa (n : Int) (h0 : -9223372036854775808 ≤ n) (h1 : n ≤ 9223372036854775807) (w : World) (htab : Lib.TabIs Tryz.prog w "internal/strconv.uint64pow10" .u64 Lib.pow10Tab) :
    Calls Tryz.prog 225 #[.int .i64 n] w fun e w' => e = .returned (.string ⟨(Lib.itoa n).toArray⟩) ∧ ∃ k os, w' = grow (w.drewN k) os := Any.strconv_Itoa Tryz.laysM171 n h0 h1 w htab
end Go.Proofs

/-
  package tree's WRITER: fail, put, between, kind BY THEIR CONTRACTS, where nothing is known of the texts: it writes on, or it gives up.
-/
namespace Go.Proofs.YtglkpgcmlbhkpabGreatDoor
open Go.RowKit
attribute [local go_sem ↓] Go.wp_at_zero Go.wp_at_succ

/-- The writer has given up. -/
def WThrew (pS : Addr) (e : Ending) : Prop := e = .panicked [{ v := .iface 165 (.agg #[.iface 325 (.pointer (some pS))]), recovered := false }]
/-- It writes on, or it gives up. -/
def WAny (B b d : Nat) (pS : Addr) (w : World) (e : Ending) (w' : World) : Prop := Below B w w' ∧ Kept b w w' ∧ ((∃ l, e = .returned (.tuple #[]) ∧ WT B b l d w' ∧ l.length ≤ 6000) ∨ WThrew pS e)
/-- The table of strconv lies as it is. -/
def TabAt (w : World) : Prop := Lib.TabIs Tryz.prog w "internal/strconv.uint64pow10" .u64 Lib.pow10Tab
theorem Tryz.tabNamed : Tryz.prog.globalNamed "internal/strconv.uint64pow10" = some 13 := by kernel_rfl
theorem TabAt.keep {w w' : World} (h : TabAt w) (hb : w'.heap[13]? = w.heap[13]?) : TabAt w' := by
  unfold TabAt Lib.TabIs World.var? at h ⊢
  rw [Tryz.tabNamed] at h ⊢
  simp only [Option.bind_some] at h ⊢
  rw [hb]
  exact h
/-- A writer at work, and the error that it gives up with. -/
structure WSt (B b d : Nat) (pS : Addr) (w : World) : Prop where
  wt : ∃ l, WT B b l d w ∧ l.length ≤ 6000
  err : w.cell? ⟨0, 0, none⟩ = some (.iface 325 (.pointer (some pS)))
  low : 0 < B
  tab : TabAt w
  low2 : 13 < B
theorem WSt.lt {B b d : Nat} {pS : Addr} {w : World} (h : WSt B b d pS w) : b < w.heap.size := by obtain ⟨l, h, _⟩ := h.wt; exact h.lt
theorem WSt.le {B b d : Nat} {pS : Addr} {w : World} (h : WSt B b d pS w) : B ≤ b := by obtain ⟨l, h, _⟩ := h.wt; exact h.le
theorem WSt.alloc {B b d : Nat} {pS : Addr} {w : World} (h : WSt B b d pS w) (o : Obj) : WSt B b d pS (w.alloc o) := by
  have hl := h.lt
  have hB := h.le
  obtain ⟨⟨l, h1, h2⟩, h3, h4, h5, h6⟩ := h
  exact ⟨⟨l, h1.alloc _, h2⟩, cell_keep ((Below.refl _ _).alloc (Nat.le_refl _) _) h3, h4, h5.keep (((Below.refl _ _).alloc (Nat.le_refl w.heap.size) _).block _ (by omega)), h6⟩
theorem WSt.next {B b d e : Nat} {pS : Addr} {w w' : World} {l : List UInt8} (h : WSt B b d pS w) (hb : Below B w w') (h1 : WT B b l e w') (h2 : l.length ≤ 6000) : WSt B b e pS w' :=
  ⟨⟨l, h1, h2⟩, by rw [World.cell?_of_block (w := w) (hb.block _ h.low)]; exact h.err, h.low, h.tab.keep (hb.block _ h.low2), h.low2⟩
set_option maxRecDepth 100000 in
set_option maxHeartbeats 1000000 in
theorem wfail_any (b : Nat) (pS : Addr) (w : World) (h : w.cell? ⟨0, 0, none⟩ = some (.iface 325 (.pointer (some pS)))) :
    Calls Tryz.prog 180 #[.pointer (some ⟨b, 0, none⟩)] w fun e w' => WThrew pS e ∧ w' = w := by
  go_enter Tryz.func180, Tryz.ntmps180
  go_wp2
  exact ⟨rfl, rfl, rfl⟩
set_option maxRecDepth 100000 in
set_option maxHeartbeats 1000000 in
theorem put_any (B b d : Nat) (pS : Addr) (w : World) (q : Nat) (xs : List ByteArray) (n : Nat) (hn : xs.length = n) (h : WSt B b d pS w) (hq : w.heap[q]? = some (.cells (xs.map Value.string).toArray 9 (0, 0))) (hqb : q ≠ b) (hn1 : n ≤ 1000) :
    Calls Tryz.prog 129 #[.pointer (some ⟨b, 0, none⟩), .slice (some ⟨q, 0, none⟩) n n] w fun e w' => WAny B b d pS w e w' := by
  subst hn
  have HQ : Hid (w.heap[q]? = some (.cells (xs.map Value.string).toArray 9 (0, 0))) := hq
  have hB := h.le
  have hlt := h.lt
  clear hq
  go_enter Tryz.func129, Tryz.ntmps129
  go_wp2
  go_loopw [8] (fun t wr => ∃ i : Nat, i ≤ xs.length ∧ t = .int .i64 i ∧ WSt B b d pS wr ∧ Below B w wr ∧ Kept b w wr) (fun t _ => xs.length - (intOf t).toNat)
  case atStart => exact ⟨0, Nat.zero_le _, rfl, h, Below.refl _ _, Lib.OthersKept.refl _ _ _⟩
  case round =>
    obtain ⟨i, hi, rfl, hr, hb, hk⟩ := hrel
    by_cases hl : i < xs.length
    · have hqr := hk q _ HQ.out (by simpa using hqb) (by intro c fz e; injection e with _ e; exact absurd e (by decide))
      have c0 : wr.cell? ⟨q, i, none⟩ = some (.string xs[i]) := by simp [World.cell?, hqr, hl]
      have i0 : (0 : Int) ≤ (i : Int) := by omega
      have i1 : (i : Int) < (xs.length : Int) := by omega
      obtain ⟨l, hw, hl6⟩ := hr.wt
      have hel : (Lib.byteCells l).length = l.length := Lib.byteCells_length l
      have c2 := Wr.most hw
      have hc := hr.err
      clear hqr
      by_cases h6 : 6000 < l.length + xs[i].size
      · have e5 : (6000 : Int) - ((Lib.byteCells l).length : Int) < (xs[i].size : Int) := by omega
        go_wp2_with fail
        go_quiet (exact Calls.quiet_of_same (wlen_any B b _ d _ (Wr.drewN hw _)))
        go_wp2_with fail
        refine (wfail_any b pS (wr.drewN nq) hc).mono ?_
        rintro e w3 ⟨rfl, rfl⟩
        go_wp2
        exact ⟨rfl, below_drewN hb nq, hk, Or.inr rfl⟩
      · have e5 : ¬ ((6000 : Int) - ((Lib.byteCells l).length : Int) < (xs[i].size : Int)) := by omega
        have hBw : B ≤ wr.heap.size := Nat.le_trans hB (Nat.le_of_lt hw.lt)
        go_wp2_with fail
        go_quiet (exact Calls.quiet_of_same (wlen_any B b _ d _ (Wr.drewN hw _)))
        go_wp2_with fail
        refine (wstr_any B b _ d xs[i] (wr.drewN nq) (Wr.drewN hw nq) (by omega) hBw).mono ?_
        rintro e w3 ⟨rfl, hr3, hb3', hk3'⟩
        have hb3 : Below B wr w3 := (below_drewN (Below.refl B wr) nq).trans hb3'
        have hk3 : Kept b wr w3 := hk3'
        have hr3' : WT B b (l ++ xs[i].data.toList) d w3 := by
          show Wr B b (Lib.byteCells (l ++ xs[i].data.toList)) d w3
          rw [byteCells_append]
          exact hr3
        have hlen : (l ++ xs[i].data.toList).length ≤ 6000 := by
          have : xs[i].data.toList.length = xs[i].size := rfl
          rw [List.length_append]; omega
        go_wp2
        exact ⟨⟨i + 1, by omega, by go_num, hr.next hb3 hr3' hlen, hb.trans hb3, hk.trans hk3⟩, by simp [intOf]; omega⟩
    · obtain ⟨l, hw, hl6⟩ := hr.wt
      go_wp2
      go_end0
      exact ⟨hb, hk, Or.inl ⟨l, rfl, hw, hl6⟩⟩
end Go.Proofs.YtglkpgcmlbhkpabGreatDoor
