/-
  lustrumref1.SameNodes BY ITS CONTRACT: what holds the same is the same.
-/
import Derived.Test.YtomgimfmcfjhdaaGreatDoorP27
import Derived.Deep.RegionHeld3
namespace Go.Proofs.YtomgimfmcfjhdaaGreatDoor
open Go.RowKit
attribute [local go_sem ↓] Go.wp_at_zero Go.wp_at_succ

set_option maxRecDepth 100000 in
set_option maxHeartbeats 2000000 in
theorem sameNodes_any (w : World) (S S' : Nat → Prop) (o o' : Option Addr) (c c' : Nat) (l : List Ex) (ys ys' : List Value) (h1 : RowAt w S 5 (.slice o l.length c) l.length ys) (h2 : NdIn w S l ys) (h3 : RowAt w S' 5 (.slice o' l.length c') l.length ys') (h4 : NdIn w S' l ys') :
    Calls Tryz.prog 16 #[.slice o l.length c, .slice o' l.length c'] w fun e w' => e = .returned (.bool true) ∧ Below w.heap.size w w' := by
  have hl := h1.len
  unfold maxLen at hl
  have H1 : Hid (RowAt w S 5 (.slice o l.length c) l.length ys) := h1
  have H2 : Hid (NdIn w S l ys) := h2
  have H3 : Hid (RowAt w S' 5 (.slice o' l.length c') l.length ys') := h3
  have H4 : Hid (NdIn w S' l ys') := h4
  clear h1 h2 h3 h4
  go_enter Tryz.func16, Tryz.ntmps16
  go_wp2
  go_loopw [5] (fun t wr => ∃ i : Nat, i ≤ l.length ∧ t = .int .i64 i ∧ Below w.heap.size w wr) (fun t _ => l.length - (intOf t).toNat)
  case atStart => exact ⟨0, Nat.zero_le _, rfl, Below.refl _ _⟩
  case round =>
    obtain ⟨i, hi, rfl, hbr⟩ := hrel
    rename World => wq
    by_cases hlt : i < l.length
    · obtain ⟨name, ins, outs, owns, qs, o1, c1, o2, c2, o3, c3, o4, c4, zs, e, m0, m1, m2, m3, m4, r1, r2, r3, r4, r5⟩ := H2.out.at hlt
      obtain ⟨name', ins', outs', owns', qs', o1', c1', o2', c2', o3', c3', o4', c4', zs', e', n0, n1, n2, n3, n4, q1, q2, q3, q4, q5⟩ := H4.out.at hlt
      rw [e] at e'
      simp only [Ex.mk.injEq, lst, List.cons.injEq, and_true, true_and] at e'
      obtain ⟨rfl, rfl, rfl, rfl, rfl⟩ := e'
      obtain ⟨p, f, rfl, _, g⟩ := row_get H1.out (by have := H1.out.1; omega)
      obtain ⟨p', f', rfl, _, g'⟩ := row_get H3.out (by have := H3.out.1; omega)
      have x0 := cell_keep hbr (g _ _ m0)
      have x1 := cell_keep hbr (g _ _ m1)
      have x2 := cell_keep hbr (g _ _ m2)
      have x3 := cell_keep hbr (g _ _ m3)
      have x4 := cell_keep hbr (g _ _ m4)
      have y0 := cell_keep hbr (g' _ _ n0)
      have y1 := cell_keep hbr (g' _ _ n1)
      have y2 := cell_keep hbr (g' _ _ n2)
      have y3 := cell_keep hbr (g' _ _ n3)
      have y4 := cell_keep hbr (g' _ _ n4)
      rw [← Nat.add_assoc] at x1 x2 x3 x4 y1 y2 y3 y4
      clear m0 m1 m2 m3 m4 n0 n1 n2 n3 n4
      have i0 : (0 : Int) ≤ (i : Int) := by omega
      have i1 : (i : Int) < (l.length : Int) := by omega
      have hpl : p' < wq.heap.size := lt_of_cell y0
      have hbA : Below wq.heap.size wq ((wq.alloc (.cells #[.string name, .slice o1 ins.length c1, .slice o2 outs.length c2, .slice o3 owns.length c3, .slice o4 qs.length c4] 86)).alloc (.cells #[.string name, .slice o1' ins.length c1', .slice o2' outs.length c2', .slice o3' owns.length c3', .slice o4' qs.length c4'] 86)) := ((Below.refl _ _).alloc (Nat.le_refl _) _).alloc (by simp) _
      have HA : Hid (((wq.alloc (.cells #[.string name, .slice o1 ins.length c1, .slice o2 outs.length c2, .slice o3 owns.length c3, .slice o4 qs.length c4] 86)).alloc (.cells #[.string name, .slice o1' ins.length c1', .slice o2' outs.length c2', .slice o3' owns.length c3', .slice o4' qs.length c4'] 86)).heap[wq.heap.size]? = some (.cells #[.string name, .slice o1 ins.length c1, .slice o2 outs.length c2, .slice o3 owns.length c3, .slice o4 qs.length c4] 86)) := alloc_row _ (heap_alloc_new wq _)
      have HB : Hid (((wq.alloc (.cells #[.string name, .slice o1 ins.length c1, .slice o2 outs.length c2, .slice o3 owns.length c3, .slice o4 qs.length c4] 86)).alloc (.cells #[.string name, .slice o1' ins.length c1', .slice o2' outs.length c2', .slice o3' owns.length c3', .slice o4' qs.length c4'] 86)).heap[wq.heap.size + 1]? = some (.cells #[.string name, .slice o1' ins.length c1', .slice o2' outs.length c2', .slice o3' owns.length c3', .slice o4' qs.length c4'] 86)) := two_new wq _ _
      have hbW : Below w.heap.size w ((wq.alloc (.cells #[.string name, .slice o1 ins.length c1, .slice o2 outs.length c2, .slice o3 owns.length c3, .slice o4 qs.length c4] 86)).alloc (.cells #[.string name, .slice o1' ins.length c1', .slice o2' outs.length c2', .slice o3' owns.length c3', .slice o4' qs.length c4'] 86)) := hbr.trans (hbA.mono hbr.size)
      have St : ∀ {S : Nat → Prop} {n : Nat}, Stays S S w (((wq.alloc (.cells #[.string name, .slice o1 ins.length c1, .slice o2 outs.length c2, .slice o3 owns.length c3, .slice o4 qs.length c4] 86)).alloc (.cells #[.string name, .slice o1' ins.length c1', .slice o2' outs.length c2', .slice o3' owns.length c3', .slice o4' qs.length c4'] 86)).drewN n) := fun {_ n} => Stays.below (below_drewN hbW n) (fun _ hk => hk)
      have R1 := r1.keep (St (n := 0))
      have Q1 := q1.keep (St (n := 0))
      have hql := r4.len
      unfold maxLen at hql
      go_wp2_with fail
      refine (sameVars_any _ S S' _ _ _ _ ins R1 Q1).mono ?_
      rintro e w1 ⟨rfl, k1, rfl⟩
      go_wp2_with fail
      refine (sameVars_any _ S S' _ _ _ _ outs (r2.keep (Stays.below (below_drewN hbW k1) (fun _ hk => hk))) (q2.keep (Stays.below (below_drewN hbW k1) (fun _ hk => hk)))).mono ?_
      rintro e w1 ⟨rfl, k2, rfl⟩
      go_wp2_with fail
      refine (sameVars_any _ S S' _ _ _ _ owns (r3.keep (Stays.below (below_drewN hbW _) (fun _ hk => hk))) (q3.keep (Stays.below (below_drewN hbW _) (fun _ hk => hk)))).mono ?_
      rintro e w1 ⟨rfl, k3, rfl⟩
      have hb0 : ∀ n, Below (wq.heap.size + 1 + 1) ((wq.alloc (.cells #[.string name, .slice o1 ins.length c1, .slice o2 outs.length c2, .slice o3 owns.length c3, .slice o4 qs.length c4] 86)).alloc (.cells #[.string name, .slice o1' ins.length c1', .slice o2' outs.length c2', .slice o3' owns.length c3', .slice o4' qs.length c4'] 86)) (((wq.alloc (.cells #[.string name, .slice o1 ins.length c1, .slice o2 outs.length c2, .slice o3 owns.length c3, .slice o4 qs.length c4] 86)).alloc (.cells #[.string name, .slice o1' ins.length c1', .slice o2' outs.length c2', .slice o3' owns.length c3', .slice o4' qs.length c4'] 86)).drewN n) := fun n => below_drewN (Below.refl _ _) n
      clear R1 Q1 r1 r2 r3 q1 q2 q3 x0 x1 x2 x3 x4 y0 y1 y2 y3 y4 g g' St
      have HR : Hid (RowAt w S 6 (.slice o4 qs.length c4) qs.length zs ∧ EqIn w S qs zs) := ⟨r4, r5⟩
      have HQ : Hid (RowAt w S' 6 (.slice o4' qs.length c4') qs.length zs' ∧ EqIn w S' qs zs') := ⟨q4, q5⟩
      clear r4 r5 q4 q5
      go_wp2
      go_loopw [8] (fun t wk => ∃ k : Nat, k ≤ qs.length ∧ t = .int .i64 k ∧ Below (wq.heap.size + 1 + 1) ((wq.alloc (.cells #[.string name, .slice o1 ins.length c1, .slice o2 outs.length c2, .slice o3 owns.length c3, .slice o4 qs.length c4] 86)).alloc (.cells #[.string name, .slice o1' ins.length c1', .slice o2' outs.length c2', .slice o3' owns.length c3', .slice o4' qs.length c4'] 86)) wk) (fun t _ => qs.length - (intOf t).toNat)
      case atStart => exact ⟨0, Nat.zero_le _, rfl, hb0 _⟩
      case round =>
        clear hb0
        obtain ⟨k, hk, rfl, hbk⟩ := hrel
        have hbk' : Below ((wq.alloc (.cells #[.string name, .slice o1 ins.length c1, .slice o2 outs.length c2, .slice o3 owns.length c3, .slice o4 qs.length c4] 86)).alloc (.cells #[.string name, .slice o1' ins.length c1', .slice o2' outs.length c2', .slice o3' owns.length c3', .slice o4' qs.length c4'] 86)).heap.size ((wq.alloc (.cells #[.string name, .slice o1 ins.length c1, .slice o2 outs.length c2, .slice o3 owns.length c3, .slice o4 qs.length c4] 86)).alloc (.cells #[.string name, .slice o1' ins.length c1', .slice o2' outs.length c2', .slice o3' owns.length c3', .slice o4' qs.length c4'] 86)) wr := by simpa using hbk
        have hbw : Below w.heap.size w wr := hbW.trans (hbk.mono (by have := hbr.size; omega))
        have a4 := (blk5 (row_keep hbk' HA.out)).2.2.2.2.1
        have b4 := (blk5 (row_keep hbk' HB.out)).2.2.2.2.1
        by_cases hlk : k < qs.length
        · obtain ⟨kind, ns, no, nc, op, x, tx, es, eo, ec, us, e, x0, x1, x2, x3, x4, x5, r1, r2, r3⟩ := HR.out.2.at hlk
          obtain ⟨kind', ns', no', nc', op', x', tx', es', eo', ec', us', e', y0, y1, y2, y3, y4, y5, q1, q2, q3⟩ := HQ.out.2.at hlk
          rw [e] at e'
          simp only [Ex.mk.injEq, lst, List.cons.injEq, and_true, true_and] at e'
          obtain ⟨rfl, rfl, rfl, rfl, rfl, rfl⟩ := e'
          obtain ⟨p1, f1, rfl, _, g⟩ := row_get HR.out.1 (by have := HR.out.1.1; omega)
          obtain ⟨p2, f2, rfl, _, g'⟩ := row_get HQ.out.1 (by have := HQ.out.1.1; omega)
          have x0 := cell_keep hbw (g _ _ x0)
          have y0 := cell_keep hbw (g' _ _ y0)
          have x1 := cell_keep hbw (g _ _ x1)
          have y1 := cell_keep hbw (g' _ _ y1)
          have x2 := cell_keep hbw (g _ _ x2)
          have y2 := cell_keep hbw (g' _ _ y2)
          have x3 := cell_keep hbw (g _ _ x3)
          have y3 := cell_keep hbw (g' _ _ y3)
          have x4 := cell_keep hbw (g _ _ x4)
          have y4 := cell_keep hbw (g' _ _ y4)
          have x5 := cell_keep hbw (g _ _ x5)
          have y5 := cell_keep hbw (g' _ _ y5)
          rw [← Nat.add_assoc] at x1 x2 x3 x4 x5 y1 y2 y3 y4 y5
          have k0 : (0 : Int) ≤ (k : Int) := by omega
          have k1' : (k : Int) < (qs.length : Int) := by omega
          have HS : Hid (∀ w', Below wr.heap.size wr w' → w'.cell? ⟨wq.heap.size, 4, none⟩ = some (.slice (some ⟨p1, f1, none⟩) qs.length c4) ∧ w'.cell? ⟨wq.heap.size + 1, 4, none⟩ = some (.slice (some ⟨p2, f2, none⟩) qs.length c4') ∧ w'.cell? ⟨p1, f1 + k * 6, none⟩ = some (.string kind) ∧ w'.cell? ⟨p1, f1 + k * 6 + 1, none⟩ = some (.slice no ns.length nc) ∧ w'.cell? ⟨p1, f1 + k * 6 + 2, none⟩ = some (.string op) ∧ w'.cell? ⟨p1, f1 + k * 6 + 3, none⟩ = some (.int .i64 x) ∧ w'.cell? ⟨p1, f1 + k * 6 + 4, none⟩ = some (.string tx) ∧ w'.cell? ⟨p1, f1 + k * 6 + 5, none⟩ = some (.slice eo es.length ec) ∧ w'.cell? ⟨p2, f2 + k * 6, none⟩ = some (.string kind) ∧ w'.cell? ⟨p2, f2 + k * 6 + 1, none⟩ = some (.slice no' ns.length nc') ∧ w'.cell? ⟨p2, f2 + k * 6 + 2, none⟩ = some (.string op) ∧ w'.cell? ⟨p2, f2 + k * 6 + 3, none⟩ = some (.int .i64 x) ∧ w'.cell? ⟨p2, f2 + k * 6 + 4, none⟩ = some (.string tx) ∧ w'.cell? ⟨p2, f2 + k * 6 + 5, none⟩ = some (.slice eo' es.length ec') ∧ Below wr.heap.size wr w') := fun w' hb => ⟨cell_keep hb a4, cell_keep hb b4, cell_keep hb x0, cell_keep hb x1, cell_keep hb x2, cell_keep hb x3, cell_keep hb x4, cell_keep hb x5, cell_keep hb y0, cell_keep hb y1, cell_keep hb y2, cell_keep hb y3, cell_keep hb y4, cell_keep hb y5, hb⟩
          have HT : Hid (∀ w', Below wr.heap.size wr w' → Calls Tryz.prog 41 #[.slice no ns.length nc, .slice no' ns.length nc'] w' fun e w'' => e = .returned (.bool true) ∧ Below w'.heap.size w' w'') := fun w' hb => (sameTexts_any w' S S' _ _ _ _ ns (r1.keep (Stays.below (hbw.trans (hb.mono hbw.size)) (fun _ h => h))) (q1.keep (Stays.below (hbw.trans (hb.mono hbw.size)) (fun _ h => h)))).mono (by rintro e w'' ⟨rfl, k, rfl⟩; exact ⟨rfl, below_drewN (Below.refl _ _) k⟩)
          have HE : Hid (∀ w', Below wr.heap.size wr w' → Calls Tryz.prog 42 #[.agg #[.string op, .int .i64 x, .string tx, .slice eo es.length ec], .agg #[.string op, .int .i64 x, .string tx, .slice eo' es.length ec']] w' fun e w'' => e = .returned (.bool true) ∧ Below w'.heap.size w' w'') := fun w' hb => sameExpr_any _ op x tx es (Nat.lt_succ_self _) w' S S' _ _ _ _ us us' (r2.keep (Stays.below (hbw.trans (hb.mono hbw.size)) (fun _ h => h))) (r3.keep (Stays.below (hbw.trans (hb.mono hbw.size)) (fun _ h => h))) (q2.keep (Stays.below (hbw.trans (hb.mono hbw.size)) (fun _ h => h))) (q3.keep (Stays.below (hbw.trans (hb.mono hbw.size)) (fun _ h => h)))
          clear g g' r1 r2 r3 q1 q2 q3 hbA hbW H1 H2 H3 H4 HA HB hbw HR HQ
          go_wp2
          go_region_held3 (fun w' => w'.cell? ⟨wq.heap.size, 4, none⟩ = some (.slice (some ⟨p1, f1, none⟩) qs.length c4) ∧ w'.cell? ⟨wq.heap.size + 1, 4, none⟩ = some (.slice (some ⟨p2, f2, none⟩) qs.length c4') ∧ w'.cell? ⟨p1, f1 + k * 6, none⟩ = some (.string kind) ∧ w'.cell? ⟨p1, f1 + k * 6 + 1, none⟩ = some (.slice no ns.length nc) ∧ w'.cell? ⟨p1, f1 + k * 6 + 2, none⟩ = some (.string op) ∧ w'.cell? ⟨p1, f1 + k * 6 + 3, none⟩ = some (.int .i64 x) ∧ w'.cell? ⟨p1, f1 + k * 6 + 4, none⟩ = some (.string tx) ∧ w'.cell? ⟨p1, f1 + k * 6 + 5, none⟩ = some (.slice eo es.length ec) ∧ w'.cell? ⟨p2, f2 + k * 6, none⟩ = some (.string kind) ∧ w'.cell? ⟨p2, f2 + k * 6 + 1, none⟩ = some (.slice no' ns.length nc') ∧ w'.cell? ⟨p2, f2 + k * 6 + 2, none⟩ = some (.string op) ∧ w'.cell? ⟨p2, f2 + k * 6 + 3, none⟩ = some (.int .i64 x) ∧ w'.cell? ⟨p2, f2 + k * 6 + 4, none⟩ = some (.string tx) ∧ w'.cell? ⟨p2, f2 + k * 6 + 5, none⟩ = some (.slice eo' es.length ec') ∧ Below wr.heap.size wr w')
            (first | exact HS.out _ (Below.refl _ _).drew | (go_split_ands; first | exact ⟨‹_›, ‹_›, ‹_›, ‹_›, ‹_›, ‹_›, ‹_›, ‹_›, ‹_›, ‹_›, ‹_›, ‹_›, ‹_›, ‹_›, ‹_›⟩ | exact HS.out _ (Below.trans ‹Below wr.heap.size wr _› (hbn.mono (Below.size ‹Below wr.heap.size wr _›)))))
            (first
              | (go_at_call 41; refine (HT.out _ ?_).mono ?_; (go_split_ands; exact ‹_›); rintro e w'' ⟨rfl, hbn⟩)
              | (go_at_call 42; refine (HE.out _ ?_).mono ?_; (go_split_ands; exact ‹_›); rintro e w'' ⟨rfl, hbn⟩))
          go_split_ands
          have hsz := hbk.size
          simp only [World.size_alloc] at hsz
          go_wp2
          exact ⟨⟨k + 1, by omega, by go_num, hbk.trans (Below.mono ‹Below wr.heap.size wr _› hsz)⟩, by simp [intOf]; omega⟩
        · go_wp2
          exact ⟨⟨i + 1, by omega, by go_num, hbw⟩, by simp [intOf]; omega⟩
    · go_wp2
      go_ret
      exact ⟨rfl, hbr⟩
end Go.Proofs.YtomgimfmcfjhdaaGreatDoor
