/-
  THE DOCUMENT's MODEL OF A GRAPH: Eval BY CONTRACT.
-/
import Derived.Test.YtbbakcpflckbnaaDoorGrL
import Derived.Test.YtbbakcpflckbnaaDoorMoB
import Derived.BigRegion
import Derived.Deep.DeepCutAuto
import Derived.Deep.CutBlock
namespace Go.Proofs.YtbbakcpflckbnaaDoor
open Go.RowKit Go.Maps

set_option maxRecDepth 100000 in
set_option maxHeartbeats 4000000 in
theorem meval_any {M : Nat} {gs : List (Int × Int)} {ins : Nat} {E : Nat → Prop} {w : World} (hgs : Gs gs) (h : MoAt M gs ins E w) (hl : gs.length ≤ 1000) (v : Value) (inp : List Bool) (hv : BoolsAt w v inp) (hc : cntI gs = inp.length) (x : Int) (hx : HasL gs x) :
    Calls Tryd.prog 15 #[.pointer (some ⟨M, 0, none⟩), v, .int .i64 x] w fun e w' => e = .returned (.bool (litV (valsOf gs inp) x)) ∧ Below w.heap.size w w' := by
  obtain ⟨hil, io, ic, rfl, hic⟩ := hv
  obtain ⟨t, o, c, h3, c0, c1, h4, h5⟩ := h.cells
  obtain ⟨i0, hi0, hz0, hz1, hz2⟩ := info_parts Tryd.infoBool
  have H4 : Hid (World.ownsRow _ _ _ _ _ _ _) := h4
  have HGS : Hid (Gs gs) := hgs
  have HL : Hid (gs.length ≤ 1000) := hl
  have HC : Hid (cntI gs = inp.length) := hc
  have HX : Hid (HasL gs x) := hx
  have HIC : Hid (∀ k x, inp[k]? = some x → ∃ b off, io = some ⟨b, off, none⟩ ∧ w.cell? ⟨b, off + k, none⟩ = some (.bool x)) := hic
  have HBY : Hid (i0.bytes * (gs.length + 1) ≤ 281474976710656) := by unfold Hid; rw [hz2]; omega
  have HMX : Hid (gs.length + 1 ≤ maxLen) := by unfold Hid maxLen; omega
  have HCN : Hid (inp.length ≤ gs.length) := by unfold Hid; rw [← hc]; unfold cntI; exact List.length_filter_le _ _
  have N7 : wrap64 ((gs.length : Int) + 1) = (gs.length : Int) + 1 := by unfold wrap64; omega
  have C0 : Hid (w.cell? ⟨M, 0, none⟩ = some (.slice o gs.length c)) := c0
  clear h h3 c1 h4 h5 hc hic hgs hx hil hl
  go_enter Tryd.func15, Tryd.ntmps15
  go_wp2_with (first
    | (at_make; refine wpList_make_full _ rfl _ _ 46 rfl 0 4 i0 _ 1 Tryd.underlying46 hi0 hz0 hz1 .i64 .i64 _ _ (gs.length + 1) rfl rfl (by simp [N7]) (by simp [N7]) HBY.out HMX.out (Nat.zero_le _) ?_; intro w1 hown1 hgr1)
    | go_in)
  have hV1 := made_bools hown1
  rw [← rowN_zero gs inp] at hV1
  have HR1 : Hid (w1.heap[w.heap.size]? = some (.cells (rowB (rowN gs inp 0)) 4 (0, 0))) := hV1
  have HB1 : Hid (Below w.heap.size w w1) := ⟨hgr1.os, hgr1.tape, hgr1.output, hgr1.size, fun k hk => hgr1.block k hk (by simp)⟩
  clear hown1 hgr1 hV1 c0 hi0 hz0 hz1 hz2 HBY HMX N7
  go_loopw [8, 9] (fun c t wr => ∃ j : Nat, j ≤ gs.length ∧ t = .int .i64 j ∧ c = .int .i64 ((valsTo gs inp j).2 : Int) ∧ wr.heap[w.heap.size]? = some (.cells (rowB (rowN gs inp j)) 4 (0, 0)) ∧ Below w.heap.size w wr) (fun _ t _ => gs.length - (intOf t).toNat)
  case atStart => exact ⟨0, Nat.zero_le _, rfl, rfl, HR1.out, HB1.out⟩
  case round =>
    obtain ⟨j, hj, rfl, rfl, hrow, hb⟩ := hrel
    have d0 := cell_keep hb C0.out
    by_cases hjl : j < gs.length
    · obtain ⟨p, hp⟩ : ∃ p, gs[j]? = some p := ⟨_, List.getElem?_eq_getElem hjl⟩
      obtain ⟨g, c', e', q0, q1, q2⟩ := gate_cells H4.out hp
      obtain ⟨rfl, rfl⟩ : o = some ⟨g, 0, none⟩ ∧ c = c' := by simpa using e'
      have z0 := cell_keep hb q0
      have z1 := cell_keep hb q1
      have z2 := cell_keep hb q2
      have i0' : (0 : Int) ≤ (j : Int) := by omega
      have i1' : (j : Int) < (gs.length : Int) := by omega
      have HP : Hid (gs[j]? = some p) := hp
      have HJ : Hid (j < gs.length) := hjl
      have N4 : Hid (wrap64 ((j : Int) + 1) = (j : Int) + 1) := by have := HL.out; unfold Hid wrap64; omega
      have n5 : wrap64 ((j : Int) + 1) = (j : Int) + 1 := N4.out
      have d1 : (0 : Int) ≤ (j : Int) + 1 := by omega
      have d2 : (j : Int) + 1 < (gs.length : Int) + 1 := by omega
      obtain ⟨p1, p2⟩ := p
      obtain ⟨w3, hw3⟩ : ∃ w3, w3 = wr.alloc (.cells #[.int .i64 p1, .int .i64 p2, .bool (inpB (p1, p2))] 87) := ⟨_, rfl⟩
      have r3 : w3.heap[wr.heap.size]? = some (.cells #[.int .i64 p1, .int .i64 p2, .bool (inpB (p1, p2))] 87 (0, 0)) := by rw [hw3]; exact heap_alloc_new _ _
      have hb3 : Below wr.heap.size wr w3 := by rw [hw3]; exact (Below.refl _ _).alloc (Nat.le_refl _) _
      have hV3 := row_keep hb3 hrow
      have HB3 : Hid (Below w.heap.size w w3) := hb.trans (hb3.mono hb.size)
      have x0 := cell_of_row w3 wr.heap.size 0 _ _ (0, 0) r3
      have x1 := cell_of_row w3 wr.heap.size (0 + 1) _ _ (0, 0) r3
      have x2 := cell_of_row w3 wr.heap.size (0 + 2) _ _ (0, 0) r3
      have fV : w3.frozen? ⟨w.heap.size, j + 1, none⟩ = false := frozen_row hV3
      have hlr := rowN_length (inp := inp) (Nat.le_of_lt hjl)
      obtain ⟨y, hy⟩ : ∃ y, (rowN gs inp j)[j + 1]? = some y := ⟨_, List.getElem?_eq_getElem (by omega)⟩
      have xV : w3.cell? ⟨w.heap.size, j + 1, none⟩ = some (.bool y) := by rw [cell_of_row w3 _ _ _ _ (0, 0) hV3]; exact rowB_get hy
      have HV3 : Hid (w3.heap[w.heap.size]? = some (.cells (rowB (rowN gs inp j)) 4 (0, 0))) := hV3
      have HW3 : Hid (w3 = wr.alloc (.cells #[.int .i64 p1, .int .i64 p2, .bool (inpB (p1, p2))] 87)) := hw3
      clear hp e' q0 q1 q2 hb hrow hj hjl hw3 r3 hb3 hV3 hlr hy
      go_upto_region 7 with fail
      rw [← HW3.out]
      clear HW3 d0 z0 z1 z2
      cases hin : inpB (p1, p2)
      · obtain ⟨k0, k1, k2, k3⟩ := HGS.out.lits HP.out hin
        simp only at k0 k1 k2 k3
        have LN := rowN_length (inp := inp) (Nat.le_of_lt HJ.out)
        obtain ⟨m1, hm1⟩ : ∃ m : Nat, (p1 / 2).toNat = m := ⟨_, rfl⟩
        obtain ⟨m2, hm2⟩ : ∃ m : Nat, (p2 / 2).toNat = m := ⟨_, rfl⟩
        have hj' := HJ.out
        obtain ⟨a1, ha1⟩ : ∃ y, (rowN gs inp j)[m1]? = some y := ⟨_, List.getElem?_eq_getElem (by omega)⟩
        obtain ⟨a2, ha2⟩ : ∃ y, (rowN gs inp j)[m2]? = some y := ⟨_, List.getElem?_eq_getElem (by omega)⟩
        have s1 : w3.cell? ⟨w.heap.size, m1, none⟩ = some (.bool a1) := by rw [cell_of_row w3 _ _ _ _ (0, 0) HV3.out]; exact rowB_get ha1
        have s2 : w3.cell? ⟨w.heap.size, m2, none⟩ = some (.bool a2) := by rw [cell_of_row w3 _ _ _ _ (0, 0) HV3.out]; exact rowB_get ha2
        have e1 : litV (rowN gs inp j) p1 = (a1 != (p1 % 2 == 1)) := by unfold litV; rw [List.getD_eq_getElem?_getD, hm1, ha1]; rfl
        have e2 : litV (rowN gs inp j) p2 = (a2 != (p2 % 2 == 1)) := by unfold litV; rw [List.getD_eq_getElem?_getD, hm2, ha2]; rfl
        have HB : Hid ((valsTo gs inp (j + 1)).1 = (valsTo gs inp j).1 ++ [(a1 != (p1 % 2 == 1)) && (a2 != (p2 % 2 == 1))] ∧ (valsTo gs inp (j + 1)).2 = (valsTo gs inp j).2) := by
          unfold Hid
          rw [← e1, ← e2, rowN_lit k1, rowN_lit k3]
          conv => lhs; lhs; unfold valsTo
          conv => rhs; lhs; unfold valsTo
          rw [HP.out]
          simp [hin]
        have t1 := tmod_two k0
        have t2 := tmod_two k2
        have u1 : wrap64 (p1.tdiv 2) = (m1 : Int) := by have := HL.out; rw [Int.tdiv_eq_ediv_of_nonneg k0]; unfold wrap64; omega
        have u2 : wrap64 (p2.tdiv 2) = (m2 : Int) := by have := HL.out; rw [Int.tdiv_eq_ediv_of_nonneg k2]; unfold wrap64; omega
        have f1 : (0 : Int) ≤ (m1 : Int) := by omega
        have f2 : (m1 : Int) < (gs.length : Int) + 1 := by omega
        have f3 : (0 : Int) ≤ (m2 : Int) := by omega
        have f4 : (m2 : Int) < (gs.length : Int) + 1 := by omega
        rw [hin] at x2
        clear k0 k1 k2 k3 LN hm1 hm2 hj' ha1 ha2 e1 e2
        have v1 : IntKind.i64.wrap (p1.tdiv 2) = (m1 : Int) := by rw [IntKind.wrap_i64]; unfold wrap64 at u1; omega
        have v2 : IntKind.i64.wrap (p2.tdiv 2) = (m2 : Int) := by rw [IntKind.wrap_i64]; unfold wrap64 at u2; omega
        have hr1 : p1 % 2 = 0 ∨ p1 % 2 = 1 := by omega
        have hr2 : p2 % 2 = 0 ∨ p2 % 2 = 1 := by omega
        rcases hr1 with hr1 | hr1 <;> rcases hr2 with hr2 | hr2 <;> cases a1
        all_goals
          rw [hr1] at t1
          rw [hr2] at t2
          have HB' : Hid ((valsTo gs inp (j + 1)).1 = _ ∧ _) := HB.out
          rw [hr1, hr2] at HB'
          clear HB hr1 hr2
          go_wp2
          go_region
          all_goals go_wp2
          all_goals exact ⟨⟨j + 1, HJ.out, by rw [N4.out]; rfl, by rw [HB'.out.2], row_store HV3.out HJ.out _ (HB'.out.1.trans (by simp)), HB3.out.drew.setCell (Nat.le_refl _) _⟩, by rw [N4.out]; have := HJ.out; simp [intOf]; omega⟩
      · have hmi := valsTo_in HP.out hin HC.out
        obtain ⟨m, hm⟩ : ∃ m, m = (valsTo gs inp j).2 := ⟨_, rfl⟩
        rw [← hm] at hmi
        obtain ⟨y', hy'⟩ : ∃ x, inp[m]? = some x := ⟨_, List.getElem?_eq_getElem hmi⟩
        obtain ⟨b, off, rfl, hcx⟩ := HIC.out m y' hy'
        have q3 := cell_keep HB3.out hcx
        have HB : Hid ((valsTo gs inp (j + 1)).1 = (valsTo gs inp j).1 ++ [y'] ∧ (valsTo gs inp (j + 1)).2 = m + 1) := by
          unfold Hid
          conv => lhs; lhs; unfold valsTo
          conv => rhs; lhs; unfold valsTo
          rw [HP.out]
          simp [hin, ← hm, hy']
        have m1 : (0 : Int) ≤ (m : Int) := by omega
        have m2 : (m : Int) < (inp.length : Int) := by omega
        have N6 : Hid (wrap64 ((m : Int) + 1) = ((m + 1 : Nat) : Int)) := by have := HCN.out; have := HL.out; unfold Hid wrap64; omega
        rw [← hm]
        rw [hin] at x2
        clear hm hmi hy' hcx
        go_wp2
        exact ⟨⟨j + 1, HJ.out, by rw [N4.out]; rfl, by rw [HB.out.2, N6.out], row_store HV3.out HJ.out _ HB.out.1, HB3.out.setCell (Nat.le_refl _) _⟩, by rw [N4.out]; have := HJ.out; simp [intOf]; omega⟩
    · obtain rfl : j = gs.length := by omega
      rw [rowN_all] at hrow
      have hx := HX.out
      have LN : (valsOf gs inp).length = gs.length + 1 := valsTo_length _ _ _
      obtain ⟨k, hk⟩ : ∃ k : Nat, (x / 2).toNat = k := ⟨_, rfl⟩
      have hkl : k < (valsOf gs inp).length := by unfold HasL at hx; omega
      have hg : (valsOf gs inp)[k]? = some (valsOf gs inp)[k] := List.getElem?_eq_getElem hkl
      have x0 : wr.cell? ⟨w.heap.size, k, none⟩ = some (.bool (valsOf gs inp)[k]) := by rw [cell_of_row wr _ _ _ _ (0, 0) hrow]; exact rowB_get hg
      have E1 : Hid (litV (valsOf gs inp) x = ((valsOf gs inp)[k] != (x % 2 == 1))) := by unfold Hid litV; rw [List.getD_eq_getElem?_getD, hk, hg]; rfl
      have n1 : wrap64 (x.tdiv 2) = (k : Int) := by have := HL.out; rw [Int.tdiv_eq_ediv_of_nonneg hx.1]; unfold HasL at hx; unfold wrap64; omega
      have t1 := tmod_two hx.1
      have f1 : (0 : Int) ≤ (k : Int) := by omega
      have f2 : (k : Int) < (gs.length : Int) + 1 := by omega
      have HW : Hid (Below w.heap.size w wr) := hb
      clear hrow hb hx hk hg hj hjl LN
      go_wp2
      go_ret
      exact ⟨by rw [E1.out]; rfl, HW.out⟩
end Go.Proofs.YtbbakcpflckbnaaDoor
