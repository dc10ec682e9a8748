/-
  package graph: values BY ITS CONTRACT: what all gates come to.
-/
import Derived.Test.YtgcaohpaopemnaaDoorP16
namespace Go.Proofs.YtgcaohpaopemnaaDoor
open Go.RowKit Go.Maps

theorem Tryd.infoBool : (Tryd.prog.info? 4).map (fun i => (i.zero, i.size, i.bytes)) = some (some (.bool false), 1, 1) := by kernel_rfl
theorem made_bools {w : World} {V n : Nat} (h : w.ownsRow 0 4 1 (.slice (some ⟨V, 0, none⟩) n n) n (madeCells (Value.bool false).cells (n * 1)).toList) : w.heap[V]? = some (.cells (rowB (List.replicate n false)) 4 (0, 0)) := by
  obtain ⟨_, h2⟩ := h
  rcases h2 with ⟨h2, _⟩ | ⟨g, cap, cur, e, _, hg, _, _, hs, ht⟩
  · cases h2
  · obtain ⟨rfl, rfl⟩ : V = g ∧ n = cap := by simpa using e
    rw [hg]
    have e1 : (madeCells (Value.bool false).cells (n * 1)).toList = List.replicate n (.bool false) := by rw [Nat.mul_one]; exact toList_madeCells_one _ _
    rw [e1] at ht
    have e2 : cur.toList = List.replicate n (.bool false) := by rw [← ht, List.take_of_length_le (by simp [hs])]
    have : cur = rowB (List.replicate n false) := by
      apply Array.toList_inj.1
      rw [e2]
      simp [rowB]
    rw [this]
theorem rowN_zero (gs : List (Int × Int)) (inp : List Bool) : rowN gs inp 0 = List.replicate (gs.length + 1) false := by
  unfold rowN valsTo
  rw [List.replicate_succ]
  rfl
/-- All gates' values. -/
def valsOf (gs : List (Int × Int)) (inp : List Bool) : List Bool := (valsTo gs inp gs.length).1
theorem rowN_all (gs : List (Int × Int)) (inp : List Bool) : rowN gs inp gs.length = valsOf gs inp := by unfold rowN valsOf; simp
theorem Gs.lits {gs : List (Int × Int)} (h : Gs gs) {i : Nat} {p : Int × Int} (hi : gs[i]? = some p) (hn : inpB p = false) : 0 ≤ p.1 ∧ p.1 < 2 * ((i : Int) + 1) ∧ 0 ≤ p.2 ∧ p.2 < 2 * ((i : Int) + 1) := by
  have hp := (h.each i p hi).resolve_left (fun e => by rw [e] at hn; exact absurd hn (by decide))
  omega

theorem row_store {w : World} {V : Nat} {gs : List (Int × Int)} {inp : List Bool} {j : Nat} {t : TypeId} (hV : w.heap[V]? = some (.cells (rowB (rowN gs inp j)) t (0, 0))) (hj : j < gs.length) (b : Bool) (hb : (valsTo gs inp (j + 1)).1 = (valsTo gs inp j).1 ++ [b]) :
    (w.setCell ⟨V, j + 1, none⟩ (.bool b)).heap[V]? = some (.cells (rowB (rowN gs inp (j + 1))) t (0, 0)) := by
  rw [heap_setCell_at hV, rowB_set, ← rowN_set hj b hb]
set_option maxRecDepth 100000 in
set_option maxHeartbeats 4000000 in
theorem values_any {G : Nat} {gs : List (Int × Int)} {ins : Nat} {F : Nat → Prop} {w : World} (h : GrAt G gs ins F w) (hl : gs.length ≤ 80000) (v : Value) (inp : List Bool) (hv : BoolsAt w v inp) (hc : cntI gs = inp.length) :
    Calls Tryd.prog 23 #[.pointer (some ⟨G, 0, none⟩), v] w fun e w' => e = .returned (.slice (some ⟨w.heap.size, 0, none⟩) (gs.length + 1) (gs.length + 1)) ∧ w'.heap[w.heap.size]? = some (.cells (rowB (valsOf gs inp)) 4 (0, 0)) ∧ Below w.heap.size w w' := by
  have HV : Hid (BoolsAt w v inp) := hv
  obtain ⟨hil, io, ic, rfl, hic⟩ := hv
  obtain ⟨t, sv, mv, h3, c0, c1, c2, h4, h5, h6⟩ := h.cells
  obtain ⟨o, c, rfl, hn⟩ := owns_form h4
  obtain ⟨i0, hi0, hz0, hz1, hz2⟩ := info_parts Tryd.infoBool
  have H0 : Hid (GrAt G gs ins F w) := h
  have H4 : Hid (World.ownsRow _ _ _ _ _ _ _) := h4
  have HL : Hid (gs.length ≤ 100000) := Nat.le_trans hl (by omega)
  have HL9 : Hid (gs.length ≤ 90000) := Nat.le_trans hl (by omega)
  have HC : Hid (cntI gs = inp.length) := hc
  have HIC : Hid (∀ k x, inp[k]? = some x → ∃ b off, io = some ⟨b, off, none⟩ ∧ w.cell? ⟨b, off + k, none⟩ = some (.bool x)) := hic
  have hby : i0.bytes * (gs.length + 1) ≤ 281474976710656 := by rw [hz2]; omega
  have hmx : gs.length + 1 ≤ maxLen := by unfold maxLen; omega
  have HBY : Hid (i0.bytes * (gs.length + 1) ≤ 281474976710656) := hby
  have HMX : Hid (gs.length + 1 ≤ maxLen) := hmx
  have HCN : Hid (inp.length ≤ gs.length) := by unfold Hid; rw [← hc]; unfold cntI; exact List.length_filter_le _ _
  clear h h3 c1 c2 h4 h5 h6 hc hic hby hmx hn
  go_enter Tryd.func23, Tryd.ntmps23
  go_wp2_with (first
    | (go_at_call 57; refine (gates_any H0.out HL.out).mono ?_; rintro e w' ⟨rfl, hw⟩; have hw2 := hw.symm; subst hw2)
    | (at_make; refine wpList_make_full _ rfl _ _ 42 rfl 0 4 i0 _ 1 Tryd.underlying42 hi0 hz0 hz1 .i64 .i64 _ _ (gs.length + 1) rfl rfl (by simp) (by simp) HBY.out HMX.out (Nat.zero_le _) ?_; intro w1 hown1 hgr1; have d0 := hgr1.cell c0 (by simp))
    | go_in)
  have hV1 := made_bools hown1
  rw [← rowN_zero gs inp] at hV1
  have HR1 : Hid (w1.heap[w.heap.size]? = some (.cells (rowB (rowN gs inp 0)) 4 (0, 0))) := hV1
  have HB1 : Hid (Below w.heap.size w w1) := ⟨hgr1.os, hgr1.tape, hgr1.output, hgr1.size, fun k hk => hgr1.block k hk (by simp)⟩
  have hVlt : w.heap.size < w1.heap.size := (Array.getElem?_eq_some_iff.1 hV1).1
  have HVL : Hid (w.heap.size < w1.heap.size) := hVlt
  clear hown1 hgr1 hV1 d0 c0 hi0 hz0 hz1 hz2 HBY HMX hVlt
  go_loopw [6, 17] (fun c t wr => ∃ j : Nat, j ≤ gs.length ∧ t = .int .i64 j ∧ c = .int .i64 ((valsTo gs inp j).2 : Int) ∧ wr.heap[w.heap.size]? = some (.cells (rowB (rowN gs inp j)) 4 (0, 0)) ∧ Below w.heap.size w wr) (fun _ t _ => gs.length - (intOf t).toNat)
  case atStart => exact ⟨0, Nat.zero_le _, rfl, rfl, HR1.out, HB1.out⟩
  case round =>
    obtain ⟨j, hj, rfl, rfl, hrow, hb⟩ := hrel
    by_cases hjl : j < gs.length
    · obtain ⟨p, hp⟩ : ∃ p, gs[j]? = some p := ⟨_, List.getElem?_eq_getElem hjl⟩
      obtain ⟨g, c', e', hgl, q0, q1⟩ := pair_cells H4.out hp
      obtain ⟨rfl, rfl⟩ : o = some ⟨g, 0, none⟩ ∧ c = c' := by simpa using e'
      obtain ⟨i1, i2⟩ := H0.out.1.i64 HL9.out hp
      have z0 := cell_keep hb q0
      have z1 := cell_keep hb q1
      have i0' : (0 : Int) ≤ (j : Int) := by omega
      have i1' : (j : Int) < (gs.length : Int) := by omega
      have HP : Hid (gs[j]? = some p) := hp
      have HJ : Hid (j < gs.length) := hjl
      have HW : Hid (Below w.heap.size w wr) := hb
      have HR : Hid (wr.heap[w.heap.size]? = some (.cells (rowB (rowN gs inp j)) 4 (0, 0))) := hrow
      have N4 : Hid (wrap64 ((j : Int) + 1) = (j : Int) + 1) := by unfold Hid wrap64; omega
      have hVr : w.heap.size < wr.heap.size := (Array.getElem?_eq_some_iff.1 hrow).1
      obtain ⟨p1, p2⟩ := p
      clear hp e' hgl q0 q1 hb hrow hj hjl hl hil
      go_wp2_with fail
      refine (isInput_any p1 p2 i1 i2 _).mono ?_
      rintro e w3 ⟨rfl, hw3⟩
      have r3 : w3.heap[wr.heap.size]? = some (.cells #[.int .i64 p1, .int .i64 p2] 102 (0, 0)) := by rw [hw3]; exact alloc_row _ (heap_alloc_new _ _)
      have hb3 : Below wr.heap.size wr w3 := by rw [hw3]; exact ((Below.refl _ _).alloc (Nat.le_refl _) _).alloc (by simp) _
      have hV3 := row_keep hb3 HR.out
      have HB3 : Hid (Below w.heap.size w w3) := HW.out.trans (hb3.mono HW.out.size)
      have x0 := cell_of_row w3 wr.heap.size 0 _ _ (0, 0) r3
      have x1 := cell_of_row w3 wr.heap.size (0 + 1) _ _ (0, 0) r3
      have fV : w3.frozen? ⟨w.heap.size, j + 1, none⟩ = false := frozen_row hV3
      have hlr := rowN_length (inp := inp) (Nat.le_of_lt HJ.out)
      obtain ⟨y, hy⟩ : ∃ y, (rowN gs inp j)[j + 1]? = some y := ⟨_, List.getElem?_eq_getElem (by have := HJ.out; omega)⟩
      have xV : w3.cell? ⟨w.heap.size, j + 1, none⟩ = some (.bool y) := by rw [cell_of_row w3 _ _ _ _ (0, 0) hV3]; exact rowB_get hy
      have HV3 : Hid (w3.heap[w.heap.size]? = some (.cells (rowB (rowN gs inp j)) 4 (0, 0))) := hV3
      have n5 : wrap64 (1 + (j : Int)) = (j : Int) + 1 := by have := HL.out; have := HJ.out; unfold wrap64; omega
      have d1 : (0 : Int) ≤ (j : Int) + 1 := by omega
      have d2 : (j : Int) + 1 < (gs.length : Int) + 1 := by omega
      clear hw3 r3 hb3 hV3 hlr hy z0 z1
      cases hin : inpB (p1, p2)
      · obtain ⟨k0, k1, k2, k3⟩ := H0.out.1.lits HP.out hin
        have LN : Hid ((rowN gs inp j).length = gs.length + 1) := rowN_length (Nat.le_of_lt HJ.out)
        have K0 : Hid (0 ≤ p1) := k0
        have K1 : Hid (p1 < 2 * ((gs.length + 1 : Nat) : Int)) := by have := HJ.out; unfold Hid; simp only at k1; omega
        have K2 : Hid (0 ≤ p2) := k2
        have K3 : Hid (p2 < 2 * ((gs.length + 1 : Nat) : Int)) := by have := HJ.out; unfold Hid; simp only at k3; omega
        have LS : Hid (gs.length + 1 ≤ 100000) := by have := HL9.out; unfold Hid; omega
        have HB : Hid ((valsTo gs inp (j + 1)).1 = (valsTo gs inp j).1 ++ [litV (rowN gs inp j) p1 && litV (rowN gs inp j) p2] ∧ (valsTo gs inp (j + 1)).2 = (valsTo gs inp j).2) := by
          unfold Hid
          rw [rowN_lit k1, rowN_lit k3]
          conv => lhs; lhs; unfold valsTo
          conv => rhs; lhs; unfold valsTo
          rw [HP.out]
          simp [hin]
        clear k0 k1 k2 k3
        cases b1 : litV (rowN gs inp j) p1
        · go_wp2_with fail
          refine (holds_any w3 _ _ _ _ HV3.out LN.out p1 K0.out K1.out LS.out).mono ?_
          rintro e w' ⟨rfl, hw⟩
          have hw2 := hw.symm
          subst hw2
          go_wp2
          have hb' := HB.out
          rw [b1, Bool.false_and] at hb'
          exact ⟨⟨j + 1, HJ.out, by rw [N4.out]; rfl, by rw [hb'.2], row_store HV3.out HJ.out _ hb'.1, HB3.out.setCell (Nat.le_refl _) _⟩, by rw [N4.out]; have := HJ.out; simp [intOf]; omega⟩
        · go_wp2_with fail
          refine (holds_any w3 _ _ _ _ HV3.out LN.out p1 K0.out K1.out LS.out).mono ?_
          rintro e w' ⟨rfl, hw⟩
          have hw2 := hw.symm
          subst hw2
          go_wp2_with fail
          refine (holds_any w3 _ _ _ _ HV3.out LN.out p2 K2.out K3.out LS.out).mono ?_
          rintro e w' ⟨rfl, hw⟩
          have hw2 := hw.symm
          subst hw2
          go_wp2
          have hb' := HB.out
          rw [b1, Bool.true_and] at hb'
          exact ⟨⟨j + 1, HJ.out, by rw [N4.out]; rfl, by rw [hb'.2], row_store HV3.out HJ.out _ hb'.1, HB3.out.setCell (Nat.le_refl _) _⟩, by rw [N4.out]; have := HJ.out; simp [intOf]; omega⟩
      · have hmi := valsTo_in HP.out hin HC.out
        obtain ⟨m, hm⟩ : ∃ m, m = (valsTo gs inp j).2 := ⟨_, rfl⟩
        rw [← hm] at hmi
        obtain ⟨x, hx⟩ : ∃ x, inp[m]? = some x := ⟨_, List.getElem?_eq_getElem hmi⟩
        obtain ⟨b, off, rfl, hcx⟩ := HIC.out m x hx
        have q3 := cell_keep HB3.out hcx
        have HB : Hid ((valsTo gs inp (j + 1)).1 = (valsTo gs inp j).1 ++ [x] ∧ (valsTo gs inp (j + 1)).2 = m + 1) := by
          unfold Hid
          conv => lhs; lhs; unfold valsTo
          conv => rhs; lhs; unfold valsTo
          rw [HP.out]
          simp [hin, ← hm, hx]
        have HM : Hid (m = (valsTo gs inp j).2) := hm
        have m1 : (0 : Int) ≤ (m : Int) := by omega
        have m2 : (m : Int) < (inp.length : Int) := by omega
        have N6 : Hid (wrap64 ((m : Int) + 1) = ((m + 1 : Nat) : Int)) := by have := HCN.out; have := HL9.out; unfold Hid wrap64; omega
        rw [← hm]
        clear hm hmi hx hcx
        go_wp2
        exact ⟨⟨j + 1, HJ.out, by rw [N4.out]; rfl, by rw [HB.out.2, N6.out], row_store HV3.out HJ.out _ HB.out.1, HB3.out.setCell (Nat.le_refl _) _⟩, by rw [N4.out]; have := HJ.out; simp [intOf]; omega⟩
    · obtain rfl : j = gs.length := by omega
      rw [rowN_all] at hrow
      have HR : Hid (wr.heap[w.heap.size]? = some (.cells (rowB (valsOf gs inp)) 4 (0, 0))) := hrow
      have HW : Hid (Below w.heap.size w wr) := hb
      clear hrow hb
      go_wp2
      go_ret
      exact ⟨rfl, HR.out, HW.out⟩
end Go.Proofs.YtgcaohpaopemnaaDoor
