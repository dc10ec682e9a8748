/-
  lustrumref3: signed, CnfOf BY CONTRACT: the document's clauses.
-/
import Derived.Test.YtlclbidjdhlklaaDoorCnM
import Derived.Test.YtlclbidjdhlklaaDoorRgI
import Derived.Test.YtlclbidjdhlklaaDoorMoC
import Derived.Deep.RegionHeld3
import Derived.Deep.DeepCutAuto
import Derived.Deep.CutBlock
namespace Go.Proofs.YtlclbidjdhlklaaDoor
open Go.RowKit Go.Maps

set_option maxRecDepth 100000 in
theorem signed_any (w : World) (U N : Nat) (l : List Bool) (t : TypeId) (hU : w.heap[U]? = some (.cells (rowI (numL l N)) t (0, 0))) (x : Int) (h0 : 0 ≤ x) (h1 : x < 2 * (N : Int)) (hs : N ≤ 100000) :
    Calls Tryd.prog 35 #[.slice (some ⟨U, 0, none⟩) N N, .int .i64 x] w fun e w' => e = .returned (.int .i64 (sgnL l x)) ∧ w' = w := by
  obtain ⟨k, hk⟩ : ∃ k : Nat, (x / 2).toNat = k := ⟨_, rfl⟩
  have hkl : k < N := by omega
  have hg := numL_get l hkl
  have hr := numA_range l k
  have c0 : w.cell? ⟨U, k, none⟩ = some (.int .i64 (numA l k)) := by rw [cell_of_row w U _ _ t (0, 0) hU]; exact rowI_get hg
  have n1 : wrap64 (x.tdiv 2) = (k : Int) := by rw [Int.tdiv_eq_ediv_of_nonneg h0]; unfold wrap64; omega
  have d1 : (0 : Int) ≤ (k : Int) := by omega
  have d2 : (k : Int) < (N : Int) := by omega
  have n2 := tmod_two h0
  have NN : Hid (wrap64 (- numA l k) = - numA l k) := by unfold Hid wrap64; omega
  by_cases hm : x % 2 = 1
  · have E : Hid (sgnL l x = - numA l k) := by unfold Hid sgnL; rw [if_pos hm, hk]
    have d : (x % 2 == 1) = true := by simp [hm]
    have n3 := NN.out
    clear hg hU hs hk h0 h1 hr hm
    go_enter Tryd.func35, Tryd.ntmps35
    go_wp2
    go_ret
    exact ⟨by rw [E.out, ← n3]; simp [n3], rfl⟩
  · have E : Hid (sgnL l x = numA l k) := by unfold Hid sgnL; rw [if_neg hm, hk]
    have d : (x % 2 == 1) = false := by simp [hm]
    clear hg hU hs hk h0 h1 hr hm
    go_enter Tryd.func35, Tryd.ntmps35
    go_wp2
    go_ret
    exact ⟨by rw [E.out]; rfl, rfl⟩
theorem cell_set1 {w : World} {p : Addr} {x : Value} {B : Nat} (h : w.cell? p = some x) (hne : p.block ≠ B) (i : Nat) (u : Value) : (w.setCell ⟨B, i, none⟩ u).cell? p = some x := by
  have e2 := Below.heap_setCell w ⟨B, i, none⟩ u p.block hne
  simp only [World.cell?, e2] at h ⊢
  exact h
/-- What the document's CnfOf answers. -/
def RefP (L : Nat) (gs : List (Int × Int)) (rs : List Int) (e : Ending) (w' : World) : Prop :=
  ∃ sv U, L ≤ U ∧ e = .returned (.tuple #[.agg #[.int .i64 (cntT (needL gs rs) (gs.length + 1) : Int), sv], .slice (some ⟨U, 0, none⟩) (gs.length + 1) (gs.length + 1)]) ∧ ClsAt w' sv (allC gs (needL gs rs) rs) ∧ w'.heap[U]? = some (.cells (rowI (numL (needL gs rs) (gs.length + 1))) 3 (0, 0))
set_option maxRecDepth 100000 in
set_option maxHeartbeats 8000000 in
theorem refOf_any {M : Nat} {gs : List (Int × Int)} {ins : Nat} {E : Nat → Prop} {w : World} (hgs : Gs gs) (h : MoAt M gs ins E w) (hl : gs.length ≤ 1000) (o : Option Addr) (m c : Nat) (rs : List Int) (hv : IntsAt w (.slice o m c) rs) (hm : m = rs.length) (hms : m ≤ 1000) (hr : ∀ x ∈ rs, HasL gs x) :
    Calls Tryd.prog 9 #[.pointer (some ⟨M, 0, none⟩), .slice o m c] w fun e w' => RefP w.heap.size gs rs e w' ∧ Below w.heap.size w w' := by
  obtain ⟨t, mo, mc, h3, c0, c1, h4, h5⟩ := h.cells
  obtain ⟨i0, hi0, hz0, hz1, hz2⟩ := info_parts Tryd.infoBool
  obtain ⟨i1, hj0, hy0, hy1, hy2⟩ := info_parts Tryd.infoInt
  obtain ⟨i2, hk0, hx0, hx1, hx2⟩ := info_parts Tryd.infoClause
  have H4 : Hid (World.ownsRow _ _ _ _ _ _ _) := h4
  have HGS : Hid (Gs gs) := hgs
  have HL : Hid (gs.length ≤ 1000) := hl
  have HV : Hid (IntsAt w (.slice o m c) rs) := hv
  have HM : Hid (m = rs.length) := hm
  have HMS : Hid (m ≤ 1000) := hms
  have HR : Hid (∀ x ∈ rs, HasL gs x) := hr
  have HBY : Hid (i0.bytes * (gs.length + 1) ≤ 281474976710656) := by unfold Hid; rw [hz2]; omega
  have HBY2 : Hid (i1.bytes * (gs.length + 1) ≤ 281474976710656) := by unfold Hid; rw [hy2]; omega
  have HMX : Hid (gs.length + 1 ≤ maxLen) := by unfold Hid maxLen; omega
  have N7 : wrap64 ((gs.length : Int) + 1) = (gs.length : Int) + 1 := by unfold wrap64; omega
  have C0 : Hid (w.cell? ⟨M, 0, none⟩ = some (.slice mo gs.length mc)) := c0
  obtain ⟨w0, hw0⟩ : ∃ w0, w0 = w.alloc (.cells #[.int .i64 0, .slice none 0 0] 40) := ⟨_, rfl⟩
  have hA : Below w.heap.size w w0 := by rw [hw0]; exact (Below.refl _ _).alloc (Nat.le_refl _) _
  have hR0 : w0.heap[w.heap.size]? = some (.cells #[.int .i64 0, .slice none 0 0] 40 (0, 0)) := by rw [hw0]; exact heap_alloc_new _ _
  have c2 := cell_keep hA c0
  have c3 := c2
  rw [hw0] at c3
  have HA : Hid (Below w.heap.size w w0) := hA
  have HR0 : Hid (w0.heap[w.heap.size]? = some (.cells #[.int .i64 0, .slice none 0 0] 40 (0, 0))) := hR0
  have C2 : Hid (w0.cell? ⟨M, 0, none⟩ = some (.slice mo gs.length mc)) := c2
  have HV0 : Hid (IntsAt w0 (.slice o m c) rs) := HV.out.keep hA
  have H40 : Hid (w0.ownsRow 0 78 3 (.slice mo gs.length mc) gs.length (mcells gs)) := by unfold Hid; rw [hw0]; exact H4.out.alloc _
  have HW0 : Hid (w.alloc (.cells #[.int .i64 0, .slice none 0 0] 40) = w0) := hw0.symm
  clear h h3 c1 h4 h5 hgs hl hv hm hms hr c0 hw0 hA hR0 c2 H4 HV
  go_enter Tryd.func9, Tryd.ntmps9
  go_wp2_with (first
    | (at_make; refine wpList_make_full _ rfl _ _ 68 rfl 0 4 i0 _ 1 Tryd.underlying68 hi0 hz0 hz1 .i64 .i64 _ _ (gs.length + 1) rfl rfl (by simp [N7]) (by simp [N7]) HBY.out HMX.out (Nat.zero_le _) ?_; intro w1 hown1 hgr1)
    | go_in)
  rw [HW0.out] at hown1 hgr1
  have hV1 := made_bools hown1
  have hb1 : Below w0.heap.size w0 w1 := ⟨hgr1.os, hgr1.tape, hgr1.output, hgr1.size, fun k hk => hgr1.block k hk (by simp)⟩
  have HV1 : Hid (w1.heap[w0.heap.size]? = some (.cells (rowB (List.replicate (gs.length + 1) false)) 4 (0, 0))) := hV1
  have HB1 : Hid (Below w0.heap.size w0 w1) := hb1
  clear hown1 hgr1 hV1 hb1 c3 hi0 hz0 hz1 hz2 HBY
  have hws : w.heap.size + 1 = w0.heap.size := by rw [← HW0.out, World.size_alloc]
  rw [hws]
  clear hws
  have HN7 : Hid (wrap64 ((gs.length : Int) + 1) = (gs.length : Int) + 1) := N7
  clear N7
  go_loopw [7] (fun t wr => ∃ j : Nat, j ≤ m ∧ t = .int .i64 j ∧ wr.heap[w0.heap.size]? = some (.cells (rowB ((rs.take j).foldl markL (List.replicate (gs.length + 1) false))) 4 (0, 0)) ∧ Below w0.heap.size w0 wr) (fun t _ => m - (intOf t).toNat)
  case atStart => exact ⟨0, Nat.zero_le _, rfl, HV1.out, HB1.out⟩
  case round =>
    obtain ⟨j, hj, rfl, hrow, hb⟩ := hrel
    by_cases hjl : j < m
    · obtain ⟨x, hx⟩ : ∃ x, rs[j]? = some x := ⟨_, List.getElem?_eq_getElem (by have := HM.out; omega)⟩
      obtain ⟨b, off, rfl, hcx⟩ := HV0.out.get hx
      have q0 := cell_keep hb hcx
      have hxl := HR.out x (List.mem_of_getElem? hx)
      unfold HasL at hxl
      have hrow' := mark_row hrow x
      rw [← foldl_take hx] at hrow'
      obtain ⟨i, hi⟩ : ∃ i : Nat, (x / 2).toNat = i := ⟨_, rfl⟩
      rw [hi] at hrow'
      obtain ⟨y, hy⟩ : ∃ y, ((rs.take j).foldl markL (List.replicate (gs.length + 1) false))[i]? = some y := ⟨_, List.getElem?_eq_getElem (by rw [marks_length, List.length_replicate]; omega)⟩
      have y0 : wr.cell? ⟨w0.heap.size, i, none⟩ = some (.bool y) := by rw [cell_of_row wr _ _ _ _ (0, 0) hrow]; exact rowB_get hy
      have f0 : wr.frozen? ⟨w0.heap.size, i, none⟩ = false := frozen_row hrow
      have HROW : Hid (_ = some (Obj.cells (rowB ((rs.take (j + 1)).foldl markL (List.replicate (gs.length + 1) false))) 4 (0, 0))) := hrow'
      have HBB : Hid (Below w0.heap.size w0 (wr.setCell ⟨w0.heap.size, i, none⟩ (.bool true))) := hb.setCell (Nat.le_refl _) _
      have i0' : (0 : Int) ≤ (j : Int) := by omega
      have i1' : (j : Int) < (m : Int) := by omega
      have r0 : (0 : Int) ≤ (i : Int) := by omega
      have r1 : (i : Int) < (gs.length : Int) + 1 := by omega
      have HJ : Hid (j < m) := hjl
      have NN : Hid (wrap64 ((j : Int) + 1) = (j : Int) + 1 ∧ wrap64 (x.tdiv 2) = (i : Int)) := by have := HMS.out; have := HL.out; unfold Hid; rw [Int.tdiv_eq_ediv_of_nonneg hxl.1]; unfold wrap64; omega
      have n1 := NN.out.2
      clear hj hjl hrow hb hx hcx hxl hrow' hi hy
      go_wp2
      exact ⟨⟨j + 1, HJ.out, by rw [NN.out.1]; rfl, HROW.out, HBB.out⟩, by rw [NN.out.1]; have := HJ.out; simp [intOf]; omega⟩
    · obtain rfl : m = j := by omega
      rw [List.take_of_length_le (by rw [HM.out]; exact Nat.le_refl _)] at hrow
      have q1 := cell_keep hb C2.out
      have HROW : Hid (wr.heap[w0.heap.size]? = some (.cells (rowB (rs.foldl markL (List.replicate (gs.length + 1) false))) 4 (0, 0))) := hrow
      have HBW : Hid (Below w0.heap.size w0 wr) := hb
      clear hj hjl hrow hb HV1 HB1
      go_wp2
      go_loopw [8] (fun t wr => ∃ (n : Nat) (l : List Bool), n ≤ gs.length ∧ t = .int .i64 n ∧ l.length = gs.length + 1 ∧ downN gs n l = needR gs rs ∧ wr.heap[w0.heap.size]? = some (.cells (rowB l) 4 (0, 0)) ∧ Below w0.heap.size w0 wr) (fun t _ => (intOf t).toNat)
      case atStart => exact ⟨gs.length, _, Nat.le_refl _, rfl, by rw [marks_length, List.length_replicate], rfl, HROW.out, HBW.out⟩
      case round =>
        obtain ⟨n, l, hn, rfl, hll, hdn, hrow, hb⟩ := hrel
        have q1 := cell_keep hb C2.out
        have hbw : Below w.heap.size w wr := HA.out.trans (hb.mono HA.out.size)
        rcases n with _ | n
        · have hfin : l = needR gs rs := hdn
          rw [hfin] at hrow
          have HROW : Hid (wr.heap[w0.heap.size]? = some (.cells (rowB (needR gs rs)) 4 (0, 0))) := hrow
          have HBW : Hid (Below w0.heap.size w0 wr) := hb
          clear hn hll hdn hrow hb hfin hbw
          obtain ⟨w4, hw4⟩ : ∃ w4, w4 = wr.alloc (.cells #[.int .i64 0, .slice none 0 0] 40) := ⟨_, rfl⟩
          have hb4 : Below wr.heap.size wr w4 := by rw [hw4]; exact (Below.refl _ _).alloc (Nat.le_refl _) _
          have hF4 : w4.heap[wr.heap.size]? = some (.cells #[.int .i64 0, .slice none 0 0] 40 (0, 0)) := by rw [hw4]; exact heap_alloc_new _ _
          have hs4 : w4.heap.size = wr.heap.size + 1 := by rw [hw4, World.size_alloc]
          have hVr : w0.heap.size < wr.heap.size := (Array.getElem?_eq_some_iff.1 HROW.out).1
          have q4 := cell_keep hb4 q1
          rw [hw4] at q4
          obtain ⟨B, hB⟩ : ∃ B, B = wr.heap.size := ⟨_, rfl⟩
          rw [← hB] at hF4 hs4 hVr
          have HF4 : Hid (w4.heap[B]? = some (.cells #[.int .i64 0, .slice none 0 0] 40 (0, 0))) := hF4
          have HB4 : Hid (Below w0.heap.size w0 w4) := HBW.out.trans (hb4.mono HBW.out.size)
          have HR4 : Hid (w4.heap[w0.heap.size]? = some (.cells (rowB (needR gs rs)) 4 (0, 0))) := row_keep hb4 HROW.out
          have HSZ : Hid (w4.heap.size = B + 1 ∧ w0.heap.size < B) := ⟨hs4, hVr⟩
          have HW4 : Hid (wr.alloc (.cells #[.int .i64 0, .slice none 0 0] 40) = w4 ∧ wr.heap.size = B) := ⟨hw4.symm, hB.symm⟩
          have n7 := HN7.out
          clear hw4 hb4 hF4 hs4 hVr hB HROW HBW q1
          go_wp2_with (first
            | (at_make; refine wpList_make_full _ rfl _ _ 23 rfl 0 3 i1 _ 1 Tryd.underlying23 hj0 hy0 hy1 .i64 .i64 _ _ (gs.length + 1) rfl rfl (by simp [n7]) (by simp [n7]) HBY2.out HMX.out (Nat.zero_le _) ?_; intro w5 hown5 hgr5)
            | go_in)
          rw [HW4.out.1] at hown5 hgr5
          have hU5 := made_ints hown5
          have hb5 : Below w4.heap.size w4 w5 := ⟨hgr5.os, hgr5.tape, hgr5.output, hgr5.size, fun k hk => hgr5.block k hk (by simp)⟩
          rw [HSZ.out.1] at hU5 hb5
          have HU5 : Hid (w5.heap[B + 1]? = some (.cells (rowI (rowP [] (gs.length + 1))) 3 (0, 0))) := hU5
          have HF5 : Hid (w5.heap[B]? = some (.cells #[.int .i64 0, .slice none 0 0] 40 (0, 0))) := by
            unfold Hid
            rw [hb5.block B (by omega)]; exact HF4.out
          have HR5 : Hid (w5.heap[w0.heap.size]? = some (.cells (rowB (needR gs rs)) 4 (0, 0))) := by
            have := HSZ.out.2
            unfold Hid
            rw [hb5.block w0.heap.size (by omega)]; exact HR4.out
          have HB5 : Hid (Below w0.heap.size w0 w5) := HB4.out.trans (hb5.mono (by have := HSZ.out.2; omega))
          clear hown5 hgr5 hU5 hb5 hj0 hy0 hy1 hy2 HBY2 HMX n7 q4
          rw [HW4.out.2]
          obtain ⟨l, hl⟩ : ∃ l, l = needL gs rs := ⟨_, rfl⟩
          have hl0 : l[0]? = some false := by rw [hl]; exact needL_zero gs rs
          have hls : ∀ k, l[k + 1]? = (needR gs rs)[k + 1]? := fun k => by rw [hl]; exact needL_succ gs rs k
          have hn0 : numA l 0 = 0 := by unfold numA; rw [List.getD_eq_getElem?_getD, hl0]; rfl
          have hc1 : cntT l 1 = 0 := by rw [cntT_succ, cntT_zero, List.getD_eq_getElem?_getD, hl0]; rfl
          have HLS : Hid (∀ k, l[k + 1]? = (needR gs rs)[k + 1]?) := hls
          have HLE : Hid (l = needL gs rs) := hl
          have HN0 : Hid (numL l 1 = [0]) := by unfold Hid; rw [numL_succ, hn0]; rfl
          have HC1 : Hid (cntT l 1 = 0) := hc1
          have HLL : Hid ((needR gs rs).length = gs.length + 1) := needR_length gs rs
          clear hl hl0 hls hn0 hc1
          go_wp2
          go_loopw [12] (fun t wr => ∃ k : Nat, k ≤ gs.length ∧ t = .int .i64 ((k : Int) + 1) ∧ wr.heap[B]? = some (.cells #[.int .i64 (cntT l (k + 1) : Int), .slice none 0 0] 40 (0, 0)) ∧ wr.heap[B + 1]? = some (.cells (rowI (rowP (numL l (k + 1)) (gs.length + 1))) 3 (0, 0)) ∧ wr.heap[w0.heap.size]? = some (.cells (rowB (needR gs rs)) 4 (0, 0)) ∧ Below w0.heap.size w0 wr) (fun t _ => gs.length + 1 - (intOf t).toNat)
          case atStart =>
            refine ⟨0, Nat.zero_le _, rfl, by rw [HC1.out]; exact HF5.out, ?_, HR5.out, HB5.out⟩
            rw [HN0.out]
            have := rowP_more (os := []) (m := gs.length + 1) (by simp)
            rw [List.nil_append] at this
            rw [this]; exact HU5.out
          case round =>
            obtain ⟨k, hk, rfl, hF, hU, hV, hb⟩ := hrel
            have q1 := cell_keep hb C2.out
            have HFR : Hid (wr.heap[B]? = some (.cells #[.int .i64 (cntT l (k + 1) : Int), .slice none 0 0] 40 (0, 0))) := hF
            have HUR : Hid (wr.heap[B + 1]? = some (.cells (rowI (rowP (numL l (k + 1)) (gs.length + 1))) 3 (0, 0))) := hU
            have HVR : Hid (wr.heap[w0.heap.size]? = some (.cells (rowB (needR gs rs)) 4 (0, 0))) := hV
            have HBR : Hid (Below w0.heap.size w0 wr) := hb
            by_cases hkl : k < gs.length
            · obtain ⟨y, hy⟩ : ∃ y, (needR gs rs)[k + 1]? = some y := ⟨_, List.getElem?_eq_getElem (by have := HLL.out; omega)⟩
              have x0 : wr.cell? ⟨w0.heap.size, k + 1, none⟩ = some (.bool y) := by rw [cell_of_row wr _ _ _ _ (0, 0) hV]; exact rowB_get hy
              have hgd : l.getD (k + 1) false = y := by rw [List.getD_eq_getElem?_getD, HLS.out, hy]; rfl
              have hcs := cntT_succ l (k + 1)
              rw [hgd] at hcs
              have hcl := cntT_le l (k + 1)
              have hns := numL_succ l (k + 1)
              have hlj := numL_length l (k + 1)
              have d1 : ((k : Int) + 1 ≤ (gs.length : Int)) = True := eq_true (by omega)
              have r2 : (0 : Int) ≤ (k : Int) + 1 := by omega
              have r3 : (k : Int) + 1 < (gs.length : Int) + 1 := by omega
              have HK : Hid (k < gs.length) := hkl
              have NN : Hid (wrap64 ((k : Int) + 1 + 1) = (k : Int) + 1 + 1 ∧ wrap64 ((cntT l (k + 1) : Int) + 1) = (cntT l (k + 1) : Int) + 1) := by have := HL.out; unfold Hid wrap64; omega
              cases y
              · have HCS : Hid (cntT l (k + 2) = cntT l (k + 1)) := by unfold Hid; rw [hcs]; rfl
                have hna : numA l (k + 1) = 0 := by unfold numA; rw [hgd]; rfl
                have HNS : Hid (rowP (numL l (k + 2)) (gs.length + 1) = rowP (numL l (k + 1)) (gs.length + 1)) := by unfold Hid; rw [hns, hna, rowP_more (by rw [hlj]; omega)]
                clear hk hF hU hV hb hkl hy hgd hcs hcl hns hlj hna
                go_wp2
                exact ⟨⟨k + 1, HK.out, by rw [NN.out.1]; rfl, by rw [HCS.out]; exact HFR.out, by rw [HNS.out]; exact HUR.out, HVR.out, HBR.out⟩, by rw [NN.out.1]; have := HK.out; simp [intOf]; omega⟩
              · have HCS : Hid (cntT l (k + 2) = cntT l (k + 1) + 1) := by unfold Hid; rw [hcs]; rfl
                have hna : numA l (k + 1) = (cntT l (k + 1) : Int) + 1 := by unfold numA; rw [hgd]; rfl
                have z0 : wr.cell? ⟨B, 0, none⟩ = some (.int .i64 (cntT l (k + 1) : Int)) := by rw [cell_of_row wr _ _ _ _ (0, 0) hF]; rfl
                have f0 : wr.frozen? ⟨B, 0, none⟩ = false := frozen_row hF
                have hF6 := heap_setCell_at (i := 0) hF (.int .i64 ((cntT l (k + 1) : Int) + 1))
                have hU6 : (wr.setCell ⟨B, 0, none⟩ (.int .i64 ((cntT l (k + 1) : Int) + 1))).heap[B + 1]? = some (.cells (rowI (rowP (numL l (k + 1)) (gs.length + 1))) 3 (0, 0)) := by
                  have e := Below.heap_setCell wr ⟨B, 0, none⟩ (.int .i64 ((cntT l (k + 1) : Int) + 1)) (B + 1) (by show B + 1 ≠ B; omega)
                  rw [e]; exact hU
                have z1 := rowP_cell hU6 (by rw [hlj]; omega)
                rw [hlj] at z1
                have f1 : (wr.setCell ⟨B, 0, none⟩ (.int .i64 ((cntT l (k + 1) : Int) + 1))).frozen? ⟨B + 1, k + 1, none⟩ = false := frozen_row hU6
                have z2 : (wr.setCell ⟨B, 0, none⟩ (.int .i64 ((cntT l (k + 1) : Int) + 1))).cell? ⟨B, 0, none⟩ = some (.int .i64 ((cntT l (k + 1) : Int) + 1)) := by rw [cell_of_row _ _ _ _ _ (0, 0) hF6]; rfl
                have hU7 := rowP_store hU6 (by rw [hlj]; omega) ((cntT l (k + 1) : Int) + 1)
                rw [hlj, ← hna, ← hns, hna] at hU7
                have hF7 : ((wr.setCell ⟨B, 0, none⟩ (.int .i64 ((cntT l (k + 1) : Int) + 1))).setCell ⟨B + 1, k + 1, none⟩ (.int .i64 ((cntT l (k + 1) : Int) + 1))).heap[B]? = some (.cells #[.int .i64 ((cntT l (k + 1) : Int) + 1), .slice none 0 0] 40 (0, 0)) := by
                  have e := Below.heap_setCell (wr.setCell ⟨B, 0, none⟩ (.int .i64 ((cntT l (k + 1) : Int) + 1))) ⟨B + 1, k + 1, none⟩ (.int .i64 ((cntT l (k + 1) : Int) + 1)) B (by show B ≠ B + 1; omega)
                  rw [e]; exact hF6
                have hVB := HSZ.out.2
                have hV7 : ((wr.setCell ⟨B, 0, none⟩ (.int .i64 ((cntT l (k + 1) : Int) + 1))).setCell ⟨B + 1, k + 1, none⟩ (.int .i64 ((cntT l (k + 1) : Int) + 1))).heap[w0.heap.size]? = some (.cells (rowB (needR gs rs)) 4 (0, 0)) := by
                  have e1 := Below.heap_setCell (wr.setCell ⟨B, 0, none⟩ (.int .i64 ((cntT l (k + 1) : Int) + 1))) ⟨B + 1, k + 1, none⟩ (.int .i64 ((cntT l (k + 1) : Int) + 1)) w0.heap.size (by show w0.heap.size ≠ B + 1; omega)
                  have e2 := Below.heap_setCell wr ⟨B, 0, none⟩ (.int .i64 ((cntT l (k + 1) : Int) + 1)) w0.heap.size (by show w0.heap.size ≠ B; omega)
                  rw [e1, e2]; exact hV
                have HX : Hid (_ ∧ _ ∧ _) := ⟨hF7, hU7, hV7⟩
                have HB7 : Hid (Below w0.heap.size w0 ((wr.setCell ⟨B, 0, none⟩ (.int .i64 ((cntT l (k + 1) : Int) + 1))).setCell ⟨B + 1, k + 1, none⟩ (.int .i64 ((cntT l (k + 1) : Int) + 1)))) := (hb.setCell (by show w0.heap.size ≤ B; omega) _).setCell (by show w0.heap.size ≤ B + 1; omega) _
                have n1 := NN.out.2
                clear hk hF hU hV hb hkl hy hgd hcs hcl hns hlj hna hF6 hU6 hU7 hF7 hV7 hVB
                go_wp2
                exact ⟨⟨k + 1, HK.out, by rw [NN.out.1]; rfl, by rw [HCS.out]; exact HX.out.1, HX.out.2.1, HX.out.2.2, HB7.out⟩, by rw [NN.out.1]; have := HK.out; simp [intOf]; omega⟩
            · obtain rfl : k = gs.length := by omega
              have d1 : ((gs.length : Int) + 1 ≤ (gs.length : Int)) = False := eq_false (by omega)
              rw [rowP_all (numL_length l _)] at HUR
              have hfm : FmAt B (cntT l (gs.length + 1) : Int) [] (fun k => k = B) wr := ⟨rfl, fun k hk => by rw [hk]; exact (Array.getElem?_eq_some_iff.1 hF).1, _, _, [], hF, World.ownsRow_nil _ _ _ _, fun k hk => by simp [Value.ownBlock] at hk, rfl, fun k l hk => by simp at hk⟩
              obtain ⟨C, hC⟩ : ∃ C : Int, C = (cntT l (gs.length + 1) : Int) := ⟨_, rfl⟩
              rw [← hC] at hfm
              have HFM : Hid (FmAt B C [] (fun k => k = B) wr) := hfm
              have HCE : Hid (C = (cntT l (gs.length + 1) : Int)) := hC
              clear hk hF hU hV hb hkl hfm hC HFR
              go_wp2
              go_loopw [13] (fun t wr => ∃ (k : Nat) (F : Nat → Prop), k ≤ gs.length ∧ t = .int .i64 ((k : Int) + 1) ∧ FmAt B C (gatesC gs l k) F wr ∧ (∀ j, F j → B ≤ j) ∧ ¬ F (B + 1) ∧ wr.heap[B + 1]? = some (.cells (rowI (numL l (gs.length + 1))) 3 (0, 0)) ∧ wr.heap[w0.heap.size]? = some (.cells (rowB (needR gs rs)) 4 (0, 0)) ∧ Below w0.heap.size w0 wr) (fun t _ => gs.length + 1 - (intOf t).toNat)
              case atStart => exact ⟨0, _, Nat.zero_le _, rfl, HFM.out, fun j hj => by omega, by omega, HUR.out, HVR.out, HBR.out⟩
              case round =>
                obtain ⟨k, F, hk, rfl, hfm, hFB, hFU, hU, hV, hb⟩ := hrel
                have q1 := cell_keep hb C2.out
                have HFM : Hid (FmAt B C (gatesC gs l k) F wr) := hfm
                have HFB : Hid ((∀ j, F j → B ≤ j) ∧ ¬ F (B + 1)) := ⟨hFB, hFU⟩
                have HUR : Hid (wr.heap[B + 1]? = some (.cells (rowI (numL l (gs.length + 1))) 3 (0, 0))) := hU
                have HVR : Hid (wr.heap[w0.heap.size]? = some (.cells (rowB (needR gs rs)) 4 (0, 0))) := hV
                have HBR : Hid (Below w0.heap.size w0 wr) := hb
                by_cases hkl : k < gs.length
                · obtain ⟨p, hp⟩ : ∃ p, gs[k]? = some p := ⟨_, List.getElem?_eq_getElem hkl⟩
                  obtain ⟨g, c', e', u0, u1, u2⟩ := gate_cells H40.out hp
                  have emo : mo = some ⟨g, 0, none⟩ := (Value.slice.inj e').1
                  subst emo
                  have v0 := cell_keep hb u0
                  have v1 := cell_keep hb u1
                  have v2 := cell_keep hb u2
                  have hpg : gs.getD k (0, 0) = p := by rw [List.getD_eq_getElem?_getD, hp]; rfl
                  have hgc := gatesC_succ gs l k
                  have hge : gateC gs l k = if 0 < numA l (k + 1) ∧ inpB p = false then [[- numA l (k + 1), sgnL l p.1], [- numA l (k + 1), sgnL l p.2], [numA l (k + 1), - sgnL l p.1, - sgnL l p.2]] else [] := by
                    unfold gateC; rw [hpg]
                  rw [hge] at hgc
                  have hlit : inpB p = false → 0 ≤ p.1 ∧ p.1 < 2 * ((gs.length + 1 : Nat) : Int) ∧ 0 ≤ p.2 ∧ p.2 < 2 * ((gs.length + 1 : Nat) : Int) := fun hq => by
                    have := HGS.out.lits hp hq
                    omega
                  obtain ⟨y, hy⟩ : ∃ y, (needR gs rs)[k + 1]? = some y := ⟨_, List.getElem?_eq_getElem (by have := HLL.out; omega)⟩
                  have hya : 0 < numA l (k + 1) ↔ y = true := by rw [numA_pos, HLS.out, hy]; simp
                  have hnr := numA_range l (k + 1)
                  have hglen := gatesC_length gs l k
                  obtain ⟨p1, p2⟩ := p
                  obtain ⟨w6, hw6⟩ : ∃ w6, w6 = wr.alloc (.cells #[.int .i64 p1, .int .i64 p2, .bool (inpB (p1, p2))] 78) := ⟨_, rfl⟩
                  have hb6r : Below wr.heap.size wr w6 := by rw [hw6]; exact (Below.refl _ _).alloc (Nat.le_refl _) _
                  have hb6 : Below w0.heap.size w0 w6 := hb.trans (hb6r.mono hb.size)
                  have hg6 : w6.heap[wr.heap.size]? = some (.cells #[.int .i64 p1, .int .i64 p2, .bool (inpB (p1, p2))] 78 (0, 0)) := by rw [hw6]; exact heap_alloc_new _ _
                  have hV6 := row_keep hb6r hV
                  have x0 : w6.cell? ⟨wr.heap.size, 0, none⟩ = some (.int .i64 p1) := by rw [cell_of_row w6 _ _ _ _ (0, 0) hg6]; rfl
                  have x1 : w6.cell? ⟨wr.heap.size, 0 + 1, none⟩ = some (.int .i64 p2) := by rw [cell_of_row w6 _ _ _ _ (0, 0) hg6]; rfl
                  have x2 : w6.cell? ⟨wr.heap.size, 0 + 2, none⟩ = some (.bool (inpB (p1, p2))) := by rw [cell_of_row w6 _ _ _ _ (0, 0) hg6]; rfl
                  have x3 : w6.cell? ⟨w0.heap.size, k + 1, none⟩ = some (.bool y) := by rw [cell_of_row w6 _ _ _ _ (0, 0) hV6]; exact rowB_get hy
                  have HFM6 : Hid (FmAt B C (gatesC gs l k) F w6) := hfm.below hb6r
                  have HU6 : Hid (w6.heap[B + 1]? = some (.cells (rowI (numL l (gs.length + 1))) 3 (0, 0))) := row_keep hb6r hU
                  have HV6 : Hid (w6.heap[w0.heap.size]? = some (.cells (rowB (needR gs rs)) 4 (0, 0))) := hV6
                  have HB6 : Hid (Below w0.heap.size w0 w6) := hb6
                  have HW6 : Hid (wr.alloc (.cells #[.int .i64 p1, .int .i64 p2, .bool (inpB (p1, p2))] 78) = w6) := hw6.symm
                  have HLit : Hid (inpB (p1, p2) = false → 0 ≤ p1 ∧ p1 < 2 * ((gs.length + 1 : Nat) : Int) ∧ 0 ≤ p2 ∧ p2 < 2 * ((gs.length + 1 : Nat) : Int)) := hlit
                  have HGC : Hid (gatesC gs l (k + 1) = gatesC gs l k ++ if 0 < numA l (k + 1) ∧ inpB (p1, p2) = false then [[- numA l (k + 1), sgnL l p1], [- numA l (k + 1), sgnL l p2], [numA l (k + 1), - sgnL l p1, - sgnL l p2]] else []) := hgc
                  have HYA : Hid (0 < numA l (k + 1) ↔ y = true) := hya
                  have HNR : Hid (0 ≤ numA l (k + 1) ∧ numA l (k + 1) ≤ 2000) := by have := HL.out; unfold Hid; omega
                  have HGL : Hid ((gatesC gs l k).length ≤ 10000) := by have := HL.out; unfold Hid; omega
                  have HK : Hid (k < gs.length) := hkl
                  have d1 : ((k : Int) + 1 ≤ (gs.length : Int)) = True := eq_true (by omega)
                  have r0 : (0 : Int) ≤ (k : Int) := by omega
                  have r1 : (k : Int) < (gs.length : Int) := by omega
                  have r2 : (0 : Int) ≤ (k : Int) + 1 := by omega
                  have r3 : (k : Int) + 1 < (gs.length : Int) + 1 := by omega
                  have NN : Hid (wrap64 ((k : Int) + 1 + 1) = (k : Int) + 1 + 1 ∧ wrap64 (k : Int) = (k : Int)) := by have := HL.out; unfold Hid wrap64; omega
                  have n3 := NN.out.2
                  rw [hw6] at x0 x1 x2 x3
                  clear hk hfm hFB hFU hU hV hb hkl hp e' u0 u1 u2 hpg hgc hge hlit hy hya hnr hglen hw6 hb6r hb6 hg6 hV6 HFM HUR HVR HBR
                  cases y
                  · have HG2 : Hid (gatesC gs l (k + 1) = gatesC gs l k) := by
                      have h := HYA.out
                      unfold Hid; rw [HGC.out, if_neg (fun h' => by have := h.1 h'.1; cases this), List.append_nil]
                    go_wp2
                    rw [HW6.out]
                    exact ⟨⟨k + 1, F, HK.out, by rw [NN.out.1]; rfl, by rw [HG2.out]; exact HFM6.out, HFB.out.1, HFB.out.2, HU6.out, HV6.out, HB6.out⟩, by rw [NN.out.1]; have := HK.out; simp [intOf]; omega⟩
                  · cases hq : inpB (p1, p2)
                    · rw [hq] at HW6 x0 x1 x2 x3
                      obtain ⟨a0, a1, b0, b1⟩ := HLit.out hq
                      have ra := sgnL_range l p1 (gs.length + 1) a0 a1
                      have rb := sgnL_range l p2 (gs.length + 1) b0 b1
                      have HA1 : Hid (Calls Tryd.prog 35 #[.slice (some ⟨B + 1, 0, none⟩) (gs.length + 1) (gs.length + 1), .int .i64 p1] w6 fun e w' => e = .returned (.int .i64 (sgnL l p1)) ∧ w' = w6) := signed_any w6 (B + 1) (gs.length + 1) l _ HU6.out p1 a0 a1 (by have := HL.out; omega)
                      have HA2 : Hid (Calls Tryd.prog 35 #[.slice (some ⟨B + 1, 0, none⟩) (gs.length + 1) (gs.length + 1), .int .i64 p2] w6 fun e w' => e = .returned (.int .i64 (sgnL l p2)) ∧ w' = w6) := signed_any w6 (B + 1) (gs.length + 1) l _ HU6.out p2 b0 b1 (by have := HL.out; omega)
                      have HG2 : Hid (gatesC gs l (k + 1) = gatesC gs l k ++ [[- numA l (k + 1), sgnL l p1], [- numA l (k + 1), sgnL l p2], [numA l (k + 1), - sgnL l p1, - sgnL l p2]]) := by
                        unfold Hid; rw [HGC.out, if_pos ⟨HYA.out.2 rfl, hq⟩]
                      have z0 : w6.cell? ⟨B + 1, k + 1, none⟩ = some (.int .i64 (numA l (k + 1))) := by rw [cell_of_row w6 _ _ _ _ (0, 0) HU6.out]; exact rowI_get (numL_get l (by have := HK.out; omega))
                      obtain ⟨X, hX⟩ : ∃ X, X = numA l (k + 1) := ⟨_, rfl⟩
                      obtain ⟨a, ha⟩ : ∃ a, a = sgnL l p1 := ⟨_, rfl⟩
                      obtain ⟨b, hb'⟩ : ∃ b, b = sgnL l p2 := ⟨_, rfl⟩
                      rw [← hX] at HG2 z0 HNR
                      rw [← ha] at HG2 HA1 ra
                      rw [← hb'] at HG2 HA2 rb
                      have HAB : Hid (IntKind.i64.wrap (-X) = -X ∧ IntKind.i64.wrap (-a) = -a ∧ IntKind.i64.wrap (-b) = -b) := by
                        have := HNR.out; have := HL.out
                        clear n3
                        unfold Hid; rw [IntKind.wrap_i64, IntKind.wrap_i64, IntKind.wrap_i64]; omega
                      obtain ⟨g1, g2, ft, sv, vs, g3, g4, g5, g6, g7⟩ := HFM6.out
                      obtain ⟨so, sc, rfl, hnm⟩ := owns_form g4
                      obtain ⟨cs, hcs⟩ : ∃ cs, cs = gatesC gs l k := ⟨_, rfl⟩
                      rw [← hcs] at g3 g4 g5 g6 g7 HG2 HFM6 HGL
                      have z1 : w6.cell? ⟨B, 1, none⟩ = some (.slice so cs.length sc) := by rw [cell_of_row w6 B 1 _ _ (0, 0) g3]; rfl
                      have x1' := x1
                      rw [HW6.out] at x1'
                      clear a0 a1 b0 b1 ra rb hX ha hb' hcs HLit HGC HYA
                      go_wp2_with fail
                      rw [HW6.out]
                      refine HA1.out.mono ?_
                      rintro e w' ⟨rfl, hw⟩
                      have hw2 := hw.symm
                      subst hw2
                      clear x0 x1 x2 x3
                      go_wp2_with fail
                      refine HA2.out.mono ?_
                      rintro e w' ⟨rfl, hw⟩
                      have hw2 := hw.symm
                      subst hw2
                      go_wp2
                      have HO : Hid (∀ W, Below w6.heap.size w6 W → W.ownsRow 0 80 1 (.slice so cs.length sc) cs.length vs) := fun W hW => owns_keep g4 (fun k hk => hW.block k (g4.lt k hk).2)
                      have HG1 : Hid (F B ∧ (∀ k, F k → k < w6.heap.size)) := ⟨g1, g2⟩
                      have HG3 : Hid (w6.heap[B]? = some (.cells #[.int .i64 C, .slice so cs.length sc] ft (0, 0))) := g3
                      have HG5 : Hid (∀ k, (Value.slice so cs.length sc).ownBlock = some k → F k ∧ k ≠ B) := g5
                      have HG6 : Hid (vs.length = cs.length) := g6
                      have HG7 : Hid (∀ (k : Nat) l, cs[k]? = some l → ∃ v, vs[k]? = some v ∧ ClIn (fun k => F k ∨ k < B) w6 v l) := g7
                      have HNB : Hid ((Value.slice so cs.length sc).ownBlock ≠ some B) := fun e => (g5 B e).2 rfl
                      have HNU : Hid ((Value.slice so cs.length sc).ownBlock ≠ some (B + 1)) := fun e => HFB.out.2 (g5 _ e).1
                      have HMX3 : Hid (cs.length + 3 ≤ maxLen) := by have := HGL.out; unfold Hid maxLen; omega
                      have HBY3 : Hid ((cs.length + 3) * 24 ≤ 140737488355328) := by have := HGL.out; unfold Hid; omega
                      have HUX : Hid ((rowI (numL l (gs.length + 1)))[k + 1]? = some (.int .i64 X)) := by
                        have := z0
                        rw [cell_of_row w6 _ _ _ _ (0, 0) HU6.out] at this
                        exact this
                      have HUB : Hid (B + 1 ≠ B) := by unfold Hid; omega
                      clear g1 g2 g3 g4 g5 g6 g7 hnm x1' HA1 HA2
                      refine wp_region_till 28 (fun w' => w'.cell? ⟨B + 1, k + 1, none⟩ = some (.int .i64 X)) (fun w' => w'.cell? ⟨B, 1, none⟩ = some (.slice so cs.length sc)) (by kernel_rfl) z0 z1 (fun hHeld => ?_)
                      refine wpTill_take (i := 0) (oi := ⟨some 138, _, _, _, _, _⟩) (v := .pointer (some ⟨B, 1, none⟩)) rfl rfl (by kernel_rfl) (by kernel_rfl) (by kernel_rfl) (fun _ _ _ h => h) (Or.inl ⟨by rfl, ?_⟩) hHeld ?_
                      · intro w hSw; (try dsimp only at hSw); go_simp
                      try simp only [Act.put, List.setIfInBounds_toArray, List.set_cons_zero, List.set_cons_succ]
                      refine wpTill_load 26 (i := 1) (oi := ⟨some 139, _, _, _, _, _⟩) (v := .slice so cs.length sc) rfl rfl (by kernel_rfl) (by kernel_rfl) (by kernel_rfl) (by kernel_rfl) (by kernel_rfl) (by kernel_rfl) (by kernel_rfl) (fun _ _ _ h => h) (Or.inl ⟨by rfl, ?_⟩) hHeld ?_
                      · intro w hSw; (try dsimp only at hSw); go_simp
                      try simp only [Act.put, List.setIfInBounds_toArray, List.set_cons_zero, List.set_cons_succ]
                      refine wpTill_take (i := 2) (oi := ⟨some 140, _, _, _, _, _⟩) (v := .slice (some ⟨B + 1, 0, none⟩) (gs.length + 1) (gs.length + 1)) rfl rfl (by kernel_rfl) (by kernel_rfl) (by kernel_rfl) (fun _ _ _ h => h) (Or.inl ⟨by rfl, ?_⟩) hHeld ?_
                      · intro w hSw; (try dsimp only at hSw); go_simp
                      try simp only [Act.put, List.setIfInBounds_toArray, List.set_cons_zero, List.set_cons_succ]
                      refine wpTill_take (i := 3) (oi := ⟨some 141, _, _, _, _, _⟩) (v := .int .i64 ((k : Int) + 1)) rfl rfl (by kernel_rfl) (by kernel_rfl) (by kernel_rfl) (fun _ _ _ h => h) (Or.inl ⟨by rfl, ?_⟩) hHeld ?_
                      · intro w hSw; (try dsimp only at hSw); go_simp
                      try simp only [Act.put, List.setIfInBounds_toArray, List.set_cons_zero, List.set_cons_succ]
                      refine wpTill_take (i := 4) (oi := ⟨some 142, _, _, _, _, _⟩) (v := .pointer (some ⟨B + 1, k + 1, none⟩)) rfl rfl (by kernel_rfl) (by kernel_rfl) (by kernel_rfl) (fun _ _ _ h => h) (Or.inl ⟨by rfl, ?_⟩) hHeld ?_
                      · intro w hSw; (try dsimp only at hSw); go_simp
                      try simp only [Act.put, List.setIfInBounds_toArray, List.set_cons_zero, List.set_cons_succ]
                      refine wpTill_take (i := 5) (oi := ⟨some 143, _, _, _, _, _⟩) (v := .int .i64 X) rfl rfl (by kernel_rfl) (by kernel_rfl) (by kernel_rfl) (fun _ _ _ h => h) (Or.inl ⟨by rfl, ?_⟩) hHeld ?_
                      · intro w hSw; (try dsimp only at hSw); go_simp
                      try simp only [Act.put, List.setIfInBounds_toArray, List.set_cons_zero, List.set_cons_succ]
                      refine wpTill_take (i := 6) (oi := ⟨some 144, _, _, _, _, _⟩) (v := .int .i64 (IntKind.i64.wrap (-X))) rfl rfl (by kernel_rfl) (by kernel_rfl) (by kernel_rfl) (fun _ _ _ h => h) (Or.inl ⟨by rfl, ?_⟩) hHeld ?_
                      · intro w hSw; (try dsimp only at hSw); go_simp
                      try simp only [Act.put, List.setIfInBounds_toArray, List.set_cons_zero, List.set_cons_succ]
                      refine wpTill_take (i := 7) (oi := ⟨some 145, _, _, _, _, _⟩) (v := .int .i64 a) rfl rfl (by kernel_rfl) (by kernel_rfl) (by kernel_rfl) (fun _ _ _ h => h) (Or.inl ⟨by rfl, ?_⟩) hHeld ?_
                      · intro w hSw; (try dsimp only at hSw); go_simp
                      try simp only [Act.put, List.setIfInBounds_toArray, List.set_cons_zero, List.set_cons_succ]
                      refine wpTill_take (i := 9) (oi := ⟨some 147, _, _, _, _, _⟩) (v := .slice (some ⟨B + 1, 0, none⟩) (gs.length + 1) (gs.length + 1)) rfl rfl (by kernel_rfl) (by kernel_rfl) (by kernel_rfl) (fun _ _ _ h => h) (Or.inl ⟨by rfl, ?_⟩) hHeld ?_
                      · intro w hSw; (try dsimp only at hSw); go_simp
                      try simp only [Act.put, List.setIfInBounds_toArray, List.set_cons_zero, List.set_cons_succ]
                      refine wpTill_take (i := 10) (oi := ⟨some 148, _, _, _, _, _⟩) (v := .int .i64 ((k : Int) + 1)) rfl rfl (by kernel_rfl) (by kernel_rfl) (by kernel_rfl) (fun _ _ _ h => h) (Or.inl ⟨by rfl, ?_⟩) hHeld ?_
                      · intro w hSw; (try dsimp only at hSw); go_simp
                      try simp only [Act.put, List.setIfInBounds_toArray, List.set_cons_zero, List.set_cons_succ]
                      refine wpTill_take (i := 11) (oi := ⟨some 149, _, _, _, _, _⟩) (v := .pointer (some ⟨B + 1, k + 1, none⟩)) rfl rfl (by kernel_rfl) (by kernel_rfl) (by kernel_rfl) (fun _ _ _ h => h) (Or.inl ⟨by rfl, ?_⟩) hHeld ?_
                      · intro w hSw; (try dsimp only at hSw); go_simp
                      try simp only [Act.put, List.setIfInBounds_toArray, List.set_cons_zero, List.set_cons_succ]
                      refine wpTill_take (i := 12) (oi := ⟨some 150, _, _, _, _, _⟩) (v := .int .i64 X) rfl rfl (by kernel_rfl) (by kernel_rfl) (by kernel_rfl) (fun _ _ _ h => h) (Or.inl ⟨by rfl, ?_⟩) hHeld ?_
                      · intro w hSw; (try dsimp only at hSw); go_simp
                      try simp only [Act.put, List.setIfInBounds_toArray, List.set_cons_zero, List.set_cons_succ]
                      refine wpTill_take (i := 13) (oi := ⟨some 151, _, _, _, _, _⟩) (v := .int .i64 (IntKind.i64.wrap (-X))) rfl rfl (by kernel_rfl) (by kernel_rfl) (by kernel_rfl) (fun _ _ _ h => h) (Or.inl ⟨by rfl, ?_⟩) hHeld ?_
                      · intro w hSw; (try dsimp only at hSw); go_simp
                      try simp only [Act.put, List.setIfInBounds_toArray, List.set_cons_zero, List.set_cons_succ]
                      refine wpTill_take (i := 14) (oi := ⟨some 152, _, _, _, _, _⟩) (v := .int .i64 b) rfl rfl (by kernel_rfl) (by kernel_rfl) (by kernel_rfl) (fun _ _ _ h => h) (Or.inl ⟨by rfl, ?_⟩) hHeld ?_
                      · intro w hSw; (try dsimp only at hSw); go_simp
                      try simp only [Act.put, List.setIfInBounds_toArray, List.set_cons_zero, List.set_cons_succ]
                      refine wpTill_take (i := 16) (oi := ⟨some 154, _, _, _, _, _⟩) (v := .slice (some ⟨B + 1, 0, none⟩) (gs.length + 1) (gs.length + 1)) rfl rfl (by kernel_rfl) (by kernel_rfl) (by kernel_rfl) (fun _ _ _ h => h) (Or.inl ⟨by rfl, ?_⟩) hHeld ?_
                      · intro w hSw; (try dsimp only at hSw); go_simp
                      try simp only [Act.put, List.setIfInBounds_toArray, List.set_cons_zero, List.set_cons_succ]
                      refine wpTill_take (i := 17) (oi := ⟨some 155, _, _, _, _, _⟩) (v := .int .i64 ((k : Int) + 1)) rfl rfl (by kernel_rfl) (by kernel_rfl) (by kernel_rfl) (fun _ _ _ h => h) (Or.inl ⟨by rfl, ?_⟩) hHeld ?_
                      · intro w hSw; (try dsimp only at hSw); go_simp
                      try simp only [Act.put, List.setIfInBounds_toArray, List.set_cons_zero, List.set_cons_succ]
                      refine wpTill_take (i := 18) (oi := ⟨some 156, _, _, _, _, _⟩) (v := .pointer (some ⟨B + 1, k + 1, none⟩)) rfl rfl (by kernel_rfl) (by kernel_rfl) (by kernel_rfl) (fun _ _ _ h => h) (Or.inl ⟨by rfl, ?_⟩) hHeld ?_
                      · intro w hSw; (try dsimp only at hSw); go_simp
                      try simp only [Act.put, List.setIfInBounds_toArray, List.set_cons_zero, List.set_cons_succ]
                      refine wpTill_take (i := 19) (oi := ⟨some 157, _, _, _, _, _⟩) (v := .int .i64 X) rfl rfl (by kernel_rfl) (by kernel_rfl) (by kernel_rfl) (fun _ _ _ h => h) (Or.inl ⟨by rfl, ?_⟩) hHeld ?_
                      · intro w hSw; (try dsimp only at hSw); go_simp
                      try simp only [Act.put, List.setIfInBounds_toArray, List.set_cons_zero, List.set_cons_succ]
                      refine wpTill_take (i := 20) (oi := ⟨some 158, _, _, _, _, _⟩) (v := .int .i64 a) rfl rfl (by kernel_rfl) (by kernel_rfl) (by kernel_rfl) (fun _ _ _ h => h) (Or.inl ⟨by rfl, ?_⟩) hHeld ?_
                      · intro w hSw; (try dsimp only at hSw); go_simp
                      try simp only [Act.put, List.setIfInBounds_toArray, List.set_cons_zero, List.set_cons_succ]
                      refine wpTill_take (i := 21) (oi := ⟨some 159, _, _, _, _, _⟩) (v := .int .i64 (IntKind.i64.wrap (-a))) rfl rfl (by kernel_rfl) (by kernel_rfl) (by kernel_rfl) (fun _ _ _ h => h) (Or.inl ⟨by rfl, ?_⟩) hHeld ?_
                      · intro w hSw; (try dsimp only at hSw); go_simp
                      try simp only [Act.put, List.setIfInBounds_toArray, List.set_cons_zero, List.set_cons_succ]
                      refine wpTill_take (i := 22) (oi := ⟨some 160, _, _, _, _, _⟩) (v := .int .i64 b) rfl rfl (by kernel_rfl) (by kernel_rfl) (by kernel_rfl) (fun _ _ _ h => h) (Or.inl ⟨by rfl, ?_⟩) hHeld ?_
                      · intro w hSw; (try dsimp only at hSw); go_simp
                      try simp only [Act.put, List.setIfInBounds_toArray, List.set_cons_zero, List.set_cons_succ]
                      refine wpTill_take (i := 23) (oi := ⟨some 161, _, _, _, _, _⟩) (v := .int .i64 (IntKind.i64.wrap (-b))) rfl rfl (by kernel_rfl) (by kernel_rfl) (by kernel_rfl) (fun _ _ _ h => h) (Or.inl ⟨by rfl, ?_⟩) hHeld ?_
                      · intro w hSw; (try dsimp only at hSw); go_simp
                      try simp only [Act.put, List.setIfInBounds_toArray, List.set_cons_zero, List.set_cons_succ]
                      refine wpTill_ready (rs := [8, 15, 24]) (by kernel_rfl) (by simp) ?_
                      refine AllTill.cons (o := ⟨some 146, _, _, _, _, _⟩) rfl (fun K hK => ?_) (AllTill.cons (o := ⟨some 153, _, _, _, _, _⟩) rfl (fun K hK => ?_) (AllTill.cons (o := ⟨some 162, _, _, _, _, _⟩) rfl (fun K hK => ?_) AllTill.nil))
                      · go_simp
                        refine hK.out _ _ ⟨cellD (cellA z0), fun _ => cellD (cellA z1)⟩ (fun hHeld => ?_)
                        clear hK K
                        try simp only [Act.put, List.setIfInBounds_toArray, List.set_cons_zero, List.set_cons_succ]
                        refine wpTill_ready (rs := [15, 24]) (by kernel_rfl) (by simp) ?_
                        refine AllTill.cons (o := ⟨some 153, _, _, _, _, _⟩) rfl (fun K hK => ?_) (AllTill.cons (o := ⟨some 162, _, _, _, _, _⟩) rfl (fun K hK => ?_) AllTill.nil)
                        · go_simp
                          refine hK.out _ _ ⟨cellD (cellA (cellA z0)), fun _ => cellD (cellA (cellA z1))⟩ (fun hHeld => ?_)
                          clear hK K
                          try simp only [Act.put, List.setIfInBounds_toArray, List.set_cons_zero, List.set_cons_succ]
                          refine wpTill_ready (rs := [24]) (by kernel_rfl) (by simp) ?_
                          refine AllTill.cons (o := ⟨some 162, _, _, _, _, _⟩) rfl (fun K hK => ?_) AllTill.nil
                          · go_simp
                            refine hK.out _ _ ⟨cellD (cellA (cellA (cellA z0))), fun _ => cellD (cellA (cellA (cellA z1)))⟩ (fun hHeld => ?_)
                            clear hK K
                            try simp only [Act.put, List.setIfInBounds_toArray, List.set_cons_zero, List.set_cons_succ]
                            refine wpTill_ready (rs := [25]) (by kernel_rfl) (by simp) ?_
                            refine AllTill.cons (o := ⟨some 163, _, _, _, _, _⟩) rfl (fun K hK => ?_) AllTill.nil
                            go_simp
                            refine hK.out _ _ ⟨cellD (cellA (cellA (cellA (cellA z0)))), fun _ => cellD (cellA (cellA (cellA (cellA z1))))⟩ (fun hHeld => ?_)
                            clear hK K
                            try simp only [Act.put, List.setIfInBounds_toArray, List.set_cons_zero, List.set_cons_succ]
                            refine wpTill_ready (rs := [26]) (by kernel_rfl) (by simp) ?_
                            refine AllTill.cons (o := ⟨some 164, _, _, _, _, _⟩) rfl (fun K hK => ?_) AllTill.nil
                            refine step_append_lies _ rfl (.tmp 139) (.tmp 163) 32 rfl 0 80 i2 _ 1 24 Tryd.underlying32 hk0 hx0 hx1 hx2 rfl (by omega) (.slice so cs.length sc) cs.length vs (by simp [Act.eval]) (HO.out _ (below4 _ _ _ _ _)) _ 3 3 _ (by simp [Act.eval]) rfl (newsD _ _ _) (by simp [Value.oneCell']) (by omega) HMX3.out HBY3.out (Nat.zero_le _) _ rfl ?_
                            intro g cap w7 hown7 hgrow hat hlt7
                            have r7 := rowG hgrow (below4 _ _ _ _ _) HG3.out HNB.out
                            have u7 := rowG hgrow (below4 _ _ _ _ _) HU6.out HNU.out
                            have y0 : w7.cell? ⟨B, 1, none⟩ = some (.slice so cs.length sc) := by rw [cell_of_row w7 B 1 _ _ (0, 0) r7]; rfl
                            have f0 : w7.frozen? ⟨B, 1, none⟩ = false := frozen_row r7
                            have hq7 : w7.cell? ⟨B + 1, k + 1, none⟩ = some (.int .i64 X) := by rw [cell_of_row w7 _ _ _ _ (0, 0) u7]; exact HUX.out
                            have hq8 : (w7.setCell ⟨B, 1, none⟩ (.slice (some ⟨g, 0, none⟩) (cs.length + 3) cap)).cell? ⟨B + 1, k + 1, none⟩ = some (.int .i64 X) := cell_set1 hq7 HUB.out 1 _
                            refine hK.out _ _ ⟨hq7, fun _ => y0⟩ (fun hHeld => ?_)
                            clear hK K
                            try simp only [Act.put, List.setIfInBounds_toArray, List.set_cons_zero, List.set_cons_succ]
                            refine wpTill_take (i := 27) (oi := ⟨some 165, _, _, _, _, _⟩) (v := .pointer (some ⟨B, 1, none⟩)) rfl rfl (by kernel_rfl) (by kernel_rfl) (by kernel_rfl) (fun _ _ _ h => h) (Or.inl ⟨by rfl, ?_⟩) hHeld ?_
                            · intro w hSw; (try dsimp only at hSw); go_simp
                            try simp only [Act.put, List.setIfInBounds_toArray, List.set_cons_zero, List.set_cons_succ]
                            refine wpTill_ready (rs := [28]) (by kernel_rfl) (by simp) ?_
                            refine AllTill.cons (o := ⟨none, _, _, _, _, _⟩) rfl (fun K hK => ?_) AllTill.nil
                            go_simp
                            refine hK.out _ _ (Till.last hq8) (fun hHeld => ?_)
                            clear hK K
                            try simp only [Act.put, List.setIfInBounds_toArray, List.set_cons_zero, List.set_cons_succ]
                            refine wpTill_done (by kernel_rfl) ?_ _
                            have HFIN : Hid (FmU B C (cs ++ [[IntKind.i64.wrap (-X), a], [IntKind.i64.wrap (-X), b], [X, IntKind.i64.wrap (-a), IntKind.i64.wrap (-b)]]) (numL l (gs.length + 1)) w0.heap.size (needR gs rs) w0 (w7.setCell ⟨B, 1, none⟩ (.slice (some ⟨g, 0, none⟩) (cs.length + 3) cap))) := fin3 HSZ.out.2 HG1.out.1 HG1.out.2 HG3.out HG5.out HG6.out HG7.out HFB.out.1 HFB.out.2 HU6.out HV6.out HB6.out (below4 _ _ _ _ _) ⟨⟨_, by first | exact at0 _ _ _ _ _ | exact at1 _ _ _ _ _ | exact at2 _ _ _ _ _⟩, by first | exact Nat.le_refl _ | exact Nat.le_add_right _ 1 | exact Nat.le_add_right _ 2⟩ ⟨⟨_, by first | exact at0 _ _ _ _ _ | exact at1 _ _ _ _ _ | exact at2 _ _ _ _ _⟩, by first | exact Nat.le_refl _ | exact Nat.le_add_right _ 1 | exact Nat.le_add_right _ 2⟩ ⟨⟨_, by first | exact at0 _ _ _ _ _ | exact at1 _ _ _ _ _ | exact at2 _ _ _ _ _⟩, by first | exact Nat.le_refl _ | exact Nat.le_add_right _ 1 | exact Nat.le_add_right _ 2⟩ rfl rfl rfl hgrow hat hown7
                            clear hown7 hgrow hat hlt7 r7 u7 y0 f0 hq7 hq8
                            go_wp2
                            obtain ⟨F2, m1, m2, m3, m4, m5, m6⟩ := HFIN.out
                            rw [HAB.out.1, HAB.out.2.1, HAB.out.2.2, ← HG2.out] at m1
                            exact ⟨⟨k + 1, F2, HK.out, by rw [NN.out.1]; rfl, m1, m2, m3, m4, m5, m6⟩, by rw [NN.out.1]; have := HK.out; simp [intOf]; omega⟩
                        · go_simp
                          refine hK.out _ _ ⟨cellD (cellA (cellA z0)), fun _ => cellD (cellA (cellA z1))⟩ (fun hHeld => ?_)
                          clear hK K
                          try simp only [Act.put, List.setIfInBounds_toArray, List.set_cons_zero, List.set_cons_succ]
                          refine wpTill_ready (rs := [15]) (by kernel_rfl) (by simp) ?_
                          refine AllTill.cons (o := ⟨some 153, _, _, _, _, _⟩) rfl (fun K hK => ?_) AllTill.nil
                          · go_simp
                            refine hK.out _ _ ⟨cellD (cellA (cellA (cellA z0))), fun _ => cellD (cellA (cellA (cellA z1)))⟩ (fun hHeld => ?_)
                            clear hK K
                            try simp only [Act.put, List.setIfInBounds_toArray, List.set_cons_zero, List.set_cons_succ]
                            refine wpTill_ready (rs := [25]) (by kernel_rfl) (by simp) ?_
                            refine AllTill.cons (o := ⟨some 163, _, _, _, _, _⟩) rfl (fun K hK => ?_) AllTill.nil
                            go_simp
                            refine hK.out _ _ ⟨cellD (cellA (cellA (cellA (cellA z0)))), fun _ => cellD (cellA (cellA (cellA (cellA z1))))⟩ (fun hHeld => ?_)
                            clear hK K
                            try simp only [Act.put, List.setIfInBounds_toArray, List.set_cons_zero, List.set_cons_succ]
                            refine wpTill_ready (rs := [26]) (by kernel_rfl) (by simp) ?_
                            refine AllTill.cons (o := ⟨some 164, _, _, _, _, _⟩) rfl (fun K hK => ?_) AllTill.nil
                            refine step_append_lies _ rfl (.tmp 139) (.tmp 163) 32 rfl 0 80 i2 _ 1 24 Tryd.underlying32 hk0 hx0 hx1 hx2 rfl (by omega) (.slice so cs.length sc) cs.length vs (by simp [Act.eval]) (HO.out _ (below4 _ _ _ _ _)) _ 3 3 _ (by simp [Act.eval]) rfl (newsD _ _ _) (by simp [Value.oneCell']) (by omega) HMX3.out HBY3.out (Nat.zero_le _) _ rfl ?_
                            intro g cap w7 hown7 hgrow hat hlt7
                            have r7 := rowG hgrow (below4 _ _ _ _ _) HG3.out HNB.out
                            have u7 := rowG hgrow (below4 _ _ _ _ _) HU6.out HNU.out
                            have y0 : w7.cell? ⟨B, 1, none⟩ = some (.slice so cs.length sc) := by rw [cell_of_row w7 B 1 _ _ (0, 0) r7]; rfl
                            have f0 : w7.frozen? ⟨B, 1, none⟩ = false := frozen_row r7
                            have hq7 : w7.cell? ⟨B + 1, k + 1, none⟩ = some (.int .i64 X) := by rw [cell_of_row w7 _ _ _ _ (0, 0) u7]; exact HUX.out
                            have hq8 : (w7.setCell ⟨B, 1, none⟩ (.slice (some ⟨g, 0, none⟩) (cs.length + 3) cap)).cell? ⟨B + 1, k + 1, none⟩ = some (.int .i64 X) := cell_set1 hq7 HUB.out 1 _
                            refine hK.out _ _ ⟨hq7, fun _ => y0⟩ (fun hHeld => ?_)
                            clear hK K
                            try simp only [Act.put, List.setIfInBounds_toArray, List.set_cons_zero, List.set_cons_succ]
                            refine wpTill_take (i := 27) (oi := ⟨some 165, _, _, _, _, _⟩) (v := .pointer (some ⟨B, 1, none⟩)) rfl rfl (by kernel_rfl) (by kernel_rfl) (by kernel_rfl) (fun _ _ _ h => h) (Or.inl ⟨by rfl, ?_⟩) hHeld ?_
                            · intro w hSw; (try dsimp only at hSw); go_simp
                            try simp only [Act.put, List.setIfInBounds_toArray, List.set_cons_zero, List.set_cons_succ]
                            refine wpTill_ready (rs := [28]) (by kernel_rfl) (by simp) ?_
                            refine AllTill.cons (o := ⟨none, _, _, _, _, _⟩) rfl (fun K hK => ?_) AllTill.nil
                            go_simp
                            refine hK.out _ _ (Till.last hq8) (fun hHeld => ?_)
                            clear hK K
                            try simp only [Act.put, List.setIfInBounds_toArray, List.set_cons_zero, List.set_cons_succ]
                            refine wpTill_done (by kernel_rfl) ?_ _
                            have HFIN : Hid (FmU B C (cs ++ [[IntKind.i64.wrap (-X), a], [IntKind.i64.wrap (-X), b], [X, IntKind.i64.wrap (-a), IntKind.i64.wrap (-b)]]) (numL l (gs.length + 1)) w0.heap.size (needR gs rs) w0 (w7.setCell ⟨B, 1, none⟩ (.slice (some ⟨g, 0, none⟩) (cs.length + 3) cap))) := fin3 HSZ.out.2 HG1.out.1 HG1.out.2 HG3.out HG5.out HG6.out HG7.out HFB.out.1 HFB.out.2 HU6.out HV6.out HB6.out (below4 _ _ _ _ _) ⟨⟨_, by first | exact at0 _ _ _ _ _ | exact at1 _ _ _ _ _ | exact at2 _ _ _ _ _⟩, by first | exact Nat.le_refl _ | exact Nat.le_add_right _ 1 | exact Nat.le_add_right _ 2⟩ ⟨⟨_, by first | exact at0 _ _ _ _ _ | exact at1 _ _ _ _ _ | exact at2 _ _ _ _ _⟩, by first | exact Nat.le_refl _ | exact Nat.le_add_right _ 1 | exact Nat.le_add_right _ 2⟩ ⟨⟨_, by first | exact at0 _ _ _ _ _ | exact at1 _ _ _ _ _ | exact at2 _ _ _ _ _⟩, by first | exact Nat.le_refl _ | exact Nat.le_add_right _ 1 | exact Nat.le_add_right _ 2⟩ rfl rfl rfl hgrow hat hown7
                            clear hown7 hgrow hat hlt7 r7 u7 y0 f0 hq7 hq8
                            go_wp2
                            obtain ⟨F2, m1, m2, m3, m4, m5, m6⟩ := HFIN.out
                            rw [HAB.out.1, HAB.out.2.1, HAB.out.2.2, ← HG2.out] at m1
                            exact ⟨⟨k + 1, F2, HK.out, by rw [NN.out.1]; rfl, m1, m2, m3, m4, m5, m6⟩, by rw [NN.out.1]; have := HK.out; simp [intOf]; omega⟩
                      · go_simp
                        refine hK.out _ _ ⟨cellD (cellA z0), fun _ => cellD (cellA z1)⟩ (fun hHeld => ?_)
                        clear hK K
                        try simp only [Act.put, List.setIfInBounds_toArray, List.set_cons_zero, List.set_cons_succ]
                        refine wpTill_ready (rs := [8, 24]) (by kernel_rfl) (by simp) ?_
                        refine AllTill.cons (o := ⟨some 146, _, _, _, _, _⟩) rfl (fun K hK => ?_) (AllTill.cons (o := ⟨some 162, _, _, _, _, _⟩) rfl (fun K hK => ?_) AllTill.nil)
                        · go_simp
                          refine hK.out _ _ ⟨cellD (cellA (cellA z0)), fun _ => cellD (cellA (cellA z1))⟩ (fun hHeld => ?_)
                          clear hK K
                          try simp only [Act.put, List.setIfInBounds_toArray, List.set_cons_zero, List.set_cons_succ]
                          refine wpTill_ready (rs := [24]) (by kernel_rfl) (by simp) ?_
                          refine AllTill.cons (o := ⟨some 162, _, _, _, _, _⟩) rfl (fun K hK => ?_) AllTill.nil
                          · go_simp
                            refine hK.out _ _ ⟨cellD (cellA (cellA (cellA z0))), fun _ => cellD (cellA (cellA (cellA z1)))⟩ (fun hHeld => ?_)
                            clear hK K
                            try simp only [Act.put, List.setIfInBounds_toArray, List.set_cons_zero, List.set_cons_succ]
                            refine wpTill_ready (rs := [25]) (by kernel_rfl) (by simp) ?_
                            refine AllTill.cons (o := ⟨some 163, _, _, _, _, _⟩) rfl (fun K hK => ?_) AllTill.nil
                            go_simp
                            refine hK.out _ _ ⟨cellD (cellA (cellA (cellA (cellA z0)))), fun _ => cellD (cellA (cellA (cellA (cellA z1))))⟩ (fun hHeld => ?_)
                            clear hK K
                            try simp only [Act.put, List.setIfInBounds_toArray, List.set_cons_zero, List.set_cons_succ]
                            refine wpTill_ready (rs := [26]) (by kernel_rfl) (by simp) ?_
                            refine AllTill.cons (o := ⟨some 164, _, _, _, _, _⟩) rfl (fun K hK => ?_) AllTill.nil
                            refine step_append_lies _ rfl (.tmp 139) (.tmp 163) 32 rfl 0 80 i2 _ 1 24 Tryd.underlying32 hk0 hx0 hx1 hx2 rfl (by omega) (.slice so cs.length sc) cs.length vs (by simp [Act.eval]) (HO.out _ (below4 _ _ _ _ _)) _ 3 3 _ (by simp [Act.eval]) rfl (newsD _ _ _) (by simp [Value.oneCell']) (by omega) HMX3.out HBY3.out (Nat.zero_le _) _ rfl ?_
                            intro g cap w7 hown7 hgrow hat hlt7
                            have r7 := rowG hgrow (below4 _ _ _ _ _) HG3.out HNB.out
                            have u7 := rowG hgrow (below4 _ _ _ _ _) HU6.out HNU.out
                            have y0 : w7.cell? ⟨B, 1, none⟩ = some (.slice so cs.length sc) := by rw [cell_of_row w7 B 1 _ _ (0, 0) r7]; rfl
                            have f0 : w7.frozen? ⟨B, 1, none⟩ = false := frozen_row r7
                            have hq7 : w7.cell? ⟨B + 1, k + 1, none⟩ = some (.int .i64 X) := by rw [cell_of_row w7 _ _ _ _ (0, 0) u7]; exact HUX.out
                            have hq8 : (w7.setCell ⟨B, 1, none⟩ (.slice (some ⟨g, 0, none⟩) (cs.length + 3) cap)).cell? ⟨B + 1, k + 1, none⟩ = some (.int .i64 X) := cell_set1 hq7 HUB.out 1 _
                            refine hK.out _ _ ⟨hq7, fun _ => y0⟩ (fun hHeld => ?_)
                            clear hK K
                            try simp only [Act.put, List.setIfInBounds_toArray, List.set_cons_zero, List.set_cons_succ]
                            refine wpTill_take (i := 27) (oi := ⟨some 165, _, _, _, _, _⟩) (v := .pointer (some ⟨B, 1, none⟩)) rfl rfl (by kernel_rfl) (by kernel_rfl) (by kernel_rfl) (fun _ _ _ h => h) (Or.inl ⟨by rfl, ?_⟩) hHeld ?_
                            · intro w hSw; (try dsimp only at hSw); go_simp
                            try simp only [Act.put, List.setIfInBounds_toArray, List.set_cons_zero, List.set_cons_succ]
                            refine wpTill_ready (rs := [28]) (by kernel_rfl) (by simp) ?_
                            refine AllTill.cons (o := ⟨none, _, _, _, _, _⟩) rfl (fun K hK => ?_) AllTill.nil
                            go_simp
                            refine hK.out _ _ (Till.last hq8) (fun hHeld => ?_)
                            clear hK K
                            try simp only [Act.put, List.setIfInBounds_toArray, List.set_cons_zero, List.set_cons_succ]
                            refine wpTill_done (by kernel_rfl) ?_ _
                            have HFIN : Hid (FmU B C (cs ++ [[IntKind.i64.wrap (-X), a], [IntKind.i64.wrap (-X), b], [X, IntKind.i64.wrap (-a), IntKind.i64.wrap (-b)]]) (numL l (gs.length + 1)) w0.heap.size (needR gs rs) w0 (w7.setCell ⟨B, 1, none⟩ (.slice (some ⟨g, 0, none⟩) (cs.length + 3) cap))) := fin3 HSZ.out.2 HG1.out.1 HG1.out.2 HG3.out HG5.out HG6.out HG7.out HFB.out.1 HFB.out.2 HU6.out HV6.out HB6.out (below4 _ _ _ _ _) ⟨⟨_, by first | exact at0 _ _ _ _ _ | exact at1 _ _ _ _ _ | exact at2 _ _ _ _ _⟩, by first | exact Nat.le_refl _ | exact Nat.le_add_right _ 1 | exact Nat.le_add_right _ 2⟩ ⟨⟨_, by first | exact at0 _ _ _ _ _ | exact at1 _ _ _ _ _ | exact at2 _ _ _ _ _⟩, by first | exact Nat.le_refl _ | exact Nat.le_add_right _ 1 | exact Nat.le_add_right _ 2⟩ ⟨⟨_, by first | exact at0 _ _ _ _ _ | exact at1 _ _ _ _ _ | exact at2 _ _ _ _ _⟩, by first | exact Nat.le_refl _ | exact Nat.le_add_right _ 1 | exact Nat.le_add_right _ 2⟩ rfl rfl rfl hgrow hat hown7
                            clear hown7 hgrow hat hlt7 r7 u7 y0 f0 hq7 hq8
                            go_wp2
                            obtain ⟨F2, m1, m2, m3, m4, m5, m6⟩ := HFIN.out
                            rw [HAB.out.1, HAB.out.2.1, HAB.out.2.2, ← HG2.out] at m1
                            exact ⟨⟨k + 1, F2, HK.out, by rw [NN.out.1]; rfl, m1, m2, m3, m4, m5, m6⟩, by rw [NN.out.1]; have := HK.out; simp [intOf]; omega⟩
                        · go_simp
                          refine hK.out _ _ ⟨cellD (cellA (cellA z0)), fun _ => cellD (cellA (cellA z1))⟩ (fun hHeld => ?_)
                          clear hK K
                          try simp only [Act.put, List.setIfInBounds_toArray, List.set_cons_zero, List.set_cons_succ]
                          refine wpTill_ready (rs := [8]) (by kernel_rfl) (by simp) ?_
                          refine AllTill.cons (o := ⟨some 146, _, _, _, _, _⟩) rfl (fun K hK => ?_) AllTill.nil
                          · go_simp
                            refine hK.out _ _ ⟨cellD (cellA (cellA (cellA z0))), fun _ => cellD (cellA (cellA (cellA z1)))⟩ (fun hHeld => ?_)
                            clear hK K
                            try simp only [Act.put, List.setIfInBounds_toArray, List.set_cons_zero, List.set_cons_succ]
                            refine wpTill_ready (rs := [25]) (by kernel_rfl) (by simp) ?_
                            refine AllTill.cons (o := ⟨some 163, _, _, _, _, _⟩) rfl (fun K hK => ?_) AllTill.nil
                            go_simp
                            refine hK.out _ _ ⟨cellD (cellA (cellA (cellA (cellA z0)))), fun _ => cellD (cellA (cellA (cellA (cellA z1))))⟩ (fun hHeld => ?_)
                            clear hK K
                            try simp only [Act.put, List.setIfInBounds_toArray, List.set_cons_zero, List.set_cons_succ]
                            refine wpTill_ready (rs := [26]) (by kernel_rfl) (by simp) ?_
                            refine AllTill.cons (o := ⟨some 164, _, _, _, _, _⟩) rfl (fun K hK => ?_) AllTill.nil
                            refine step_append_lies _ rfl (.tmp 139) (.tmp 163) 32 rfl 0 80 i2 _ 1 24 Tryd.underlying32 hk0 hx0 hx1 hx2 rfl (by omega) (.slice so cs.length sc) cs.length vs (by simp [Act.eval]) (HO.out _ (below4 _ _ _ _ _)) _ 3 3 _ (by simp [Act.eval]) rfl (newsD _ _ _) (by simp [Value.oneCell']) (by omega) HMX3.out HBY3.out (Nat.zero_le _) _ rfl ?_
                            intro g cap w7 hown7 hgrow hat hlt7
                            have r7 := rowG hgrow (below4 _ _ _ _ _) HG3.out HNB.out
                            have u7 := rowG hgrow (below4 _ _ _ _ _) HU6.out HNU.out
                            have y0 : w7.cell? ⟨B, 1, none⟩ = some (.slice so cs.length sc) := by rw [cell_of_row w7 B 1 _ _ (0, 0) r7]; rfl
                            have f0 : w7.frozen? ⟨B, 1, none⟩ = false := frozen_row r7
                            have hq7 : w7.cell? ⟨B + 1, k + 1, none⟩ = some (.int .i64 X) := by rw [cell_of_row w7 _ _ _ _ (0, 0) u7]; exact HUX.out
                            have hq8 : (w7.setCell ⟨B, 1, none⟩ (.slice (some ⟨g, 0, none⟩) (cs.length + 3) cap)).cell? ⟨B + 1, k + 1, none⟩ = some (.int .i64 X) := cell_set1 hq7 HUB.out 1 _
                            refine hK.out _ _ ⟨hq7, fun _ => y0⟩ (fun hHeld => ?_)
                            clear hK K
                            try simp only [Act.put, List.setIfInBounds_toArray, List.set_cons_zero, List.set_cons_succ]
                            refine wpTill_take (i := 27) (oi := ⟨some 165, _, _, _, _, _⟩) (v := .pointer (some ⟨B, 1, none⟩)) rfl rfl (by kernel_rfl) (by kernel_rfl) (by kernel_rfl) (fun _ _ _ h => h) (Or.inl ⟨by rfl, ?_⟩) hHeld ?_
                            · intro w hSw; (try dsimp only at hSw); go_simp
                            try simp only [Act.put, List.setIfInBounds_toArray, List.set_cons_zero, List.set_cons_succ]
                            refine wpTill_ready (rs := [28]) (by kernel_rfl) (by simp) ?_
                            refine AllTill.cons (o := ⟨none, _, _, _, _, _⟩) rfl (fun K hK => ?_) AllTill.nil
                            go_simp
                            refine hK.out _ _ (Till.last hq8) (fun hHeld => ?_)
                            clear hK K
                            try simp only [Act.put, List.setIfInBounds_toArray, List.set_cons_zero, List.set_cons_succ]
                            refine wpTill_done (by kernel_rfl) ?_ _
                            have HFIN : Hid (FmU B C (cs ++ [[IntKind.i64.wrap (-X), a], [IntKind.i64.wrap (-X), b], [X, IntKind.i64.wrap (-a), IntKind.i64.wrap (-b)]]) (numL l (gs.length + 1)) w0.heap.size (needR gs rs) w0 (w7.setCell ⟨B, 1, none⟩ (.slice (some ⟨g, 0, none⟩) (cs.length + 3) cap))) := fin3 HSZ.out.2 HG1.out.1 HG1.out.2 HG3.out HG5.out HG6.out HG7.out HFB.out.1 HFB.out.2 HU6.out HV6.out HB6.out (below4 _ _ _ _ _) ⟨⟨_, by first | exact at0 _ _ _ _ _ | exact at1 _ _ _ _ _ | exact at2 _ _ _ _ _⟩, by first | exact Nat.le_refl _ | exact Nat.le_add_right _ 1 | exact Nat.le_add_right _ 2⟩ ⟨⟨_, by first | exact at0 _ _ _ _ _ | exact at1 _ _ _ _ _ | exact at2 _ _ _ _ _⟩, by first | exact Nat.le_refl _ | exact Nat.le_add_right _ 1 | exact Nat.le_add_right _ 2⟩ ⟨⟨_, by first | exact at0 _ _ _ _ _ | exact at1 _ _ _ _ _ | exact at2 _ _ _ _ _⟩, by first | exact Nat.le_refl _ | exact Nat.le_add_right _ 1 | exact Nat.le_add_right _ 2⟩ rfl rfl rfl hgrow hat hown7
                            clear hown7 hgrow hat hlt7 r7 u7 y0 f0 hq7 hq8
                            go_wp2
                            obtain ⟨F2, m1, m2, m3, m4, m5, m6⟩ := HFIN.out
                            rw [HAB.out.1, HAB.out.2.1, HAB.out.2.2, ← HG2.out] at m1
                            exact ⟨⟨k + 1, F2, HK.out, by rw [NN.out.1]; rfl, m1, m2, m3, m4, m5, m6⟩, by rw [NN.out.1]; have := HK.out; simp [intOf]; omega⟩
                      · go_simp
                        refine hK.out _ _ ⟨cellD (cellA z0), fun _ => cellD (cellA z1)⟩ (fun hHeld => ?_)
                        clear hK K
                        try simp only [Act.put, List.setIfInBounds_toArray, List.set_cons_zero, List.set_cons_succ]
                        refine wpTill_ready (rs := [8, 15]) (by kernel_rfl) (by simp) ?_
                        refine AllTill.cons (o := ⟨some 146, _, _, _, _, _⟩) rfl (fun K hK => ?_) (AllTill.cons (o := ⟨some 153, _, _, _, _, _⟩) rfl (fun K hK => ?_) AllTill.nil)
                        · go_simp
                          refine hK.out _ _ ⟨cellD (cellA (cellA z0)), fun _ => cellD (cellA (cellA z1))⟩ (fun hHeld => ?_)
                          clear hK K
                          try simp only [Act.put, List.setIfInBounds_toArray, List.set_cons_zero, List.set_cons_succ]
                          refine wpTill_ready (rs := [15]) (by kernel_rfl) (by simp) ?_
                          refine AllTill.cons (o := ⟨some 153, _, _, _, _, _⟩) rfl (fun K hK => ?_) AllTill.nil
                          · go_simp
                            refine hK.out _ _ ⟨cellD (cellA (cellA (cellA z0))), fun _ => cellD (cellA (cellA (cellA z1)))⟩ (fun hHeld => ?_)
                            clear hK K
                            try simp only [Act.put, List.setIfInBounds_toArray, List.set_cons_zero, List.set_cons_succ]
                            refine wpTill_ready (rs := [25]) (by kernel_rfl) (by simp) ?_
                            refine AllTill.cons (o := ⟨some 163, _, _, _, _, _⟩) rfl (fun K hK => ?_) AllTill.nil
                            go_simp
                            refine hK.out _ _ ⟨cellD (cellA (cellA (cellA (cellA z0)))), fun _ => cellD (cellA (cellA (cellA (cellA z1))))⟩ (fun hHeld => ?_)
                            clear hK K
                            try simp only [Act.put, List.setIfInBounds_toArray, List.set_cons_zero, List.set_cons_succ]
                            refine wpTill_ready (rs := [26]) (by kernel_rfl) (by simp) ?_
                            refine AllTill.cons (o := ⟨some 164, _, _, _, _, _⟩) rfl (fun K hK => ?_) AllTill.nil
                            refine step_append_lies _ rfl (.tmp 139) (.tmp 163) 32 rfl 0 80 i2 _ 1 24 Tryd.underlying32 hk0 hx0 hx1 hx2 rfl (by omega) (.slice so cs.length sc) cs.length vs (by simp [Act.eval]) (HO.out _ (below4 _ _ _ _ _)) _ 3 3 _ (by simp [Act.eval]) rfl (newsD _ _ _) (by simp [Value.oneCell']) (by omega) HMX3.out HBY3.out (Nat.zero_le _) _ rfl ?_
                            intro g cap w7 hown7 hgrow hat hlt7
                            have r7 := rowG hgrow (below4 _ _ _ _ _) HG3.out HNB.out
                            have u7 := rowG hgrow (below4 _ _ _ _ _) HU6.out HNU.out
                            have y0 : w7.cell? ⟨B, 1, none⟩ = some (.slice so cs.length sc) := by rw [cell_of_row w7 B 1 _ _ (0, 0) r7]; rfl
                            have f0 : w7.frozen? ⟨B, 1, none⟩ = false := frozen_row r7
                            have hq7 : w7.cell? ⟨B + 1, k + 1, none⟩ = some (.int .i64 X) := by rw [cell_of_row w7 _ _ _ _ (0, 0) u7]; exact HUX.out
                            have hq8 : (w7.setCell ⟨B, 1, none⟩ (.slice (some ⟨g, 0, none⟩) (cs.length + 3) cap)).cell? ⟨B + 1, k + 1, none⟩ = some (.int .i64 X) := cell_set1 hq7 HUB.out 1 _
                            refine hK.out _ _ ⟨hq7, fun _ => y0⟩ (fun hHeld => ?_)
                            clear hK K
                            try simp only [Act.put, List.setIfInBounds_toArray, List.set_cons_zero, List.set_cons_succ]
                            refine wpTill_take (i := 27) (oi := ⟨some 165, _, _, _, _, _⟩) (v := .pointer (some ⟨B, 1, none⟩)) rfl rfl (by kernel_rfl) (by kernel_rfl) (by kernel_rfl) (fun _ _ _ h => h) (Or.inl ⟨by rfl, ?_⟩) hHeld ?_
                            · intro w hSw; (try dsimp only at hSw); go_simp
                            try simp only [Act.put, List.setIfInBounds_toArray, List.set_cons_zero, List.set_cons_succ]
                            refine wpTill_ready (rs := [28]) (by kernel_rfl) (by simp) ?_
                            refine AllTill.cons (o := ⟨none, _, _, _, _, _⟩) rfl (fun K hK => ?_) AllTill.nil
                            go_simp
                            refine hK.out _ _ (Till.last hq8) (fun hHeld => ?_)
                            clear hK K
                            try simp only [Act.put, List.setIfInBounds_toArray, List.set_cons_zero, List.set_cons_succ]
                            refine wpTill_done (by kernel_rfl) ?_ _
                            have HFIN : Hid (FmU B C (cs ++ [[IntKind.i64.wrap (-X), a], [IntKind.i64.wrap (-X), b], [X, IntKind.i64.wrap (-a), IntKind.i64.wrap (-b)]]) (numL l (gs.length + 1)) w0.heap.size (needR gs rs) w0 (w7.setCell ⟨B, 1, none⟩ (.slice (some ⟨g, 0, none⟩) (cs.length + 3) cap))) := fin3 HSZ.out.2 HG1.out.1 HG1.out.2 HG3.out HG5.out HG6.out HG7.out HFB.out.1 HFB.out.2 HU6.out HV6.out HB6.out (below4 _ _ _ _ _) ⟨⟨_, by first | exact at0 _ _ _ _ _ | exact at1 _ _ _ _ _ | exact at2 _ _ _ _ _⟩, by first | exact Nat.le_refl _ | exact Nat.le_add_right _ 1 | exact Nat.le_add_right _ 2⟩ ⟨⟨_, by first | exact at0 _ _ _ _ _ | exact at1 _ _ _ _ _ | exact at2 _ _ _ _ _⟩, by first | exact Nat.le_refl _ | exact Nat.le_add_right _ 1 | exact Nat.le_add_right _ 2⟩ ⟨⟨_, by first | exact at0 _ _ _ _ _ | exact at1 _ _ _ _ _ | exact at2 _ _ _ _ _⟩, by first | exact Nat.le_refl _ | exact Nat.le_add_right _ 1 | exact Nat.le_add_right _ 2⟩ rfl rfl rfl hgrow hat hown7
                            clear hown7 hgrow hat hlt7 r7 u7 y0 f0 hq7 hq8
                            go_wp2
                            obtain ⟨F2, m1, m2, m3, m4, m5, m6⟩ := HFIN.out
                            rw [HAB.out.1, HAB.out.2.1, HAB.out.2.2, ← HG2.out] at m1
                            exact ⟨⟨k + 1, F2, HK.out, by rw [NN.out.1]; rfl, m1, m2, m3, m4, m5, m6⟩, by rw [NN.out.1]; have := HK.out; simp [intOf]; omega⟩
                        · go_simp
                          refine hK.out _ _ ⟨cellD (cellA (cellA z0)), fun _ => cellD (cellA (cellA z1))⟩ (fun hHeld => ?_)
                          clear hK K
                          try simp only [Act.put, List.setIfInBounds_toArray, List.set_cons_zero, List.set_cons_succ]
                          refine wpTill_ready (rs := [8]) (by kernel_rfl) (by simp) ?_
                          refine AllTill.cons (o := ⟨some 146, _, _, _, _, _⟩) rfl (fun K hK => ?_) AllTill.nil
                          · go_simp
                            refine hK.out _ _ ⟨cellD (cellA (cellA (cellA z0))), fun _ => cellD (cellA (cellA (cellA z1)))⟩ (fun hHeld => ?_)
                            clear hK K
                            try simp only [Act.put, List.setIfInBounds_toArray, List.set_cons_zero, List.set_cons_succ]
                            refine wpTill_ready (rs := [25]) (by kernel_rfl) (by simp) ?_
                            refine AllTill.cons (o := ⟨some 163, _, _, _, _, _⟩) rfl (fun K hK => ?_) AllTill.nil
                            go_simp
                            refine hK.out _ _ ⟨cellD (cellA (cellA (cellA (cellA z0)))), fun _ => cellD (cellA (cellA (cellA (cellA z1))))⟩ (fun hHeld => ?_)
                            clear hK K
                            try simp only [Act.put, List.setIfInBounds_toArray, List.set_cons_zero, List.set_cons_succ]
                            refine wpTill_ready (rs := [26]) (by kernel_rfl) (by simp) ?_
                            refine AllTill.cons (o := ⟨some 164, _, _, _, _, _⟩) rfl (fun K hK => ?_) AllTill.nil
                            refine step_append_lies _ rfl (.tmp 139) (.tmp 163) 32 rfl 0 80 i2 _ 1 24 Tryd.underlying32 hk0 hx0 hx1 hx2 rfl (by omega) (.slice so cs.length sc) cs.length vs (by simp [Act.eval]) (HO.out _ (below4 _ _ _ _ _)) _ 3 3 _ (by simp [Act.eval]) rfl (newsD _ _ _) (by simp [Value.oneCell']) (by omega) HMX3.out HBY3.out (Nat.zero_le _) _ rfl ?_
                            intro g cap w7 hown7 hgrow hat hlt7
                            have r7 := rowG hgrow (below4 _ _ _ _ _) HG3.out HNB.out
                            have u7 := rowG hgrow (below4 _ _ _ _ _) HU6.out HNU.out
                            have y0 : w7.cell? ⟨B, 1, none⟩ = some (.slice so cs.length sc) := by rw [cell_of_row w7 B 1 _ _ (0, 0) r7]; rfl
                            have f0 : w7.frozen? ⟨B, 1, none⟩ = false := frozen_row r7
                            have hq7 : w7.cell? ⟨B + 1, k + 1, none⟩ = some (.int .i64 X) := by rw [cell_of_row w7 _ _ _ _ (0, 0) u7]; exact HUX.out
                            have hq8 : (w7.setCell ⟨B, 1, none⟩ (.slice (some ⟨g, 0, none⟩) (cs.length + 3) cap)).cell? ⟨B + 1, k + 1, none⟩ = some (.int .i64 X) := cell_set1 hq7 HUB.out 1 _
                            refine hK.out _ _ ⟨hq7, fun _ => y0⟩ (fun hHeld => ?_)
                            clear hK K
                            try simp only [Act.put, List.setIfInBounds_toArray, List.set_cons_zero, List.set_cons_succ]
                            refine wpTill_take (i := 27) (oi := ⟨some 165, _, _, _, _, _⟩) (v := .pointer (some ⟨B, 1, none⟩)) rfl rfl (by kernel_rfl) (by kernel_rfl) (by kernel_rfl) (fun _ _ _ h => h) (Or.inl ⟨by rfl, ?_⟩) hHeld ?_
                            · intro w hSw; (try dsimp only at hSw); go_simp
                            try simp only [Act.put, List.setIfInBounds_toArray, List.set_cons_zero, List.set_cons_succ]
                            refine wpTill_ready (rs := [28]) (by kernel_rfl) (by simp) ?_
                            refine AllTill.cons (o := ⟨none, _, _, _, _, _⟩) rfl (fun K hK => ?_) AllTill.nil
                            go_simp
                            refine hK.out _ _ (Till.last hq8) (fun hHeld => ?_)
                            clear hK K
                            try simp only [Act.put, List.setIfInBounds_toArray, List.set_cons_zero, List.set_cons_succ]
                            refine wpTill_done (by kernel_rfl) ?_ _
                            have HFIN : Hid (FmU B C (cs ++ [[IntKind.i64.wrap (-X), a], [IntKind.i64.wrap (-X), b], [X, IntKind.i64.wrap (-a), IntKind.i64.wrap (-b)]]) (numL l (gs.length + 1)) w0.heap.size (needR gs rs) w0 (w7.setCell ⟨B, 1, none⟩ (.slice (some ⟨g, 0, none⟩) (cs.length + 3) cap))) := fin3 HSZ.out.2 HG1.out.1 HG1.out.2 HG3.out HG5.out HG6.out HG7.out HFB.out.1 HFB.out.2 HU6.out HV6.out HB6.out (below4 _ _ _ _ _) ⟨⟨_, by first | exact at0 _ _ _ _ _ | exact at1 _ _ _ _ _ | exact at2 _ _ _ _ _⟩, by first | exact Nat.le_refl _ | exact Nat.le_add_right _ 1 | exact Nat.le_add_right _ 2⟩ ⟨⟨_, by first | exact at0 _ _ _ _ _ | exact at1 _ _ _ _ _ | exact at2 _ _ _ _ _⟩, by first | exact Nat.le_refl _ | exact Nat.le_add_right _ 1 | exact Nat.le_add_right _ 2⟩ ⟨⟨_, by first | exact at0 _ _ _ _ _ | exact at1 _ _ _ _ _ | exact at2 _ _ _ _ _⟩, by first | exact Nat.le_refl _ | exact Nat.le_add_right _ 1 | exact Nat.le_add_right _ 2⟩ rfl rfl rfl hgrow hat hown7
                            clear hown7 hgrow hat hlt7 r7 u7 y0 f0 hq7 hq8
                            go_wp2
                            obtain ⟨F2, m1, m2, m3, m4, m5, m6⟩ := HFIN.out
                            rw [HAB.out.1, HAB.out.2.1, HAB.out.2.2, ← HG2.out] at m1
                            exact ⟨⟨k + 1, F2, HK.out, by rw [NN.out.1]; rfl, m1, m2, m3, m4, m5, m6⟩, by rw [NN.out.1]; have := HK.out; simp [intOf]; omega⟩
                    · rw [hq] at HW6 x0 x1 x2 x3
                      have HG2 : Hid (gatesC gs l (k + 1) = gatesC gs l k) := by
                        unfold Hid; rw [HGC.out, if_neg (fun h' => by rw [hq] at h'; cases h'.2), List.append_nil]
                      go_wp2
                      rw [HW6.out]
                      exact ⟨⟨k + 1, F, HK.out, by rw [NN.out.1]; rfl, by rw [HG2.out]; exact HFM6.out, HFB.out.1, HFB.out.2, HU6.out, HV6.out, HB6.out⟩, by rw [NN.out.1]; have := HK.out; simp [intOf]; omega⟩
                · obtain rfl : k = gs.length := by omega
                  have d1 : ((gs.length : Int) + 1 ≤ (gs.length : Int)) = False := eq_false (by omega)
                  clear hk hfm hFB hFU hU hV hb hkl
                  have HFU0 : Hid (FmU B C (gatesC gs l gs.length) (numL l (gs.length + 1)) w0.heap.size (needR gs rs) w0 wr) := ⟨F, HFM.out, HFB.out.1, HFB.out.2, HUR.out, HVR.out, HBR.out⟩
                  clear HFM HFB HUR HVR HBR
                  go_wp2
                  clear q1 d1
                  go_loopw [17] (fun t wr => ∃ j : Nat, j ≤ m ∧ t = .int .i64 j ∧ FmU B C (gatesC gs l gs.length ++ rootsC l (rs.take j)) (numL l (gs.length + 1)) w0.heap.size (needR gs rs) w0 wr) (fun t _ => m - (intOf t).toNat)
                  case atStart => exact ⟨0, Nat.zero_le _, rfl, by simpa [rootsC] using HFU0.out⟩
                  case round =>
                    obtain ⟨j, hj, rfl, F, hfm, hlo, hU1, hU, hV, hb⟩ := hrel
                    by_cases hjl : j < m
                    · obtain ⟨x, hx⟩ : ∃ x, rs[j]? = some x := ⟨_, List.getElem?_eq_getElem (by have := HM.out; omega)⟩
                      obtain ⟨b, off, rfl, hcx⟩ := HV0.out.get hx
                      have q0 := cell_keep hb hcx
                      have hbx : b < w0.heap.size := cell_blkN hcx
                      have hxl := HR.out x (List.mem_of_getElem? hx)
                      unfold HasL at hxl
                      obtain ⟨g1, g2, ft, sv, vs, g3, g4, g5, g6, g7⟩ := hfm
                      obtain ⟨so, sc, rfl, hnm⟩ := owns_form g4
                      obtain ⟨cs, hcs⟩ : ∃ cs, cs = gatesC gs l gs.length ++ rootsC l (rs.take j) := ⟨_, rfl⟩
                      have hlen : cs.length ≤ 100000 := by
                        rw [hcs, List.length_append]
                        have := rootsC_length l (rs.take j)
                        have : (rs.take j).length ≤ j := List.length_take_le _ _
                        have := gatesC_length gs l gs.length
                        have := HL.out; have := HMS.out
                        omega
                      rw [← hcs] at g3 g4 g5 g6 g7
                      have etk : gatesC gs l gs.length ++ rootsC l (rs.take (j + 1)) = cs ++ rootC l x := by rw [List.take_add_one, hx, hcs, List.append_assoc]; exact congrArg _ (rootsC_snoc _ _ _)
                      have HTK : Hid (gatesC gs l gs.length ++ rootsC l (rs.take (j + 1)) = cs ++ rootC l x) := etk
                      have i0' : (0 : Int) ≤ (j : Int) := by omega
                      have i1' : (j : Int) < (m : Int) := by omega
                      have N4 : Hid (wrap64 ((j : Int) + 1) = (j : Int) + 1) := by have := HMS.out; unfold Hid wrap64; omega
                      have HJ : Hid (j < m) := hjl
                      have HO : Hid (∀ W, Below wr.heap.size wr W → W.ownsRow 0 80 1 (.slice so cs.length sc) cs.length vs) := fun W hW => owns_keep g4 (fun k hk => hW.block k (g4.lt k hk).2)
                      have HG1 : Hid (F B ∧ (∀ k, F k → k < wr.heap.size)) := ⟨g1, g2⟩
                      have HG3 : Hid (wr.heap[B]? = some (.cells #[.int .i64 C, .slice so cs.length sc] ft (0, 0))) := g3
                      have HG5 : Hid (∀ k, (Value.slice so cs.length sc).ownBlock = some k → F k ∧ k ≠ B) := g5
                      have HG6 : Hid (vs.length = cs.length) := g6
                      have HG7 : Hid (∀ (k : Nat) l, cs[k]? = some l → ∃ v, vs[k]? = some v ∧ ClIn (fun k => F k ∨ k < B) wr v l) := g7
                      have HLO : Hid ((∀ j, F j → B ≤ j) ∧ ¬ F (B + 1)) := ⟨hlo, hU1⟩
                      have HUR : Hid (wr.heap[B + 1]? = some (.cells (rowI (numL l (gs.length + 1))) 3 (0, 0))) := hU
                      have HVR : Hid (wr.heap[w0.heap.size]? = some (.cells (rowB (needR gs rs)) 4 (0, 0))) := hV
                      have HBR : Hid (Below w0.heap.size w0 wr) := hb
                      have HFMU : Hid (FmU B C cs (numL l (gs.length + 1)) w0.heap.size (needR gs rs) w0 wr) := ⟨F, ⟨g1, g2, ft, _, vs, g3, g4, g5, g6, g7⟩, hlo, hU1, hU, hV, hb⟩
                      have HNB : Hid ((Value.slice so cs.length sc).ownBlock ≠ some B) := fun e => (g5 B e).2 rfl
                      have HNX : Hid ((Value.slice so cs.length sc).ownBlock ≠ some b) := fun e => by
                        have := hlo b (g5 b e).1
                        have := HSZ.out.2
                        omega
                      have HXB : Hid (b ≠ B) := by
                        have := HSZ.out.2
                        unfold Hid; omega
                      have HMX1 : Hid (cs.length + 1 ≤ maxLen) := by unfold Hid maxLen; omega
                      have HBY1 : Hid ((cs.length + 1) * 24 ≤ 140737488355328) := by unfold Hid; omega
                      have z1 : wr.cell? ⟨B, 0 + 1, none⟩ = some (.slice so cs.length sc) := by rw [cell_of_row wr B (0 + 1) _ _ (0, 0) g3]; rfl
                      have HX : Hid (0 ≤ x ∧ x < 2 * ((gs.length + 1 : Nat) : Int)) := by unfold Hid; omega
                      clear hj hjl hx hcx hbx hxl g1 g2 g3 g4 g5 g6 g7 hnm hcs hlen etk hlo hU1 hU hV hb
                      by_cases h0 : x = 0
                      · subst h0
                        have HNEW : Hid (∀ (k : Nat) u, [Value.slice (some ⟨wr.heap.size, 0, none⟩) 0 0][k]? = some u → ((wr.alloc (.cells #[] 3)).alloc (.cells #[.slice (some ⟨wr.heap.size, 0, none⟩) 0 0] 80)).cell? ((⟨wr.heap.size + 1, 0, none⟩ : Addr).add k) = some u) := by
                          have h := World.news_of_block (heap_alloc_new (wr.alloc (.cells #[] 3)) (.cells #[.slice (some ⟨wr.heap.size, 0, none⟩) 0 0] 80))
                          rw [World.size_alloc] at h
                          exact h
                        have HB2 : Hid (∀ o1 o2, Below wr.heap.size wr ((wr.alloc o1).alloc o2)) := fun o1 o2 => ((Below.refl _ _).alloc (Nat.le_refl _) _).alloc (by simp) _
                        have q1 : ∀ {W}, Below wr.heap.size wr W → W.cell? ⟨b, off + j, none⟩ = some (.int .i64 0) := fun hW => cell_keep hW q0
                        have Q1 : Hid (∀ {W}, Below wr.heap.size wr W → W.cell? ⟨b, off + j, none⟩ = some (.int .i64 0)) := q1
                        clear q1
                        go_wp2_with (first
                          | (at_builtin; (refine wpList_append_lies _ rfl _ _ 32 rfl 0 80 i2 _ 1 24 Tryd.underlying32 hk0 hx0 hx1 hx2 rfl (by omega) (.slice so cs.length sc) cs.length vs rfl (HO.out _ (HB2.out _ _)) ⟨wr.heap.size + 1, 0, none⟩ 1 1 [.slice (some ⟨wr.heap.size, 0, none⟩) 0 0] rfl rfl HNEW.out (by simp [Value.oneCell']) (by omega) HMX1.out HBY1.out (Nat.zero_le _) _ rfl ?_; intro g cap w3 hown3 hgrow hat hlt3; have r3 := rowG hgrow (HB2.out _ _) HG3.out HNB.out; have d1 := cell_of_row w3 B (0 + 1) _ _ (0, 0) r3; have f1 := frozen_row (i := 0 + 1) r3; have q3 := cellG hgrow (HB2.out _ _) q0 HNX.out; have q4 := cell_set1 q3 HXB.out 1 (.slice (some ⟨g, 0, none⟩) (cs.length + 1) cap)))
                          | go_in)
                        have HFIN : Hid (FmU B C (cs ++ [[]]) (numL l (gs.length + 1)) w0.heap.size (needR gs rs) w0 (w3.setCell ⟨B, 1, none⟩ (.slice (some ⟨g, 0, none⟩) (cs.length + 1) cap))) := fin1 HSZ.out.2 HG1.out.1 HG1.out.2 HG3.out HG5.out HG6.out HG7.out HLO.out.1 HLO.out.2 HUR.out HVR.out HBR.out ⟨_, _, rfl, fun k x hk => by simp at hk⟩ (HB2.out _ _) hgrow hat hlt3 hown3
                        exact ⟨⟨j + 1, HJ.out, by rw [N4.out]; rfl, by rw [HTK.out]; exact HFIN.out⟩, by rw [N4.out]; have := HJ.out; simp [intOf]; omega⟩
                      · have d0 : (x == 0) = false := by simp [h0]
                        by_cases h1 : x = 1
                        · subst h1
                          have HE : Hid (rootC l 1 = []) := rfl
                          clear h0 d0
                          go_wp2
                          exact ⟨⟨j + 1, HJ.out, by rw [N4.out]; rfl, by rw [HTK.out, HE.out, List.append_nil]; exact HFMU.out⟩, by rw [N4.out]; have := HJ.out; simp [intOf]; omega⟩
                        · have d1 : (1 : Int) < x := by have := HX.out; omega
                          have HE : Hid (rootC l x = [[sgnL l x]]) := by unfold Hid rootC; rw [if_neg h0, if_neg h1]
                          have HA : Hid (Calls Tryd.prog 35 #[.slice (some ⟨B + 1, 0, none⟩) (gs.length + 1) (gs.length + 1), .int .i64 x] wr.drew fun e w' => e = .returned (.int .i64 (sgnL l x)) ∧ w' = wr.drew) := signed_any wr.drew (B + 1) (gs.length + 1) l _ HUR.out x HX.out.1 HX.out.2 (by have := HL.out; omega)
                          obtain ⟨y, hy⟩ : ∃ y, y = sgnL l x := ⟨_, rfl⟩
                          rw [← hy] at HA HE
                          clear hy h0 h1
                          go_wp2
                          have z1' : wr.cell? ⟨B, 1, none⟩ = some (.slice so cs.length sc) := z1
                          refine wp_region_till 12 (fun w' => w'.cell? ⟨b, off + j, none⟩ = some (.int .i64 x)) (fun w' => w'.cell? ⟨B, 1, none⟩ = some (.slice so cs.length sc)) (by kernel_rfl) q0 z1' (fun hHeld => ?_)
                          refine wpTill_take (i := 0) (oi := ⟨some 188, _, _, _, _, _⟩) (v := .pointer (some ⟨B, 1, none⟩)) rfl rfl (by kernel_rfl) (by kernel_rfl) (by kernel_rfl) (fun _ _ _ h => h) (Or.inl ⟨by rfl, ?_⟩) hHeld ?_
                          · intro w hSw; (try dsimp only at hSw); go_simp
                          try simp only [Act.put, List.setIfInBounds_toArray, List.set_cons_zero, List.set_cons_succ]
                          refine wpTill_load 10 (i := 1) (oi := ⟨some 189, _, _, _, _, _⟩) (v := .slice so cs.length sc) rfl rfl (by kernel_rfl) (by kernel_rfl) (by kernel_rfl) (by kernel_rfl) (by kernel_rfl) (by kernel_rfl) (by kernel_rfl) (fun _ _ _ h => h) (Or.inl ⟨by rfl, ?_⟩) hHeld ?_
                          · intro w hSw; (try dsimp only at hSw); go_simp
                          try simp only [Act.put, List.setIfInBounds_toArray, List.set_cons_zero, List.set_cons_succ]
                          refine wpTill_take (i := 2) (oi := ⟨some 190, _, _, _, _, _⟩) (v := .slice (some ⟨B + 1, 0, none⟩) (gs.length + 1) (gs.length + 1)) rfl rfl (by kernel_rfl) (by kernel_rfl) (by kernel_rfl) (fun _ _ _ h => h) (Or.inl ⟨by rfl, ?_⟩) hHeld ?_
                          · intro w hSw; (try dsimp only at hSw); go_simp
                          try simp only [Act.put, List.setIfInBounds_toArray, List.set_cons_zero, List.set_cons_succ]
                          refine wpTill_take (i := 3) (oi := ⟨some 191, _, _, _, _, _⟩) (v := .slice (some ⟨b, off, none⟩) m c) rfl rfl (by kernel_rfl) (by kernel_rfl) (by kernel_rfl) (fun _ _ _ h => h) (Or.inl ⟨by rfl, ?_⟩) hHeld ?_
                          · intro w hSw; (try dsimp only at hSw); go_simp
                          try simp only [Act.put, List.setIfInBounds_toArray, List.set_cons_zero, List.set_cons_succ]
                          refine wpTill_take (i := 4) (oi := ⟨some 192, _, _, _, _, _⟩) (v := .int .i64 j) rfl rfl (by kernel_rfl) (by kernel_rfl) (by kernel_rfl) (fun _ _ _ h => h) (Or.inl ⟨by rfl, ?_⟩) hHeld ?_
                          · intro w hSw; (try dsimp only at hSw); go_simp
                          try simp only [Act.put, List.setIfInBounds_toArray, List.set_cons_zero, List.set_cons_succ]
                          refine wpTill_take (i := 5) (oi := ⟨some 193, _, _, _, _, _⟩) (v := .pointer (some ⟨b, off + j, none⟩)) rfl rfl (by kernel_rfl) (by kernel_rfl) (by kernel_rfl) (fun _ _ _ h => h) (Or.inl ⟨by rfl, ?_⟩) hHeld ?_
                          · intro w hSw; (try dsimp only at hSw); go_simp
                          try simp only [Act.put, List.setIfInBounds_toArray, List.set_cons_zero, List.set_cons_succ]
                          refine wpTill_take (i := 6) (oi := ⟨some 194, _, _, _, _, _⟩) (v := .int .i64 x) rfl rfl (by kernel_rfl) (by kernel_rfl) (by kernel_rfl) (fun _ _ _ h => h) (Or.inl ⟨by rfl, ?_⟩) hHeld ?_
                          · intro w hSw; (try dsimp only at hSw); go_simp
                          try simp only [Act.put, List.setIfInBounds_toArray, List.set_cons_zero, List.set_cons_succ]
                          refine wpTill_ready (rs := [7]) (by kernel_rfl) (by simp) ?_
                          refine AllTill.cons (o := ⟨some 195, _, _, _, _, _⟩) rfl (fun K hK => ?_) AllTill.nil
                          go_simp
                          refine HA.out.mono ?_
                          rintro e w' ⟨rfl, rfl⟩
                          go_wp2_with fail
                          refine hK.out _ _ ⟨q0, fun _ => z1'⟩ (fun hHeld => ?_)
                          clear hK K
                          try simp only [Act.put, List.setIfInBounds_toArray, List.set_cons_zero, List.set_cons_succ]
                          refine wpTill_ready (rs := [8]) (by kernel_rfl) (by simp) ?_
                          refine AllTill.cons (o := ⟨some 196, _, _, _, _, _⟩) rfl (fun K hK => ?_) AllTill.nil
                          go_simp
                          refine hK.out _ _ ⟨cellD (cellA q0), fun _ => cellD (cellA z1')⟩ (fun hHeld => ?_)
                          clear hK K
                          try simp only [Act.put, List.setIfInBounds_toArray, List.set_cons_zero, List.set_cons_succ]
                          refine wpTill_ready (rs := [9]) (by kernel_rfl) (by simp) ?_
                          refine AllTill.cons (o := ⟨some 197, _, _, _, _, _⟩) rfl (fun K hK => ?_) AllTill.nil
                          go_simp
                          refine hK.out _ _ ⟨cellD (cellA (cellA q0)), fun _ => cellD (cellA (cellA z1'))⟩ (fun hHeld => ?_)
                          clear hK K
                          try simp only [Act.put, List.setIfInBounds_toArray, List.set_cons_zero, List.set_cons_succ]
                          refine wpTill_ready (rs := [10]) (by kernel_rfl) (by simp) ?_
                          refine AllTill.cons (o := ⟨some 198, _, _, _, _, _⟩) rfl (fun K hK => ?_) AllTill.nil
                          refine step_append_lies _ rfl (.tmp 189) (.tmp 197) 32 rfl 0 80 i2 _ 1 24 Tryd.underlying32 hk0 hx0 hx1 hx2 rfl (by omega) (.slice so cs.length sc) cs.length vs (by simp [Act.eval]) (HO.out _ (below2 _ _ _)) _ 1 1 _ (by simp [Act.eval]) rfl (newsD _ _ _) (by simp [Value.oneCell']) (by omega) HMX1.out HBY1.out (Nat.zero_le _) _ rfl ?_
                          intro g cap w7 hown7 hgrow hat hlt7
                          have r7 := rowG hgrow (below2 _ _ _) HG3.out HNB.out
                          have y0 : w7.cell? ⟨B, 1, none⟩ = some (.slice so cs.length sc) := by rw [cell_of_row w7 B 1 _ _ (0, 0) r7]; rfl
                          have f0 : w7.frozen? ⟨B, 1, none⟩ = false := frozen_row r7
                          have hq7 := cellG hgrow (below2 _ _ _) q0 HNX.out
                          have hq8 := cell_set1 hq7 HXB.out 1 (.slice (some ⟨g, 0, none⟩) (cs.length + 1) cap)
                          refine hK.out _ _ ⟨hq7, fun _ => y0⟩ (fun hHeld => ?_)
                          clear hK K
                          try simp only [Act.put, List.setIfInBounds_toArray, List.set_cons_zero, List.set_cons_succ]
                          refine wpTill_take (i := 11) (oi := ⟨some 199, _, _, _, _, _⟩) (v := .pointer (some ⟨B, 1, none⟩)) rfl rfl (by kernel_rfl) (by kernel_rfl) (by kernel_rfl) (fun _ _ _ h => h) (Or.inl ⟨by rfl, ?_⟩) hHeld ?_
                          · intro w hSw; (try dsimp only at hSw); go_simp
                          try simp only [Act.put, List.setIfInBounds_toArray, List.set_cons_zero, List.set_cons_succ]
                          refine wpTill_ready (rs := [12]) (by kernel_rfl) (by simp) ?_
                          refine AllTill.cons (o := ⟨none, _, _, _, _, _⟩) rfl (fun K hK => ?_) AllTill.nil
                          go_simp
                          refine hK.out _ _ (Till.last hq8) (fun hHeld => ?_)
                          clear hK K
                          try simp only [Act.put, List.setIfInBounds_toArray, List.set_cons_zero, List.set_cons_succ]
                          refine wpTill_done (by kernel_rfl) ?_ _
                          have HFIN : Hid (FmU B C (cs ++ [[y]]) (numL l (gs.length + 1)) w0.heap.size (needR gs rs) w0 (w7.setCell ⟨B, 1, none⟩ (.slice (some ⟨g, 0, none⟩) (cs.length + 1) cap))) := fin1n (ti := 3) HSZ.out.2 HG1.out.1 HG1.out.2 HG3.out HG5.out HG6.out HG7.out HLO.out.1 HLO.out.2 HUR.out HVR.out HBR.out rfl hgrow hat hlt7 hown7
                          clear hown7 hgrow hat hlt7 r7 y0 f0 hq7 hq8
                          go_wp2
                          exact ⟨⟨j + 1, HJ.out, by rw [N4.out]; rfl, by rw [HTK.out, HE.out]; exact HFIN.out⟩, by rw [N4.out]; have := HJ.out; simp [intOf]; omega⟩
                    · obtain rfl : m = j := by omega
                      rw [List.take_of_length_le (by rw [HM.out]; exact Nat.le_refl _)] at hfm
                      have hFBl : ∀ k, F k → B ≤ k := hlo
                      obtain ⟨t8, sv, hB8, hone, hcls⟩ := hfm.cells hlo
                      obtain ⟨_, so, sc, rfl, _⟩ := hcls wr (fun _ _ => rfl)
                      obtain ⟨sn, hsn⟩ : ∃ sn, sn = (gatesC gs l gs.length ++ rootsC l rs).length := ⟨_, rfl⟩
                      rw [← hsn] at hcls hB8
                      have hR8 := row_keep hb HR0.out
                      have y0 : wr.cell? ⟨B, 0, none⟩ = some (.int .i64 C) := by rw [cell_of_row wr _ _ _ _ (0, 0) hB8]; rfl
                      have y1 : wr.cell? ⟨B, 0 + 1, none⟩ = some (.slice so sn sc) := by rw [cell_of_row wr _ _ _ _ (0, 0) hB8]; rfl
                      have y3 : wr.cell? ⟨w.heap.size, 0, none⟩ = some (.int .i64 0) := by rw [cell_of_row wr _ _ _ _ (0, 0) hR8]; rfl
                      have y4 : wr.cell? ⟨w.heap.size, 0 + 1, none⟩ = some (.slice none 0 0) := by rw [cell_of_row wr _ _ _ _ (0, 0) hR8]; rfl
                      have f3 : wr.frozen? ⟨w.heap.size, 0, none⟩ = false := frozen_row hR8
                      have f4 : wr.frozen? ⟨w.heap.size, 0 + 1, none⟩ = false := frozen_row hR8
                      have HFIN : Hid (Below w.heap.size w ((wr.setCell ⟨w.heap.size, 0, none⟩ (.int .i64 C)).setCell ⟨w.heap.size, 1, none⟩ (.slice so sn sc)) ∧ ((wr.setCell ⟨w.heap.size, 0, none⟩ (.int .i64 C)).setCell ⟨w.heap.size, 1, none⟩ (.slice so sn sc)).heap[w.heap.size]? = some (.cells #[.int .i64 C, .slice so sn sc] 40 (0, 0)) ∧ ClsAt ((wr.setCell ⟨w.heap.size, 0, none⟩ (.int .i64 C)).setCell ⟨w.heap.size, 1, none⟩ (.slice so sn sc)) (.slice so sn sc) (allC gs (needL gs rs) rs) ∧ ((wr.setCell ⟨w.heap.size, 0, none⟩ (.int .i64 C)).setCell ⟨w.heap.size, 1, none⟩ (.slice so sn sc)).heap[B + 1]? = some (.cells (rowI (numL (needL gs rs) (gs.length + 1))) 3 (0, 0)) ∧ w.heap.size ≤ B + 1) := by
                        have hs0 := HA.out.size
                        have hs1 := HSZ.out.2
                        have hs2 : w.heap.size < w0.heap.size := (Array.getElem?_eq_some_iff.1 HR0.out).1
                        have hblk : ∀ k, B ≤ k → ((wr.setCell ⟨w.heap.size, 0, none⟩ (.int .i64 C)).setCell ⟨w.heap.size, 1, none⟩ (.slice so sn sc)).heap[k]? = wr.heap[k]? := fun k hk => by
                          rw [Below.heap_setCell _ _ _ _ (show k ≠ w.heap.size by omega), Below.heap_setCell _ _ _ _ (show k ≠ w.heap.size by omega)]
                        refine ⟨?_, heap_setCell_at (i := 1) (heap_setCell_at (i := 0) hR8 _) _, ?_, ?_, by omega⟩
                        · exact (((HA.out.trans (hb.mono hs0)).setCell (Nat.le_refl _) _).setCell (Nat.le_refl _) _)
                        · rw [← HLE.out]; exact hcls _ hblk
                        · rw [hblk _ (by omega), ← HLE.out]; exact hU
                      clear hfm hlo hU1 hU hV hb hFBl hB8 hone hcls hsn hR8 hj hjl
                      go_wp2
                      obtain ⟨wf, hwf⟩ : ∃ wf, wf = ((wr.setCell ⟨w.heap.size, 0, none⟩ (.int .i64 C)).setCell ⟨w.heap.size, 1, none⟩ (.slice so sn sc)) := ⟨_, rfl⟩
                      rw [← hwf] at HFIN
                      rw [← hwf]
                      have u0 : wf.cell? ⟨w.heap.size, 0, none⟩ = some (.int .i64 C) := by rw [cell_of_row _ _ 0 _ _ (0, 0) HFIN.out.2.1]; rfl
                      have u1 : wf.cell? ⟨w.heap.size, 1, none⟩ = some (.slice so sn sc) := by rw [cell_of_row _ _ 1 _ _ (0, 0) HFIN.out.2.1]; rfl
                      refine bodyPost_ret (v := .tuple #[.agg #[.int .i64 C, .slice so sn sc], .slice (some ⟨B + 1, 0, none⟩) (gs.length + 1) (gs.length + 1)]) (by simp [results, Tryd.results9, go_sem, u0, u1]) rfl ?_
                      exact ⟨⟨_, B + 1, HFIN.out.2.2.2.2, by rw [HCE.out, HLE.out], HFIN.out.2.2.1, HFIN.out.2.2.2.1⟩, HFIN.out.1⟩
        · obtain ⟨p, hp⟩ : ∃ p, gs[n]? = some p := ⟨_, List.getElem?_eq_getElem (by omega)⟩
          obtain ⟨g, c', e', u0, u1, u2⟩ := gate_cells H40.out hp
          have emo : mo = some ⟨g, 0, none⟩ := by
            have := (Value.slice.inj e').1
            exact this
          subst emo
          have v0 := cell_keep hb u0
          have v1 := cell_keep hb u1
          have v2 := cell_keep hb u2
          have hpg : gs.getD n (0, 0) = p := by rw [List.getD_eq_getElem?_getD, hp]; rfl
          obtain ⟨y, hy⟩ : ∃ y, l[n + 1]? = some y := ⟨_, List.getElem?_eq_getElem (by omega)⟩
          have hst : stepN gs l n = if y && !inpB p then markL (markL l p.1) p.2 else l := by
            unfold stepN; rw [hpg, List.getD_eq_getElem?_getD, hy]; rfl
          have hdn2 : downN gs n (stepN gs l n) = needR gs rs := hdn
          rw [hst] at hdn2
          have hlit : inpB p = false → 0 ≤ p.1 ∧ p.1 < 2 * ((n : Int) + 1) ∧ 0 ≤ p.2 ∧ p.2 < 2 * ((n : Int) + 1) := fun hq => HGS.out.lits hp hq
          obtain ⟨p1, p2⟩ := p
          obtain ⟨w3, hw3⟩ : ∃ w3, w3 = wr.alloc (.cells #[.int .i64 p1, .int .i64 p2, .bool (inpB (p1, p2))] 78) := ⟨_, rfl⟩
          have hb3 : Below w0.heap.size w0 w3 := by rw [hw3]; exact hb.alloc hb.size _
          have hrow3 : w3.heap[w0.heap.size]? = some (.cells (rowB l) 4 (0, 0)) := by rw [hw3]; exact alloc_row _ hrow
          have hg3 : w3.heap[wr.heap.size]? = some (.cells #[.int .i64 p1, .int .i64 p2, .bool (inpB (p1, p2))] 78 (0, 0)) := by rw [hw3]; exact heap_alloc_new _ _
          have x0 : w3.cell? ⟨wr.heap.size, 0, none⟩ = some (.int .i64 p1) := by rw [cell_of_row w3 _ _ _ _ (0, 0) hg3]; rfl
          have x1 : w3.cell? ⟨wr.heap.size, 0 + 1, none⟩ = some (.int .i64 p2) := by rw [cell_of_row w3 _ _ _ _ (0, 0) hg3]; rfl
          have x2 : w3.cell? ⟨wr.heap.size, 0 + 2, none⟩ = some (.bool (inpB (p1, p2))) := by rw [cell_of_row w3 _ _ _ _ (0, 0) hg3]; rfl
          have x3 : w3.cell? ⟨w0.heap.size, n + 1, none⟩ = some (.bool y) := by rw [cell_of_row w3 _ _ _ _ (0, 0) hrow3]; exact rowB_get hy
          have hne : wr.heap.size ≠ w0.heap.size := by have := (Array.getElem?_eq_some_iff.1 hrow).1; omega
          have HNE : Hid (wr.heap.size ≠ w0.heap.size) := hne
          have HG3 : Hid (w3.heap[wr.heap.size]? = some (.cells #[.int .i64 p1, .int .i64 p2, .bool (inpB (p1, p2))] 78 (0, 0))) := hg3
          have HROW3 : Hid (w3.heap[w0.heap.size]? = some (.cells (rowB l) 4 (0, 0))) := hrow3
          have HB3 : Hid (Below w0.heap.size w0 w3) := hb3
          have HLL : Hid (l.length = gs.length + 1) := hll
          have HW3 : Hid (wr.alloc (.cells #[.int .i64 p1, .int .i64 p2, .bool (inpB (p1, p2))] 78) = w3) := hw3.symm
          have HLit : Hid (inpB (p1, p2) = false → 0 ≤ p1 ∧ p1 < 2 * ((n : Int) + 1) ∧ 0 ≤ p2 ∧ p2 < 2 * ((n : Int) + 1)) := hlit
          have HDN : Hid (downN gs n (if y && !inpB (p1, p2) then markL (markL l p1) p2 else l) = needR gs rs) := hdn2
          have HN : Hid (n < gs.length) := by unfold Hid; omega
          have n5 : ((n + 1 : Nat) : Int) = (n : Int) + 1 := by omega
          have d1 : ((1 : Int) ≤ (n : Int) + 1) = True := eq_true (by omega)
          have r0 : (0 : Int) ≤ (n : Int) := by omega
          have r1 : (n : Int) < (gs.length : Int) := by omega
          have r2 : (0 : Int) ≤ (n : Int) + 1 := by omega
          have r3 : (n : Int) + 1 < (gs.length : Int) + 1 := by omega
          have NW : Hid (wrap64 (n : Int) = (n : Int)) := by have := HL.out; unfold Hid wrap64; omega
          have n3 := NW.out
          rw [n5]
          rw [hw3] at x0 x1 x2 x3
          clear hn hll hdn hrow hb hbw hp e' u0 u1 u2 hpg hy hst hdn2 hlit hw3 hb3 hrow3 hg3 hne n5
          cases y
          · go_wp2
            rw [HW3.out]
            exact ⟨⟨n, l, Nat.le_of_lt HN.out, by rw [NW.out], HLL.out, HDN.out, HROW3.out, HB3.out⟩, by rw [NW.out]; simp [intOf]⟩
          · cases hq : inpB (p1, p2)
            · obtain ⟨a0, a1, b0, b1⟩ := HLit.out hq
              rw [hq] at HW3 HG3 x0 x1 x2 x3
              have HDN2 : Hid (downN gs n (markL (markL l p1) p2) = needR gs rs) := by have := HDN.out; rw [hq] at this; exact this
              obtain ⟨k1, hk1⟩ : ∃ k : Nat, (p1 / 2).toNat = k := ⟨_, rfl⟩
              obtain ⟨k2, hk2⟩ : ∃ k : Nat, (p2 / 2).toNat = k := ⟨_, rfl⟩
              have hN := HN.out
              have hLL := HLL.out
              obtain ⟨z1, hz1'⟩ : ∃ z, l[k1]? = some z := ⟨_, List.getElem?_eq_getElem (by omega)⟩
              have hr4 := mark_row HROW3.out p1
              rw [hk1] at hr4
              obtain ⟨z2, hz2'⟩ : ∃ z, (markL l p1)[k2]? = some z := ⟨_, List.getElem?_eq_getElem (by rw [markL_length]; omega)⟩
              have hr5 := mark_row hr4 p2
              rw [hk2] at hr5
              have y1 : w3.cell? ⟨w0.heap.size, k1, none⟩ = some (.bool z1) := by rw [cell_of_row w3 _ _ _ _ (0, 0) HROW3.out]; exact rowB_get hz1'
              have f1 : w3.frozen? ⟨w0.heap.size, k1, none⟩ = false := frozen_row HROW3.out
              have y2 : (w3.setCell ⟨w0.heap.size, k1, none⟩ (.bool true)).cell? ⟨w0.heap.size, k2, none⟩ = some (.bool z2) := by rw [cell_of_row _ _ _ _ _ (0, 0) hr4]; exact rowB_get hz2'
              have f2 : (w3.setCell ⟨w0.heap.size, k1, none⟩ (.bool true)).frozen? ⟨w0.heap.size, k2, none⟩ = false := frozen_row hr4
              have y3 : (w3.setCell ⟨w0.heap.size, k1, none⟩ (.bool true)).cell? ⟨wr.heap.size, 0 + 1, none⟩ = some (.int .i64 p2) := by
                have e := Below.heap_setCell w3 ⟨w0.heap.size, k1, none⟩ (.bool true) wr.heap.size HNE.out
                rw [cell_of_row _ _ _ _ _ (0, 0) (e.trans HG3.out)]; rfl
              have HR5 : Hid (_ = some (Obj.cells (rowB (markL (markL l p1) p2)) 4 (0, 0))) := hr5
              have HB5 : Hid (Below w0.heap.size w0 ((w3.setCell ⟨w0.heap.size, k1, none⟩ (.bool true)).setCell ⟨w0.heap.size, k2, none⟩ (.bool true))) := (HB3.out.setCell (Nat.le_refl _) _).setCell (Nat.le_refl _) _
              have s0 : (0 : Int) ≤ (k1 : Int) := by omega
              have s1 : (k1 : Int) < (gs.length : Int) + 1 := by omega
              have s2 : (0 : Int) ≤ (k2 : Int) := by omega
              have s3 : (k2 : Int) < (gs.length : Int) + 1 := by omega
              have NN : Hid (wrap64 (p1.tdiv 2) = (k1 : Int) ∧ wrap64 (p2.tdiv 2) = (k2 : Int)) := by
                have := HL.out
                unfold Hid
                rw [Int.tdiv_eq_ediv_of_nonneg a0, Int.tdiv_eq_ediv_of_nonneg b0]
                clear n3
                unfold wrap64; omega
              have m1 := NN.out.1
              have m2 := NN.out.2
              rw [← HW3.out] at y1 f1 y2 f2 y3
              clear a0 a1 b0 b1 hk1 hk2 hN hLL hz1' hz2' hr4 hr5
              go_wp2
              rw [HW3.out]
              exact ⟨⟨n, _, Nat.le_of_lt HN.out, by rw [NW.out], by rw [markL_length, markL_length]; exact HLL.out, HDN2.out, HR5.out, HB5.out⟩, by rw [NW.out]; simp [intOf]⟩
            · rw [hq] at HW3 HG3 x0 x1 x2 x3
              have HDN2 : Hid (downN gs n l = needR gs rs) := by have := HDN.out; rw [hq] at this; exact this
              go_wp2
              rw [HW3.out]
              exact ⟨⟨n, l, Nat.le_of_lt HN.out, by rw [NW.out], HLL.out, HDN2.out, HROW3.out, HB3.out⟩, by rw [NW.out]; simp [intOf]⟩
end Go.Proofs.YtlclbidjdhlklaaDoor
