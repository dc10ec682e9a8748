/-
  lustrumlaw3.WordConst, WALKED: it answers true.
-/
import Derived.Test.YtmmfodiagcnjeaaDoorWdC
namespace Go.Proofs.YtmmfodiagcnjeaaDoor
open Go.RowKit Go.Maps

theorem new0 (w : World) (x y : Value) (t : TypeId) : (w.alloc (.cells #[x, y] t)).cell? ⟨w.heap.size, 0, none⟩ = some x := by simp
theorem new1 (w : World) (x y : Value) (t : TypeId) : (w.alloc (.cells #[x, y] t)).cell? ⟨w.heap.size, 0 + 1, none⟩ = some y := by simp
set_option maxRecDepth 100000 in
set_option maxHeartbeats 4000000 in
theorem wordConst_walk (a : Nat → Addr) (w : World) (S : Sents a w) (n : Int) (k m : Int) (vb : Value) (bits : List Bool) (hvb : BoolsAt w vb bits) :
    Calls Tryd.prog 4 #[.int .i64 n, .agg #[.int .i64 k, .int .i64 m], vb] w fun e w' => e = .returned (.bool true) ∧ Below w.heap.size w w' := by
  have HS : Hid (Sents a w) := S
  have HVB : Hid (BoolsAt w vb bits) := hvb
  obtain ⟨hbm, bo, bc, rfl, hbc⟩ := hvb
  have hb0 : Below w.heap.size w (w.alloc (.cells #[.int .i64 k, .int .i64 m] 33)) := (Below.refl _ _).alloc (Nat.le_refl _) _
  have HB0 : Hid (Below w.heap.size w (w.alloc (.cells #[.int .i64 k, .int .i64 m] 33))) := hb0
  have HR0 : Hid ((w.alloc (.cells #[.int .i64 k, .int .i64 m] 33)).heap[w.heap.size]? = some (.cells #[.int .i64 k, .int .i64 m] 33 (0, 0))) := heap_alloc_new _ _
  unfold maxLen at hbm
  clear S hbc hb0
  go_enter Tryd.func4, Tryd.ntmps4
  by_cases hl : bits.length ≤ 50
  · have hd : ((50 : Int) < (bits.length : Int)) = False := eq_false (by omega)
    have HL : Hid (bits.length ≤ 50) := hl
    clear hbm hl
    go_wp2_with fail
    refine (five_any _).mono ?_
    rintro e w1 ⟨rfl, hb1⟩
    have HB1 : Hid (Below w.heap.size w w1) := HB0.out.trans (hb1.mono HB0.out.size)
    have HR1 : Hid (w1.heap[w.heap.size]? = some (.cells #[.int .i64 k, .int .i64 m] 33 (0, 0))) := row_keep hb1 HR0.out
    clear hb1 HB0 HR0
    go_wp2_with fail
    refine (const_any n w1 _ (HS.out.below HB1.out).g1).mono ?_
    rintro e w2 ⟨lo, ln, lc, er, rfl, hb2, hC⟩
    have HB2 : Hid (Below w.heap.size w w2) := HB1.out.trans (hb2.mono HB1.out.size)
    have HR2 : Hid (w2.heap[w.heap.size]? = some (.cells #[.int .i64 k, .int .i64 m] 33 (0, 0))) := row_keep hb2 HR1.out
    have HC : Hid (_ ∨ _) := hC
    clear hb2 HB1 HR1 hC
    go_upto_region 5 with fail
    go_cut [39] (fun s wc => s = .bool (!isB n) ∧ wc = w2)
    case first =>
      by_cases h0 : n < -128
      · have E : Hid (isB n = false) := by unfold Hid isB; simp; omega
        have d1 : (n < -128) = True := eq_true h0
        clear h0
        go_wp2
        go_meet
        case rel => exact ⟨by rw [E.out]; rfl, rfl⟩
      · have E : Hid (isB n = !decide (127 < n)) := by unfold Hid isB; by_cases h : 127 < n <;> simp [h] <;> omega
        have d1 : (n < -128) = False := eq_false h0
        clear h0
        go_wp2
        go_meet
        case rel => exact ⟨by rw [E.out]; simp, rfl⟩
    case rest =>
    obtain ⟨rfl, hwc⟩ := hcut
    have hwc2 := hwc.symm
    subst hwc2
    go_upto_if 39 with fail
    go_cut [] (fun wc => Below w.heap.size w wc ∧ wc.heap[w.heap.size]? = some (.cells #[.int .i64 k, .int .i64 m] 33 (0, 0)))
    case first =>
      have HB3 : Hid (∀ w3, Below w2.heap.size w2 w3 → Below w.heap.size w w3 ∧ w3.heap[w.heap.size]? = some (.cells #[.int .i64 k, .int .i64 m] 33 (0, 0))) := fun w3 hb => ⟨HB2.out.trans (hb.mono HB2.out.size), row_keep hb HR2.out⟩
      have S2 : Hid (Sents a w2) := HS.out.below HB2.out
      rcases HC.out with ⟨hn, rfl, rfl, V, rfl, hV⟩ | ⟨hn, rfl, rfl⟩
      · have hn' : -128 ≤ n ∧ n < 128 := by unfold isB at hn; simpa using hn
        have d1 : (n < -128) = False := eq_false (by omega)
        have d2 : ((127 : Int) < n) = False := eq_false (by omega)
        have HV : Hid (w2.heap[V]? = some (.cells (rowI (wordI n 8)) 34 (0, 0))) := hV
        have HA : Hid (aroundI n = n) := around_kj hn'.1 hn'.2
        clear HC hV
        simp only [hn, Bool.not_true]
        by_cases h0 : n < 0
        · have d3 : (n < 0) = True := eq_true h0
          have E1 : Hid (wrap64 (n + 256) = kj n 0) := by unfold Hid; rw [kj_zero]; unfold wrap64; omega
          clear h0 hn'
          go_wp2_with (go_at_call 13; refine (around_any _ _).mono ?_; rw [HA.out]; rintro e w' ⟨rfl, hw⟩; have hw2 := hw.symm; subst hw2)
          go_loop [10, 11] (fun q t => ∃ j : Nat, j ≤ 8 ∧ t = .int .i64 j ∧ q = .int .i64 (kj n j)) (fun _ t => 8 - (intOf t).toNat)
          case atStart => exact ⟨0, Nat.zero_le _, rfl, by rw [E1.out]⟩
          case round =>
            obtain ⟨j, hj, rfl, rfl⟩ := hrel
            by_cases hjl : j < 8
            · have hb := kj_bit n hjl
              have hs := kj_succ n j
              have h0 := kj_nonneg n j
              have h9 := kj_le n j
              have c0 : w2.cell? ⟨V, j, none⟩ = some (.int .i64 (bitI n j)) := by
                rw [cell_of_row w2 V _ _ _ (0, 0) HV.out]
                refine rowI_get ?_
                unfold wordI
                rw [List.getElem?_map, List.getElem?_range hjl]; rfl
              have i0' : (0 : Int) ≤ (j : Int) := by omega
              have i1' : (j : Int) < 8 := by omega
              have hw1 : wrap64 ((kj n j).tdiv 2) = kj n (j + 1) := by rw [← hs]; have := kj_nonneg n (j + 1); have := kj_le n (j + 1); unfold wrap64; omega
              have HJ : Hid (j < 8) := hjl
              obtain ⟨p, hp⟩ : ∃ p, p = kj n j := ⟨_, rfl⟩
              rw [← hp] at hb hw1 ⊢
              clear hp hs h0 h9 hj hjl
              go_wp2
              exact ⟨⟨j + 1, HJ.out, rfl, by rw [hw1]⟩, by have := HJ.out; simp [intOf]; omega⟩
            · obtain rfl : j = 8 := by omega
              clear hj hjl
              go_wp2
              go_meet
              case rel => exact HB3.out _ (Below.refl _ _)
        · have d3 : (n < 0) = False := eq_false h0
          have E1 : Hid (n = kj n 0) := by unfold Hid; rw [kj_zero]; omega
          clear h0 hn'
          go_wp2_with (go_at_call 13; refine (around_any _ _).mono ?_; rw [HA.out]; rintro e w' ⟨rfl, hw⟩; have hw2 := hw.symm; subst hw2)
          go_loop [10, 11] (fun q t => ∃ j : Nat, j ≤ 8 ∧ t = .int .i64 j ∧ q = .int .i64 (kj n j)) (fun _ t => 8 - (intOf t).toNat)
          case atStart => exact ⟨0, Nat.zero_le _, rfl, by rw [← E1.out]⟩
          case round =>
            obtain ⟨j, hj, rfl, rfl⟩ := hrel
            by_cases hjl : j < 8
            · have hb := kj_bit n hjl
              have hs := kj_succ n j
              have h0 := kj_nonneg n j
              have h9 := kj_le n j
              have c0 : w2.cell? ⟨V, j, none⟩ = some (.int .i64 (bitI n j)) := by
                rw [cell_of_row w2 V _ _ _ (0, 0) HV.out]
                refine rowI_get ?_
                unfold wordI
                rw [List.getElem?_map, List.getElem?_range hjl]; rfl
              have i0' : (0 : Int) ≤ (j : Int) := by omega
              have i1' : (j : Int) < 8 := by omega
              have hw1 : wrap64 ((kj n j).tdiv 2) = kj n (j + 1) := by rw [← hs]; have := kj_nonneg n (j + 1); have := kj_le n (j + 1); unfold wrap64; omega
              have HJ : Hid (j < 8) := hjl
              obtain ⟨p, hp⟩ : ∃ p, p = kj n j := ⟨_, rfl⟩
              rw [← hp] at hb hw1 ⊢
              clear hp hs h0 h9 hj hjl
              go_wp2
              exact ⟨⟨j + 1, HJ.out, rfl, by rw [hw1]⟩, by have := HJ.out; simp [intOf]; omega⟩
            · obtain rfl : j = 8 := by omega
              clear hj hjl
              go_wp2
              go_meet
              case rel => exact HB3.out _ (Below.refl _ _)
      · clear HC
        simp only [hn, Bool.not_false]
        go_wp2_with (go_at_call 11; refine (coded_bound S2.out).mono ?_; rintro e w3 ⟨rfl, hb3⟩)
        go_meet
        case rel => exact HB3.out _ hb3
    case rest =>
      obtain ⟨hbc, hrc⟩ := hcut
      have HB3 : Hid (Below w.heap.size w wc) := hbc
      have c0 : wc.cell? ⟨w.heap.size, 0, none⟩ = some (.int .i64 k) := by rw [cell_of_row wc _ 0 _ _ (0, 0) hrc]; rfl
      have c1 : wc.cell? ⟨w.heap.size, 0 + 1, none⟩ = some (.int .i64 m) := by rw [cell_of_row wc _ (0 + 1) _ _ (0, 0) hrc]; rfl
      have HR3 : Hid (wc.heap[w.heap.size]? = _) := hrc
      clear HC HB2 HR2 hbc hrc
      rename World => w3
      go_wp2_with fail
      refine (bits_any k m w3 _ (HS.out.below HB3.out).g4).mono ?_
      rintro e w4 ⟨lo, ln, lc, er, rfl, hb4, hC⟩
      have HC : Hid (_ ∨ _) := hC
      have HB4 : Hid (Below w.heap.size w w4) := HB3.out.trans (hb4.mono HB3.out.size)
      have d0 := cell_keep hb4 c0
      have d1 := cell_keep hb4 c1
      have HR4 : Hid (w4.heap[w.heap.size]? = _) := row_keep hb4 HR3.out
      clear c0 c1 HB3 HR3 hb4 hC
      have RGT : Hid (∀ w', Calls Tryd.prog 15 #[.agg #[.int .i64 k, .int .i64 m], .int .i64 k] w' fun e w'' => e = .returned (.bool (rightB k m k)) ∧ Below w'.heap.size w' w'') := fun w' => right_any k m k w'
      go_upto_if 84 with (go_at_call 15; refine (RGT.out _).mono ?_; rintro e w5 ⟨rfl, hb5⟩; have d5 := cell_keep hb5 d0; have d6 := cell_keep hb5 d1)
      have HB5 : Hid (Below w.heap.size w w5) := HB4.out.trans (hb5.mono HB4.out.size)
      have HR5 : Hid (w5.heap[w.heap.size]? = _) := row_keep hb5 HR4.out
      have H5 : Hid (Below w4.heap.size w4 w5) := hb5
      clear hb5 d0 d1 HB4 HR4
      go_cut [13] (fun _ wc => Below w.heap.size w wc ∧ wc.heap[w.heap.size]? = some (.cells #[.int .i64 k, .int .i64 m] 33 (0, 0)))
      case first =>
        have HB6 : Hid (∀ w6, Below w5.heap.size w5 w6 → Below w.heap.size w w6 ∧ w6.heap[w.heap.size]? = some (.cells #[.int .i64 k, .int .i64 m] 33 (0, 0))) := fun w6 hb => ⟨HB5.out.trans (hb.mono HB5.out.size), row_keep hb HR5.out⟩
        have S5 : Hid (Sents a w5) := HS.out.below HB5.out
        rcases HC.out with ⟨hn, rfl, ⟨V, rfl, hV⟩, hkm⟩ | ⟨hn, rfl, rfl⟩
        · have hvw := val_word hkm
          have hln : (wordB m ln).length = 1 ∨ (wordB m ln).length = 8 := by rw [wordB_length]; omega
          have hbo : BoolsAt w5 (.slice (some ⟨V, 0, none⟩) (wordB m ln).length lc) (wordB m ln) := bools_of_row (row_keep H5.out hV) (by rw [wordB_length]; unfold maxLen; omega)
          have HVL : Hid (Calls Tryd.prog 16 #[.slice (some ⟨V, 0, none⟩) ln lc] w5 fun e w' => e = .returned (.tuple #[.agg #[.int .i64 k, .int .i64 m], .nilIface]) ∧ Below w5.heap.size w5 w') := by
            have := value_ok _ _ w5 hbo hln
            rw [hvw.1, hvw.2, wordB_length] at this
            exact this
          clear HC hvw hln hbo hV hkm
          simp only [hn, Bool.not_true]
          go_wp2_with (go_at_call 16; refine HVL.out.mono ?_; rintro e w6 ⟨rfl, hb6⟩; have d7 := cell_keep hb6 d5; have d8 := cell_keep hb6 d6; have d9 : w.heap.size < w6.heap.size := cell_lt d7)
          go_meet
          case rel => exact HB6.out _ (hb6.alloc hb6.size _)
        · clear HC
          simp only [hn, Bool.not_false]
          go_wp2_with (go_at_call 11; refine (coded_type S5.out).mono ?_; rintro e w6 ⟨rfl, hb6⟩)
          go_meet
          case rel => exact HB6.out _ hb6
      case rest =>
        obtain ⟨hbc, hrc⟩ := hcut
        have HB7 : Hid (Below w.heap.size w wc) := hbc
        clear HC HB5 HR5 H5 hbc hrc d5 d6 RGT
        rename World => w7
        have HIN : Hid (BoolsAt w7 (.slice bo bits.length bc) bits) := HVB.out.below HB7.out
        have HI3 : Hid (bits.length ≤ 1000) := Nat.le_trans HL.out (by omega)
        clear hd
        by_cases hl : bits.length = 1 ∨ bits.length = 8
        · have HL8 : Hid (bits.length = 1 ∨ bits.length = 8) := hl
          have RGT : Hid (∀ w', Calls Tryd.prog 15 #[.agg #[.int .i64 (valK bits), .int .i64 (valI bits)], .int .i64 (valK bits)] w' fun e w'' => e = .returned (.bool true) ∧ Below w'.heap.size w' w'') := fun w' => by
            have := right_any (valK bits) (valI bits) (valK bits) w'
            rw [val_right hl] at this
            exact this
          have BTS : Hid (∀ w', Calls Tryd.prog 14 #[.agg #[.int .i64 (valK bits), .int .i64 (valI bits)]] w' fun e w'' => ∃ V : Nat, e = .returned (.tuple #[.slice (some ⟨V, 0, none⟩) bits.length bits.length, .nilIface]) ∧ (∀ (i : Nat) (x : Bool), bits[i]? = some x → w''.cell? ⟨V, i, none⟩ = some (.bool x)) ∧ Below w'.heap.size w' w'') := fun w' => by
            refine (bits_ok (valK bits) (valI bits) (val_right hl) w').mono ?_
            rintro e w'' ⟨m, V, rfl, _, hV, hb, hm⟩
            obtain ⟨rfl, hc⟩ := bits_val hl hm
            exact ⟨V, rfl, fun i x hi => by rw [cell_of_row w'' V _ _ _ (0, 0) hV]; exact rowB_get (hc i x hi), hb⟩
          clear hl
          go_upto_region 29 with (first
            | (at_builtin; refine wpList_copy_bools _ rfl _ _ rfl rfl _ rfl bits HIN.out HI3.out ?_; intro bo' bc' w8 hin8 hb8; have B8 : Hid (Below w.heap.size w w8) := HB7.out.trans (hb8.mono HB7.out.size); have I8 : Hid (BoolsAt w8 _ bits) := hin8; clear hin8 hb8)
            | (go_at_call 16; refine (value_ok _ _ w8 I8.out HL8.out).mono ?_; rintro e w9 ⟨rfl, hb9⟩; have B9 : Hid (Below w.heap.size w w9) := B8.out.trans (hb9.mono B8.out.size); clear hb9)
            | go_in)
          have r9 : (w9.alloc (.cells #[.int .i64 (valK bits), .int .i64 (valI bits)] 33)).heap[w9.heap.size]? = some (.cells #[.int .i64 (valK bits), .int .i64 (valI bits)] 33 (0, 0)) := heap_alloc_new _ _
          have B9' : Hid (Below w.heap.size w (w9.alloc (.cells #[.int .i64 (valK bits), .int .i64 (valI bits)] 33))) := B9.out.alloc B9.out.size _
          obtain ⟨wa, hwa⟩ : ∃ wa, wa = w9.alloc (.cells #[.int .i64 (valK bits), .int .i64 (valI bits)] 33) := ⟨_, rfl⟩
          rw [← hwa] at r9 B9'
          rw [← hwa]
          have ca : wa.cell? ⟨w9.heap.size, 0, none⟩ = some (.int .i64 (valK bits)) := by rw [cell_of_row wa _ 0 _ _ (0, 0) r9]; rfl
          have cb : wa.cell? ⟨w9.heap.size, 0 + 1, none⟩ = some (.int .i64 (valI bits)) := by rw [cell_of_row wa _ (0 + 1) _ _ (0, 0) r9]; rfl
          clear hwa r9 B9
          go_cut [123] (fun s wc => s = .bool false ∧ wc = wa)
          case first =>
            rcases HL8.out with h | h
            · have d1 : (((bits.length : Nat) : Int) == 1) = true := by simp; omega
              have d2 : (((bits.length : Nat) : Int) != 1) = false := by simp; omega
              clear h
              go_wp2
              go_meet
              case rel => exact ⟨rfl, rfl⟩
            · have d1 : (((bits.length : Nat) : Int) == 1) = false := by simp; omega
              have d2 : (((bits.length : Nat) : Int) != 1) = true := by simp; omega
              have d3 : (((bits.length : Nat) : Int) == 8) = true := by simp; omega
              have d4 : (((bits.length : Nat) : Int) != 8) = false := by simp; omega
              clear h
              go_wp2
              go_meet
              case rel => exact ⟨rfl, rfl⟩
          case rest =>
          obtain ⟨rfl, hwc⟩ := hcut
          have hwc2 := hwc.symm
          subst hwc2
          go_wp2_with (first
            | (go_at_call 15; refine (RGT.out _).mono ?_; rintro e wb ⟨rfl, hbb⟩; have Bb : Hid (Below w.heap.size w wb) := B9'.out.trans (hbb.mono B9'.out.size); have cc := cell_keep hbb ca; have cd := cell_keep hbb cb; clear hbb ca cb)
            | (go_at_call 14; refine (BTS.out _).mono ?_; rintro e wd ⟨V, rfl, hcs, hbd⟩; have Bd : Hid (Below w.heap.size w wd) := Bb.out.trans (hbd.mono Bb.out.size); have HCS : Hid (∀ (i : Nat) (x : Bool), bits[i]? = some x → wd.cell? ⟨V, i, none⟩ = some (.bool x)) := hcs; clear hbd hcs cc cd)
            | go_in)
          go_loopw [19] (fun t wr => ∃ j : Nat, j ≤ bits.length ∧ t = .int .i64 j ∧ Below wd.heap.size wd wr) (fun t _ => bits.length - (intOf t).toNat)
          case atStart => exact ⟨0, Nat.zero_le _, rfl, Below.refl _ _⟩
          case round =>
            obtain ⟨j, hj, rfl, hbr⟩ := hrel
            have HBR : Hid (Below wd.heap.size wd wr) := hbr
            clear hbr
            by_cases hjl : j < bits.length
            · obtain ⟨x, hx⟩ : ∃ x, bits[j]? = some x := ⟨_, List.getElem?_eq_getElem hjl⟩
              obtain ⟨_, o2, c2, e2, hbc⟩ := HVB.out
              obtain ⟨b0, off, e3, hcx⟩ := hbc j x hx
              obtain ⟨rfl, rfl⟩ : bo = o2 ∧ bc = c2 := by simpa using e2
              subst e3
              have q0 := cell_keep HBR.out (cell_keep Bd.out hcx)
              have q1 := cell_keep HBR.out (HCS.out j x hx)
              have i0' : (0 : Int) ≤ (j : Int) := by omega
              have i1' : (j : Int) < (bits.length : Int) := by omega
              have N4 : Hid (wrap64 ((j : Int) + 1) = (j : Int) + 1) := by have := HL.out; unfold Hid wrap64; omega
              have HJ : Hid (j < bits.length) := hjl
              clear hj hjl hx hbc hcx e2
              go_wp2
              go_quiet (fail)
              go_wp2
              exact ⟨⟨j + 1, HJ.out, by rw [N4.out]; rfl, ⟨HBR.out.os, HBR.out.tape, HBR.out.output, HBR.out.size, HBR.out.block⟩⟩, by rw [N4.out]; have := HJ.out; simp [intOf]; omega⟩
            · obtain rfl : j = bits.length := by omega
              clear hj hjl
              go_wp2
              go_ret
              exact ⟨rfl, Bd.out.trans (HBR.out.mono Bd.out.size)⟩
        · have HLB : Hid (bits.length ≠ 1 ∧ bits.length ≠ 8) := by unfold Hid; omega
          have d1 : (((bits.length : Nat) : Int) == 1) = false := by simp; omega
          have d2 : (((bits.length : Nat) : Int) == 8) = false := by simp; omega
          have d3 : (((bits.length : Nat) : Int) != 1) = true := by simp; omega
          have d4 : (((bits.length : Nat) : Int) != 8) = true := by simp; omega
          clear hl
          go_wp2_with (first
            | (at_builtin; refine wpList_copy_bools _ rfl _ _ rfl rfl _ rfl bits HIN.out HI3.out ?_; intro bo' bc' w8 hin8 hb8; have B8 : Hid (Below w.heap.size w w8) := HB7.out.trans (hb8.mono HB7.out.size); have ES : Hid (w8.cell? _ = _) := (HS.out.below B8.out).g2; clear hin8 hb8)
            | (go_at_call 16; refine (value_bad _ _ _ HLB.out w8 _ _ ES.out).mono ?_; rintro e w9 ⟨rfl, hb9⟩; have B9 : Hid (Below w.heap.size w (w9.alloc (.cells #[.int .i64 0, .int .i64 0] 33))) := (B8.out.trans (hb9.mono B8.out.size)).alloc ((B8.out.trans (hb9.mono B8.out.size)).size) _; clear hb9)
            | (go_at_call 11; refine (coded_shape (HS.out.below B9.out)).mono ?_; rintro e w10 ⟨rfl, hb10⟩; have z0 := cell_keep hb10 (new0 w9 _ _ _); have z1 := cell_keep hb10 (new1 w9 _ _ _))
            | go_in)
          go_ret
          exact ⟨rfl, B9.out.trans (hb10.mono B9.out.size)⟩
  · have hd : ((50 : Int) < (bits.length : Int)) = True := eq_true (by omega)
    clear hbm hl
    go_wp2_with (go_at_call 8; refine (five_any _).mono ?_; rintro e w1 ⟨rfl, hb1⟩)
    go_ret
    exact ⟨rfl, HB0.out.trans (hb1.mono HB0.out.size)⟩
end Go.Proofs.YtmmfodiagcnjeaaDoor
