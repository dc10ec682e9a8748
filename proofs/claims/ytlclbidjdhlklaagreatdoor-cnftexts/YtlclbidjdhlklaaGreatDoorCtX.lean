/-
  lustrumlaw3.CnfTexts, WALKED: it answers true.
-/
import Derived.Test.YtlclbidjdhlklaaGreatDoorCtW
import Derived.Deep.RegionHeld3
namespace Go.Proofs.YtlclbidjdhlklaaGreatDoor
open Go.RowKit Go.Maps

theorem right_of {n : Int} {cs : List (List Int)} (h1 : bndB n cs = false) (h2 : firstB n cs = none) : 0 ≤ n ∧ n ≤ 150000 ∧ ∀ c ∈ cs, ∀ x ∈ c, x ≠ 0 ∧ -150000 ≤ x ∧ x ≤ 150000 := by
  unfold bndB at h1
  simp only [Bool.or_eq_false_iff, decide_eq_false_iff_not] at h1
  refine ⟨by omega, by omega, fun c hc x hx => ?_⟩
  unfold firstB at h2
  rw [List.findIdx?_eq_none_iff] at h2
  have h3 := h2 c hc
  unfold badC at h3
  rw [List.any_eq_false] at h3
  have h4 := badB_neg.1 (by simpa using h3 x hx)
  omega
theorem trim_text (n : Int) (cs : List (List Int)) : Lib.trimSuffix (textC n cs) [10] ++ [10] = textC n cs := by
  conv => lhs; rw [← cutC_end]
  rw [trim_end, cutC_end]
theorem trim_cut (n : Int) (cs : List (List Int)) : Lib.trimSuffix (cutC n cs) [10] ++ [10] = textC n cs := by
  rw [cutC_trim, cutC_end]
/-- What Read answers of the text, and of the text without its last byte. -/
theorem reads_text (w : World) (S : RsEnv w) (n : Int) (cs : List (List Int)) (h1 : bndB n cs = false) (h2 : firstB n cs = none) (hl : cs.length ≤ 1000) (s : ByteArray) (hs : s.size ≤ 5000) (ht : Lib.trimSuffix s.data.toList [10] ++ [10] = textC n cs) :
    Calls Tryz.prog 12 #[.string s] w fun e w' => ∃ o c, e = .returned (.tuple #[.agg #[.int .i64 n, .slice o cs.length c], .nilIface]) ∧ ClsAt w' (.slice o cs.length c) cs ∧ Below w.heap.size w w' := by
  have hr := right_of h1 h2
  have hR : RightN n cs := ⟨by unfold I64; omega, hr.1, by unfold I64; omega, fun c hc x hx => by have := hr.2.2 c hc x hx; exact ⟨by unfold I64; omega, this.1⟩⟩
  refine (reads_any w S s hs).mono ?_
  rintro e w' ⟨⟨n', sv, cs', rfl, hcl, hn, hI, _, htx, _, _⟩ | ⟨t, q, _, hno⟩, hb⟩
  · obtain ⟨rfl, rfl⟩ := text_inj hn hR.1 hI (fun c hc x hx => (hR.2.2.2 c hc x hx).1) (htx.trans ht)
    have hcl2 := hcl
    obtain ⟨_, o, c, rfl, _⟩ := hcl
    exact ⟨o, c, rfl, hcl2, hb⟩
  · exact absurd ht (hno n cs hR h1 h2)
set_option maxRecDepth 100000 in
set_option maxHeartbeats 8000000 in
theorem texts_walk (a : Nat → Addr) (w : World) (S : Sents a w) (R : RsEnv w) (n : Int) (hn : I64 n) (v : Value) (cs : List (List Int)) (hv : ArgC w v cs) (hI : ∀ c ∈ cs, ∀ x ∈ c, I64 x) (hs : Fits cs) :
    Calls Tryz.prog 3 #[.agg #[.int .i64 n, v]] w fun e w' => e = .returned (.bool true) ∧ Below w.heap.size w w' := by
  have HA : Hid (ArgC w v cs) := hv
  obtain ⟨_, o, c, rfl, _⟩ := hv.cls
  obtain ⟨w1, hw1⟩ : ∃ w1, w1 = w.alloc (.cells #[.int .i64 n, .slice o cs.length c] 24) := ⟨_, rfl⟩
  have hb1 : Below w.heap.size w w1 := by rw [hw1]; exact (Below.refl _ _).alloc (Nat.le_refl _) _
  have HF1 : Hid (w1.heap[w.heap.size]? = some (.cells #[.int .i64 n, .slice o cs.length c] 24 (0, 0))) := by unfold Hid; rw [hw1]; exact heap_alloc_new _ _
  have HS1 : Hid (Sents a w1) := S.below hb1
  have HR1 : Hid (RsEnv w1) := R.below hb1
  have HA1 : Hid (ArgC w1 (.slice o cs.length c) cs) := HA.out.below hb1
  have HT : Hid (Calls Tryz.prog 4 #[] w1 fun e w' => e = .returned (.bool true) ∧ Below w1.heap.size w1 w') := texted_any w1 HR1.out.rd.tab _ _ _ _ HS1.out.g1 HS1.out.g2
  have HW1 : Hid (w.alloc (.cells #[.int .i64 n, .slice o cs.length c] 24) = w1) := hw1.symm
  have HB1 : Hid (Below w.heap.size w w1) := hb1
  have HN : Hid (I64 n ∧ ∀ c ∈ cs, ∀ x ∈ c, I64 x) := ⟨hn, hI⟩
  have HSL : Hid (Fits cs) := hs
  clear hv hw1 hb1 S R hn hI hs HA
  go_enter Tryz.func3, Tryz.ntmps3
  go_wp2_with fail
  rw [HW1.out]
  refine HT.out.mono ?_
  rintro e w2 ⟨rfl, hb2⟩
  have hf2 := row_keep hb2 HF1.out
  have z0 : w2.cell? ⟨w.heap.size, 0, none⟩ = some (.int .i64 n) := by rw [cell_of_row w2 _ _ _ _ (0, 0) hf2]; rfl
  have z1 : w2.cell? ⟨w.heap.size, 0 + 1, none⟩ = some (.slice o cs.length c) := by rw [cell_of_row w2 _ _ _ _ (0, 0) hf2]; rfl
  have HB2 : Hid (Below w1.heap.size w1 w2) := hb2
  clear hf2 hb2
  go_wp2_with fail
  refine (slight_any w2 n _ cs (HA1.out.cls.below HB2.out) HSL.out.1).mono ?_
  rintro e w3 ⟨rfl, hb3⟩
  have HB3 : Hid (Below w1.heap.size w1 w3) := HB2.out.trans (hb3.mono HB2.out.size)
  have hf3 := row_keep HB3.out HF1.out
  have z0 : w3.cell? ⟨w.heap.size, 0, none⟩ = some (.int .i64 n) := by rw [cell_of_row w3 _ _ _ _ (0, 0) hf3]; rfl
  have z1 : w3.cell? ⟨w.heap.size, 0 + 1, none⟩ = some (.slice o cs.length c) := by rw [cell_of_row w3 _ _ _ _ (0, 0) hf3]; rfl
  clear hf3 hb3
  by_cases h5 : wrap64 (sizC cs : Int) ≤ 500
  case neg =>
    have d0 : decide (wrap64 (sizC cs : Int) ≤ 500) = false := decide_eq_false h5
    have HBF : Hid (Below w.heap.size w w3) := HB1.out.trans (HB3.out.mono HB1.out.size)
    rw [d0]
    clear h5
    go_wp2
    go_ret
    exact ⟨rfl, HBF.out⟩
  have d0 : decide (wrap64 (sizC cs : Int) ≤ 500) = true := decide_eq_true h5
  have H5 : Hid (sizC cs ≤ 500 ∨ 500000 < cs.length) := slight_or HSL.out h5
  rw [d0]
  clear h5
  go_wp2_with fail
  refine (formulaOf_any w3 n _ cs (HA1.out.below HB3.out) HSL.out).mono ?_
  rintro e w4 ⟨v1, rfl, hc4, hb4⟩
  have HB4 : Hid (Below w1.heap.size w1 w4) := HB3.out.trans (hb4.mono HB3.out.size)
  have HT4 : Hid (Calls Tryz.prog 6 #[.agg #[.int .i64 n, v1]] w4 fun e w' => TxtP n cs _ _ _ _ e w' ∧ Below w4.heap.size w4 w') := textE_any w4 n HN.out.1 v1 cs hc4 HN.out.2 (by have := H5.out; omega) (HR1.out.below HB4.out).rd.tab _ _ _ _ (HS1.out.below HB4.out).g1 (HS1.out.below HB4.out).g2
  obtain ⟨_, o1, c1, rfl, _⟩ := hc4
  clear hb4 z0 z1
  go_wp2_with fail
  refine HT4.out.mono ?_
  rintro e w5 ⟨hp, hb5⟩
  have HB5 : Hid (Below w1.heap.size w1 w5) := HB4.out.trans (hb5.mono HB4.out.size)
  have hf5 := row_keep HB5.out HF1.out
  have z0 : w5.cell? ⟨w.heap.size, 0, none⟩ = some (.int .i64 n) := by rw [cell_of_row w5 _ _ _ _ (0, 0) hf5]; rfl
  have z1 : w5.cell? ⟨w.heap.size, 0 + 1, none⟩ = some (.slice o cs.length c) := by rw [cell_of_row w5 _ _ _ _ (0, 0) hf5]; rfl
  have HCK : Hid (Calls Tryz.prog 8 #[.agg #[.int .i64 n, .slice o cs.length c]] w5 fun e w' => e = .returned (.agg #[.int .i64 (chkK n cs).1, .int .i64 (chkK n cs).2]) ∧ Below w5.heap.size w5 w') := checkOf_any w5 n _ cs (HA1.out.cls.below HB5.out) (by have := H5.out; omega)
  have HFO : Hid (∀ W, Below w1.heap.size w1 W → Calls Tryz.prog 7 #[.agg #[.int .i64 n, .slice o cs.length c]] W fun e w' => ∃ o' c', e = .returned (.agg #[.int .i64 n, .slice o' cs.length c']) ∧ ClsAt w' (.slice o' cs.length c') cs ∧ Below W.heap.size W w') := fun W hW => (formulaOf_any W n _ cs (HA1.out.below hW) HSL.out).mono (by
    rintro e w' ⟨v', rfl, hc, hb⟩
    have hc2 := hc
    obtain ⟨_, o', c', rfl, _⟩ := hc
    exact ⟨o', c', rfl, hc2, hb⟩)
  have HCH : Hid (∀ W o' c', Below w1.heap.size w1 W → ClsAt W (.slice o' cs.length c') cs → Calls Tryz.prog 10 #[.agg #[.int .i64 n, .slice o' cs.length c']] W fun e w' => ChkP n cs _ _ _ _ e w' ∧ Below W.heap.size W w') := fun W o' c' hW hc => checkF_any W n _ cs hc (by have := H5.out; omega) _ _ _ _ (HS1.out.below hW).g1 (HS1.out.below hW).g2
  clear hb5 hf5 HT HT4
  rcases hp with ⟨hbn, rfl⟩ | ⟨hbn, j, P, hfi, rfl, hP⟩ | ⟨hbn, hfi, rfl⟩
  · have HK : Hid (chkK n cs = (2, -1)) := by unfold Hid chkK; rw [hbn]; rfl
    have HQ : Hid (bndB n cs = true) := hbn
    clear hbn
    go_wp2_with fail
    refine HCK.out.mono ?_
    rw [HK.out]
    rintro e w6 ⟨rfl, hb6⟩
    obtain ⟨w7, hw7⟩ : ∃ w7, w7 = w6.alloc (.cells #[.int .i64 2, .int .i64 (-1)] 34) := ⟨_, rfl⟩
    have hb7 : Below w6.heap.size w6 w7 := by rw [hw7]; exact (Below.refl _ _).alloc (Nat.le_refl _) _
    have HB57 : Hid (Below w5.heap.size w5 w7) := hb6.trans (hb7.mono hb6.size)
    have HB7 : Hid (Below w1.heap.size w1 w7) := HB5.out.trans (HB57.out.mono HB5.out.size)
    have HG7 : Hid (w7.heap[w6.heap.size]? = some (.cells #[.int .i64 2, .int .i64 (-1)] 34 (0, 0))) := by unfold Hid; rw [hw7]; exact heap_alloc_new _ _
    have HW7 : Hid (w6.alloc (.cells #[.int .i64 2, .int .i64 (-1)] 34) = w7) := hw7.symm
    have HCE : Hid (∀ W, Below w7.heap.size w7 W → (W.cell? ⟨w.heap.size, 0, none⟩ = some (.int .i64 n) ∧ W.cell? ⟨w.heap.size, 1, none⟩ = some (.slice o cs.length c)) ∧ W.cell? ⟨w6.heap.size, 0, none⟩ = some (.int .i64 2) ∧ W.cell? ⟨w6.heap.size, 1, none⟩ = some (.int .i64 (-1))) := fun W hW => by
      have h1 := row_keep (HB7.out.trans (hW.mono HB7.out.size)) HF1.out
      have h2 := row_keep hW HG7.out
      exact ⟨⟨by rw [cell_of_row W _ _ _ _ (0, 0) h1]; rfl, by rw [cell_of_row W _ _ _ _ (0, 0) h1]; rfl⟩, by rw [cell_of_row W _ _ _ _ (0, 0) h2]; rfl, by rw [cell_of_row W _ _ _ _ (0, 0) h2]; rfl⟩
    clear hb6 hb7 hw7 z0 z1 HCK
    go_wp2
    rw [HW7.out]
    have q7 := HCE.out w7 (Below.refl _ _)
    go_region_held3 (fun w' => (w'.cell? ⟨w.heap.size, 0, none⟩ = some (.int .i64 n) ∧ w'.cell? ⟨w.heap.size, 1, none⟩ = some (.slice o cs.length c)) ∧ w'.cell? ⟨w6.heap.size, 0, none⟩ = some (.int .i64 2) ∧ w'.cell? ⟨w6.heap.size, 1, none⟩ = some (.int .i64 (-1))) ((first | exact q10 | exact q9 | exact q8 | exact q7))
      (first
        | (go_at_call 7; (with_reducible refine Calls.mono (HFO.out _ (HB7.out.trans (((Below.refl _ _).drew).mono HB7.out.size))) ?_); rintro e w8 ⟨o8, c8, rfl, hc8, hb8⟩; have hb78 : Below w7.heap.size w7 w8 := ((Below.refl _ _).drew).trans (hb8.mono (Nat.le_refl _)); have HB8 : Hid (Below w7.heap.size w7 w8) := hb78; have HC8 : Hid (ClsAt w8 (.slice o8 cs.length c8) cs) := hc8; have q8 := HCE.out w8 hb78; clear hc8 hb8 hb78)
        | (go_at_call 10; (with_reducible refine Calls.mono (HCH.out _ _ _ (HB7.out.trans (HB8.out.mono HB7.out.size)) HC8.out) ?_); rintro e w9 ⟨hk, hb9⟩; have he : e = .returned (.iface 161 (.pointer (some (a 1)))) := (by rcases hk with ⟨_, h⟩ | ⟨h, _⟩ | ⟨h, _⟩; (exact h); (rw [HQ.out] at h; cases h); (rw [HQ.out] at h; cases h)); subst he; have HB9 : Hid (Below w7.heap.size w7 w9) := HB8.out.trans (hb9.mono HB8.out.size); have q9 := HCE.out w9 HB9.out; clear hk hb9)
        | (go_at_call 9; (with_reducible refine Calls.mono (faulted3_str a w9 (HS1.out.below (HB7.out.trans (HB9.out.mono HB7.out.size)))) ?_); rintro e w10 ⟨rfl, hb10⟩; have HB10 : Hid (Below w7.heap.size w7 w10) := HB9.out.trans (hb10.mono HB9.out.size); have q10 := HCE.out w10 HB10.out; clear hb10))
    rename_i hheld
    clear hheld q7 q8 q9 HC8
    obtain ⟨⟨z0, z1⟩, y0, y1⟩ := q10
    go_wp2_with fail
    refine (faulted3_str a w10 (HS1.out.below (HB7.out.trans (HB10.out.mono HB7.out.size)))).mono ?_
    rintro e w11 ⟨rfl, hb11⟩
    have HB11 : Hid (Below w.heap.size w w11) := by
      have h1 := HB10.out.trans (hb11.mono HB10.out.size)
      exact HB1.out.trans ((HB7.out.trans (h1.mono HB7.out.size)).mono HB1.out.size)
    clear hb11 z0 z1 y0 y1
    go_wp2
    go_ret
    exact ⟨rfl, HB11.out⟩
  · have HK : Hid (chkK n cs = (3, (j : Int))) := by unfold Hid chkK; rw [hbn, hfi]; rfl
    have HQ : Hid (bndB n cs = false ∧ firstB n cs = some j) := ⟨hbn, hfi⟩
    have HP5 : Hid (w5.heap[P]? = some (.cells #[.int .i64 j, .iface 161 (.pointer (some (a 2)))] 57 (0, 0))) := hP
    clear hbn hfi hP
    go_wp2_with fail
    refine HCK.out.mono ?_
    rw [HK.out]
    rintro e w6 ⟨rfl, hb6⟩
    obtain ⟨w7, hw7⟩ : ∃ w7, w7 = w6.alloc (.cells #[.int .i64 3, .int .i64 j] 34) := ⟨_, rfl⟩
    have hb7 : Below w6.heap.size w6 w7 := by rw [hw7]; exact (Below.refl _ _).alloc (Nat.le_refl _) _
    have HB57 : Hid (Below w5.heap.size w5 w7) := hb6.trans (hb7.mono hb6.size)
    have HB7 : Hid (Below w1.heap.size w1 w7) := HB5.out.trans (HB57.out.mono HB5.out.size)
    have HG7 : Hid (w7.heap[w6.heap.size]? = some (.cells #[.int .i64 3, .int .i64 j] 34 (0, 0))) := by unfold Hid; rw [hw7]; exact heap_alloc_new _ _
    have HW7 : Hid (w6.alloc (.cells #[.int .i64 3, .int .i64 j] 34) = w7) := hw7.symm
    have HCE : Hid (∀ W, Below w7.heap.size w7 W → (W.cell? ⟨w.heap.size, 0, none⟩ = some (.int .i64 n) ∧ W.cell? ⟨w.heap.size, 1, none⟩ = some (.slice o cs.length c)) ∧ W.cell? ⟨w6.heap.size, 0, none⟩ = some (.int .i64 3) ∧ W.cell? ⟨w6.heap.size, 1, none⟩ = some (.int .i64 j)) := fun W hW => by
      have h1 := row_keep (HB7.out.trans (hW.mono HB7.out.size)) HF1.out
      have h2 := row_keep hW HG7.out
      exact ⟨⟨by rw [cell_of_row W _ _ _ _ (0, 0) h1]; rfl, by rw [cell_of_row W _ _ _ _ (0, 0) h1]; rfl⟩, by rw [cell_of_row W _ _ _ _ (0, 0) h2]; rfl, by rw [cell_of_row W _ _ _ _ (0, 0) h2]; rfl⟩
    clear hb6 hb7 hw7 z0 z1 HCK
    go_wp2
    rw [HW7.out]
    have q7 := HCE.out w7 (Below.refl _ _)
    go_region_held3 (fun w' => (w'.cell? ⟨w.heap.size, 0, none⟩ = some (.int .i64 n) ∧ w'.cell? ⟨w.heap.size, 1, none⟩ = some (.slice o cs.length c)) ∧ w'.cell? ⟨w6.heap.size, 0, none⟩ = some (.int .i64 3) ∧ w'.cell? ⟨w6.heap.size, 1, none⟩ = some (.int .i64 j)) ((first | exact q10 | exact q9 | exact q8 | exact q7))
      (first
        | (go_at_call 7; (with_reducible refine Calls.mono (HFO.out _ (HB7.out.trans (((Below.refl _ _).drew).mono HB7.out.size))) ?_); rintro e w8 ⟨o8, c8, rfl, hc8, hb8⟩; have hb78 : Below w7.heap.size w7 w8 := ((Below.refl _ _).drew).trans (hb8.mono (Nat.le_refl _)); have HB8 : Hid (Below w7.heap.size w7 w8) := hb78; have HC8 : Hid (ClsAt w8 (.slice o8 cs.length c8) cs) := hc8; have q8 := HCE.out w8 hb78; clear hc8 hb8 hb78)
        | (go_at_call 10; (with_reducible refine Calls.mono (HCH.out _ _ _ (HB7.out.trans (HB8.out.mono HB7.out.size)) HC8.out) ?_); rintro e w9 ⟨hk, hb9⟩; have he : ∃ P9, e = .returned (.iface 55 (.pointer (some ⟨P9, 0, none⟩))) ∧ w9.heap[P9]? = some (.cells #[.int .i64 j, .iface 161 (.pointer (some (a 2)))] 57 (0, 0)) := (by rcases hk with ⟨h, _⟩ | ⟨_, j', P9, h, h2, h3⟩ | ⟨_, h, _⟩; (rw [HQ.out.1] at h; cases h); (rw [HQ.out.2] at h; cases h; exact ⟨P9, h2, h3⟩); (rw [HQ.out.2] at h; cases h)); obtain ⟨P9, he1, hP9⟩ := he; subst he1; have HP9 : Hid (w9.heap[P9]? = some (.cells #[.int .i64 j, .iface 161 (.pointer (some (a 2)))] 57 (0, 0))) := hP9; clear hP9; have HB9 : Hid (Below w7.heap.size w7 w9) := HB8.out.trans (hb9.mono HB8.out.size); have q9 := HCE.out w9 HB9.out; clear hk hb9)
        | (go_at_call 9; (with_reducible refine Calls.mono (faulted3_fault a w9 (HS1.out.below (HB7.out.trans (HB9.out.mono HB7.out.size))) P9 j HP9.out) ?_); rintro e w10 ⟨rfl, hb10⟩; have HB10 : Hid (Below w7.heap.size w7 w10) := HB9.out.trans (hb10.mono HB9.out.size); have q10 := HCE.out w10 HB10.out; clear hb10))
    rename_i hheld
    clear hheld q7 q8 q9 HC8
    obtain ⟨⟨z0, z1⟩, y0, y1⟩ := q10
    go_wp2_with fail
    refine (faulted3_fault a w10 (HS1.out.below (HB7.out.trans (HB10.out.mono HB7.out.size))) P j (row_keep (HB57.out.trans (HB10.out.mono HB57.out.size)) HP5.out)).mono ?_
    rintro e w11 ⟨rfl, hb11⟩
    have HB11 : Hid (Below w.heap.size w w11) := by
      have h1 := HB10.out.trans (hb11.mono HB10.out.size)
      exact HB1.out.trans ((HB7.out.trans (h1.mono HB7.out.size)).mono HB1.out.size)
    clear hb11 z0 z1 y0 y1
    go_wp2
    go_ret
    exact ⟨rfl, HB11.out⟩
  · have HK : Hid (chkK n cs = (0, -1)) := by unfold Hid chkK; rw [hbn, hfi]; rfl
    have HQ : Hid (bndB n cs = false ∧ firstB n cs = none) := ⟨hbn, hfi⟩
    clear hbn hfi
    go_wp2_with fail
    refine HCK.out.mono ?_
    rw [HK.out]
    rintro e w6 ⟨rfl, hb6⟩
    obtain ⟨w7, hw7⟩ : ∃ w7, w7 = w6.alloc (.cells #[.int .i64 0, .int .i64 (-1)] 34) := ⟨_, rfl⟩
    have hb7 : Below w6.heap.size w6 w7 := by rw [hw7]; exact (Below.refl _ _).alloc (Nat.le_refl _) _
    have HB57 : Hid (Below w5.heap.size w5 w7) := hb6.trans (hb7.mono hb6.size)
    have HB7 : Hid (Below w1.heap.size w1 w7) := HB5.out.trans (HB57.out.mono HB5.out.size)
    have HG7 : Hid (w7.heap[w6.heap.size]? = some (.cells #[.int .i64 0, .int .i64 (-1)] 34 (0, 0))) := by unfold Hid; rw [hw7]; exact heap_alloc_new _ _
    have HW7 : Hid (w6.alloc (.cells #[.int .i64 0, .int .i64 (-1)] 34) = w7) := hw7.symm
    have HCE : Hid (∀ W, Below w7.heap.size w7 W → (W.cell? ⟨w.heap.size, 0, none⟩ = some (.int .i64 n) ∧ W.cell? ⟨w.heap.size, 1, none⟩ = some (.slice o cs.length c)) ∧ W.cell? ⟨w6.heap.size, 0, none⟩ = some (.int .i64 0) ∧ W.cell? ⟨w6.heap.size, 1, none⟩ = some (.int .i64 (-1))) := fun W hW => by
      have h1 := row_keep (HB7.out.trans (hW.mono HB7.out.size)) HF1.out
      have h2 := row_keep hW HG7.out
      exact ⟨⟨by rw [cell_of_row W _ _ _ _ (0, 0) h1]; rfl, by rw [cell_of_row W _ _ _ _ (0, 0) h1]; rfl⟩, by rw [cell_of_row W _ _ _ _ (0, 0) h2]; rfl, by rw [cell_of_row W _ _ _ _ (0, 0) h2]; rfl⟩
    clear hb6 hb7 hw7 z0 z1 HCK
    go_wp2
    rw [HW7.out]
    have q7 := HCE.out w7 (Below.refl _ _)
    go_region_held3 (fun w' => (w'.cell? ⟨w.heap.size, 0, none⟩ = some (.int .i64 n) ∧ w'.cell? ⟨w.heap.size, 1, none⟩ = some (.slice o cs.length c)) ∧ w'.cell? ⟨w6.heap.size, 0, none⟩ = some (.int .i64 0) ∧ w'.cell? ⟨w6.heap.size, 1, none⟩ = some (.int .i64 (-1))) ((first | exact q10 | exact q9 | exact q8 | exact q7))
      (first
        | (go_at_call 7; (with_reducible refine Calls.mono (HFO.out _ (HB7.out.trans (((Below.refl _ _).drew).mono HB7.out.size))) ?_); rintro e w8 ⟨o8, c8, rfl, hc8, hb8⟩; have hb78 : Below w7.heap.size w7 w8 := ((Below.refl _ _).drew).trans (hb8.mono (Nat.le_refl _)); have HB8 : Hid (Below w7.heap.size w7 w8) := hb78; have HC8 : Hid (ClsAt w8 (.slice o8 cs.length c8) cs) := hc8; have q8 := HCE.out w8 hb78; clear hc8 hb8 hb78)
        | (go_at_call 10; (with_reducible refine Calls.mono (HCH.out _ _ _ (HB7.out.trans (HB8.out.mono HB7.out.size)) HC8.out) ?_); rintro e w9 ⟨hk, hb9⟩; have he : e = .returned .nilIface := (by rcases hk with ⟨h, _⟩ | ⟨_, j, P, h, _⟩ | ⟨_, _, h⟩; (rw [HQ.out.1] at h; cases h); (rw [HQ.out.2] at h; cases h); (exact h)); subst he; have HB9 : Hid (Below w7.heap.size w7 w9) := HB8.out.trans (hb9.mono HB8.out.size); have q9 := HCE.out w9 HB9.out; clear hk hb9)
        | (go_at_call 9; (with_reducible refine Calls.mono (faulted3_nil w9 (-1)) ?_); rintro e w10 ⟨rfl, hb10⟩; have HB10 : Hid (Below w7.heap.size w7 w10) := HB9.out.trans (hb10.mono HB9.out.size); have q10 := HCE.out w10 HB10.out; clear hb10))
    rename_i hheld
    clear hheld q7 q8 q9 HC8
    obtain ⟨⟨z0, z1⟩, y0, y1⟩ := q10
    obtain ⟨s, hs⟩ : ∃ s : ByteArray, s = ⟨(textC n cs).toArray⟩ := ⟨_, rfl⟩
    rw [← hs]
    have hr := right_of HQ.out.1 HQ.out.2
    have HSD : Hid (s.data.toList = textC n cs) := by unfold Hid; rw [hs]
    have H5 : Hid (sizC cs ≤ 500) := by
      have h1 := HQ.out.1
      unfold bndB at h1
      simp only [Bool.or_eq_false_iff, decide_eq_false_iff_not] at h1
      have := H5.out
      unfold Hid; omega
    have HLC : Hid (cs.length ≤ 500) := by have := sizC_len cs; have := H5.out; unfold Hid; omega
    have hln : s.size ≤ 5000 := by
      have h1 := text_len (n := n) (cs := cs) (by omega) (by have := HLC.out; omega) (fun c hc x hx => by have := hr.2.2 c hc x hx; omega)
      have := H5.out
      rw [Lib.size_eq, HSD.out]; omega
    have hpos : 1 ≤ s.size := by
      rw [Lib.size_eq, HSD.out, ← cutC_end]; simp
    have HSZ : Hid (1 ≤ s.size ∧ s.size ≤ 5000) := ⟨hpos, hln⟩
    have HTX : Hid (∀ W, Below w1.heap.size w1 W → Calls Tryz.prog 11 #[.agg #[.int .i64 n, .slice o cs.length c]] W fun e w' => e = .returned (.string s) ∧ Below W.heap.size W w') := fun W hW => (textOf_any W n _ cs (HA1.out.cls.below hW) (by have := H5.out; omega) (by omega) (fun c hc x hx => by have := hr.2.2 c hc x hx; omega)).mono (by
      rintro e w' ⟨t, rfl, ht, hb⟩
      have : t = s := by
        obtain ⟨t⟩ := t
        rw [hs]
        exact congrArg ByteArray.mk (Array.toList_inj.1 (by simpa using ht))
      exact ⟨by rw [this], hb⟩)
    have HRD : Hid (∀ W (s' : ByteArray), Below w1.heap.size w1 W → s'.size ≤ 5000 → Lib.trimSuffix s'.data.toList [10] ++ [10] = textC n cs → Calls Tryz.prog 12 #[.string s'] W fun e w' => ∃ o c, e = .returned (.tuple #[.agg #[.int .i64 n, .slice o cs.length c], .nilIface]) ∧ ClsAt w' (.slice o cs.length c) cs ∧ Below W.heap.size W w') := fun W s' hW h1 h2 => reads_text W (HR1.out.below hW) n cs HQ.out.1 HQ.out.2 (by have := HLC.out; omega) s' h1 h2
    have HBW10 : Hid (Below w1.heap.size w1 w10) := HB7.out.trans (HB10.out.mono HB7.out.size)
    clear hs hr hln hpos y1
    go_wp2_with fail
    refine (HTX.out _ HBW10.out).mono ?_
    rintro e w11 ⟨rfl, hb11⟩
    have HB11 : Hid (Below w1.heap.size w1 w11) := HBW10.out.trans (hb11.mono HBW10.out.size)
    clear hb11 z0 z1 y0
    go_wp2_with fail
    refine (HRD.out _ s HB11.out HSZ.out.2 (by rw [HSD.out]; exact trim_text n cs)).mono ?_
    rintro e w12 ⟨ox, cx, rfl, hcx, hb12⟩
    obtain ⟨w13, hw13⟩ : ∃ w13, w13 = w12.alloc (.cells #[.int .i64 n, .slice ox cs.length cx] 31) := ⟨_, rfl⟩
    have hb13 : Below w12.heap.size w12 w13 := by rw [hw13]; exact (Below.refl _ _).alloc (Nat.le_refl _) _
    have HB12 : Hid (Below w1.heap.size w1 w12) := HB11.out.trans (hb12.mono HB11.out.size)
    have HB13 : Hid (Below w1.heap.size w1 w13) := HB12.out.trans (hb13.mono HB12.out.size)
    have HX13 : Hid (w13.heap[w12.heap.size]? = some (.cells #[.int .i64 n, .slice ox cs.length cx] 31 (0, 0))) := by unfold Hid; rw [hw13]; exact heap_alloc_new _ _
    have HC13 : Hid (ClsAt w13 (.slice ox cs.length cx) cs) := hcx.below hb13
    have HW13 : Hid (w12.alloc (.cells #[.int .i64 n, .slice ox cs.length cx] 31) = w13) := hw13.symm
    have n1 : wrap64 ((s.size : Int) - 1) = (s.size : Int) - 1 := by have := HSZ.out; unfold wrap64; omega
    have i0 : (0 : Int) ≤ (s.size : Int) - 1 := by have := HSZ.out; omega
    have i1 : (s.size : Int) - 1 ≤ (s.size : Int) := by omega
    clear hcx hb12 hb13 hw13
    have HS2 : Hid ((s.extract 0 (s.size - 1)).data.toList = cutC n cs ∧ (s.extract 0 (s.size - 1)).size ≤ 5000) := by
      have h1 : (s.extract 0 (s.size - 1)).data.toList = s.data.toList.take (s.size - 1) := by
        simp [ByteArray.data_extract]
        rw [List.dropLast_eq_take, Lib.size_eq]
      have h2 : (s.extract 0 (s.size - 1)).data.toList = cutC n cs := by
        rw [h1, Lib.size_eq, ← List.dropLast_eq_take, HSD.out]; rfl
      refine ⟨h2, ?_⟩
      have h3 := HSZ.out
      rw [Lib.size_eq] at h3
      rw [Lib.size_eq, h1, List.length_take, Lib.size_eq]; omega
    go_wp2_with fail
    rw [HW13.out]
    refine (HRD.out _ _ HB13.out HS2.out.2 (by rw [HS2.out.1]; exact trim_cut n cs)).mono ?_
    rintro e w14 ⟨oy, cy, rfl, hcy, hb14⟩
    obtain ⟨w15, hw15⟩ : ∃ w15, w15 = w14.alloc (.cells #[.int .i64 n, .slice oy cs.length cy] 31) := ⟨_, rfl⟩
    have hb15 : Below w14.heap.size w14 w15 := by rw [hw15]; exact (Below.refl _ _).alloc (Nat.le_refl _) _
    have hb1315 : Below w13.heap.size w13 w15 := hb14.trans (hb15.mono hb14.size)
    have HB15 : Hid (Below w1.heap.size w1 w15) := HB13.out.trans (hb1315.mono HB13.out.size)
    have hx15 := row_keep hb1315 HX13.out
    have hy15 : w15.heap[w14.heap.size]? = some (.cells #[.int .i64 n, .slice oy cs.length cy] 31 (0, 0)) := by rw [hw15]; exact heap_alloc_new _ _
    have hf15 := row_keep HB15.out HF1.out
    have HW15 : Hid (w14.alloc (.cells #[.int .i64 n, .slice oy cs.length cy] 31) = w15) := hw15.symm
    have HSC1 : Hid (Calls Tryz.prog 13 #[.slice ox cs.length cx, .slice o cs.length c] w15 fun e w' => e = .returned (.bool true) ∧ ∃ k, w' = w15.drewN k) := sameC_any w15 ox o cs.length cx c cs (HC13.out.below hb1315) (HA1.out.cls.below HB15.out) rfl (by have := H5.out; omega)
    have HSC2 : Hid (∀ k, Calls Tryz.prog 13 #[.slice oy cs.length cy, .slice o cs.length c] (w15.drewN k) fun e w' => e = .returned (.bool true) ∧ ∃ k', w' = (w15.drewN k).drewN k') := fun k => sameC_any (w15.drewN k) oy o cs.length cy c cs ((hcy.below hb15).drew k) ((HA1.out.cls.below HB15.out).drew k) rfl (by have := H5.out; omega)
    have p0 : w15.cell? ⟨w12.heap.size, 0, none⟩ = some (.int .i64 n) := by rw [cell_of_row w15 _ _ _ _ (0, 0) hx15]; rfl
    have p1 : w15.cell? ⟨w12.heap.size, 0 + 1, none⟩ = some (.slice ox cs.length cx) := by rw [cell_of_row w15 _ _ _ _ (0, 0) hx15]; rfl
    have p2 : w15.cell? ⟨w14.heap.size, 0, none⟩ = some (.int .i64 n) := by rw [cell_of_row w15 _ _ _ _ (0, 0) hy15]; rfl
    have p3 : w15.cell? ⟨w14.heap.size, 0 + 1, none⟩ = some (.slice oy cs.length cy) := by rw [cell_of_row w15 _ _ _ _ (0, 0) hy15]; rfl
    have p4 : w15.cell? ⟨w.heap.size, 0, none⟩ = some (.int .i64 n) := by rw [cell_of_row w15 _ _ _ _ (0, 0) hf15]; rfl
    have p5 : w15.cell? ⟨w.heap.size, 0 + 1, none⟩ = some (.slice o cs.length c) := by rw [cell_of_row w15 _ _ _ _ (0, 0) hf15]; rfl
    have HP : Hid (∀ k, (w15.drewN k).cell? ⟨w14.heap.size, 0 + 1, none⟩ = some (.slice oy cs.length cy) ∧ (w15.drewN k).cell? ⟨w.heap.size, 0 + 1, none⟩ = some (.slice o cs.length c)) := fun k => ⟨p3, p5⟩
    have HBF : Hid (∀ k, Below w.heap.size w (w15.drewN k)) := fun k => below_drewM (HB1.out.trans (HB15.out.mono HB1.out.size)) k
    rw [hw15] at p0 p1 p2 p3 p4 p5
    clear hcy hb14 hw15 hb15 hb1315 hx15 hy15 hf15 n1 i0 i1
    go_wp2_with fail
    rw [HW15.out]
    refine HSC1.out.mono ?_
    rintro e w16 ⟨rfl, k16, rfl⟩
    clear p0 p1 p2 p3 p4 p5
    obtain ⟨p3, p5⟩ := HP.out k16
    go_wp2_with fail
    refine (HSC2.out k16).mono ?_
    rintro e w17 ⟨rfl, k17, rfl⟩
    clear p3 p5
    go_wp2
    go_ret
    exact ⟨rfl, HBF.out _⟩
end Go.Proofs.YtlclbidjdhlklaaGreatDoor
