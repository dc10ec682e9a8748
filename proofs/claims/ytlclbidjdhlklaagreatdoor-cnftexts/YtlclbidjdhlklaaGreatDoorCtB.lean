/-
  lustrumref3: ClauseRight, CheckOf BY CONTRACT.
-/
import Derived.Test.YtlclbidjdhlklaaGreatDoorCnW
import Derived.Test.YtlclbidjdhlklaaGreatDoorCnS
import Derived.Deep.QuietTactic
import Derived.BigQuiet
namespace Go.Proofs.YtlclbidjdhlklaaGreatDoor
open Go.RowKit Go.Maps

theorem badB_neg {n x : Int} : badB n x = false ↔ x ≠ 0 ∧ ¬ n < x ∧ ¬ x < -n := by
  unfold badB
  simp only [Bool.or_eq_false_iff, decide_eq_false_iff_not]
  constructor
  · rintro ⟨⟨h1, h2⟩, h3⟩; exact ⟨h1, h3, h2⟩
  · rintro ⟨h1, h3, h2⟩; exact ⟨⟨h1, h2⟩, h3⟩
set_option maxRecDepth 100000 in
set_option maxHeartbeats 1000000 in
theorem cright_any (w : World) (o : Option Addr) (c : Nat) (d : List Int) (m : Int) (hm : 0 ≤ m ∧ m ≤ 1000000) (hin : ∀ j x, d[j]? = some x → ∃ b' off', o = some ⟨b', off', none⟩ ∧ w.cell? ⟨b', off' + j, none⟩ = some (.int .i64 x)) (hl : d.length ≤ 100000) :
    Calls Tryz.prog 17 #[.slice o d.length c, .int .i64 m] w fun e w' => e = .returned (.bool (!badC m d)) ∧ w' = w := by
  have HIN : Hid (∀ j x, d[j]? = some x → ∃ b' off', o = some ⟨b', off', none⟩ ∧ w.cell? ⟨b', off' + j, none⟩ = some (.int .i64 x)) := hin
  have HL : Hid (d.length ≤ 100000) := hl
  have n1 : wrap64 (-m) = -m := by unfold wrap64; omega
  clear hin hl hm
  go_enter Tryz.func17, Tryz.ntmps17
  go_wp2
  go_loop [5] (fun t => ∃ j : Nat, j ≤ d.length ∧ t = .int .i64 j ∧ ∀ k x, k < j → d[k]? = some x → badB m x = false) (fun t => d.length - (intOf t).toNat)
  case atStart => exact ⟨0, Nat.zero_le _, rfl, fun k d hk => by omega⟩
  case round =>
    obtain ⟨j, hj, rfl, hall⟩ := hrel
    have HALL : Hid (∀ k x, k < j → d[k]? = some x → badB m x = false) := hall
    by_cases hjl : j < d.length
    · obtain ⟨x, hx⟩ : ∃ x, d[j]? = some x := ⟨_, List.getElem?_eq_getElem hjl⟩
      obtain ⟨b, off, rfl, q0⟩ := HIN.out j x hx
      have HX : Hid (d[j]? = some x) := hx
      have i0' : (0 : Int) ≤ (j : Int) := by omega
      have i1' : (j : Int) < (d.length : Int) := by omega
      have HJ : Hid (j < d.length) := hjl
      have N4 : Hid (wrap64 ((j : Int) + 1) = (j : Int) + 1) := by have := HL.out; unfold Hid wrap64; omega
      have HBAD : Hid (badB m x = true → badC m d = true) := fun h => List.any_eq_true.2 ⟨x, List.mem_of_getElem? hx, h⟩
      clear hall hj hjl hx
      by_cases h0 : x = 0
      · subst h0
        have HB : Hid (badC m d = true) := HBAD.out (by unfold badB; simp)
        go_wp2
        go_ret
        exact ⟨by rw [HB.out]; rfl, rfl⟩
      · have d0 : (x == 0) = false := by simp [h0]
        by_cases h1 : m < x
        · have d1 : (m < x) = True := eq_true h1
          have HB : Hid (badC m d = true) := HBAD.out (by unfold badB; simp [h1])
          clear h0 h1
          go_wp2
          go_ret
          exact ⟨by rw [HB.out]; rfl, rfl⟩
        · have d1 : (m < x) = False := eq_false h1
          by_cases h2 : x < -m
          · have d2 : (x < -m) = True := eq_true h2
            have HB : Hid (badC m d = true) := HBAD.out (by unfold badB; simp [h2])
            clear h0 h1 h2
            go_wp2
            go_ret
            exact ⟨by rw [HB.out]; rfl, rfl⟩
          · have d2 : (x < -m) = False := eq_false h2
            have HG : Hid (badB m x = false) := badB_neg.2 ⟨h0, h1, h2⟩
            clear h0 h1 h2
            go_wp2
            refine ⟨⟨j + 1, HJ.out, by rw [N4.out]; rfl, fun k y hk hy => ?_⟩, by rw [N4.out]; have := HJ.out; simp [intOf]; omega⟩
            rcases Nat.lt_or_ge k j with h | h
            · exact HALL.out k y h hy
            · obtain rfl : k = j := by omega
              rw [HX.out] at hy
              cases hy
              exact HG.out
    · obtain rfl : j = d.length := by omega
      have HB : Hid (badC m d = false) := by
        unfold Hid badC
        rw [List.any_eq_false]
        intro x hx
        obtain ⟨k, hk, rfl⟩ := List.getElem_of_mem hx
        rw [HALL.out k _ hk (List.getElem?_eq_getElem hk)]; simp
      clear hall hj hjl
      go_wp2
      go_ret
      exact ⟨by rw [HB.out]; rfl, rfl⟩
/-- What the document's CheckOf answers. -/
def chkK (n : Int) (cs : List (List Int)) : Int × Int := if bndB n cs then (2, -1) else match firstB n cs with | some j => (3, (j : Int)) | none => (0, -1)
theorem bare_any (c : Int) (w : World) : Calls Tryz.prog 16 #[.int .i64 c] w fun e w' => e = .returned (.agg #[.int .i64 c, .int .i64 (-1)]) ∧ Below w.heap.size w w' := by
  go_enter Tryz.func16, Tryz.ntmps16
  go_wp2
  exact bodyPost_ret (v := .agg #[.int .i64 c, .int .i64 (-1)]) (by simp [results, Tryz.results16, go_sem]) rfl ⟨rfl, (Below.refl _ _).alloc (Nat.le_refl _) _⟩
theorem fine_any (w : World) : Calls Tryz.prog 18 #[] w fun e w' => e = .returned (.agg #[.int .i64 0, .int .i64 (-1)]) ∧ Below w.heap.size w w' := by
  go_enter Tryz.func18, Tryz.ntmps18
  go_wp2
  exact bodyPost_ret (v := .agg #[.int .i64 0, .int .i64 (-1)]) (by simp [results, Tryz.results18, go_sem]) rfl ⟨rfl, (Below.refl _ _).alloc (Nat.le_refl _) _⟩
theorem set_pair2 {w : World} {R : Nat} {a b : Value} {t : TypeId} (h : w.heap[R]? = some (.cells #[a, b] t (0, 0))) (u v : Value) : (((w.setCell ⟨R, 0, none⟩ u).setCell ⟨R, 1, none⟩ v).cell? ⟨R, 0, none⟩ = some u) ∧ (((w.setCell ⟨R, 0, none⟩ u).setCell ⟨R, 1, none⟩ v).cell? ⟨R, 1, none⟩ = some v) := by
  have h2 := heap_setCell_at (i := 1) (heap_setCell_at (i := 0) h u) v
  exact ⟨by rw [cell_of_row _ _ _ _ _ (0, 0) h2]; rfl, by rw [cell_of_row _ _ _ _ _ (0, 0) h2]; rfl⟩
set_option maxRecDepth 100000 in
set_option maxHeartbeats 4000000 in
theorem checkOf_any (w : World) (n : Int) (v : Value) (cs : List (List Int)) (hv : ClsAt w v cs) (hs : sizC cs ≤ 1000 ∨ 500000 < cs.length) :
    Calls Tryz.prog 8 #[.agg #[.int .i64 n, v]] w fun e w' => e = .returned (.agg #[.int .i64 (chkK n cs).1, .int .i64 (chkK n cs).2]) ∧ Below w.heap.size w w' := by
  have HV : Hid (ClsAt w v cs) := hv
  obtain ⟨_, o, c, rfl, _⟩ := hv
  obtain ⟨w1, hw1⟩ : ∃ w1, w1 = (w.alloc (.cells #[.int .i64 n, .slice o cs.length c] 24)).alloc (.cells #[.int .i64 0, .int .i64 0] 34) := ⟨_, rfl⟩
  have hb1 : Below w.heap.size w w1 := by rw [hw1]; exact ((Below.refl _ _).alloc (Nat.le_refl _) _).alloc (by simp) _
  have hf1 : w1.heap[w.heap.size]? = some (.cells #[.int .i64 n, .slice o cs.length c] 24 (0, 0)) := by rw [hw1]; exact alloc_row _ (heap_alloc_new _ _)
  have hr1 : w1.heap[w.heap.size + 1]? = some (.cells #[.int .i64 0, .int .i64 0] 34 (0, 0)) := by
    rw [hw1]
    have := heap_alloc_new (w.alloc (.cells #[.int .i64 n, .slice o cs.length c] 24)) (.cells #[.int .i64 0, .int .i64 0] 34)
    rw [World.size_alloc] at this
    exact this
  have z0 : w1.cell? ⟨w.heap.size, 0, none⟩ = some (.int .i64 n) := by rw [cell_of_row w1 _ _ _ _ (0, 0) hf1]; rfl
  have z1 : w1.cell? ⟨w.heap.size, 0 + 1, none⟩ = some (.slice o cs.length c) := by rw [cell_of_row w1 _ _ _ _ (0, 0) hf1]; rfl
  have HV1 : Hid (ClsAt w1 (.slice o cs.length c) cs) := HV.out.below hb1
  have HR1 : Hid (w1.heap[w.heap.size + 1]? = some (.cells #[.int .i64 0, .int .i64 0] 34 (0, 0))) := hr1
  have HF1 : Hid (w1.heap[w.heap.size]? = some (.cells #[.int .i64 n, .slice o cs.length c] 24 (0, 0))) := hf1
  have HS0 : Hid (sizC cs ≤ 1000 ∨ 500000 < cs.length) := hs
  have HW1 : Hid ((w.alloc (.cells #[.int .i64 n, .slice o cs.length c] 24)).alloc (.cells #[.int .i64 0, .int .i64 0] 34) = w1) := hw1.symm
  have HB1 : Hid (Below w.heap.size w w1) := hb1
  have HRF : Hid (Below w1.heap.size w1 w1) := Below.refl _ _
  rw [hw1] at z0 z1
  clear hs hw1 hb1 hf1 hr1 HV
  by_cases h0 : n < 0
  · have d0 : (n < 0) = True := eq_true h0
    have E : Hid (chkK n cs = (2, -1)) := by unfold Hid chkK bndB; simp [h0]
    clear h0
    go_enter Tryz.func8, Tryz.ntmps8
    go_wp2_with fail
    rw [HW1.out]
    refine (bare_any 2 w1).mono ?_
    rintro e w2 ⟨rfl, hb2⟩
    have HB2 : Hid (Below w1.heap.size w1 w2) := hb2
    clear hb2 z0 z1
    have hrr := row_keep HB2.out HR1.out
    have y0 : w2.cell? ⟨w.heap.size + 1, 0, none⟩ = some (.int .i64 0) := by rw [cell_of_row w2 _ _ _ _ (0, 0) hrr]; rfl
    have y1 : w2.cell? ⟨w.heap.size + 1, 0 + 1, none⟩ = some (.int .i64 0) := by rw [cell_of_row w2 _ _ _ _ (0, 0) hrr]; rfl
    have f0 : w2.frozen? ⟨w.heap.size + 1, 0, none⟩ = false := frozen_row hrr
    have f1 : w2.frozen? ⟨w.heap.size + 1, 0 + 1, none⟩ = false := frozen_row hrr
    have HZ2 : Hid (_ ∧ _) := set_pair2 hrr (.int .i64 2) (.int .i64 (-1))
    have HBE : Hid (Below w.heap.size w ((w2.setCell ⟨w.heap.size + 1, 0, none⟩ (.int .i64 2)).setCell ⟨w.heap.size + 1, 1, none⟩ (.int .i64 (-1)))) := ((HB1.out.trans (HB2.out.mono HB1.out.size)).setCell (Nat.le_succ _) _).setCell (Nat.le_succ _) _
    clear hrr
    go_wp2
    have g0 := HZ2.out.1
    have g1 := HZ2.out.2
    refine bodyPost_ret (v := .agg #[.int .i64 2, .int .i64 (-1)]) (by simp [results, Tryz.results8, go_sem, g0, g1]) rfl ?_
    exact ⟨by rw [E.out], HBE.out⟩
  · have d0 : (n < 0) = False := eq_false h0
    by_cases h1 : 150000 < n
    · have d1 : (150000 < n) = True := eq_true h1
      have E : Hid (chkK n cs = (2, -1)) := by unfold Hid chkK bndB; simp [h1]
      clear h0 h1
      go_enter Tryz.func8, Tryz.ntmps8
      go_wp2_with fail
      rw [HW1.out]
      refine (bare_any 2 w1).mono ?_
      rintro e w2 ⟨rfl, hb2⟩
      have HB2 : Hid (Below w1.heap.size w1 w2) := hb2
      clear hb2 z0 z1
      have hrr := row_keep HB2.out HR1.out
      have y0 : w2.cell? ⟨w.heap.size + 1, 0, none⟩ = some (.int .i64 0) := by rw [cell_of_row w2 _ _ _ _ (0, 0) hrr]; rfl
      have y1 : w2.cell? ⟨w.heap.size + 1, 0 + 1, none⟩ = some (.int .i64 0) := by rw [cell_of_row w2 _ _ _ _ (0, 0) hrr]; rfl
      have f0 : w2.frozen? ⟨w.heap.size + 1, 0, none⟩ = false := frozen_row hrr
      have f1 : w2.frozen? ⟨w.heap.size + 1, 0 + 1, none⟩ = false := frozen_row hrr
      have HZ2 : Hid (_ ∧ _) := set_pair2 hrr (.int .i64 2) (.int .i64 (-1))
      have HBE : Hid (Below w.heap.size w ((w2.setCell ⟨w.heap.size + 1, 0, none⟩ (.int .i64 2)).setCell ⟨w.heap.size + 1, 1, none⟩ (.int .i64 (-1)))) := ((HB1.out.trans (HB2.out.mono HB1.out.size)).setCell (Nat.le_succ _) _).setCell (Nat.le_succ _) _
      clear hrr
      go_wp2
      have g0 := HZ2.out.1
      have g1 := HZ2.out.2
      refine bodyPost_ret (v := .agg #[.int .i64 2, .int .i64 (-1)]) (by simp [results, Tryz.results8, go_sem, g0, g1]) rfl ?_
      exact ⟨by rw [E.out], HBE.out⟩
    · have d1 : (150000 < n) = False := eq_false h1
      by_cases h2 : 500000 < cs.length
      · have d2 : (500000 < (cs.length : Int)) = True := eq_true (by omega)
        have E : Hid (chkK n cs = (2, -1)) := by unfold Hid chkK bndB; simp [h2]
        clear h0 h1 h2
        go_enter Tryz.func8, Tryz.ntmps8
        go_wp2_with fail
        rw [HW1.out]
        refine (bare_any 2 w1).mono ?_
        rintro e w2 ⟨rfl, hb2⟩
        have HB2 : Hid (Below w1.heap.size w1 w2) := hb2
        clear hb2 z0 z1
        have hrr := row_keep HB2.out HR1.out
        have y0 : w2.cell? ⟨w.heap.size + 1, 0, none⟩ = some (.int .i64 0) := by rw [cell_of_row w2 _ _ _ _ (0, 0) hrr]; rfl
        have y1 : w2.cell? ⟨w.heap.size + 1, 0 + 1, none⟩ = some (.int .i64 0) := by rw [cell_of_row w2 _ _ _ _ (0, 0) hrr]; rfl
        have f0 : w2.frozen? ⟨w.heap.size + 1, 0, none⟩ = false := frozen_row hrr
        have f1 : w2.frozen? ⟨w.heap.size + 1, 0 + 1, none⟩ = false := frozen_row hrr
        have HZ2 : Hid (_ ∧ _) := set_pair2 hrr (.int .i64 2) (.int .i64 (-1))
        have HBE : Hid (Below w.heap.size w ((w2.setCell ⟨w.heap.size + 1, 0, none⟩ (.int .i64 2)).setCell ⟨w.heap.size + 1, 1, none⟩ (.int .i64 (-1)))) := ((HB1.out.trans (HB2.out.mono HB1.out.size)).setCell (Nat.le_succ _) _).setCell (Nat.le_succ _) _
        clear hrr
        go_wp2
        have g0 := HZ2.out.1
        have g1 := HZ2.out.2
        refine bodyPost_ret (v := .agg #[.int .i64 2, .int .i64 (-1)]) (by simp [results, Tryz.results8, go_sem, g0, g1]) rfl ?_
        exact ⟨by rw [E.out], HBE.out⟩
      have HS : Hid (sizC cs ≤ 1000) := HS0.out.resolve_right h2
      have HLN : Hid (cs.length ≤ 1000) := by have := sizC_len cs; have := HS.out; unfold Hid; omega
      clear h2
      have d2 : (500000 < (cs.length : Int)) = False := eq_false (by have := HLN.out; omega)
      have HN : Hid (0 ≤ n ∧ n ≤ 1000000) := by unfold Hid; omega
      have HBN : Hid (bndB n cs = false) := by
        have := HLN.out
        unfold Hid bndB
        simp [h0, h1]; omega
      clear h0 h1
      go_enter Tryz.func8, Tryz.ntmps8
      go_wp2
      rw [HW1.out]
      rw [HW1.out] at z0 z1
      have HZ : Hid (w1.cell? ⟨w.heap.size, 0, none⟩ = some (.int .i64 n) ∧ w1.cell? ⟨w.heap.size, 0 + 1, none⟩ = some (.slice o cs.length c)) := ⟨z0, z1⟩
      clear z0 z1
      go_loopw [3] (fun t wr => ∃ (j k : Nat), j ≤ cs.length ∧ t = .int .i64 j ∧ wr = w1.drewN k ∧ ∀ i d, i < j → cs[i]? = some d → badC n d = false) (fun t _ => cs.length - (intOf t).toNat)
      case atStart => exact ⟨0, 0, Nat.zero_le _, rfl, rfl, fun k d hk => by omega⟩
      case round =>
        obtain ⟨j, k, hj, rfl, hw, hall⟩ := hrel
        have HALL : Hid (∀ i d, i < j → cs[i]? = some d → badC n d = false) := hall
        have HB : Hid (Below w1.heap.size w1 wr) := by unfold Hid; rw [hw]; exact below_drewM (Below.refl _ _) k
        have z0 : wr.cell? ⟨w.heap.size, 0, none⟩ = some (.int .i64 n) := cell_keep HB.out HZ.out.1
        have z1 : wr.cell? ⟨w.heap.size, 0 + 1, none⟩ = some (.slice o cs.length c) := cell_keep HB.out HZ.out.2
        by_cases hjl : j < cs.length
        · obtain ⟨d, hd⟩ : ∃ d, cs[j]? = some d := ⟨_, List.getElem?_eq_getElem hjl⟩
          obtain ⟨b, off, o', c', rfl, q0, hin⟩ := (HV1.out.below HB.out).get hd
          have hsz := sizC_get hd
          have HIN : Hid (∀ j x, d[j]? = some x → ∃ b' off', o' = some ⟨b', off', none⟩ ∧ wr.cell? ⟨b', off' + j, none⟩ = some (.int .i64 x)) := hin
          have HDL : Hid (d.length ≤ 100000) := by have := HS.out; unfold Hid; omega
          have HD : Hid (cs[j]? = some d) := hd
          have i0' : (0 : Int) ≤ (j : Int) := by omega
          have i1' : (j : Int) < (cs.length : Int) := by omega
          have HJ : Hid (j < cs.length) := hjl
          have N4 : Hid (wrap64 ((j : Int) + 1) = (j : Int) + 1) := by have := HLN.out; unfold Hid wrap64; omega
          have HCR : Hid (∀ q, Calls Tryz.prog 17 #[.slice o' d.length c', .int .i64 n] (wr.drewN q) fun e w' => e = .returned (.bool (!badC n d)) ∧ w' = wr.drewN q) := fun q => cright_any (wr.drewN q) o' c' d n HN.out (fun j x h => HIN.out j x h) HDL.out
          have HK : Hid (wr = w1.drewN k) := hw
          clear hall hj hjl hd hin hsz hw
          have HCR2 : Hid (∀ q, Calls Tryz.prog 17 #[.slice o' d.length c', .int .i64 n] (wr.drewN q) fun e w' => e = .returned (.bool (!badC n d)) ∧ ∃ k, w' = (wr.drewN q).drewN k) := fun q => (HCR.out q).mono fun e w' h => ⟨h.1, 0, h.2⟩
          go_wp2
          go_quiet ((go_at_call 17; exact Calls.quiet_of (HCR2.out _)))
          cases hb : badC n d
          · have HG : Hid (badC n d = false) := hb
            clear z0 z1 q0
            go_wp2
            refine ⟨⟨j + 1, k + nq, HJ.out, by rw [N4.out]; rfl, by rw [HK.out]; simp, fun i y hi hy => ?_⟩, by rw [N4.out]; have := HJ.out; simp [intOf]; omega⟩
            rcases Nat.lt_or_ge i j with h | h
            · exact HALL.out i y h hy
            · obtain rfl : i = j := by omega
              rw [HD.out] at hy
              cases hy
              exact HG.out
          · have E : Hid (chkK n cs = (3, (j : Int))) := by
              unfold Hid chkK
              rw [HBN.out, firstB_some HD.out hb HALL.out]; rfl
            have HB9 : Hid (Below w1.heap.size w1 (wr.drewN nq)) := below_drewM HB.out nq
            clear z0 z1 q0
            have hrr := row_keep HB9.out HR1.out
            have y0 : (wr.drewN nq).cell? ⟨w.heap.size + 1, 0, none⟩ = some (.int .i64 0) := by rw [cell_of_row (wr.drewN nq) _ _ _ _ (0, 0) hrr]; rfl
            have y1 : (wr.drewN nq).cell? ⟨w.heap.size + 1, 0 + 1, none⟩ = some (.int .i64 0) := by rw [cell_of_row (wr.drewN nq) _ _ _ _ (0, 0) hrr]; rfl
            have f0 : (wr.drewN nq).frozen? ⟨w.heap.size + 1, 0, none⟩ = false := frozen_row hrr
            have f1 : (wr.drewN nq).frozen? ⟨w.heap.size + 1, 0 + 1, none⟩ = false := frozen_row hrr
            have HZ2 : Hid (_ ∧ _) := set_pair2 hrr (.int .i64 3) (.int .i64 j)
            have HBE : Hid (Below w.heap.size w (((wr.drewN nq).setCell ⟨w.heap.size + 1, 0, none⟩ (.int .i64 3)).setCell ⟨w.heap.size + 1, 1, none⟩ (.int .i64 j))) := ((HB1.out.trans (HB9.out.mono HB1.out.size)).setCell (Nat.le_succ _) _).setCell (Nat.le_succ _) _
            clear hrr
            go_wp2
            have g0 := HZ2.out.1
            have g1 := HZ2.out.2
            refine bodyPost_ret (v := .agg #[.int .i64 3, .int .i64 j]) (by simp [results, Tryz.results8, go_sem, g0, g1]) rfl ?_
            exact ⟨by rw [E.out], HBE.out⟩
        · obtain rfl : j = cs.length := by omega
          have E : Hid (chkK n cs = (0, -1)) := by
            unfold Hid chkK
            rw [HBN.out, firstB_none HALL.out]; rfl
          clear hall hj hjl hw
          go_wp2_with fail
          refine (fine_any wr).mono ?_
          rintro e w2 ⟨rfl, hb2⟩
          have HB2 : Hid (Below w1.heap.size w1 w2) := HB.out.trans (hb2.mono HB.out.size)
          clear hb2 z0 z1
          have hrr := row_keep HB2.out HR1.out
          have y0 : w2.cell? ⟨w.heap.size + 1, 0, none⟩ = some (.int .i64 0) := by rw [cell_of_row w2 _ _ _ _ (0, 0) hrr]; rfl
          have y1 : w2.cell? ⟨w.heap.size + 1, 0 + 1, none⟩ = some (.int .i64 0) := by rw [cell_of_row w2 _ _ _ _ (0, 0) hrr]; rfl
          have f0 : w2.frozen? ⟨w.heap.size + 1, 0, none⟩ = false := frozen_row hrr
          have f1 : w2.frozen? ⟨w.heap.size + 1, 0 + 1, none⟩ = false := frozen_row hrr
          have HZ2 : Hid (_ ∧ _) := set_pair2 hrr (.int .i64 0) (.int .i64 (-1))
          have HBE : Hid (Below w.heap.size w ((w2.setCell ⟨w.heap.size + 1, 0, none⟩ (.int .i64 0)).setCell ⟨w.heap.size + 1, 1, none⟩ (.int .i64 (-1)))) := ((HB1.out.trans (HB2.out.mono HB1.out.size)).setCell (Nat.le_succ _) _).setCell (Nat.le_succ _) _
          clear hrr
          go_wp2
          have g0 := HZ2.out.1
          have g1 := HZ2.out.2
          refine bodyPost_ret (v := .agg #[.int .i64 0, .int .i64 (-1)]) (by simp [results, Tryz.results8, go_sem, g0, g1]) rfl ?_
          exact ⟨by rw [E.out], HBE.out⟩
end Go.Proofs.YtlclbidjdhlklaaGreatDoor
