/-
  package word: any, isZero, sign BY CONTRACT.
-/
import Derived.Test.YtpiglmaojonbnaaGreatDoorP12
import Derived.Shelf.Spec.SlicesInsertGrow
namespace Go.Proofs.YtpiglmaojonbnaaGreatDoor
open Go.RowKit Go.Maps

/-- One of the uppermost so many. -/
def orU (f : Nat → Bool) (n : Nat) : Nat → Bool
  | 0 => false
  | d + 1 => f (n - (d + 1)) || orU f n d
theorem orU_iff (f : Nat → Bool) (n : Nat) : ∀ d, d ≤ n → (orU f n d = true ↔ ∃ k, n - d ≤ k ∧ k < n ∧ f k = true)
  | 0, _ => by simp [orU]; intro x h1 h2; omega
  | d + 1, h => by
    have ih := orU_iff f n d (by omega)
    unfold orU
    rw [Bool.or_eq_true, ih]
    constructor
    · rintro (h1 | ⟨k, h1, h2, h3⟩)
      · exact ⟨_, Nat.le_refl _, by omega, h1⟩
      · exact ⟨k, by omega, h2, h3⟩
    · rintro ⟨k, h1, h2, h3⟩
      rcases Nat.eq_or_lt_of_le h1 with e | e
      · left; rw [e]; exact h3
      · exact .inr ⟨k, by omega, h2, h3⟩
theorem orU_all (f : Nat → Bool) (n : Nat) : orU f n n = orF f n := by
  have h1 := orU_iff f n n (Nat.le_refl _)
  have h2 := orF_false f n
  cases h : orF f n
  · cases hu : orU f n n
    · rfl
    · obtain ⟨k, _, hk, hf⟩ := h1.1 hu
      rw [h2.1 h k hk] at hf; cases hf
  · refine h1.2 ?_
    rcases Classical.em (∃ k, n - n ≤ k ∧ k < n ∧ f k = true) with hh | hh
    · exact hh
    · have : orF f n = false := h2.2 fun i hi => by
        cases hf : f i
        · rfl
        · exact absurd ⟨i, by omega, hi, hf⟩ hh
      rw [this] at h; cases h
set_option maxRecDepth 100000 in
set_option maxHeartbeats 2000000 in
theorem many_any {G : Nat} {gs : List (Int × Int)} {ins : Nat} {F : Nat → Prop} {w : World} (h : GrAt G gs ins F w) (o : Option Addr) (n c : Nat) (l : List Int) (hv : LitsAt F w (.slice o n c) l) (hn : l.length = n) (hH : ∀ x ∈ l, HasL gs x) (hl : gs.length + n < 88000) :
    Calls Tryz.prog 64 #[.agg #[.pointer (some ⟨G, 0, none⟩)], .slice o n c] w fun e w' => ∃ x gs' F', e = .returned (.int .i64 x) ∧ GrAt G gs' ins F' w' ∧ Mvd F F' w w' ∧ Mad gs gs' n x (fun inp => orF (bitsL gs inp l) n) := by
  have hn1 : n ≤ 1000 := by rw [← hn]; exact hv.1
  have HV : Hid (LitsAt F w (.slice o n c) l) := hv
  have HN : Hid (l.length = n) := hn
  have HN1 : Hid (n ≤ 1000) := hn1
  have HH : Hid (∀ x ∈ l, HasL gs x) := hH
  have HL : Hid (gs.length + n < 88000) := hl
  have hF := h.2.2.1
  have HF0 : Hid (¬ F w.heap.size) := fun hf => by have := hF _ hf; omega
  have hb1 : Below w.heap.size w (w.alloc (.cells #[.pointer (some ⟨G, 0, none⟩)] 60)) := (Below.refl _ _).alloc (Nat.le_refl _) _
  have HB1 : Hid (Below w.heap.size w (w.alloc (.cells #[.pointer (some ⟨G, 0, none⟩)] 60))) := hb1
  have HRM : Hid ((w.alloc (.cells #[.pointer (some ⟨G, 0, none⟩)] 60)).cell? ⟨w.heap.size, 0, none⟩ = some (.pointer (some ⟨G, 0, none⟩))) := by unfold Hid; simp
  have HG : Hid (GrAt G gs ins F w) := h
  have N0 : wrap64 ((n : Int) - 1) = (n : Int) - 1 - ((0 : Nat) : Int) := by unfold wrap64; omega
  have HN0 : Hid (wrap64 ((n : Int) - 1) = (n : Int) - 1 - ((0 : Nat) : Int)) := N0
  clear hv hn hH hl hF h hb1 hn1 N0
  go_enter Tryz.func64, Tryz.ntmps64
  go_wp2
  go_loopw [5, 6] (fun xv t wr => ∃ (d : Nat) (x : Int) (gj : List (Int × Int)) (Fj : Nat → Prop), d ≤ n ∧ t = .int .i64 ((n : Int) - 1 - (d : Int)) ∧ xv = .int .i64 x ∧ wr.cell? ⟨w.heap.size, 0, none⟩ = some (.pointer (some ⟨G, 0, none⟩)) ∧ ¬ Fj w.heap.size ∧ GrAt G gj ins Fj wr ∧ Mvd F Fj w wr ∧ Mad gs gj d x (fun inp => orU (bitsL gs inp l) n d)) (fun _ t _ => (intOf t + 1).toNat)
  case atStart => exact ⟨0, 0, gs, F, Nat.zero_le _, by rw [HN0.out], rfl, HRM.out, HF0.out, HG.out.below HB1.out, Mvd.of_below HB1.out, ⟨Ext.refl _, by omega, HasL.zero _, fun inp => val_zero _ _⟩⟩
  case round =>
    obtain ⟨d, x, gj, Fj, hd, rfl, rfl, hcM, hnM, hG, hM, hD⟩ := hrel
    by_cases hdl : d < n
    · obtain ⟨j, hj⟩ : ∃ j, j = n - (d + 1) := ⟨_, rfl⟩
      obtain ⟨y, hy⟩ : ∃ y, l[j]? = some y := ⟨_, List.getElem?_eq_getElem (by have := HN.out; omega)⟩
      obtain ⟨ba, fa, rfl, _, hmv⟩ := HV.out.at hy
      obtain ⟨hna, hcy⟩ := hmv _ _ hM
      have ej : (n : Int) - 1 - (d : Int) = (j : Int) := by omega
      have EJ : Hid ((n : Int) - 1 - (d : Int) = (j : Int)) := ej
      have i0' : (0 : Int) ≤ (j : Int) := by omega
      have i1' : (j : Int) < (n : Int) := by omega
      have N4 : Hid (wrap64 ((j : Int) - 1) = (n : Int) - 1 - ((d + 1 : Nat) : Int)) := by have := HN1.out; unfold Hid wrap64; omega
      have HDL : Hid (d < n) := hdl
      have HG1 : Hid (GrAt G gj ins Fj wr) := hG
      have HMv : Hid (Mvd F Fj w wr) := hM
      have HD : Hid (Mad gs gj d x _) := hD
      have HX0 : Hid (HasL gj x) := hD.has
      have HY0 : Hid (HasL gj y) := (HH.out y (List.mem_of_getElem? hy)).ext hD.ext
      have HVY : Hid (∀ inp, valL gj inp y = bitsL gs inp l (n - (d + 1))) := fun inp => by rw [← hj, bitsL_get hy, hD.ext.val inp (HH.out y (List.mem_of_getElem? hy))]
      have HL1 : Hid (gj.length < 89000) := by have := HL.out; have := hD.len; unfold Hid; omega
      have HnM : Hid (¬ Fj w.heap.size) := hnM
      have Hna : Hid (¬ Fj ba) := hna
      rw [ej]
      clear hd hdl hy hmv hna hnM hG hM hD hj ej
      go_wp2
      go_region_held3 (fun w' => w'.cell? ⟨w.heap.size, 0, none⟩ = some (.pointer (some ⟨G, 0, none⟩)) ∧ w'.cell? ⟨ba, fa + j, none⟩ = some (.int .i64 y)) ((first | go_keep | exact ⟨q0.1, q1.1⟩))
        (first
          | (go_at_call 59; refine (mor_any (by exact HG1.out) HL1.out _ _ HY0.out HX0.out).mono ?_; rintro e w2 ⟨x1, g1, F1, rfl, G1, M1, D1⟩; have q0 := M1.cell (by exact hcM) HnM.out; have q1 := M1.cell (by exact hcy) Hna.out))
      have HEND : Hid (GrAt G g1 ins F1 w2 ∧ Mvd F F1 w w2 ∧ Mad gs g1 (d + 1) x1 (fun inp => orU (bitsL gs inp l) n (d + 1)) ∧ w2.cell? ⟨w.heap.size, 0, none⟩ = some (.pointer (some ⟨G, 0, none⟩)) ∧ ¬ F1 w.heap.size) := ⟨G1, HMv.out.trans M1.undrew, ⟨HD.out.ext.trans D1.ext, by have := HD.out.len; have := D1.len; omega, D1.has, fun inp => by rw [D1.val inp, HVY.out inp, HD.out.val inp]; rfl⟩, q0.1, q0.2⟩
      clear q0 q1 G1 M1 D1 hcM hcy
      go_wp2
      exact ⟨⟨d + 1, x1, g1, F1, HDL.out, by rw [N4.out], rfl, HEND.out.2.2.2.1, HEND.out.2.2.2.2, HEND.out.1, HEND.out.2.1, HEND.out.2.2.1⟩, by rw [N4.out]; have := HDL.out; have := EJ.out; simp [intOf]; omega⟩
    · obtain rfl : d = n := by omega
      have HEND : Hid (GrAt G gj ins Fj wr ∧ Mvd F Fj w wr ∧ Mad gs gj d x (fun inp => orF (bitsL gs inp l) d)) := ⟨hG, hM, ⟨hD.ext, hD.len, hD.has, fun inp => by rw [hD.val inp, orU_all]⟩⟩
      have ej : (d : Int) - 1 - (d : Int) = -1 := by omega
      rw [ej]
      clear hd hdl hG hM hD hnM hcM ej
      go_wp2
      go_ret
      exact ⟨x, gj, Fj, rfl, HEND.out.1, HEND.out.2.1, HEND.out.2.2⟩
set_option maxRecDepth 100000 in
theorem isZero_any {G : Nat} {gs : List (Int × Int)} {ins : Nat} {F : Nat → Prop} {w : World} (h : GrAt G gs ins F w) (o : Option Addr) (n c : Nat) (l : List Int) (hv : LitsAt F w (.slice o n c) l) (hn : l.length = n) (hH : ∀ x ∈ l, HasL gs x) (hl : gs.length + n < 88000) :
    Calls Tryz.prog 43 #[.agg #[.pointer (some ⟨G, 0, none⟩)], .slice o n c] w fun e w' => ∃ x gs' F', e = .returned (.int .i64 x) ∧ GrAt G gs' ins F' w' ∧ Mvd F F' w w' ∧ Mad gs gs' n x (fun inp => !orF (bitsL gs inp l) n) := by
  have hb1 : Below w.heap.size w (w.alloc (.cells #[.pointer (some ⟨G, 0, none⟩)] 60)) := (Below.refl _ _).alloc (Nat.le_refl _) _
  have hm : Mvd F F w (w.alloc (.cells #[.pointer (some ⟨G, 0, none⟩)] 60)) := Mvd.of_below hb1
  have hC := many_any (h.below hb1) o n c l (hv.move hm) hn hH hl
  have HM : Hid (Mvd F F w (w.alloc (.cells #[.pointer (some ⟨G, 0, none⟩)] 60))) := hm
  have HL : Hid (gs.length + n < 88000) := hl
  clear h hv hn hH hl hb1 hm
  go_enter Tryz.func43, Tryz.ntmps43
  go_wp2_with fail
  refine hC.mono ?_
  clear hC
  rintro e w2 ⟨x, gs', F', rfl, g2, m2, d2⟩
  have ix : I64 x := d2.has.i64 (by have := d2.len; have := HL.out; omega)
  have HEND : Hid (GrAt G gs' ins F' w2 ∧ Mvd F F' w w2 ∧ Mad gs gs' n (turnL x) (fun inp => !orF (bitsL gs inp l) n)) := ⟨g2, HM.out.trans m2, ⟨d2.ext, d2.len, d2.has.turn, fun inp => by rw [val_turn, d2.val inp]⟩⟩
  clear g2 m2 d2
  go_wp2_with (go_at_call 60; refine (not_any _ _ (by assumption)).mono ?_; rintro e w' ⟨rfl, rfl⟩)
  go_ret
  exact ⟨_, gs', F', rfl, HEND.out.1, HEND.out.2.1, HEND.out.2.2⟩
set_option maxRecDepth 100000 in
theorem sign_any {F : Nat → Prop} {w : World} (o : Option Addr) (c : Nat) (l : List Int) (hv : LitsAt F w (.slice o 8 c) l) (x : Int) (hx : l[7]? = some x) :
    Calls Tryz.prog 63 #[.slice o 8 c] w fun e w' => e = .returned (.int .i64 x) ∧ w' = w := by
  obtain ⟨b, off, rfl, _, hc⟩ := hv.at hx
  have q0 := (hc F w (Mvd.refl _ _)).2
  clear hv hx hc
  go_enter Tryz.func63, Tryz.ntmps63
  go_wp2
  go_ret
  exact ⟨rfl, rfl⟩
end Go.Proofs.YtpiglmaojonbnaaGreatDoor

/-
  package word: opposite, size, choice, width BY CONTRACT.
-/
namespace Go.Proofs.YtpiglmaojonbnaaGreatDoor
open Go.RowKit Go.Maps

set_option maxRecDepth 100000 in
set_option maxHeartbeats 4000000 in
theorem opposite_any {G : Nat} {gs : List (Int × Int)} {ins : Nat} {F : Nat → Prop} {w : World} (h : GrAt G gs ins F w) (t : Int) (ht : HasL gs t) (o : Option Addr) (n c : Nat) (l : List Int) (hv : LitsAt F w (.slice o n c) l) (hn : l.length = n) (hH : ∀ x ∈ l, HasL gs x) (hl : gs.length + 5 * n < 88000) :
    Calls Tryz.prog 38 #[.agg #[.pointer (some ⟨G, 0, none⟩)], .int .i64 t, .slice o n c] w fun e w' => ∃ V out gs' F', e = .returned (.slice (some ⟨V, 0, none⟩) n n) ∧ out.length = n ∧ w.heap.size ≤ V ∧ w'.heap[V]? = some (.cells (rowI out) 39 (0, 0)) ∧ ¬ F' V ∧ GrAt G gs' ins F' w' ∧ Mvd F F' w w' ∧ Mads gs gs' (5 * n) out (fun inp => opB (valL gs inp t) (bitsL gs inp l)) := by
  obtain ⟨i0, hi0, hz0, hz1, hz2⟩ := info_parts Tryz.infoLit
  have hn1 : n ≤ 1000 := by rw [← hn]; exact hv.1
  have HV : Hid (LitsAt F w (.slice o n c) l) := hv
  have HN : Hid (l.length = n) := hn
  have HBY : Hid (i0.bytes * n ≤ 281474976710656) := by unfold Hid; rw [hz2]; omega
  have HMX : Hid (n ≤ maxLen) := by unfold Hid maxLen; omega
  have HLL : Hid (n ≤ 1000) := hn1
  have HL : Hid (gs.length + 5 * n < 88000) := hl
  have HH : Hid (∀ x ∈ l, HasL gs x) := hH
  have HT : Hid (HasL gs t) := ht
  have hF := h.2.2.1
  have HF0 : Hid (¬ F w.heap.size) := fun hf => by have := hF _ hf; omega
  have HF1 : Hid (¬ F (w.heap.size + 1)) := fun hf => by have := hF _ hf; omega
  have hb1 : Below w.heap.size w (w.alloc (.cells #[.pointer (some ⟨G, 0, none⟩)] 60)) := (Below.refl _ _).alloc (Nat.le_refl _) _
  have HBW : Hid (Below w.heap.size w (w.alloc (.cells #[.pointer (some ⟨G, 0, none⟩)] 60))) := hb1
  have HRM : Hid ((w.alloc (.cells #[.pointer (some ⟨G, 0, none⟩)] 60)).heap[w.heap.size]? = some (.cells #[.pointer (some ⟨G, 0, none⟩)] 60 (0, 0))) := heap_alloc_new _ _
  have HG : Hid (GrAt G gs ins F w) := h
  have HS0 : Hid ((w.alloc (.cells #[.pointer (some ⟨G, 0, none⟩)] 60)).heap.size = w.heap.size + 1) := by unfold Hid; simp
  clear hn1 hl hH ht hF hb1 h hv hn
  go_enter Tryz.func38, Tryz.ntmps38
  go_wp2_with (first
    | (at_make; refine wpList_make_full _ rfl _ _ 38 rfl 0 39 i0 _ 1 Tryz.underlying38 hi0 hz0 hz1 .i64 .i64 _ _ n rfl rfl (by simp) (by simp) HBY.out HMX.out (Nat.zero_le _) ?_; intro w1 hown1 hgr1)
    | go_in)
  have hV1 := made_lits hown1
  rw [HS0.out] at hV1
  have hb2 : Below (w.heap.size + 1) (w.alloc (.cells #[.pointer (some ⟨G, 0, none⟩)] 60)) w1 := ⟨hgr1.os, hgr1.tape, hgr1.output, hgr1.size, fun k hk => hgr1.block k (by rw [HS0.out]; exact hk) (by simp)⟩
  have HR1 : Hid (w1.heap[w.heap.size + 1]? = some (.cells (rowI (rowP [] n)) 39 (0, 0))) := hV1
  have HB1 : Hid (Below w.heap.size w w1) := HBW.out.trans (hb2.mono (by omega))
  have HM1 : Hid (w1.cell? ⟨w.heap.size, 0, none⟩ = some (.pointer (some ⟨G, 0, none⟩))) := by unfold Hid; rw [cell_of_row w1 _ 0 _ _ (0, 0) (by rw [hb2.block _ (by omega)]; exact HRM.out)]; rfl
  clear hown1 hgr1 hV1 hi0 hz0 hz1 hz2 HBY HMX hb2 HBW HRM HS0
  go_loopw [8, 16] (fun av tv wr => ∃ (j : Nat) (aj : Int) (os : List Int) (gj : List (Int × Int)) (Fj : Nat → Prop), j ≤ n ∧ os.length = j ∧ tv = .int .i64 j ∧ av = .int .i64 aj ∧ wr.cell? ⟨w.heap.size, 0, none⟩ = some (.pointer (some ⟨G, 0, none⟩)) ∧ ¬ Fj w.heap.size ∧ wr.heap[w.heap.size + 1]? = some (.cells (rowI (rowP os n)) 39 (0, 0)) ∧ ¬ Fj (w.heap.size + 1) ∧
    GrAt G gj ins Fj wr ∧ Mvd F Fj w wr ∧ Mads gs gj (5 * j) os (fun inp => opB (valL gs inp t) (bitsL gs inp l)) ∧ HasL gj aj ∧ ∀ inp, valL gj inp aj = abv (valL gs inp t) (bitsL gs inp l) j) (fun _ tv _ => n - (intOf tv).toNat)
  case atStart => exact ⟨0, 0, [], gs, F, Nat.zero_le _, rfl, rfl, rfl, HM1.out, HF0.out, HR1.out, HF1.out, HG.out.below HB1.out, Mvd.of_below HB1.out, Mads.nil (Ext.refl _) (by omega) _, HasL.zero _, fun _ => val_zero _ _⟩
  case round =>
    obtain ⟨j, aj, os, gj, Fj, hj, hos, rfl, rfl, hcM, hnM, hrV, hnV, hG, hM, hD, haj, hva⟩ := hrel
    by_cases hjl : j < n
    · obtain ⟨x, hx⟩ : ∃ x, l[j]? = some x := ⟨_, List.getElem?_eq_getElem (by have := HN.out; omega)⟩
      obtain ⟨ba, fa, rfl, hba, hmv⟩ := HV.out.at hx
      obtain ⟨hna, hcx⟩ := hmv _ _ hM
      have i0' : (0 : Int) ≤ (j : Int) := by omega
      have i1' : (j : Int) < (n : Int) := by omega
      have N4 : Hid (wrap64 ((j : Int) + 1) = (j : Int) + 1) := by have := HLL.out; unfold Hid wrap64; omega
      have HJ : Hid (j < n) := hjl
      have HOS : Hid (os.length = j) := hos
      have HG1 : Hid (GrAt G gj ins Fj wr) := hG
      have HMv : Hid (Mvd F Fj w wr) := hM
      have HD : Hid (Mads gs gj (5 * j) os _) := hD
      have HAJ : Hid (HasL gj aj) := haj
      have HVA : Hid (∀ inp, valL gj inp aj = abv (valL gs inp t) (bitsL gs inp l) j) := hva
      have HX0 : Hid (HasL gj x) := (HH.out x (List.mem_of_getElem? hx)).ext hD.ext
      have HVX : Hid (∀ inp, valL gj inp x = bitsL gs inp l j) := fun inp => by rw [bitsL_get hx, hD.ext.val inp (HH.out x (List.mem_of_getElem? hx))]
      have HL1 : Hid (gj.length + 5 < 88900) := by have := HL.out; have := hD.len; unfold Hid; omega
      have HT1 : Hid (HasL gj t) := HT.out.ext hD.ext
      have HVT : Hid (∀ inp, valL gj inp t = valL gs inp t) := fun inp => hD.ext.val inp HT.out
      have HnM : Hid (¬ Fj w.heap.size) := hnM
      have HnV : Hid (¬ Fj (w.heap.size + 1)) := hnV
      have HrV : Hid (wr.heap[w.heap.size + 1]? = some (.cells (rowI (rowP os n)) 39 (0, 0))) := hrV
      clear hj hos hnM hrV hnV hG hM hD haj hva hjl hx hmv hna hba
      go_wp2_with (go_at_call 58; refine (mxor_any HG1.out (by have := HL1.out; omega) _ _ HX0.out HAJ.out).mono ?_; rintro e w3 ⟨x2, g2, F2, rfl, G2, M3, D2⟩; have r0 := (M3.cell hcM HnM.out).1; have kV := (M3.rowKept HrV.out HnV.out); have fV : w3.frozen? ⟨w.heap.size + 1, j, none⟩ = false := frozen_row kV.1; have cV := rowP_cell kV.1 (by rw [HOS.out]; exact HJ.out); rw [HOS.out] at cV)
      have n0 := (M3.cell hcM HnM.out).2
      obtain ⟨w4, hw4⟩ : ∃ w4, w4 = w3.setCell ⟨w.heap.size + 1, j, none⟩ (.int .i64 x2) := ⟨_, rfl⟩
      have s0 : w4.cell? ⟨w.heap.size, 0, none⟩ = some (.pointer (some ⟨G, 0, none⟩)) := by rw [hw4, cell_apart (by simp)]; exact r0
      have hst := rowP_store kV.1 (by rw [HOS.out]; exact HJ.out) x2
      rw [HOS.out, ← hw4] at hst
      have HG4 : Hid (GrAt G g2 ins F2 w4) := by unfold Hid; rw [hw4]; exact G2.set kV.2 _ _
      have HM4 : Hid (Mvd F F2 w w4) := by unfold Hid; rw [hw4]; exact (HMv.out.trans M3).set (by omega) _
      have HrV4 : Hid (w4.heap[w.heap.size + 1]? = some (.cells (rowI (rowP (os ++ [x2]) n)) 39 (0, 0))) := hst
      have HnV4 : Hid (¬ F2 (w.heap.size + 1)) := kV.2
      have HnM4 : Hid (¬ F2 w.heap.size) := n0
      have HD2 : Hid (Mad gj g2 3 x2 _) := D2
      have HX2 : Hid (HasL g2 x) := HX0.out.ext D2.ext
      have HA2 : Hid (HasL g2 aj) := HAJ.out.ext D2.ext
      have HT2 : Hid (HasL g2 t) := HT1.out.ext D2.ext
      have HL4 : Hid (g2.length + 2 < 88900) := by have := HL1.out; have := D2.len; unfold Hid; omega
      rw [← hw4]
      clear hw4 hst kV n0 D2 G2 M3 r0 fV cV hcM hcx
      go_wp2
      go_region_held3 (fun w' => w'.cell? ⟨w.heap.size, 0, none⟩ = some (.pointer (some ⟨G, 0, none⟩))) ((first | go_keep | exact z0.1 | exact t0.1))
        (first
          | (go_at_call 36; refine (mand_any (by exact HG5.out) (by have := HL5.out; omega) _ _ HT3.out HX3.out).mono ?_; rintro e w7 ⟨x5, g5, F5, rfl, G5, M7, D5⟩; have z0 := M7.cell (by exact t0.1) t0.2)
          | (go_at_call 59; refine (mor_any (by exact HG4.out) (by have := HL4.out; omega) _ _ HX2.out HA2.out).mono ?_; rintro e w5 ⟨x3, g3, F3, rfl, G3, M5, D3⟩; have t0 := M5.cell (by exact s0) HnM4.out; have HG5 : Hid (GrAt G g3 ins F3 w5) := G3; have HX3 : Hid (HasL g3 x3) := D3.has; have HT3 : Hid (HasL g3 t) := HT2.out.ext D3.ext; have HL5 : Hid (g3.length + 1 < 88900) := (by have := HL4.out; have := D3.len; unfold Hid; omega)))
      have hM5 := M5.undrew
      have v5 := hM5.rowKept HrV4.out HnV4.out
      have v7 := M7.rowKept v5.1 v5.2
      have hMM := (HM4.out.trans hM5).trans M7
      have hDD : Mads gs g5 (5 * (j + 1)) (os ++ [x2]) (fun inp => opB (valL gs inp t) (bitsL gs inp l)) := by
        have d2 := HD.out.snoc HD2.out (fun inp => by rw [HVX.out inp, HVA.out inp, HOS.out]; rfl)
        have d3 := d2.more (m := 2) (D3.ext.trans D5.ext) (by have := D3.len; have := D5.len; omega)
        exact d3.to (by omega) (fun _ _ _ => rfl)
      have hCC : ∀ inp, valL g5 inp x5 = abv (valL gs inp t) (bitsL gs inp l) (j + 1) := fun inp => by
        rw [D5.val inp, D3.val inp, D3.ext.val inp HT2.out, HD2.out.ext.val inp HT1.out, HVT.out inp, HD2.out.ext.val inp HX0.out, HVX.out inp, HD2.out.ext.val inp HAJ.out, HVA.out inp]
        rfl
      have HEND : Hid (w7.cell? ⟨w.heap.size, 0, none⟩ = some (.pointer (some ⟨G, 0, none⟩)) ∧ ¬ F5 w.heap.size ∧ w7.heap[w.heap.size + 1]? = some (.cells (rowI (rowP (os ++ [x2]) n)) 39 (0, 0)) ∧ ¬ F5 (w.heap.size + 1) ∧ GrAt G g5 ins F5 w7 ∧ Mvd F F5 w w7 ∧ Mads gs g5 (5 * (j + 1)) (os ++ [x2]) (fun inp => opB (valL gs inp t) (bitsL gs inp l)) ∧ HasL g5 x5 ∧ ∀ inp, valL g5 inp x5 = abv (valL gs inp t) (bitsL gs inp l) (j + 1)) := ⟨z0.1, z0.2, v7.1, v7.2, G5, hMM, hDD, D5.has, hCC⟩
      have HLO : Hid ((os ++ [x2]).length = j + 1) := by unfold Hid; rw [List.length_append, HOS.out]; rfl
      clear M5 M7 D3 D5 G3 G5 hM5 v5 v7 hMM hDD hCC t0 z0 s0
      go_wp2
      try rw [N4.out]
      exact ⟨⟨j + 1, x5, os ++ [x2], g5, F5, HJ.out, HLO.out, rfl, rfl, HEND.out⟩, by have := HJ.out; simp [intOf]; omega⟩
    · obtain rfl : j = n := by omega
      rw [rowP_all hos] at hrV
      have HR' : Hid _ := hrV
      have HE : Hid (os.length = j ∧ ¬ Fj (w.heap.size + 1) ∧ GrAt G gj ins Fj wr ∧ Mvd F Fj w wr ∧ Mads gs gj (5 * j) os (fun inp => opB (valL gs inp t) (bitsL gs inp l))) := ⟨hos, hnV, hG, hM, hD⟩
      clear hj hos hcM hnM hrV hnV hG hM hD haj hva hjl
      go_wp2
      go_ret
      exact ⟨w.heap.size + 1, os, gj, Fj, rfl, HE.out.1, by omega, HR'.out, HE.out.2⟩
end Go.Proofs.YtpiglmaojonbnaaGreatDoor

/-
  package word: size, choice, width BY CONTRACT.
-/
namespace Go.Proofs.YtpiglmaojonbnaaGreatDoor
open Go.RowKit Go.Maps

set_option maxRecDepth 100000 in
set_option maxHeartbeats 1000000 in
theorem size_any {G : Nat} {gs : List (Int × Int)} {ins : Nat} {F : Nat → Prop} {w : World} (h : GrAt G gs ins F w) (o : Option Addr) (c : Nat) (l : List Int) (hv : LitsAt F w (.slice o 8 c) l) (hn : l.length = 8) (hH : ∀ x ∈ l, HasL gs x) (hl : gs.length + 40 < 88000) :
    Calls Tryz.prog 62 #[.agg #[.pointer (some ⟨G, 0, none⟩)], .slice o 8 c] w fun e w' => ∃ V out gs' F', e = .returned (.slice (some ⟨V, 0, none⟩) 8 8) ∧ out.length = 8 ∧ w.heap.size ≤ V ∧ w'.heap[V]? = some (.cells (rowI out) 39 (0, 0)) ∧ ¬ F' V ∧ GrAt G gs' ins F' w' ∧ Mvd F F' w w' ∧ Mads gs gs' 40 out (fun inp => opB (bitsL gs inp l 7) (bitsL gs inp l)) := by
  obtain ⟨x, hx⟩ : ∃ x, l[7]? = some x := ⟨_, List.getElem?_eq_getElem (by omega)⟩
  have hb1 : Below w.heap.size w (w.alloc (.cells #[.pointer (some ⟨G, 0, none⟩)] 60)) := (Below.refl _ _).alloc (Nat.le_refl _) _
  have hm : Mvd F F w (w.alloc (.cells #[.pointer (some ⟨G, 0, none⟩)] 60)) := Mvd.of_below hb1
  obtain ⟨w1, hw1⟩ : ∃ w1, w1 = w.alloc (.cells #[.pointer (some ⟨G, 0, none⟩)] 60) := ⟨_, rfl⟩
  have c0 : w1.cell? ⟨w.heap.size, 0, none⟩ = some (.pointer (some ⟨G, 0, none⟩)) := by rw [hw1]; simp
  rw [← hw1] at hb1 hm
  have HV : Hid (LitsAt F w1 (.slice o 8 c) l) := hv.move hm
  have HG : Hid (GrAt G gs ins F w1) := h.below hb1
  have HM : Hid (Mvd F F w w1) := hm
  have HX : Hid (l[7]? = some x) := hx
  have HXH : Hid (HasL gs x) := hH x (List.mem_of_getElem? hx)
  have HN : Hid (l.length = 8) := hn
  have HH : Hid (∀ x ∈ l, HasL gs x) := hH
  have HL : Hid (gs.length + 5 * 8 < 88000) := hl
  have hF := h.2.2.1
  have HF0 : Hid (¬ F w.heap.size) := fun hf => by have := hF _ hf; omega
  have HW : Hid (w.alloc (.cells #[.pointer (some ⟨G, 0, none⟩)] 60) = w1) := hw1.symm
  clear h hv hn hH hl hx hb1 hm hF hw1
  go_enter Tryz.func62, Tryz.ntmps62
  go_wp2
  rw [HW.out]
  go_region_held3 (fun w' => w'.cell? ⟨w.heap.size, 0, none⟩ = some (.pointer (some ⟨G, 0, none⟩))) ((first | go_keep | exact q0.1))
    (first
      | (go_at_call 63; refine (sign_any (F := F) _ _ l (by exact HV.out) x HX.out).mono ?_; rintro e w' ⟨rfl, rfl⟩)
      | (go_at_call 38; refine (opposite_any (F := F) (by exact HG.out) x HXH.out _ 8 _ l (by exact HV.out) HN.out HH.out HL.out).mono ?_; rintro e w2 ⟨V, out, gs', F', rfl, h1, h2, h3, h4, g2, m2, d2⟩; have q0 := m2.cell (by exact c0) HF0.out))
  have HEND : Hid (out.length = 8 ∧ w.heap.size ≤ V ∧ w2.heap[V]? = some (.cells (rowI out) 39 (0, 0)) ∧ ¬ F' V ∧ GrAt G gs' ins F' w2 ∧ Mvd F F' w w2 ∧ Mads gs gs' 40 out (fun inp => opB (bitsL gs inp l 7) (bitsL gs inp l))) := ⟨h1, by have := HM.out.size; have h2' : w1.heap.size ≤ V := h2; omega, h3, h4, g2, HM.out.trans m2.undrew, d2.to (by omega) (fun inp i _ => by rw [bitsL_get HX.out])⟩
  clear h1 h2 h3 h4 g2 m2 d2 q0 c0
  go_wp2
  go_ret
  exact ⟨V, out, gs', F', rfl, HEND.out⟩
set_option maxRecDepth 100000 in
set_option maxHeartbeats 4000000 in
theorem choice_any {G : Nat} {gs : List (Int × Int)} {ins : Nat} {F : Nat → Prop} {w : World} (h : GrAt G gs ins F w) (t : Int) (ht : HasL gs t) (oa ob : Option Addr) (n ca cb nb : Nat) (a b : List Int) (hva : LitsAt F w (.slice oa n ca) a) (hvb : LitsAt F w (.slice ob nb cb) b) (hna : a.length = n) (hnb : b.length = nb) (hnn : n ≤ nb) (ha : ∀ x ∈ a, HasL gs x) (hb : ∀ x ∈ b, HasL gs x) (hl : gs.length + 3 * n < 88000) :
    Calls Tryz.prog 37 #[.agg #[.pointer (some ⟨G, 0, none⟩)], .int .i64 t, .slice oa n ca, .slice ob nb cb] w fun e w' => ∃ V out gs' F', e = .returned (.slice (some ⟨V, 0, none⟩) n n) ∧ out.length = n ∧ w.heap.size ≤ V ∧ w'.heap[V]? = some (.cells (rowI out) 39 (0, 0)) ∧ ¬ F' V ∧ GrAt G gs' ins F' w' ∧ Mvd F F' w w' ∧ Mads gs gs' (3 * n) out (fun inp i => if valL gs inp t = true then bitsL gs inp a i else bitsL gs inp b i) := by
  obtain ⟨i0, hi0, hz0, hz1, hz2⟩ := info_parts Tryz.infoLit
  have hn1 : n ≤ 1000 := by rw [← hna]; exact hva.1
  have HVA : Hid (LitsAt F w (.slice oa n ca) a) := hva
  have HVB : Hid (LitsAt F w (.slice ob nb cb) b) := hvb
  have HNA : Hid (a.length = n) := hna
  have HNB : Hid (n ≤ b.length) := by unfold Hid; omega
  have HNB' : Hid (n ≤ nb) := hnn
  have HBY : Hid (i0.bytes * n ≤ 281474976710656) := by unfold Hid; rw [hz2]; omega
  have HMX : Hid (n ≤ maxLen) := by unfold Hid maxLen; omega
  have HLL : Hid (n ≤ 1000) := hn1
  have HL : Hid (gs.length + 3 * n < 88000) := hl
  have HA : Hid (∀ x ∈ a, HasL gs x) := ha
  have HB : Hid (∀ x ∈ b, HasL gs x) := hb
  have HT : Hid (HasL gs t) := ht
  have hF := h.2.2.1
  have HF0 : Hid (¬ F w.heap.size) := fun hf => by have := hF _ hf; omega
  have HF1 : Hid (¬ F (w.heap.size + 1)) := fun hf => by have := hF _ hf; omega
  have hb1 : Below w.heap.size w (w.alloc (.cells #[.pointer (some ⟨G, 0, none⟩)] 60)) := (Below.refl _ _).alloc (Nat.le_refl _) _
  have HBW : Hid (Below w.heap.size w (w.alloc (.cells #[.pointer (some ⟨G, 0, none⟩)] 60))) := hb1
  have HRM : Hid ((w.alloc (.cells #[.pointer (some ⟨G, 0, none⟩)] 60)).heap[w.heap.size]? = some (.cells #[.pointer (some ⟨G, 0, none⟩)] 60 (0, 0))) := heap_alloc_new _ _
  have HG : Hid (GrAt G gs ins F w) := h
  have HS0 : Hid ((w.alloc (.cells #[.pointer (some ⟨G, 0, none⟩)] 60)).heap.size = w.heap.size + 1) := by unfold Hid; simp
  clear hn1 hl ha hb ht hF hb1 h hva hvb hna hnb hnn
  go_enter Tryz.func37, Tryz.ntmps37
  go_wp2_with (first
    | (at_make; refine wpList_make_full _ rfl _ _ 38 rfl 0 39 i0 _ 1 Tryz.underlying38 hi0 hz0 hz1 .i64 .i64 _ _ n rfl rfl (by simp) (by simp) HBY.out HMX.out (Nat.zero_le _) ?_; intro w1 hown1 hgr1)
    | go_in)
  have hV1 := made_lits hown1
  rw [HS0.out] at hV1
  have hb2 : Below (w.heap.size + 1) (w.alloc (.cells #[.pointer (some ⟨G, 0, none⟩)] 60)) w1 := ⟨hgr1.os, hgr1.tape, hgr1.output, hgr1.size, fun k hk => hgr1.block k (by rw [HS0.out]; exact hk) (by simp)⟩
  have HR1 : Hid (w1.heap[w.heap.size + 1]? = some (.cells (rowI (rowP [] n)) 39 (0, 0))) := hV1
  have HB1 : Hid (Below w.heap.size w w1) := HBW.out.trans (hb2.mono (by omega))
  have HM1 : Hid (w1.cell? ⟨w.heap.size, 0, none⟩ = some (.pointer (some ⟨G, 0, none⟩))) := by unfold Hid; rw [cell_of_row w1 _ 0 _ _ (0, 0) (by rw [hb2.block _ (by omega)]; exact HRM.out)]; rfl
  clear hown1 hgr1 hV1 hi0 hz0 hz1 hz2 HBY HMX hb2 HBW HRM HS0
  go_loopw [16] (fun tv wr => ∃ (j : Nat) (os : List Int) (gj : List (Int × Int)) (Fj : Nat → Prop), j ≤ n ∧ os.length = j ∧ tv = .int .i64 j ∧ wr.cell? ⟨w.heap.size, 0, none⟩ = some (.pointer (some ⟨G, 0, none⟩)) ∧ ¬ Fj w.heap.size ∧ wr.heap[w.heap.size + 1]? = some (.cells (rowI (rowP os n)) 39 (0, 0)) ∧ ¬ Fj (w.heap.size + 1) ∧
    GrAt G gj ins Fj wr ∧ Mvd F Fj w wr ∧ Mads gs gj (3 * j) os (fun inp i => if valL gs inp t = true then bitsL gs inp a i else bitsL gs inp b i)) (fun tv _ => n - (intOf tv).toNat)
  case atStart => exact ⟨0, [], gs, F, Nat.zero_le _, rfl, rfl, HM1.out, HF0.out, HR1.out, HF1.out, HG.out.below HB1.out, Mvd.of_below HB1.out, Mads.nil (Ext.refl _) (by omega) _⟩
  case round =>
    obtain ⟨j, os, gj, Fj, hj, hos, rfl, hcM, hnM, hrV, hnV, hG, hM, hD⟩ := hrel
    by_cases hjl : j < n
    · obtain ⟨x, hx⟩ : ∃ x, a[j]? = some x := ⟨_, List.getElem?_eq_getElem (by have := HNA.out; omega)⟩
      obtain ⟨y, hy⟩ : ∃ y, b[j]? = some y := ⟨_, List.getElem?_eq_getElem (by have := HNB.out; omega)⟩
      obtain ⟨ba, fa, rfl, hba, hmva⟩ := HVA.out.at hx
      obtain ⟨bb, fb, rfl, hbb, hmvb⟩ := HVB.out.at hy
      obtain ⟨hna, hcx⟩ := hmva _ _ hM
      obtain ⟨hnb, hcy⟩ := hmvb _ _ hM
      have i0' : (0 : Int) ≤ (j : Int) := by omega
      have i1' : (j : Int) < (n : Int) := by omega
      have i2' : (j : Int) < (nb : Int) := by have := HNB'.out; omega
      have N4 : Hid (wrap64 ((j : Int) + 1) = (j : Int) + 1) := by have := HLL.out; unfold Hid wrap64; omega
      have HJ : Hid (j < n) := hjl
      have HOS : Hid (os.length = j) := hos
      have HG1 : Hid (GrAt G gj ins Fj wr) := hG
      have HMv : Hid (Mvd F Fj w wr) := hM
      have HD : Hid (Mads gs gj (3 * j) os _) := hD
      have HX0 : Hid (HasL gj x) := (HA.out x (List.mem_of_getElem? hx)).ext hD.ext
      have HY0 : Hid (HasL gj y) := (HB.out y (List.mem_of_getElem? hy)).ext hD.ext
      have HVX : Hid (∀ inp, valL gj inp x = bitsL gs inp a j) := fun inp => by rw [bitsL_get hx, hD.ext.val inp (HA.out x (List.mem_of_getElem? hx))]
      have HVY : Hid (∀ inp, valL gj inp y = bitsL gs inp b j) := fun inp => by rw [bitsL_get hy, hD.ext.val inp (HB.out y (List.mem_of_getElem? hy))]
      have HL1 : Hid (gj.length < 89990) := by have := HL.out; have := hD.len; unfold Hid; omega
      have HT1 : Hid (HasL gj t) := HT.out.ext hD.ext
      have HVT : Hid (∀ inp, valL gj inp t = valL gs inp t) := fun inp => hD.ext.val inp HT.out
      have HnM : Hid (¬ Fj w.heap.size) := hnM
      have HnV : Hid (¬ Fj (w.heap.size + 1)) := hnV
      have Hna : Hid (¬ Fj ba) := hna
      have Hnb : Hid (¬ Fj bb) := hnb
      have NE : Hid (w.heap.size ≠ w.heap.size + 1 ∧ ba ≠ w.heap.size + 1 ∧ bb ≠ w.heap.size + 1) := by unfold Hid; omega
      have HrV : Hid (wr.heap[w.heap.size + 1]? = some (.cells (rowI (rowP os n)) 39 (0, 0))) := hrV
      clear hj hos hnM hrV hnV hG hM hD hjl hx hy hmva hmvb hna hnb hba hbb
      go_wp2
      go_region_held3 (fun w' => w'.cell? ⟨w.heap.size, 0, none⟩ = some (.pointer (some ⟨G, 0, none⟩)) ∧ w'.cell? ⟨ba, fa + j, none⟩ = some (.int .i64 x) ∧ w'.cell? ⟨bb, fb + j, none⟩ = some (.int .i64 y)) ((first | exact ⟨(cell_apart NE.out.1).trans q0.1, (cell_apart NE.out.2.1).trans q1.1, (cell_apart NE.out.2.2).trans q2.1⟩ | exact ⟨q0.1, q1.1, q2.1⟩ | exact ⟨hcM, hcx, hcy⟩ | go_keep))
        (first
          | (go_at_call 57; refine (if_ok (by exact HG1.out) HL1.out _ _ _ HT1.out HX0.out HY0.out).mono ?_; rintro e w3 ⟨rfl, F3, G3, M3⟩; have q0 := M3.cell (by exact hcM) HnM.out; have q1 := M3.cell (by exact hcx) Hna.out; have q2 := M3.cell (by exact hcy) Hnb.out; have q3 := (M3.undrew).rowKept HrV.out HnV.out; have fV : w3.frozen? ⟨w.heap.size + 1, j, none⟩ = false := frozen_row q3.1; have cV := rowP_cell q3.1 (by rw [HOS.out]; exact HJ.out); rw [HOS.out] at cV)
          | (go_at_call 55; refine (made_any _ _).mono ?_; rintro e w' ⟨rfl, rfl⟩))
      rename World => w3
      have hst := rowP_store q3.1 (by rw [HOS.out]; exact HJ.out) (ifL gj t x y)
      rw [HOS.out] at hst
      have D3 := Mad.ite HG1.out.1 HT1.out HX0.out HY0.out
      have hDD : Mads gs (ifG gj t x y) (3 * (j + 1)) (os ++ [ifL gj t x y]) (fun inp i => if valL gs inp t = true then bitsL gs inp a i else bitsL gs inp b i) :=
        (HD.out.snoc D3 (fun inp => by rw [HVT.out inp, HVX.out inp, HVY.out inp, HOS.out])).to (by omega) (fun _ _ _ => rfl)
      obtain ⟨w4, hw4⟩ : ∃ w4, w4 = w3.setCell ⟨w.heap.size + 1, j, none⟩ (.int .i64 (ifL gj t x y)) := ⟨_, rfl⟩
      have HEND : Hid (w4.cell? ⟨w.heap.size, 0, none⟩ = some (.pointer (some ⟨G, 0, none⟩)) ∧ ¬ F3 w.heap.size ∧ w4.heap[w.heap.size + 1]? = some (.cells (rowI (rowP (os ++ [ifL gj t x y]) n)) 39 (0, 0)) ∧ ¬ F3 (w.heap.size + 1) ∧ GrAt G (ifG gj t x y) ins F3 w4 ∧ Mvd F F3 w w4 ∧ Mads gs (ifG gj t x y) (3 * (j + 1)) (os ++ [ifL gj t x y]) (fun inp i => if valL gs inp t = true then bitsL gs inp a i else bitsL gs inp b i)) := by
        refine ⟨?_, q0.2, ?_, q3.2, ?_, ?_, hDD⟩
        · rw [hw4, cell_apart NE.out.1]; exact q0.1
        · rw [hw4]; exact hst
        · rw [hw4]; exact G3.set q3.2 _ _
        · rw [hw4]; exact (HMv.out.trans M3.undrew).set (by omega) _
      have HLO : Hid ((os ++ [ifL gj t x y]).length = j + 1) := by unfold Hid; rw [List.length_append, HOS.out]; rfl
      rw [← hw4]
      clear hst D3 hDD hw4 q0 q1 q2 q3 fV cV G3 M3 hcM hcx hcy
      go_wp2
      try rw [N4.out]
      exact ⟨⟨j + 1, _, _, F3, HJ.out, HLO.out, rfl, HEND.out⟩, by have := HJ.out; simp [intOf]; omega⟩
    · obtain rfl : j = n := by omega
      rw [rowP_all hos] at hrV
      have HR' : Hid _ := hrV
      have HE : Hid (os.length = j ∧ ¬ Fj (w.heap.size + 1) ∧ GrAt G gj ins Fj wr ∧ Mvd F Fj w wr ∧ Mads gs gj (3 * j) os (fun inp i => if valL gs inp t = true then bitsL gs inp a i else bitsL gs inp b i)) := ⟨hos, hnV, hG, hM, hD⟩
      clear hj hos hcM hnM hrV hnV hG hM hD hjl
      go_wp2
      go_ret
      exact ⟨w.heap.size + 1, os, gj, Fj, rfl, HE.out.1, by omega, HR'.out, HE.out.2⟩
set_option maxRecDepth 100000 in
set_option maxHeartbeats 1000000 in
theorem width_any {F : Nat → Prop} {w : World} (o : Option Addr) (n c : Nat) (l : List Int) (hv : LitsAt F w (.slice o n c) l) (hn : l.length = n) :
    Calls Tryz.prog 79 #[.slice o n c] w fun e w' => (∃ m : Nat, e = .returned (.int .i64 m) ∧ m ≤ n ∧ ∀ k x, m ≤ k → l[k]? = some x → x = 0) ∧ w' = w := by
  have hn1 : n ≤ 1000 := by rw [← hn]; exact hv.1
  have HV : Hid (LitsAt F w (.slice o n c) l) := hv
  have HN : Hid (l.length = n) := hn
  have HN1 : Hid (n ≤ 1000) := hn1
  clear hv hn hn1
  go_enter Tryz.func79, Tryz.ntmps79
  go_wp2
  go_loop [3] (fun t => ∃ m : Nat, m ≤ n ∧ t = .int .i64 m ∧ ∀ k x, m ≤ k → l[k]? = some x → x = 0) (fun t => (intOf t).toNat)
  case atStart => exact ⟨n, Nat.le_refl _, rfl, fun k x hk hx => by have := (List.getElem?_eq_some_iff.1 hx).1; have := HN.out; omega⟩
  case round =>
    obtain ⟨m, hm, rfl, hz⟩ := hrel
    have HZ : Hid (∀ k x, m ≤ k → l[k]? = some x → x = 0) := hz
    have HM : Hid (m ≤ n) := hm
    clear hz hm
    by_cases h0 : m = 0
    · subst h0
      go_wp2
      go_ret
      exact ⟨⟨0, rfl, Nat.zero_le _, HZ.out⟩, rfl⟩
    · obtain ⟨j, rfl⟩ : ∃ j, m = j + 1 := ⟨m - 1, by omega⟩
      obtain ⟨x, hx⟩ : ∃ x, l[j]? = some x := ⟨_, List.getElem?_eq_getElem (by have := HN.out; have := HM.out; omega)⟩
      obtain ⟨b, off, rfl, _, hc⟩ := HV.out.at hx
      have q0 := (hc F w (Mvd.refl _ _)).2
      have d0 : ((0 : Int) < ((j + 1 : Nat) : Int)) = True := eq_true (by omega)
      have n1 : wrap64 (((j + 1 : Nat) : Int) - 1) = (j : Int) := by have := HN1.out; have := HM.out; unfold wrap64; omega
      have i0' : (0 : Int) ≤ (j : Int) := by omega
      have i1' : (j : Int) < (n : Int) := by have := HM.out; omega
      have HX : Hid (l[j]? = some x) := hx
      obtain ⟨mv, hmv⟩ : ∃ mv : Int, mv = ((j + 1 : Nat) : Int) := ⟨_, rfl⟩
      rw [← hmv] at d0 n1 ⊢
      have HMV : Hid (mv = ((j + 1 : Nat) : Int)) := hmv
      clear h0 hc hx hmv
      by_cases hx0 : x = 0
      · subst hx0
        go_wp2
        refine ⟨⟨j, by have := HM.out; omega, by rw [n1], fun k y hk hy => ?_⟩, by rw [n1]; have := HMV.out; simp [intOf]; omega⟩
        rcases Nat.eq_or_lt_of_le hk with e | e
        · subst e; rw [HX.out] at hy; cases hy; rfl
        · exact HZ.out k y (by omega) hy
      · have dx : (x == 0) = false := beq_eq_false_iff_ne.2 hx0
        clear hx0
        go_wp2
        go_ret
        exact ⟨⟨j + 1, by rw [HMV.out]; rfl, HM.out, HZ.out⟩, rfl⟩
end Go.Proofs.YtpiglmaojonbnaaGreatDoor

/-
  slices.Insert of rows of literals, at place 0, one value BY CONTRACT.
-/
namespace Go.Proofs.YtpiglmaojonbnaaGreatDoor
open Go.RowKit Go.Maps Go.Lib

/-- What Insert answers. -/
def InsP (o : Option Addr) (n : Nat) (x : Int) (l : List Int) (w : World) (e : Ending) (w' : World) : Prop :=
  ∃ V' c', e = .returned (.slice (some ⟨V', 0, none⟩) (n + 1) c') ∧ (w.heap.size ≤ V' ∨ o = some ⟨V', 0, none⟩) ∧ (∀ j y, (x :: l)[j]? = some y → w'.cell? ⟨V', j, none⟩ = some (.int .i64 y)) ∧ Mvd (fun k => o = some ⟨k, 0, none⟩) (fun k => o = some ⟨k, 0, none⟩) w w'
theorem mvd_drew_alloc (F : Nat → Prop) (w : World) (b : Obj) : Mvd F F w (w.drew.alloc b) := Mvd.of_below (((Below.refl _ _).drew).alloc (Nat.le_refl _) _)

set_option maxHeartbeats 4000000 in
set_option maxRecDepth 100000 in
theorem insert_nil (x : Int) (vb : Nat) (w : World) (hv : w.cell? ⟨vb, 0, none⟩ = some (.int .i64 x)) :
    Calls Tryz.prog 80 #[.slice none 0 0, .int .i64 0, .slice (some ⟨vb, 0, none⟩) 1 1] w (InsP none 0 x [] w) := by
  obtain ⟨i0, hi0, hz0, hzs, hzb⟩ := info_parts Tryz.infoLit
  have hsrc : Src Tryz.prog i0.size 38 (.slice (some ⟨vb, 0, none⟩) 1 1) 1 [.int .i64 x] w := by
    rw [hzs]
    exact Src.ofSlice w Tryz.underlying38 ⟨vb, 0, none⟩ 1 1 [.int .i64 x] (by simp) (fun j u hj => by
      obtain rfl : j = 0 := by have := (List.getElem?_eq_some_iff.1 hj).1; simp at this; exact this
      simp at hj; subst hj; rw [Addr.add_lit]; exact hv) (by intro v hv; simp at hv; subst hv; rfl)
  have hold : (Builtin.firstCells i0.size 0 (.slice none 0 0)).run Tryz.prog w.drew = .ok ([] : List Value).toArray w.drew := by
    rw [hzs]; exact run_firstCells_none w.drew 1 0 0 0
  have hrun : ∀ ty, (Builtin.append_ #[38, 38] ty #[.slice none 0 0, .slice (some ⟨vb, 0, none⟩) 1 1]).run Tryz.prog w = _ := fun ty =>
    run_append_grow_src w 38 38 ty 39 i0 _ Tryz.underlying38 hi0 hz0 none 0 0 [] hold _ 1 [.int .i64 x] hsrc (by omega) (by omega) (by rw [hzb]; exact growslice_fits (by omega) (by omega))
  go_enter Tryz.func80, Tryz.ntmps80
  go_wp2_with (at_builtin; refine Lib.wpList_append_run _ rfl _ _ _ _ rfl _ _ rfl rfl _ _ (hrun _) ?_)
  go_ret
  refine ⟨w.heap.size, _, rfl, .inl (Nat.le_refl _), fun j y hj => ?_, mvd_drew_alloc _ _ _⟩
  obtain rfl : j = 0 := by have := (List.getElem?_eq_some_iff.1 hj).1; simp at this; exact this
  simp at hj; subst hj
  have e := World.cell?_alloc_at (w := w) (#[Value.int .i64 x] ++ Builtin.zeroCells #[.int .i64 0] (grownCap w 1 0 39 - 1)) 39 w.heap.size 0 rfl
  exact e.trans (by rw [Array.getElem?_append_left (by simp)]; rfl)

theorem mvd_setCells (V : Nat) : ∀ (vs : List Value) (o : Nat) (w : World), Mvd (fun k => some (⟨V, 0, none⟩ : Addr) = some ⟨k, 0, none⟩) (fun k => some (⟨V, 0, none⟩ : Addr) = some ⟨k, 0, none⟩) w (w.setCells V o vs)
  | [], _, w => Mvd.refl _ w
  | v :: r, o, w => by
    rw [World.setCells]
    refine Mvd.trans ?_ (mvd_setCells V r (o + 1) _)
    refine ⟨rfl, rfl, rfl, by simp, fun k hk hn => ?_, fun k hk => .inl hk⟩
    exact Below.heap_setCell w ⟨V, o, none⟩ v k (fun e => hn (by rw [e]))
theorem src_one (w : World) (vb : Nat) (x : Int) (hv : w.cell? ⟨vb, 0, none⟩ = some (.int .i64 x)) : Src Tryz.prog 1 38 (.slice (some ⟨vb, 0, none⟩) 1 1) 1 [.int .i64 x] w :=
  Src.ofSlice w Tryz.underlying38 ⟨vb, 0, none⟩ 1 1 [.int .i64 x] (by simp) (fun j u hj => by
      obtain rfl : j = 0 := by have := (List.getElem?_eq_some_iff.1 hj).1; simp at this; exact this
      simp at hj; subst hj; rw [Addr.add_lit]; exact hv) (by intro v hv; simp at hv; subst hv; rfl)

set_option maxHeartbeats 4000000 in
set_option maxRecDepth 100000 in
theorem insert_room (x : Int) (vb V c : Nat) (r : List Int) (w : World) (hv : w.cell? ⟨vb, 0, none⟩ = some (.int .i64 x)) (hV : w.heap[V]? = some (.cells (rowI r) 39 (0, 0))) (hr : r.length = c) (hc : 0 < c) :
    Calls Tryz.prog 80 #[.slice (some ⟨V, 0, none⟩) 0 c, .int .i64 0, .slice (some ⟨vb, 0, none⟩) 1 1] w (InsP (some ⟨V, 0, none⟩) 0 x [] w) := by
  have hsrc := src_one w vb x hv
  obtain ⟨y, hy⟩ : ∃ y, r[0]? = some y := ⟨_, List.getElem?_eq_getElem (by omega)⟩
  have hc0 : w.cell? ⟨V, 0, none⟩ = some (.int .i64 y) := by rw [cell_of_row w V _ _ _ (0, 0) hV]; exact rowI_get hy
  have hf0 : w.frozen? ⟨V, 0, none⟩ = false := frozen_row hV
  have hc' : ¬ (c = 0) := by omega
  have hc1 : 0 + 1 ≤ c := hc
  have hsp : ∀ j, j < ([Value.int .i64 x]).length → (w.cell? ⟨V, 0 + 0 + j, none⟩).isSome = true := fun j hj => by
    obtain rfl : j = 0 := by simp at hj; exact hj
    rw [hc0]; rfl
  have hfz : ∀ j, j < ([Value.int .i64 x]).length → w.frozen? ⟨V, 0 + 0 + j, none⟩ = false := fun j hj => by
    obtain rfl : j = 0 := by simp at hj; exact hj
    exact hf0
  go_enter Tryz.func80, Tryz.ntmps80
  go_wp2_with (at_builtin; refine wpList_append_room1 _ rfl _ _ 38 38 rfl 39 _ _ Tryz.underlying38 Tryz.infoLit V 0 0 c rfl _ rfl 1 [.int .i64 x] hsrc hc1 hsp hfz ?_)
  go_ret
  refine ⟨V, _, rfl, .inr rfl, fun j z hj => ?_, mvd_setCells V _ _ _⟩
  obtain rfl : j = 0 := by have := (List.getElem?_eq_some_iff.1 hj).1; simp at this; exact this
  simp at hj; subst hj
  exact World.cell?_setCells_in V [.int .i64 x] 0 w hsp 0 (by simp)

end Go.Proofs.YtpiglmaojonbnaaGreatDoor

/-
  slices.Insert of rows of literals, where there is no room.
-/
namespace Go.Proofs.YtpiglmaojonbnaaGreatDoor
open Go.RowKit Go.Maps Go.Lib

theorem InsP.drewR {o : Option Addr} {n : Nat} {x : Int} {l : List Int} {w : World} {e : Ending} {w' : World} (h : InsP o n x l w e w') : InsP o n x l w e w'.drew := by
  obtain ⟨V', c', h1, h2, h3, h4⟩ := h
  exact ⟨V', c', h1, h2, h3, ⟨h4.os, h4.tape, h4.output, h4.size, h4.block, h4.more⟩⟩
set_option maxHeartbeats 400000 in
set_option maxRecDepth 100000 in
theorem insert_grow (x : Int) (vb V n : Nat) (l : List Int) (w : World) (hv : w.cell? ⟨vb, 0, none⟩ = some (.int .i64 x)) (hV : w.heap[V]? = some (.cells (rowI l) 39 (0, 0))) (hl : l.length = n) (hn : 0 < n) (hn1 : n ≤ 1000) :
    Calls Tryz.prog 80 #[.slice (some ⟨V, 0, none⟩) n n, .int .i64 0, .slice (some ⟨vb, 0, none⟩) 1 1] w (InsP (some ⟨V, 0, none⟩) n x l w) := by
  have k3 : ((0 : Int) = (n : Int)) = False := eq_false (by omega)
  have k4 : ((0 : Int) == (n : Int)) = false := beq_eq_false_iff_ne.2 (by omega)
  have k6 : ¬ (n = 0) := by omega
  obtain ⟨i0, hi0, hz0, hzs, hzb⟩ := info_parts Tryz.infoLit
  have hsz : (Tryz.prog.info? 39).map (·.size) = some 1 := by rw [hi0]; simp [hzs]
  have hcs : ∀ j v, (l.map (Value.int .i64))[j]? = some v → w.cell? ⟨V, 0 + j, none⟩ = some v := fun j v hj => by
    rw [List.getElem?_map] at hj
    obtain ⟨y, hy, rfl⟩ := Option.map_eq_some_iff.1 hj
    rw [Nat.zero_add, cell_of_row w V _ _ _ (0, 0) hV]; exact rowI_get hy
  have hcl : (l.map (Value.int .i64)).length = n := by simp [hl]
  have h1c : ∀ v ∈ l.map (Value.int .i64), v.oneCell' = true := fun u hu => by obtain ⟨x, _, rfl⟩ := List.mem_map.1 hu; rfl
  obtain ⟨cs, hcse⟩ : ∃ cs, cs = l.map (Value.int .i64) := ⟨_, rfl⟩
  rw [← hcse] at hcs hcl h1c
  have hbw : V < w.heap.size := by rcases Nat.lt_or_ge V w.heap.size with h | h; · exact h
                                   · rw [Array.getElem?_eq_none h] at hV; cases hV
  have hvw : vb < w.heap.size := cell_in hv
  have hold : (Builtin.firstCells i0.size 0 (.slice (some ⟨V, 0, none⟩) 0 n)).run Tryz.prog w.drew = .ok ([] : List Value).toArray w.drew := by
    rw [hzs]
    exact run_firstCells_some w.drew 1 0 ⟨V, 0, none⟩ 0 n [] (by simp) (fun j v hj => by simp at hj)
  obtain ⟨G, hG⟩ : ∃ G, G = grownCap w (n + 1) n 39 := ⟨_, rfl⟩
  have hrz : ∀ ty, (Builtin.append_ #[38, 3] ty #[.slice (some ⟨V, 0, none⟩) 0 n, .int .i64 ((n : Int) + 1)]).run Tryz.prog w =
      .ok (.slice (some ⟨w.heap.size, 0, none⟩) (n + 1) G) (w.drew.alloc (.cells (([] : List Value).toArray ++ Builtin.zeroCells (Value.int .i64 0).cells (n + 1) ++ Builtin.zeroCells (Value.int .i64 0).cells (G - (n + 1))) 39)) := fun ty => by
    have h := Lib.run_append_grow_zeros w 38 3 ty 39 i0 _ .i64 .i64 Tryz.underlying38 Tryz.underlying3 hi0 hz0 (some ⟨V, 0, none⟩) 0 n [] hold (n + 1) (by omega) (by omega) (by omega) (by omega) (by rw [hzb]; omega) (by rw [hzb, Nat.zero_add]; exact growslice_fits (by omega) (by omega))
    have e1 : ((n + 1 : Nat) : Int) = (n : Int) + 1 := by omega
    rw [e1, Nat.zero_add, ← hG] at h
    exact h
  obtain ⟨ROW, hROW⟩ : ∃ ROW : Array Value, ROW = ([] : List Value).toArray ++ Builtin.zeroCells (Value.int .i64 0).cells (n + 1) ++ Builtin.zeroCells (Value.int .i64 0).cells (G - (n + 1)) := ⟨_, rfl⟩
  rw [← hROW] at hrz
  have hRl : n + 1 ≤ ROW.size := by
    rw [hROW]
    simp [Builtin.zeroCells, Value.cells] <;> omega
  obtain ⟨W1, hW1⟩ : ∃ W1, W1 = w.drew.alloc (.cells ROW 39) := ⟨_, rfl⟩
  rw [← hW1] at hrz
  have hN : ∀ j, j < n + 1 → (W1.cell? ⟨w.heap.size, j, none⟩).isSome = true := fun j hj => by
    rw [hW1, World.cell?_alloc_at (w := w.drew) ROW _ w.heap.size j rfl, Array.getElem?_eq_getElem (by omega)]; rfl
  have hNf : ∀ j, W1.frozen? ⟨w.heap.size, j, none⟩ = false := fun j => by rw [hW1]; exact World.frozen?_alloc_at (w := w.drew) ROW _ w.heap.size j rfl
  have hOb : ∀ j v, w.cell? ⟨V, j, none⟩ = some v → W1.cell? ⟨V, j, none⟩ = some v := fun j v h => by rw [hW1, World.cell?_alloc_past (w := w.drew) _ V j hbw]; exact h
  have hOv : ∀ j v, w.cell? ⟨vb, j, none⟩ = some v → W1.cell? ⟨vb, j, none⟩ = some v := fun j v h => by rw [hW1, World.cell?_alloc_past (w := w.drew) _ vb j hvw]; exact h
  have h1v : ∀ v ∈ [Value.int .i64 x], v.oneCell' = true := by intro v hv; simp at hv; subst hv; rfl
  have hcpA : ∀ (W : World), (∀ x, W.cell? x = W1.cell? x) → (∀ x, W.frozen? x = W1.frozen? x) → ∀ ty dc, (Builtin.copy_ #[38, 38] ty #[.slice (some ⟨w.heap.size, 0, none⟩) (n + 1) dc, .slice (some ⟨vb, 0, none⟩) 1 1]).run Tryz.prog W = .ok (goInt ([Value.int .i64 x]).length) (W.setCells w.heap.size 0 [.int .i64 x]) := fun W hWc hWf ty dc =>
    run_copy_cells W _ _ ty 39 w.heap.size 0 (n + 1) dc ⟨vb, 0, none⟩ 1 1 [.int .i64 x] Tryz.underlying38 hsz (by simp only [Nat.min_def, List.length_cons, List.length_nil]; split <;> omega)
      (fun j v hj => by
        obtain rfl : j = 0 := by have := (List.getElem?_eq_some_iff.1 hj).1; simp at this; exact this
        simp at hj; subst hj; rw [Addr.add_lit, hWc]; exact hOv _ _ hv)
      (fun j hj => by rw [hWc]; exact hN _ (by simp at hj; omega)) (fun j hj => by rw [hWf]; exact hNf _) h1v
  have hGn : n + 1 ≤ G := by rw [hG]; exact grownCap_ge w _ _ _
  have hG63 : G ≤ 9223372036854775807 := by
    have := grownCap_le_maxLen w (n + 1) n 39 (by unfold maxLen; omega)
    rw [← hG] at this
    unfold maxLen at this
    omega
  have hbN : V ≠ w.heap.size := by omega
  have hcpB : ∀ (W : World), (∀ p, W.cell? p = (W1.setCells w.heap.size 0 [.int .i64 x]).cell? p) → (∀ p, W.frozen? p = (W1.setCells w.heap.size 0 [.int .i64 x]).frozen? p) → ∀ ty dc sc, (Builtin.copy_ #[38, 38] ty #[.slice (some ⟨w.heap.size, 1, none⟩) n dc, .slice (some ⟨V, 0, none⟩) n sc]).run Tryz.prog W = .ok (goInt n) (W.setCells w.heap.size 1 cs) := fun W hWc hWf ty dc sc => by
    have := run_copy_cells W 38 38 ty 39 w.heap.size 1 n dc ⟨V, 0, none⟩ n sc cs Tryz.underlying38 hsz (by rw [hcl]; simp only [Nat.min_def]; split <;> omega)
      (fun j v hj => by
        rw [Addr.add_lit, hWc, World.cell?_setCells_out _ _ _ _ _ (fun h _ => absurd h hbN)]
        exact hOb _ v (hcs j v hj))
      (fun j hj => by rw [hWc]; exact isSome_setCells _ _ _ _ (fun t ht => hN _ (by simp at ht; omega)) _ (hN _ (by omega)))
      (fun j hj => by rw [hWf, World.frozen?_setCells]; exact hNf _) h1c
    rw [hcl] at this
    exact this
  have hEND : ∀ W : World, W = ((W1.setCells w.heap.size 0 [.int .i64 x]).setCells w.heap.size 1 cs) → InsP (some ⟨V, 0, none⟩) n x l w (.returned (.slice (some ⟨w.heap.size, 0, none⟩) (n + 1) G)) W := by
    intro W hW
    refine ⟨w.heap.size, G, rfl, .inl (Nat.le_refl _), fun j z hj => ?_, ?_⟩
    · rw [hW]
      cases j with
      | zero =>
        simp at hj; subst hj
        rw [World.cell?_setCells_out _ _ _ _ _ (fun _ _ => .inl (by show 0 < 1; omega))]
        exact World.cell?_setCells_in _ [.int .i64 x] 0 W1 (fun j hj => hN _ (by simp at hj; omega)) 0 (by simp)
      | succ j =>
        rw [List.getElem?_cons_succ] at hj
        have hjl := (List.getElem?_eq_some_iff.1 hj).1
        have := World.cell?_setCells_in w.heap.size cs 1 (W1.setCells w.heap.size 0 [.int .i64 x]) (fun t ht => isSome_setCells _ _ _ _ (fun t ht => hN _ (by simp at ht; omega)) _ (hN _ (by omega))) j (by omega)
        rw [Nat.add_comm 1 j] at this
        rw [this]
        have e : cs[j]? = some (.int .i64 z) := by rw [hcse, List.getElem?_map, hj]; rfl
        rw [List.getElem?_eq_getElem (by omega)] at e
        exact e
    · rw [hW]
      have m1 : Mvd (fun k => some (⟨V, 0, none⟩ : Addr) = some ⟨k, 0, none⟩) (fun k => some (⟨V, 0, none⟩ : Addr) = some ⟨k, 0, none⟩) w W1 := by rw [hW1]; exact mvd_drew_alloc _ _ _
      have m2 := mvd_setCells w.heap.size [.int .i64 x] 0 W1
      have m3 := mvd_setCells w.heap.size cs 1 (W1.setCells w.heap.size 0 [.int .i64 x])
      have m := m2.trans m3
      refine ⟨m.os.trans m1.os, m.tape.trans m1.tape, m.output.trans m1.output, Nat.le_trans m1.size m.size, fun k hk hn => ?_, fun k hk => .inl hk⟩
      exact (m.block k (Nat.lt_of_lt_of_le hk m1.size) (fun e => by simp at e; try omega)).trans (m1.block k hk hn)
  have HEND : Hid (∀ W : World, W = ((W1.setCells w.heap.size 0 [.int .i64 x]).setCells w.heap.size 1 cs) → InsP (some ⟨V, 0, none⟩) n x l w (.returned (.slice (some ⟨w.heap.size, 0, none⟩) (n + 1) G)) W) := hEND
  subst hW1
  have hE1 : ∀ x, ((w.alloc (.cells ROW 39)).drew).cell? x = (w.drew.alloc (.cells ROW 39)).cell? x := fun x => rfl
  have hE2 : ∀ x, ((w.alloc (.cells ROW 39)).drew).frozen? x = (w.drew.alloc (.cells ROW 39)).frozen? x := fun x => rfl
  have k2 : (n : Int) < (n : Int) + 1 := by omega
  have k5 : ((n : Int) + 1).toNat = n + 1 := by omega
  have k7 : ¬ (G = 0) := fun e => by rw [e] at hGn; exact absurd hGn (by simp)
  have k8 : ¬ (G = 1) := fun e => by rw [e] at hGn; exact absurd (Nat.le_of_succ_le_succ hGn) (Nat.not_le.2 hn)
  have HHH : Hid (1 ≤ n + 1) := by unfold Hid; omega
  clear hold hROW hG hRl hEND hV hcse hN hNf hOb hOv hcs h1c h1v hi0 hz0 hzs hzb hsz hbw hvw hv hl hcl
  have HN1 : Hid (n ≤ 1000) := hn1
  have HG63 : Hid (G ≤ 9223372036854775807 ∧ n + 1 ≤ G) := ⟨hG63, hGn⟩
  have HZ : Hid (∀ ty, (Builtin.append_ #[38, 3] ty #[.slice (some ⟨V, 0, none⟩) 0 n, .int .i64 ((n : Int) + 1)]).run Tryz.prog w = .ok (.slice (some ⟨w.heap.size, 0, none⟩) (n + 1) G) (w.drew.alloc (.cells ROW 39))) := hrz
  have i1' : (0 : Int) ≤ (n : Int) := by omega
  have k1 : wrap64 ((n : Int) + 1) = (n : Int) + 1 := by unfold wrap64; omega
  have HA : Hid (∀ (W : World), (∀ p, W.cell? p = (w.drew.alloc (.cells ROW 39)).cell? p) → (∀ p, W.frozen? p = (w.drew.alloc (.cells ROW 39)).frozen? p) → ∀ ty dc, (Builtin.copy_ #[38, 38] ty #[.slice (some ⟨w.heap.size, 0, none⟩) (n + 1) dc, .slice (some ⟨vb, 0, none⟩) 1 1]).run Tryz.prog W = .ok (goInt ([Value.int .i64 x]).length) (W.setCells w.heap.size 0 [.int .i64 x])) := hcpA
  have HB : Hid (∀ (W : World), (∀ p, W.cell? p = ((w.drew.alloc (.cells ROW 39)).setCells w.heap.size 0 [.int .i64 x]).cell? p) → (∀ p, W.frozen? p = ((w.drew.alloc (.cells ROW 39)).setCells w.heap.size 0 [.int .i64 x]).frozen? p) → ∀ ty dc sc, (Builtin.copy_ #[38, 38] ty #[.slice (some ⟨w.heap.size, 1, none⟩) n dc, .slice (some ⟨V, 0, none⟩) n sc]).run Tryz.prog W = .ok (goInt n) (W.setCells w.heap.size 1 cs)) := hcpB
  have mixed : Tryz.prog.follows .mixedOrders = true := by kernel_rfl
  have k9 : (0 : Int) ≤ (n : Int) + 1 := by omega
  have k10 : (1 : Int) ≤ (n : Int) + 1 := by omega
  have k11 : n + 1 ≤ G := hGn
  have HG1 : Hid (1 ≤ G) := Nat.le_trans (Nat.succ_le_succ (Nat.zero_le n)) hGn
  clear hE1 hE2 hrz hn1 hG63 hGn hcpA hcpB hbN hn
  have hw1 : IntKind.i64.wrap 1 = 1 := by decide
  have hw0 : IntKind.i64.wrap 0 = 0 := by decide
  go_enter Tryz.func80, Tryz.ntmps80
  go_wp2_with (at_builtin; refine Lib.wpList_append_run _ rfl _ _ 38 3 rfl (.slice (some ⟨V, 0, none⟩) 0 n) (.int .i64 ((n : Int) + 1)) (by simp [Act.eval]; done) (by simp [Act.eval, k1]; done) _ _ (HZ.out _) ?_)
  rw [HA.out ((w.alloc (.cells ROW 39)).drew) (fun _ => rfl) (fun _ => rfl)]
  go_wp2
  go_region_law_o (refine step_copy_runI rfl _ _ 38 38 rfl (.slice (some ⟨w.heap.size, 1, none⟩) n (G - 1)) (.slice (some ⟨V, 0, none⟩) n n) (by simp [Act.eval, Act.put]; done) (by simp [Act.eval, Act.put]; done) (HB.out (((w.alloc (.cells ROW 39)).drew.setCells w.heap.size 0 [.int .i64 x]).drew) (fun _ => rfl) (fun _ => rfl) 3 (G - 1) n) ?_)
  go_wp2
  go_ret
  rw [show (((w.alloc (.cells ROW 39)).drew.setCells w.heap.size 0 [.int .i64 x]).drew.setCells w.heap.size 1 cs) = (((w.drew.alloc (.cells ROW 39)).setCells w.heap.size 0 [.int .i64 x]).setCells w.heap.size 1 cs).drew from (drew_setCells _ _ _ _).symm]
  exact (HEND.out _ rfl).drewR
end Go.Proofs.YtpiglmaojonbnaaGreatDoor

/-
  slices.Insert of rows of literals, where there is room; all of it.
-/
namespace Go.Proofs.YtpiglmaojonbnaaGreatDoor
open Go.RowKit Go.Maps Go.Lib

set_option maxHeartbeats 1000000 in
set_option maxRecDepth 100000 in
theorem insert_shift (x : Int) (vb V n c : Nat) (r : List Int) (w : World) (hvb : w.heap[vb]? = some (.cells (rowI [x]) 39 (0, 0))) (hV : w.heap[V]? = some (.cells (rowI r) 39 (0, 0))) (hne : vb ≠ V) (hl : r.length = c) (hn : 0 < n) (hnc : n < c) (hn1 : c ≤ 1000) :
    Calls Tryz.prog 80 #[.slice (some ⟨V, 0, none⟩) n c, .int .i64 0, .slice (some ⟨vb, 0, none⟩) 1 1] w (InsP (some ⟨V, 0, none⟩) n x (r.take n) w) := by
  have k3 : ((0 : Int) = (n : Int)) = False := eq_false (by omega)
  have k4 : ((0 : Int) == (n : Int)) = false := beq_eq_false_iff_ne.2 (by omega)
  have k6 : ¬ (n = 0) := by omega
  have k7 : ¬ (c = 0) := by omega
  have k8 : ¬ (c = 1) := by omega
  have k2 : ((c : Int) < (n : Int) + 1) = False := eq_false (by omega)
  have k5 : ((n : Int) + 1).toNat = n + 1 := by omega
  have k9 : (0 : Int) ≤ (n : Int) + 1 := by omega
  have k10 : (n : Int) + 1 ≤ (c : Int) := by omega
  have k11 : (0 : Int) ≤ (n : Int) := by omega
  have k12 : n + 1 ≤ c := by omega
  have k13 : (1 : Int) ≤ (n : Int) + 1 := by omega
  have hv : w.cell? ⟨vb, 0, none⟩ = some (.int .i64 x) := by rw [cell_of_row w vb _ _ _ (0, 0) hvb]; rfl
  obtain ⟨i0, hi0, hz0, hzs, hzb⟩ := info_parts Tryz.infoLit
  have hsz : (Tryz.prog.info? 39).map (·.size) = some 1 := by rw [hi0]; simp [hzs]
  have hcell : ∀ j y, r[j]? = some y → w.cell? ⟨V, j, none⟩ = some (.int .i64 y) := fun j y hj => by rw [cell_of_row w V _ _ _ (0, 0) hV]; exact rowI_get hj
  have hsp : ∀ j, j < n + 1 → (w.cell? ⟨V, j, none⟩).isSome = true := fun j hj => by rw [hcell j _ (List.getElem?_eq_getElem (by omega))]; rfl
  have hfz : ∀ j, w.frozen? ⟨V, j, none⟩ = false := fun j => frozen_row hV
  have hfv : ∀ j, w.frozen? ⟨vb, j, none⟩ = false := fun j => frozen_row hvb
  have hcl : ((r.take n).map (Value.int .i64)).length = n := by simp; omega
  have hcs : ∀ j v, ((r.take n).map (Value.int .i64))[j]? = some v → w.cell? ⟨V, 0 + j, none⟩ = some v := fun j v hj => by
    rw [List.getElem?_map] at hj
    obtain ⟨y, hy, rfl⟩ := Option.map_eq_some_iff.1 hj
    rw [List.getElem?_take] at hy
    split at hy
    · rw [Nat.zero_add]; exact hcell j y hy
    · cases hy
  have h1c : ∀ v ∈ (r.take n).map (Value.int .i64), v.oneCell' = true := fun u hu => by obtain ⟨x, _, rfl⟩ := List.mem_map.1 hu; rfl
  obtain ⟨cs, hcse⟩ : ∃ cs, cs = (r.take n).map (Value.int .i64) := ⟨_, rfl⟩
  rw [← hcse] at hcs hcl h1c
  have h1v : ∀ v ∈ [Value.int .i64 x], v.oneCell' = true := by intro v hv; simp at hv; subst hv; rfl
  have hsa : w.shape? vb = some (39, (rowI [x]).size) := by simp [World.shape?, hvb]
  have hsb : w.shape? V = some (39, (rowI r).size) := by simp [World.shape?, hV]
  have hkB : (rowI r).size ≠ 0 := by simp [rowI]; intro e; rw [e] at hl; simp at hl; omega
  have hov : ∀ lb cb, (callFunc 84 #[.slice (some ⟨vb, 0, none⟩) 1 1, .slice (some ⟨V, 1, none⟩) lb cb]).run Tryz.prog w = .ok (.value (.bool false)) w := fun lb cb => by
    rw [run_callFunc_extern Tryz.func84 (by kernel_rfl) (by kernel_rfl) (by kernel_rfl) (e := Extern.SlicesOverlaps.overlaps #[38, 38] #[4]) (by kernel_rfl),
      Lib.run_overlaps_apart w 38 4 39 Tryz.underlying38 1 (fun w => by simp [Go.sizeOf, typeInfo, hi0, hzs]) ⟨vb, 0, none⟩ ⟨V, 1, none⟩ 1 1 lb cb hne _ _ _ _ hsa hsb hkB (hfv _) (hfv _)]
    rfl
  have hcp1 : ∀ ty dc sc, (Builtin.copy_ #[38, 38] ty #[.slice (some ⟨V, 1, none⟩) n dc, .slice (some ⟨V, 0, none⟩) (n + 1) sc]).run Tryz.prog w.drew = .ok (goInt n) (w.drew.setCells V 1 cs) := fun ty dc sc => by
    have := run_copy_cells w.drew 38 38 ty 39 V 1 n dc ⟨V, 0, none⟩ (n + 1) sc cs Tryz.underlying38 hsz (by rw [hcl]; simp only [Nat.min_def]; split <;> omega)
      (fun j v hj => by rw [Addr.add_lit]; exact hcs j v hj)
      (fun j hj => hsp _ (by omega)) (fun j hj => hfz _) h1c
    rw [hcl] at this
    exact this
  obtain ⟨W1, hW1⟩ : ∃ W1, W1 = w.drew.setCells V 1 cs := ⟨_, rfl⟩
  have hsp1 : ∀ k, k < n + 1 → (W1.cell? ⟨V, k, none⟩).isSome = true := fun k hk => by
    rw [hW1]
    exact isSome_setCells V cs 1 w.drew (fun j hj => hsp (1 + j) (by omega)) k (hsp k hk)
  have hcp2 : ∀ (W : World), (∀ p, W.cell? p = W1.cell? p) → (∀ p, W.frozen? p = W1.frozen? p) → ∀ ty dc, (Builtin.copy_ #[38, 38] ty #[.slice (some ⟨V, 0, none⟩) (n + 1) dc, .slice (some ⟨vb, 0, none⟩) 1 1]).run Tryz.prog W = .ok (goInt ([Value.int .i64 x]).length) (W.setCells V 0 [.int .i64 x]) := fun W hWc hWf ty dc =>
    run_copy_cells W 38 38 ty 39 V 0 (n + 1) dc ⟨vb, 0, none⟩ 1 1 [.int .i64 x] Tryz.underlying38 hsz (by simp only [Nat.min_def, List.length_cons, List.length_nil]; split <;> omega)
      (fun j v hj => by
        obtain rfl : j = 0 := by have := (List.getElem?_eq_some_iff.1 hj).1; simp at this; exact this
        simp at hj; subst hj
        rw [Addr.add_lit, hWc, hW1, World.cell?_setCells_out V _ _ _ _ (fun h _ => absurd h hne)]
        exact hv)
      (fun j hj => by rw [hWc]; exact hsp1 _ (by simp at hj; omega)) (fun j hj => by rw [hWf, hW1, World.frozen?_setCells]; exact hfz _) h1v
  have hEND : InsP (some ⟨V, 0, none⟩) n x (r.take n) w (.returned (.slice (some ⟨V, 0, none⟩) (n + 1) c)) (W1.setCells V 0 [.int .i64 x]) := by
    refine ⟨V, c, rfl, .inr rfl, fun j z hj => ?_, ?_⟩
    · cases j with
      | zero =>
        simp at hj; subst hj
        exact World.cell?_setCells_in _ [.int .i64 x] 0 W1 (fun j hj => hsp1 _ (by simp at hj; omega)) 0 (by simp)
      | succ j =>
        rw [List.getElem?_cons_succ] at hj
        have e : cs[j]? = some (.int .i64 z) := by rw [hcse, List.getElem?_map, hj]; rfl
        have hjl := (List.getElem?_eq_some_iff.1 e).1
        rw [World.cell?_setCells_out _ _ _ _ _ (fun _ _ => .inr (by show 0 + 1 ≤ j + 1; omega)), hW1]
        have := World.cell?_setCells_in V cs 1 w.drew (fun t ht => hsp _ (by omega)) j (by omega)
        rw [Nat.add_comm 1 j] at this
        rw [this]
        rw [List.getElem?_eq_getElem hjl] at e
        exact e
    · rw [hW1]
      have m0 : Mvd (fun k => some (⟨V, 0, none⟩ : Addr) = some ⟨k, 0, none⟩) (fun k => some (⟨V, 0, none⟩ : Addr) = some ⟨k, 0, none⟩) w w.drew := ⟨rfl, rfl, rfl, Nat.le_refl _, fun _ _ _ => rfl, fun _ h => .inl h⟩
      exact (m0.trans (mvd_setCells V cs 1 w.drew)).trans (mvd_setCells V [.int .i64 x] 0 _)
  have HEND : Hid (InsP (some ⟨V, 0, none⟩) n x (r.take n) w (.returned (.slice (some ⟨V, 0, none⟩) (n + 1) c)) (W1.setCells V 0 [.int .i64 x])) := hEND
  rw [← hW1] at hcp1
  have HA : Hid (∀ ty dc sc, (Builtin.copy_ #[38, 38] ty #[.slice (some ⟨V, 1, none⟩) n dc, .slice (some ⟨V, 0, none⟩) (n + 1) sc]).run Tryz.prog w.drew = .ok (goInt n) W1) := hcp1
  have HB : Hid (∀ ty dc, (Builtin.copy_ #[38, 38] ty #[.slice (some ⟨V, 0, none⟩) (n + 1) dc, .slice (some ⟨vb, 0, none⟩) 1 1]).run Tryz.prog W1 = .ok (goInt ([Value.int .i64 x]).length) (W1.setCells V 0 [.int .i64 x])) := hcp2 W1 (fun _ => rfl) (fun _ => rfl)
  have hw1 : IntKind.i64.wrap 1 = 1 := by decide
  have hw0 : IntKind.i64.wrap 0 = 0 := by decide
  have mixed : Tryz.prog.follows .mixedOrders = true := by kernel_rfl
  have k1 : wrap64 ((n : Int) + 1) = (n : Int) + 1 := by unfold wrap64; omega
  clear hcp1 hcp2 hEND hW1 hsp1 hsp hfz hfv hcl hcs h1c h1v hcse hsa hsb hkB hsz hi0 hz0 hzs hzb hv hvb hV hne hl hn hnc hn1 hcell
  go_enter Tryz.func80, Tryz.ntmps80
  go_wp2_with (simp only [hov])
  go_region_law_o (refine step_copy_runI rfl _ _ 38 38 rfl (.slice (some ⟨V, 1, none⟩) n (c - 1)) (.slice (some ⟨V, 0, none⟩) (n + 1) c) (by simp [Act.eval, Act.put]; done) (by simp [Act.eval, Act.put]; done) (HA.out _ _ _) ?_)
  go_wp2
  rw [HB.out]
  go_wp2
  go_ret
  exact HEND.out
end Go.Proofs.YtpiglmaojonbnaaGreatDoor
namespace Go.Proofs.YtpiglmaojonbnaaGreatDoor
open Go.RowKit Go.Maps Go.Lib

/-- What is left, as it lies ahead of an Insert. -/
def RestAt (w : World) (o : Option Addr) (n c : Nat) (l : List Int) : Prop :=
  (o = none ∧ n = 0 ∧ c = 0 ∧ l = []) ∨ ∃ V r, o = some ⟨V, 0, none⟩ ∧ w.heap[V]? = some (.cells (rowI r) 39 (0, 0)) ∧ r.length = c ∧ 0 < c ∧ c ≤ 1000 ∧ n ≤ c ∧ l = r.take n
theorem insert_any (x : Int) (vb n c : Nat) (o : Option Addr) (l : List Int) (w : World) (h : RestAt w o n c l) (hvb : w.heap[vb]? = some (.cells (rowI [x]) 39 (0, 0))) (hne : o ≠ some ⟨vb, 0, none⟩) :
    Calls Tryz.prog 80 #[.slice o n c, .int .i64 0, .slice (some ⟨vb, 0, none⟩) 1 1] w (InsP o n x l w) := by
  have hv : w.cell? ⟨vb, 0, none⟩ = some (.int .i64 x) := by rw [cell_of_row w vb _ _ _ (0, 0) hvb]; rfl
  rcases h with ⟨rfl, rfl, rfl, rfl⟩ | ⟨V, r, rfl, hV, hr, hc, hc1, hn, rfl⟩
  · exact insert_nil x vb w hv
  · have hneV : vb ≠ V := fun e => hne (by rw [e])
    rcases Nat.eq_zero_or_pos n with h0 | h0
    · subst h0; rw [List.take_zero]; exact insert_room x vb V c r w hv hV hr hc
    · rcases Nat.eq_or_lt_of_le hn with e | e
      · subst e; rw [List.take_of_length_le (by omega)]; exact insert_grow x vb V n r w hv hV hr h0 hc1
      · exact insert_shift x vb V n c r w hvb hV hneV hr h0 e hc1
end Go.Proofs.YtpiglmaojonbnaaGreatDoor

/-
  DIVISION AS ON PAPER, as mathematics: one bit more is taken down.
-/
namespace Go.Proofs.YtpiglmaojonbnaaGreatDoor
open Go.RowKit Go.Maps

theorem natF_cons (f : Nat → Bool) : ∀ n, natF f (n + 1) = bI (f 0) + 2 * natF (fun j => f (j + 1)) n
  | 0 => by simp [natF]
  | n + 1 => by
    have e1 : natF f (n + 1 + 1) = natF f (n + 1) + bI (f (n + 1)) * 2 ^ (n + 1) := rfl
    have e2 : natF (fun j => f (j + 1)) (n + 1) = natF (fun j => f (j + 1)) n + bI (f (n + 1)) * 2 ^ n := rfl
    have e3 : bI (f (n + 1)) * (2 * 2 ^ n) = 2 * (bI (f (n + 1)) * 2 ^ n) := by rw [Int.mul_left_comm]
    rw [e1, e2, natF_cons f n, two_succ, e3]; omega
theorem natF_part (f : Nat → Bool) (m : Nat) : ∀ k, natF f (m + k) = natF f m + 2 ^ m * natF (fun j => f (m + j)) k
  | 0 => by simp [natF]
  | k + 1 => by
    have e1 : natF f (m + (k + 1)) = natF f (m + k) + bI (f (m + k)) * 2 ^ (m + k) := rfl
    have e2 : natF (fun j => f (m + j)) (k + 1) = natF (fun j => f (m + j)) k + bI (f (m + k)) * 2 ^ k := rfl
    have e3 : bI (f (m + k)) * (2 ^ m * 2 ^ k) = 2 ^ m * (bI (f (m + k)) * 2 ^ k) := by rw [Int.mul_left_comm]
    rw [e1, e2, natF_part f m k, Int.pow_add, e3, Int.mul_add]; omega
theorem natF_cut (f : Nat → Bool) {m t : Nat} (hm : m ≤ t) (h : natF f t < 2 ^ m) : natF f m = natF f t := by
  obtain ⟨k, rfl⟩ : ∃ k, t = m + k := ⟨t - m, by omega⟩
  have hs := natF_part f m k
  have h0 := (natF_lt f m).1
  have hp := two_pos m
  have hX := (natF_lt (fun j => f (m + j)) k).1
  rcases Int.lt_or_le 0 (natF (fun j => f (m + j)) k) with h1 | h1
  · have := Int.mul_le_mul_of_nonneg_left (show (1 : Int) ≤ natF (fun j => f (m + j)) k from h1) (Int.le_of_lt hp)
    omega
  · have e : natF (fun j => f (m + j)) k = 0 := by omega
    rw [e] at hs; simp at hs; exact hs.symm
theorem natF_zeros (f : Nat → Bool) {m t : Nat} (hm : m ≤ t) (h : ∀ j, m ≤ j → j < t → f j = false) : natF f t = natF f m := by
  obtain ⟨k, rfl⟩ : ∃ k, t = m + k := ⟨t - m, by omega⟩
  have e : natF (fun j => f (m + j)) k = natF (fun _ => false) k := natF_congr fun i hi => h (m + i) (by omega) (by omega)
  have z : ∀ k, natF (fun _ => false) k = 0 := fun k => by
    induction k with
    | zero => rfl
    | succ k ih => show natF (fun _ => false) k + bI false * 2 ^ k = 0; rw [ih]; simp [bI]
  rw [natF_part, e, z]; simp
/-- One bit is taken down. -/
theorem div_step (a b q r : Nat → Bool) (i n most : Nat) (hi : i < 8) (hn : n + 1 ≤ 8) (hm : most ≤ 8) (hb : ∀ j, most ≤ j → j < 8 → b j = false)
    (hA : natF (fun j => a (i + 1 + j)) (8 - (i + 1)) = natF q (8 - (i + 1)) * natF b 8 + natF r n) (hR : natF r n < natF b 8)
    (r' r'' q' : Nat → Bool) (h0 : r' 0 = a i) (h1 : ∀ j, r' (j + 1) = r j)
    (en : Bool) (hen : en = cry r' (fun j => !b j) true (n + 1)) (x : Bool) (hx : x = (en && !orF (fun j => b (n + 1 + j)) (8 - (n + 1))))
    (hr : ∀ j, j < n + 1 → r'' j = if x = true then smB r' (fun j => !b j) true j else r' j) (hq0 : q' 0 = x) (hq1 : ∀ j, q' (j + 1) = q j) :
    natF (fun j => a (i + j)) (8 - i) = natF q' (8 - i) * natF b 8 + natF r'' (min (n + 1) most) ∧ natF r'' (min (n + 1) most) < natF b 8 := by
  have eA : natF (fun j => a (i + j)) (8 - i) = bI (a i) + 2 * natF (fun j => a (i + 1 + j)) (8 - (i + 1)) := by
    rw [show 8 - i = (8 - (i + 1)) + 1 by omega, natF_cons]
    congr 2
    exact natF_congr fun j _ => by show a (i + (j + 1)) = a (i + 1 + j); congr 1; omega
  have eQ : natF q' (8 - i) = bI x + 2 * natF q (8 - (i + 1)) := by
    rw [show 8 - i = (8 - (i + 1)) + 1 by omega, natF_cons, hq0]
    congr 2
    exact natF_congr fun j _ => hq1 j
  have eR : natF r' (n + 1) = bI (a i) + 2 * natF r n := by
    rw [natF_cons, h0]
    congr 2
    exact natF_congr fun j _ => h1 j
  have hs := sum_nat r' (fun j => !b j) true (n + 1)
  rw [natF_not, ← hen] at hs
  have sl := natF_lt (smB r' (fun j => !b j) true) (n + 1)
  have rl := natF_lt r' (n + 1)
  have bl := natF_lt b (n + 1)
  have hB := natF_part b (n + 1) (8 - (n + 1))
  rw [show n + 1 + (8 - (n + 1)) = 8 by omega] at hB
  have hH := natF_lt (fun j => b (n + 1 + j)) (8 - (n + 1))
  rw [orF_nat] at hx
  have e1 : bI true = 1 := rfl
  rw [e1] at hs
  have key : natF r' (n + 1) = bI x * natF b 8 + natF r'' (n + 1) ∧ natF r'' (n + 1) < natF b 8 := by
    have hai : bI (a i) = 0 ∨ bI (a i) = 1 := by cases a i <;> simp [bI]
    by_cases hz : natF (fun j => b (n + 1 + j)) (8 - (n + 1)) = 0
    · rw [hz] at hB hx
      have hB' : natF b 8 = natF b (n + 1) := by simpa using hB
      simp at hx
      subst hx
      cases x with
      | true =>
        have er : natF r'' (n + 1) = natF (smB r' (fun j => !b j) true) (n + 1) := natF_congr fun j hj => by rw [hr j hj]; simp
        rw [e1] at hs
        rw [er, e1, hB']
        omega
      | false =>
        have er : natF r'' (n + 1) = natF r' (n + 1) := natF_congr fun j hj => by rw [hr j hj]; simp
        have e0 : bI false = 0 := rfl
        rw [e0] at hs
        rw [er, e0, hB']
        omega
    · have hx' : x = false := by rw [hx, decide_eq_true hz]; simp
      subst hx'
      have er : natF r'' (n + 1) = natF r' (n + 1) := natF_congr fun j hj => by rw [hr j hj]; simp
      have e0 : bI false = 0 := rfl
      have := Int.mul_le_mul_of_nonneg_left (show (1 : Int) ≤ natF (fun j => b (n + 1 + j)) (8 - (n + 1)) by omega) (Int.le_of_lt (two_pos (n + 1)))
      rw [er, e0]
      omega
  have hcut : natF r'' (min (n + 1) most) = natF r'' (n + 1) := by
    rcases Nat.le_total (n + 1) most with h | h
    · rw [Nat.min_eq_left h]
    · rw [Nat.min_eq_right h]
      refine natF_cut r'' h ?_
      have hbm := natF_zeros b hm hb
      have := (natF_lt b most).2
      omega
  rw [hcut]
  refine ⟨?_, key.2⟩
  rw [eA, eQ, hA, Int.add_mul, Int.mul_add, Int.mul_assoc 2]
  omega
end Go.Proofs.YtpiglmaojonbnaaGreatDoor
