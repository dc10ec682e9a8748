/-
  package word: sum BY CONTRACT.
-/
import Derived.Test.YtpiglmaojonbnaaGreatDoorP11
import Derived.Test.YtpiglmaojonbnaaGreatDoorP07
import Derived.Handy
import Derived.Deep.QuietTactic
import Derived.BigQuiet
import Derived.WalkSmall
import Derived.LoopTactic
import Derived.Deep.RegionLaw
namespace Go.Proofs.YtpiglmaojonbnaaGreatDoor
open Go.RowKit Go.Maps

set_option maxRecDepth 100000 in
set_option maxHeartbeats 4000000 in
theorem sum_any {G : Nat} {gs : List (Int × Int)} {ins : Nat} {F : Nat → Prop} {w : World} (h : GrAt G gs ins F w) (va vb : Value) (a b : List Int) (hva : LitsAt F w va a) (hvb : LitsAt F w vb b) (hab : b.length = a.length) (ha : ∀ x ∈ a, HasL gs x) (hb : ∀ x ∈ b, HasL gs x) (c : Int) (hc : HasL gs c) (hl : gs.length + 9 * a.length < 88000) :
    Calls Tryz.prog 39 #[.agg #[.pointer (some ⟨G, 0, none⟩)], va, vb, .int .i64 c] w fun e w' => ∃ V out c' gs' F', e = .returned (.tuple #[.slice (some ⟨V, 0, none⟩) a.length a.length, .int .i64 c']) ∧ out.length = a.length ∧ w.heap.size ≤ V ∧ w'.heap[V]? = some (.cells (rowI out) 39 (0, 0)) ∧ ¬ F' V ∧ GrAt G gs' ins F' w' ∧ Mvd F F' w w' ∧ Mads gs gs' (9 * a.length) out (fun inp => smB (bitsL gs inp a) (bitsL gs inp b) (valL gs inp c)) ∧ HasL gs' c' ∧ ∀ inp, valL gs' inp c' = cry (bitsL gs inp a) (bitsL gs inp b) (valL gs inp c) a.length := by
  obtain ⟨i0, hi0, hz0, hz1, hz2⟩ := info_parts Tryz.infoLit
  have HVA : Hid (LitsAt F w va a) := hva
  have HVB : Hid (LitsAt F w vb b) := hvb
  obtain ⟨hla, oa, cca, rfl, -⟩ := hva
  obtain ⟨hlb, ob, ccb, rfl, -⟩ := hvb
  have HBY : Hid (i0.bytes * a.length ≤ 281474976710656) := by unfold Hid; rw [hz2]; omega
  have HMX : Hid (a.length ≤ maxLen) := by unfold Hid maxLen; omega
  have HLL : Hid (a.length ≤ 1000) := hla
  have HL : Hid (gs.length + 9 * a.length < 88000) := hl
  have HA : Hid (∀ x ∈ a, HasL gs x) := ha
  have HB : Hid (∀ x ∈ b, HasL gs x) := hb
  have HC : Hid (HasL gs c) := hc
  have HAB : Hid (b.length = a.length) := hab
  have hF := h.2.2.1
  have HF0 : Hid (¬ F w.heap.size) := fun hf => by have := hF _ hf; omega
  have HF1 : Hid (¬ F (w.heap.size + 1)) := fun hf => by have := hF _ hf; omega
  have hb1 : Below w.heap.size w (w.alloc (.cells #[.pointer (some ⟨G, 0, none⟩)] 60)) := (Below.refl _ _).alloc (Nat.le_refl _) _
  have HBW : Hid (Below w.heap.size w (w.alloc (.cells #[.pointer (some ⟨G, 0, none⟩)] 60))) := hb1
  have HRM : Hid ((w.alloc (.cells #[.pointer (some ⟨G, 0, none⟩)] 60)).heap[w.heap.size]? = some (.cells #[.pointer (some ⟨G, 0, none⟩)] 60 (0, 0))) := heap_alloc_new _ _
  have HG : Hid (GrAt G gs ins F w) := h
  have HS0 : Hid ((w.alloc (.cells #[.pointer (some ⟨G, 0, none⟩)] 60)).heap.size = w.heap.size + 1) := by unfold Hid; simp
  clear hla hlb hl ha hb hc hF hb1 h hab
  go_enter Tryz.func39, Tryz.ntmps39
  go_wp2_with (first
    | (at_make; refine wpList_make_full _ rfl _ _ 38 rfl 0 39 i0 _ 1 Tryz.underlying38 hi0 hz0 hz1 .i64 .i64 _ _ a.length rfl rfl (by simp) (by simp) HBY.out HMX.out (Nat.zero_le _) ?_; intro w1 hown1 hgr1)
    | go_in)
  have hV1 := made_lits hown1
  rw [HS0.out] at hV1
  have hb2 : Below (w.heap.size + 1) (w.alloc (.cells #[.pointer (some ⟨G, 0, none⟩)] 60)) w1 := ⟨hgr1.os, hgr1.tape, hgr1.output, hgr1.size, fun k hk => hgr1.block k (by rw [HS0.out]; exact hk) (by simp)⟩
  have HR1 : Hid (w1.heap[w.heap.size + 1]? = some (.cells (rowI (rowP [] a.length)) 39 (0, 0))) := hV1
  have HB1 : Hid (Below w.heap.size w w1) := HBW.out.trans (hb2.mono (by omega))
  have HM1 : Hid (w1.heap[w.heap.size]? = some (.cells #[.pointer (some ⟨G, 0, none⟩)] 60 (0, 0))) := by unfold Hid; rw [hb2.block _ (by omega)]; exact HRM.out
  clear hown1 hgr1 hV1 hi0 hz0 hz1 hz2 HBY HMX hb2 HBW HRM HS0
  go_loopw [3, 18] (fun cv t wr => ∃ (j : Nat) (cj : Int) (os : List Int) (gj : List (Int × Int)) (Fj : Nat → Prop), j ≤ a.length ∧ os.length = j ∧ t = .int .i64 j ∧ cv = .int .i64 cj ∧
    wr.cell? ⟨w.heap.size, 0, none⟩ = some (.pointer (some ⟨G, 0, none⟩)) ∧ ¬ Fj w.heap.size ∧ wr.heap[w.heap.size + 1]? = some (.cells (rowI (rowP os a.length)) 39 (0, 0)) ∧ ¬ Fj (w.heap.size + 1) ∧
    GrAt G gj ins Fj wr ∧ Mvd F Fj w wr ∧ Mads gs gj (9 * j) os (fun inp => smB (bitsL gs inp a) (bitsL gs inp b) (valL gs inp c)) ∧ HasL gj cj ∧ ∀ inp, valL gj inp cj = cry (bitsL gs inp a) (bitsL gs inp b) (valL gs inp c) j) (fun _ t _ => a.length - (intOf t).toNat)
  case atStart => exact ⟨0, c, [], gs, F, Nat.zero_le _, rfl, rfl, rfl, by rw [cell_of_row w1 _ 0 _ _ (0, 0) HM1.out]; rfl, HF0.out, HR1.out, HF1.out, HG.out.below HB1.out, Mvd.of_below HB1.out, Mads.nil (Ext.refl _) (by omega) _, HC.out, fun _ => rfl⟩
  case round =>
    obtain ⟨j, cj, os, gj, Fj, hj, hos, rfl, rfl, hrM, hnM, hrV, hnV, hG, hM, hD, hcj, hvc⟩ := hrel
    by_cases hjl : j < a.length
    · obtain ⟨x, hx⟩ : ∃ x, a[j]? = some x := ⟨_, List.getElem?_eq_getElem hjl⟩
      obtain ⟨y, hy⟩ : ∃ y, b[j]? = some y := ⟨_, List.getElem?_eq_getElem (by have := HAB.out; omega)⟩
      obtain ⟨-, oa', ca', ea, hca⟩ := HVA.out.move hM
      obtain ⟨-, ob', cb', eb, hcb⟩ := HVB.out.move hM
      obtain ⟨ba, fa, rfl, hna, hcx⟩ := hca j x hx
      obtain ⟨bb, fb, rfl, hnb, hcy⟩ := hcb j y hy
      obtain ⟨rfl, rfl⟩ : oa = some ⟨ba, fa, none⟩ ∧ cca = ca' := by simpa using ea
      obtain ⟨rfl, rfl⟩ : ob = some ⟨bb, fb, none⟩ ∧ ccb = cb' := by simpa using eb
      have cM := hrM
      have i0' : (0 : Int) ≤ (j : Int) := by omega
      have i1' : (j : Int) < (a.length : Int) := by omega
      have i2' : (j : Int) < (b.length : Int) := by have := HAB.out; omega
      have N4 : Hid (wrap64 ((j : Int) + 1) = (j : Int) + 1) := by have := HLL.out; unfold Hid wrap64; omega
      have HJ : Hid (j < a.length) := hjl
      have HOS : Hid (os.length = j) := hos
      have HG1 : Hid (GrAt G gj ins Fj wr) := hG
      have HMv : Hid (Mvd F Fj w wr) := hM
      have HD : Hid (Mads gs gj (9 * j) os _) := hD
      have HCJ : Hid (HasL gj cj) := hcj
      have HVC : Hid (∀ inp, valL gj inp cj = cry (bitsL gs inp a) (bitsL gs inp b) (valL gs inp c) j) := hvc
      have HX0 : Hid (HasL gj x) := (HA.out x (List.mem_of_getElem? hx)).ext hD.ext
      have HY0 : Hid (HasL gj y) := (HB.out y (List.mem_of_getElem? hy)).ext hD.ext
      have HVX : Hid (∀ inp, valL gj inp x = bitsL gs inp a j) := fun inp => by rw [bitsL_get hx, hD.ext.val inp (HA.out x (List.mem_of_getElem? hx))]
      have HVY : Hid (∀ inp, valL gj inp y = bitsL gs inp b j) := fun inp => by rw [bitsL_get hy, hD.ext.val inp (HB.out y (List.mem_of_getElem? hy))]
      have HLj : Hid (gj.length ≤ gs.length + 9 * j) := hD.len
      have HL1 : Hid (gj.length + 9 < 89000) := by have := HL.out; have := HLj.out; unfold Hid; omega
      have HnM : Hid (¬ Fj w.heap.size) := hnM
      have HnV : Hid (¬ Fj (w.heap.size + 1)) := hnV
      have Hna : Hid (¬ Fj ba) := hna
      have Hnb : Hid (¬ Fj bb) := hnb
      have HrV : Hid (wr.heap[w.heap.size + 1]? = some (.cells (rowI (rowP os a.length)) 39 (0, 0))) := hrV
      have hba : ba < w.heap.size := by
        obtain ⟨_, _, _, e1, h1⟩ := HVA.out
        obtain ⟨b1, f1, e2, _, h2⟩ := h1 j x hx
        have : b1 = ba := by simp at e1; rw [← e1.1] at e2; simp at e2; exact e2.1.symm
        subst this
        exact cell_in h2
      have hbb : bb < w.heap.size := by
        obtain ⟨_, _, _, e1, h1⟩ := HVB.out
        obtain ⟨b1, f1, e2, _, h2⟩ := h1 j y hy
        have : b1 = bb := by simp at e1; rw [← e1.1] at e2; simp at e2; exact e2.1.symm
        subst this
        exact cell_in h2
      have Nab : Hid (ba ≠ w.heap.size + 1 ∧ bb ≠ w.heap.size + 1) := by unfold Hid; omega
      clear hj hos hrM hnM hrV hnV hG hM hD hcj hvc hjl hx hy hca hcb hna hnb ea eb hba hbb
      go_wp2
      go_region_held3 (fun w' => w'.cell? ⟨w.heap.size, 0, none⟩ = some (.pointer (some ⟨G, 0, none⟩)) ∧ w'.cell? ⟨ba, fa + j, none⟩ = some (.int .i64 x) ∧ w'.cell? ⟨bb, fb + j, none⟩ = some (.int .i64 y)) ((first | go_keep | exact ⟨q0, q1, q2⟩))
        (first
          | (go_at_call 58; refine (mxor_any (by exact HG1.out) (by have := HL1.out; omega) _ _ HX0.out HY0.out).mono ?_; rintro e w2 ⟨x1, g1, F1, rfl, G1, M1, D1⟩; have q0 := (M1.cell (by exact cM) HnM.out).1; have q1 := (M1.cell (by exact hcx) Hna.out).1; have q2 := (M1.cell (by exact hcy) Hnb.out).1))
      have HD1 : Hid (Mad gj g1 3 x1 _) := D1
      have HG2 : Hid (GrAt G g1 ins F1 w2) := G1
      have HM2 : Hid (Mvd F F1 w w2) := HMv.out.trans M1.undrew
      have HX1 : Hid (HasL g1 x1) := D1.has
      have HC1 : Hid (HasL g1 cj) := HCJ.out.ext D1.ext
      have HL2 : Hid (g1.length + 6 < 89000) := by have := HL1.out; have := D1.len; unfold Hid; omega
      have kV := (M1.undrew).rowKept HrV.out HnV.out
      have n0 := (M1.cell (by exact cM) HnM.out).2
      have n1 := (M1.cell (by exact hcx) Hna.out).2
      have n2 := (M1.cell (by exact hcy) Hnb.out).2
      have HrV2 : Hid (w2.heap[w.heap.size + 1]? = some (.cells (rowI (rowP os a.length)) 39 (0, 0))) := kV.1
      have HnV2 : Hid (¬ F1 (w.heap.size + 1)) := kV.2
      have HnM2 : Hid (¬ F1 w.heap.size) := n0
      have Hna2 : Hid (¬ F1 ba) := n1
      have Hnb2 : Hid (¬ F1 bb) := n2
      clear D1 G1 M1 kV n0 n1 n2 cM hcx hcy
      go_wp2_with (go_at_call 58; refine (mxor_any HG2.out (by have := HL2.out; omega) _ _ HX1.out HC1.out).mono ?_; rintro e w3 ⟨x2, g2, F2, rfl, G2, M3, D2⟩; have r0 := (M3.cell q0 HnM2.out).1; have r1 := (M3.cell q1 Hna2.out).1; have r2 := (M3.cell q2 Hnb2.out).1; have kV := (M3.rowKept HrV2.out HnV2.out); have fV : w3.frozen? ⟨w.heap.size + 1, j, none⟩ = false := frozen_row kV.1; have cV := rowP_cell kV.1 (by rw [HOS.out]; exact HJ.out); rw [HOS.out] at cV)
      have n0 := (M3.cell q0 HnM2.out).2
      have n1 := (M3.cell q1 Hna2.out).2
      have n2 := (M3.cell q2 Hnb2.out).2
      obtain ⟨w4, hw4⟩ : ∃ w4, w4 = w3.setCell ⟨w.heap.size + 1, j, none⟩ (.int .i64 x2) := ⟨_, rfl⟩
      have s0 : w4.cell? ⟨w.heap.size, 0, none⟩ = some (.pointer (some ⟨G, 0, none⟩)) := by rw [hw4, cell_apart (by simp)]; exact r0
      have s1 : w4.cell? ⟨ba, fa + j, none⟩ = some (.int .i64 x) := by rw [hw4, cell_apart Nab.out.1]; exact r1
      have s2 : w4.cell? ⟨bb, fb + j, none⟩ = some (.int .i64 y) := by rw [hw4, cell_apart Nab.out.2]; exact r2
      have hst := rowP_store kV.1 (by rw [HOS.out]; exact HJ.out) x2
      rw [HOS.out, ← hw4] at hst
      have HG4 : Hid (GrAt G g2 ins F2 w4) := by unfold Hid; rw [hw4]; exact G2.set kV.2 _ _
      have HM4 : Hid (Mvd F F2 w w4) := by unfold Hid; rw [hw4]; exact (HM2.out.trans M3).set (by omega) _
      have HrV4 : Hid (w4.heap[w.heap.size + 1]? = some (.cells (rowI (rowP (os ++ [x2]) a.length)) 39 (0, 0))) := hst
      have HrM4 : Hid (w4.cell? ⟨w.heap.size, 0, none⟩ = some (.pointer (some ⟨G, 0, none⟩))) := s0
      have HnV4 : Hid (¬ F2 (w.heap.size + 1)) := kV.2
      have HnM4 : Hid (¬ F2 w.heap.size) := n0
      have Hna4 : Hid (¬ F2 ba) := n1
      have Hnb4 : Hid (¬ F2 bb) := n2
      have HD2 : Hid (Mad g1 g2 3 x2 _) := D2
      have HE2 : Hid (Ext gj g2) := HD1.out.ext.trans D2.ext
      have HX2 : Hid (HasL g2 x) := HX0.out.ext HE2.out
      have HY2 : Hid (HasL g2 y) := HY0.out.ext HE2.out
      have HX12 : Hid (HasL g2 x1) := HX1.out.ext D2.ext
      have HC2 : Hid (HasL g2 cj) := HC1.out.ext D2.ext
      have HL4 : Hid (g2.length + 3 < 89000) := by have := HL2.out; have := D2.len; unfold Hid; omega
      rw [← hw4]
      clear hw4 hst kV n0 n1 n2 D2 G2 M3 r0 r1 r2 q0 q1 q2 fV cV
      go_region_held3 (fun w' => w'.cell? ⟨w.heap.size, 0, none⟩ = some (.pointer (some ⟨G, 0, none⟩)) ∧ w'.cell? ⟨ba, fa + j, none⟩ = some (.int .i64 x) ∧ w'.cell? ⟨bb, fb + j, none⟩ = some (.int .i64 y)) ((first | go_keep | exact ⟨z0, z1, z2⟩ | exact ⟨y0, y1, y2⟩ | exact ⟨t0, t1, t2⟩))
        (first
          | (go_at_call 59; refine (mor_any (by exact HG6.out) (by have := HL6.out; omega) _ _ HX3.out HX4.out).mono ?_; rintro e w7 ⟨x5, g5, F5, rfl, G5, M7, D5⟩; have n0 := M7.cell (by exact y0) m0.2; have n1 := M7.cell (by exact y1) m1.2; have n2 := M7.cell (by exact y2) m2.2; have z0 := n0.1; have z1 := n1.1; have z2 := n2.1)
          | (go_at_call 36; refine (mand_any (by exact HG5.out) (by have := HL5.out; omega) _ _ HX13.out HC3.out).mono ?_; rintro e w6 ⟨x4, g4, F4, rfl, G4, M6, D4⟩; have m0 := M6.cell (by exact t0) k0.2; have m1 := M6.cell (by exact t1) k1.2; have m2 := M6.cell (by exact t2) k2.2; have y0 := m0.1; have y1 := m1.1; have y2 := m2.1; have HG6 : Hid (GrAt G g4 ins F4 w6) := G4; have HX3 : Hid (HasL g4 x3) := HX3'.out.ext D4.ext; have HX4 : Hid (HasL g4 x4) := D4.has; have HL6 : Hid (g4.length + 1 < 89000) := (by have := HL5.out; have := D4.len; unfold Hid; omega); have HD4 : Hid (Mad g3 g4 1 x4 _) := D4)
          | (go_at_call 36; refine (mand_any (by exact HG4.out) (by have := HL4.out; omega) _ _ HX2.out HY2.out).mono ?_; rintro e w5 ⟨x3, g3, F3, rfl, G3, M5, D3⟩; have k0 := M5.cell (by exact s0) HnM4.out; have k1 := M5.cell (by exact s1) Hna4.out; have k2 := M5.cell (by exact s2) Hnb4.out; have t0 := k0.1; have t1 := k1.1; have t2 := k2.1; have HG5 : Hid (GrAt G g3 ins F3 w5) := G3; have HX13 : Hid (HasL g3 x1) := HX12.out.ext D3.ext; have HC3 : Hid (HasL g3 cj) := HC2.out.ext D3.ext; have HX3' : Hid (HasL g3 x3) := D3.has; have HL5 : Hid (g3.length + 2 < 89000) := (by have := HL4.out; have := D3.len; unfold Hid; omega); have HD3 : Hid (Mad g2 g3 1 x3 _) := D3))
      have hM5 := M5.undrew
      have v5 := hM5.rowKept HrV4.out HnV4.out
      have v6 := M6.rowKept v5.1 v5.2
      have v7 := M7.rowKept v6.1 v6.2
      have hMM := ((HM4.out.trans hM5).trans M6).trans M7
      have hDD : Mads gs g5 (9 * (j + 1)) (os ++ [x2]) (fun inp => smB (bitsL gs inp a) (bitsL gs inp b) (valL gs inp c)) := by
        have d1 := HD.out.more HD1.out.ext HD1.out.len
        have d2 := d1.snoc HD2.out (fun inp => by
          rw [HD1.out.val inp, HVX.out inp, HVY.out inp, HD1.out.ext.val inp HCJ.out, HVC.out inp, HOS.out]; rfl)
        have d3 := d2.more (m := 3) ((D3.ext.trans D4.ext).trans D5.ext) (by have := D3.len; have := D4.len; have := D5.len; omega)
        exact d3.to (by omega) (fun _ _ _ => rfl)
      have hCC : ∀ inp, valL g5 inp x5 = cry (bitsL gs inp a) (bitsL gs inp b) (valL gs inp c) (j + 1) := fun inp => by
        rw [D5.val inp, D4.ext.val inp D3.has, D3.val inp, D4.val inp, HE2.out.val inp HX0.out, HE2.out.val inp HY0.out, HVX.out inp, HVY.out inp, D3.ext.val inp HX12.out, HD2.out.ext.val inp HX1.out, HD1.out.val inp, HVX.out inp, HVY.out inp, D3.ext.val inp HC2.out, HE2.out.val inp HCJ.out, HVC.out inp]
        rfl
      have HEND : Hid (∃ (j' : Nat) (cj : Int) (os : List Int) (gj : List (Int × Int)) (Fj : Nat → Prop), j' ≤ a.length ∧ os.length = j' ∧ (Value.int .i64 ((j : Int) + 1)) = .int .i64 j' ∧ (Value.int .i64 x5) = .int .i64 cj ∧ w7.cell? ⟨w.heap.size, 0, none⟩ = some (.pointer (some ⟨G, 0, none⟩)) ∧ ¬ Fj w.heap.size ∧ w7.heap[w.heap.size + 1]? = some (.cells (rowI (rowP os a.length)) 39 (0, 0)) ∧ ¬ Fj (w.heap.size + 1) ∧ GrAt G gj ins Fj w7 ∧ Mvd F Fj w w7 ∧ Mads gs gj (9 * j') os (fun inp => smB (bitsL gs inp a) (bitsL gs inp b) (valL gs inp c)) ∧ HasL gj cj ∧ ∀ inp, valL gj inp cj = cry (bitsL gs inp a) (bitsL gs inp b) (valL gs inp c) j') :=
        ⟨j + 1, x5, os ++ [x2], g5, F5, HJ.out, by rw [List.length_append, HOS.out]; rfl, rfl, rfl, z0, n0.2, v7.1, v7.2, G5, hMM, hDD, D5.has, hCC⟩
      clear M5 M6 M7 D3 D4 D5 G3 G4 G5 hM5 v5 v6 v7 hMM hDD hCC k0 k1 k2 m0 m1 m2 n0 n1 n2 t0 t1 t2 y0 y1 y2 z0 z1 z2 s0 s1 s2
      go_wp2
      try rw [N4.out]
      exact ⟨HEND.out, by have := HJ.out; simp [intOf]; omega⟩
    · obtain rfl : j = a.length := by omega
      rw [rowP_all hos] at hrV
      have HR' : Hid _ := hrV
      have HE : Hid _ := (⟨hos, hnV, hG, hM, hD, hcj, hvc⟩ : os.length = a.length ∧ ¬ Fj (w.heap.size + 1) ∧ GrAt G gj ins Fj wr ∧ Mvd F Fj w wr ∧ Mads gs gj (9 * a.length) os _ ∧ HasL gj cj ∧ ∀ inp, valL gj inp cj = cry (bitsL gs inp a) (bitsL gs inp b) (valL gs inp c) a.length)
      clear hj hos hrM hnM hrV hnV hG hM hD hcj hvc hjl
      go_wp2
      go_ret2
      exact ⟨w.heap.size + 1, os, cj, gj, Fj, rfl, HE.out.1, by omega, HR'.out, HE.out.2.1, HE.out.2.2.1, HE.out.2.2.2.1, HE.out.2.2.2.2.1, HE.out.2.2.2.2.2.1, HE.out.2.2.2.2.2.2⟩
end Go.Proofs.YtpiglmaojonbnaaGreatDoor

/-
  THE DOCUMENT's OPERATORS (lustrumref2): Around, Truth, Right BY CONTRACT; values in memory.
-/
namespace Go.Proofs.YtpiglmaojonbnaaGreatDoor
open Go.RowKit

/-- An int of eight bits. -/
def aroundI (n : Int) : Int := (n + 128) % 256 - 128
theorem aroundI_of (n : Int) : aroundI n = (let r := n.tmod 256; let s := if r < 0 then r + 256 else r; if 127 < s then s - 256 else s) := by
  have h : n.tmod 256 = n % 256 ∨ n.tmod 256 = n % 256 - 256 ∧ n % 256 ≠ 0 := by
    rcases Int.lt_or_le n 0 with h | h
    · have e : n.tmod 256 = -((-n) % 256) := by
        have := Int.neg_tmod (-n) 256
        rw [Int.neg_neg] at this
        rw [this, Int.tmod_eq_emod_of_nonneg (by omega)]
      rw [e]
      omega
    · exact .inl (Int.tmod_eq_emod_of_nonneg h)
  unfold aroundI
  simp only
  split <;> split <;> omega
set_option maxRecDepth 100000 in
theorem around_any (n : Int) (w : World) : Calls Tryz.prog 29 #[.int .i64 n] w fun e w' => e = .returned (.int .i64 (aroundI n)) ∧ w' = w := by
  have h := aroundI_of n
  simp only at h
  have hb : -256 < n.tmod 256 ∧ n.tmod 256 < 256 := ⟨by have := Int.lt_tmod_of_pos n (b := 256) (by omega); omega, Int.tmod_lt_of_pos n (by omega)⟩
  obtain ⟨r, hr⟩ : ∃ r, r = n.tmod 256 := ⟨_, rfl⟩
  rw [← hr] at h hb
  have hrr : n.tmod 256 = r := hr.symm
  have H : Hid (aroundI n = _) := h
  clear hr h
  by_cases h1 : r < 0
  · by_cases h2 : 127 < r + 256
    · have E : Hid (aroundI n = r) := by unfold Hid; rw [H.out, if_pos h1, if_pos h2]; omega
      clear H
      go_enter Tryz.func29, Tryz.ntmps29
      go_wp2
      go_ret
      exact ⟨by rw [E.out]; rfl, rfl⟩
    · have E : Hid (aroundI n = r + 256) := by unfold Hid; rw [H.out, if_pos h1, if_neg h2]
      clear H
      go_enter Tryz.func29, Tryz.ntmps29
      go_wp2
      go_ret
      exact ⟨by rw [E.out]; rfl, rfl⟩
  · by_cases h2 : 127 < r
    · have E : Hid (aroundI n = r - 256) := by unfold Hid; rw [H.out, if_neg h1, if_pos h2]
      clear H
      go_enter Tryz.func29, Tryz.ntmps29
      go_wp2
      go_ret
      exact ⟨by rw [E.out]; rfl, rfl⟩
    · have E : Hid (aroundI n = r) := by unfold Hid; rw [H.out, if_neg h1, if_neg h2]
      clear H
      go_enter Tryz.func29, Tryz.ntmps29
      go_wp2
      go_ret
      exact ⟨by rw [E.out]; rfl, rfl⟩

/-- A bool's value. -/
def truthI (b : Bool) : Int := if b = true then 1 else 0
set_option maxRecDepth 100000 in
theorem truth_any (b : Bool) (w : World) : Calls Tryz.prog 28 #[.bool b] w fun e w' => e = .returned (.agg #[.int .i64 1, .int .i64 (truthI b)]) ∧ w' = w.alloc (.cells #[.int .i64 1, .int .i64 (truthI b)] 26) := by
  cases b
  · go_enter Tryz.func28, Tryz.ntmps28
    go_wp2
    go_returns
    exact ⟨rfl, rfl⟩
  · go_enter Tryz.func28, Tryz.ntmps28
    go_wp2
    go_returns
    exact ⟨rfl, rfl⟩
/-- Is it a value of that kind? -/
def rightB (k n kind : Int) : Bool := if k = kind then (if kind = 1 then (decide (n = 0) || decide (n = 1)) else (decide (kind = 2) && (decide (-129 < n) && decide (n < 128)))) else false
set_option maxRecDepth 100000 in
theorem right_any (k n kind : Int) (w : World) : Calls Tryz.prog 5 #[.agg #[.int .i64 k, .int .i64 n], .int .i64 kind] w fun e w' => e = .returned (.bool (rightB k n kind)) ∧ Below w.heap.size w w' := by
  have hb : Below w.heap.size w (w.alloc (.cells #[.int .i64 k, .int .i64 n] 26)) := (Below.refl _ _).alloc (Nat.le_refl _) _
  by_cases h1 : k = kind
  · subst h1
    by_cases h2 : k = 1
    · subst h2
      by_cases h3 : n = 0
      · subst h3
        go_enter Tryz.func5, Tryz.ntmps5
        go_wp2
        go_ret
        exact ⟨rfl, hb⟩
      · have d3 : (n == 0) = false := beq_eq_false_iff_ne.2 h3
        by_cases h4 : n = 1
        · subst h4
          go_enter Tryz.func5, Tryz.ntmps5
          go_wp2
          go_ret
          exact ⟨rfl, hb⟩
        · have d4 : (n == 1) = false := beq_eq_false_iff_ne.2 h4
          have E : Hid (rightB 1 n 1 = false) := by unfold Hid rightB; simp [h3, h4]
          clear h3 h4
          go_enter Tryz.func5, Tryz.ntmps5
          go_wp2
          go_ret
          exact ⟨by rw [E.out]; rfl, hb⟩
    · have d2 : (k == 1) = false := beq_eq_false_iff_ne.2 h2
      by_cases h3 : k = 2
      · subst h3
        by_cases h4 : -129 < n
        · have d4 : ((-129 : Int) < n) = True := eq_true h4
          by_cases h5 : n < 128
          · have d5 : (n < 128) = True := eq_true h5
            have E : Hid (rightB 2 n 2 = true) := by unfold Hid rightB; simp [h4, h5]
            clear h4 h5 h2 d2
            go_enter Tryz.func5, Tryz.ntmps5
            go_wp2
            go_ret
            exact ⟨by rw [E.out]; rfl, hb⟩
          · have d5 : (n < 128) = False := eq_false h5
            have E : Hid (rightB 2 n 2 = false) := by unfold Hid rightB; simp [h5]
            clear h4 h5 h2 d2
            go_enter Tryz.func5, Tryz.ntmps5
            go_wp2
            go_ret
            exact ⟨by rw [E.out]; rfl, hb⟩
        · have d4 : ((-129 : Int) < n) = False := eq_false h4
          have E : Hid (rightB 2 n 2 = false) := by unfold Hid rightB; simp [h4]
          clear h4 h2 d2
          go_enter Tryz.func5, Tryz.ntmps5
          go_wp2
          go_ret
          exact ⟨by rw [E.out]; rfl, hb⟩
      · have d3 : (k == 2) = false := beq_eq_false_iff_ne.2 h3
        have E : Hid (rightB k n k = false) := by unfold Hid rightB; simp [h2, h3]
        clear h2 h3
        go_enter Tryz.func5, Tryz.ntmps5
        go_wp2
        go_ret
        exact ⟨by rw [E.out]; rfl, hb⟩
  · have d1 : (k == kind) = false := beq_eq_false_iff_ne.2 h1
    have d1' : (k != kind) = true := by simp [h1]
    have E : Hid (rightB k n kind = false) := by unfold Hid rightB; rw [if_neg h1]
    clear h1
    go_enter Tryz.func5, Tryz.ntmps5
    go_wp2
    go_ret
    exact ⟨by rw [E.out]; rfl, hb⟩

theorem cell_lt {w : World} {p : Addr} {v : Value} (hc : w.cell? p = some v) : p.block < w.heap.size := by
  rcases Nat.lt_or_ge p.block w.heap.size with h | h
  · exact h
  · simp [World.cell?, Array.getElem?_eq_none h] at hc
/-- Values one behind the other. -/
def ValsAt (w : World) (v : Value) (l : List (Int × Int)) : Prop := l.length ≤ maxLen ∧ ∃ o c, v = .slice o l.length c ∧ ∀ k x, l[k]? = some x → ∃ b off, o = some ⟨b, off, none⟩ ∧ w.cell? ⟨b, off + k * 2, none⟩ = some (.int .i64 x.1) ∧ w.cell? ⟨b, off + k * 2 + 1, none⟩ = some (.int .i64 x.2)
theorem ValsAt.below {w w' : World} {v : Value} {l : List (Int × Int)} (h : ValsAt w v l) (hb : Below w.heap.size w w') : ValsAt w' v l := by
  obtain ⟨hl, o, c, rfl, h⟩ := h
  refine ⟨hl, o, c, rfl, fun k x hk => ?_⟩
  obtain ⟨b, off, e, c0, c1⟩ := h k x hk
  exact ⟨b, off, e, cell_keep hb c0, cell_keep hb c1⟩
end Go.Proofs.YtpiglmaojonbnaaGreatDoor
