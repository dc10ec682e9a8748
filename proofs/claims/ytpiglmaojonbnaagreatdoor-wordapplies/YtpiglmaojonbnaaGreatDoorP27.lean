/-
  NUMBERS WITH A SIGN, BY THEIR EIGHT BITS: sign, size, division towards 0 (mathematics).
-/
import Derived.Test.YtpiglmaojonbnaaGreatDoorP26
import Derived.Test.YtpiglmaojonbnaaGreatDoorP25
import Derived.Test.YtpiglmaojonbnaaGreatDoorP21
namespace Go.Proofs.YtpiglmaojonbnaaGreatDoor
open Go.RowKit Go.Maps

theorem sgn7 {A : Nat → Bool} {n : Int} (h : natF A 8 = n % 256) (h1 : -128 ≤ n) (h2 : n ≤ 127) : A 7 = decide (n < 0) := by
  have e : natF A 8 = natF A 7 + bI (A 7) * 2 ^ 7 := rfl
  have e7 : (2 : Int) ^ 7 = 128 := by decide
  have h7 := natF_lt A 7
  rw [e7] at e h7
  rcases bI_cases (A 7) with ⟨h7', hb⟩ | ⟨h7', hb⟩
  · rw [hb] at e; rw [h7']; symm; exact decide_eq_true (by omega)
  · rw [hb] at e; rw [h7']; symm; exact decide_eq_false (by omega)
/-- A number without its sign. -/
def absI (n : Int) : Int := if n < 0 then -n else n
theorem abs_num {A : Nat → Bool} {n : Int} (h : natF A 8 = n % 256) (h1 : -128 ≤ n) (h2 : n ≤ 127) : natF (opB (A 7) A) 8 = absI n := by
  rw [opp_num, sgn7 h h1 h2, h]
  unfold absI
  by_cases hn : n < 0
  · simp only [hn, decide_true, if_true]; omega
  · simp only [hn, decide_false, if_false, Bool.false_eq_true]; omega
theorem tdiv_abs (a b : Int) : a.tdiv b = if (decide (a < 0) ^^ decide (b < 0)) = true then -(absI a / absI b) else absI a / absI b := by
  have key : ∀ x y : Int, 0 ≤ x → x.tdiv y = if decide (y < 0) = true then -(x / absI y) else x / absI y := fun x y hx => by
    rw [Int.tdiv_eq_ediv_of_nonneg hx]
    unfold absI
    by_cases hy : y < 0
    · simp only [hy, decide_true, if_true]
      rw [Int.ediv_neg, Int.neg_neg]
    · simp only [hy, decide_false, if_false, Bool.false_eq_true]
  by_cases ha : a < 0
  · have e : a.tdiv b = -((-a).tdiv b) := by rw [Int.neg_tdiv, Int.neg_neg]
    have ea : absI a = -a := by unfold absI; rw [if_pos ha]
    rw [e, key (-a) b (by omega), ea]
    by_cases hb : b < 0 <;> simp [ha, hb]
  · have ea : absI a = a := by unfold absI; rw [if_neg ha]
    rw [key a b (by omega), ea]
    by_cases hb : b < 0 <;> simp [ha, hb]
theorem tmod_abs (a b : Int) : a - a.tdiv b * b = if decide (a < 0) = true then -(absI a % absI b) else absI a % absI b := by
  rw [tdiv_abs, Int.emod_def]
  obtain ⟨q, hq⟩ : ∃ q, q = absI a / absI b := ⟨_, rfl⟩
  rw [← hq]
  clear hq
  unfold absI
  by_cases ha : a < 0 <;> by_cases hb : b < 0 <;> simp [ha, hb, Int.mul_neg, Int.mul_comm] <;> omega
/-- The value of eight bits that come to a number, going around. -/
theorem val_around {L : List Bool} (hl : L.length = 8) {R : Int} (h : natF (fun i => L.getD i false) 8 = R % 256) : valI L = aroundI R ∧ valK L = 2 := by
  refine ⟨?_, by unfold valK; rw [hl]; rfl⟩
  unfold valI
  rw [hl]
  simp only [h]
  unfold aroundI
  by_cases h8 : 128 ≤ R % 256
  · rw [if_pos ⟨trivial, h8⟩]; omega
  · rw [if_neg (fun h => h8 h.2)]; omega
end Go.Proofs.YtpiglmaojonbnaaGreatDoor

/-
  package word: below, unlike, less BY CONTRACT.
-/
namespace Go.Proofs.YtpiglmaojonbnaaGreatDoor
open Go.RowKit Go.Maps

theorem orF_same {a b : Nat → Bool} : ∀ {n : Nat}, (∀ i, i < n → a i = b i) → orF a n = orF b n
  | 0, _ => rfl
  | n + 1, h => by rw [orF, orF, h n (Nat.lt_succ_self _), orF_same (fun i hi => h i (Nat.lt_succ_of_lt hi))]
/-- Is it below, by two bits, and by whether it is so further down. -/
def blw (a b c : Bool) : Bool := (!a && b) || ((!a || b) && c)
set_option maxRecDepth 100000 in
set_option maxHeartbeats 2000000 in
theorem below_any {G : Nat} {gs : List (Int × Int)} {ins : Nat} {F : Nat → Prop} {w : World} (h : GrAt G gs ins F w) (hl : gs.length + 4 < 88900) (a b c : Int) (ha : HasL gs a) (hb : HasL gs b) (hc : HasL gs c) :
    Calls Tryz.prog 81 #[.agg #[.pointer (some ⟨G, 0, none⟩)], .int .i64 a, .int .i64 b, .int .i64 c] w fun e w' => ∃ x gs' F', e = .returned (.int .i64 x) ∧ GrAt G gs' ins F' w' ∧ Mvd F F' w w' ∧ Mad gs gs' 4 x (fun inp => blw (valL gs inp a) (valL gs inp b) (valL gs inp c)) := by
  have ia : I64 a := ha.i64 (by omega)
  obtain ⟨w1, hw1⟩ : ∃ w1, w1 = w.alloc (.cells #[.pointer (some ⟨G, 0, none⟩)] 60) := ⟨_, rfl⟩
  have hb1 : Below w.heap.size w w1 := by rw [hw1]; exact (Below.refl _ _).alloc (Nat.le_refl _) _
  have HG1 : Hid (GrAt G gs ins F w1) := h.below hb1
  have HM1 : Hid (Mvd F F w w1) := Mvd.of_below hb1
  have s0 : w1.cell? ⟨w.heap.size, 0, none⟩ = some (.pointer (some ⟨G, 0, none⟩)) := by rw [hw1]; simp
  have HnM : Hid (¬ F w.heap.size) := fun hf => by have := h.2.2.1 _ hf; omega
  have HL : Hid (gs.length + 4 < 88900) := hl
  have HA : Hid (HasL gs (turnL a)) := ha.turn
  have HB : Hid (HasL gs b) := hb
  have HC : Hid (HasL gs c) := hc
  have HVA : Hid (∀ inp, valL gs inp (turnL a) = !valL gs inp a) := fun inp => val_turn _ _ _
  have HW : Hid (w.alloc (.cells #[.pointer (some ⟨G, 0, none⟩)] 60) = w1) := hw1.symm
  clear h hl ha hb hc hb1 hw1
  go_enter Tryz.func81, Tryz.ntmps81
  go_wp2_with (go_at_call 60; refine (not_any _ _ (by assumption)).mono ?_; rintro e w' ⟨rfl, rfl⟩)
  rw [HW.out]
  go_region_held3 (fun w' => w'.cell? ⟨w.heap.size, 0, none⟩ = some (.pointer (some ⟨G, 0, none⟩))) ((first | go_keep | exact t4.1 | exact t3.1 | exact t2.1 | exact t1.1 | exact s0))
    (first
      | (go_at_call 59; refine (mor_any (by exact HG4.out) (by have := HL4.out; omega) _ _ HX14.out HX34.out).mono ?_; rintro e w5 ⟨x4, g4, F4, rfl, G4, M4, D4⟩; have t4 := M4.cell (by exact t3.1) t3.2)
      | (go_at_call 36; refine (mand_any (by exact HG3.out) (by have := HL3.out; omega) _ _ HX23.out HC3.out).mono ?_; rintro e w4 ⟨x3, g3, F3, rfl, G3, M3, D3⟩; have t3 := M3.cell (by exact t2.1) t2.2; have HG4 : Hid (GrAt G g3 ins F3 w4) := G3; have HX14 : Hid (HasL g3 x1) := HX12.out.ext D3.ext; have HX34 : Hid (HasL g3 x3) := D3.has; have HL4 : Hid (g3.length + 1 < 88900) := (by have := HL3.out; have := D3.len; unfold Hid; omega))
      | (go_at_call 59; refine (mor_any (by exact HG2.out) (by have := HL2.out; omega) _ _ HA2.out HB2.out).mono ?_; rintro e w3 ⟨x2, g2, F2, rfl, G2, M2, D2⟩; have t2 := M2.cell (by exact t1.1) t1.2; have HG3 : Hid (GrAt G g2 ins F2 w3) := G2; have HX12 : Hid (HasL g2 x1) := HX11.out.ext D2.ext; have HX23 : Hid (HasL g2 x2) := D2.has; have HC3 : Hid (HasL g2 c) := HC2.out.ext D2.ext; have HL3 : Hid (g2.length + 2 < 88900) := (by have := HL2.out; have := D2.len; unfold Hid; omega))
      | (go_at_call 36; refine (mand_any (by exact HG1.out) (by have := HL.out; omega) _ _ HA.out HB.out).mono ?_; rintro e w2 ⟨x1, g1, F1, rfl, G1, M1, D1⟩; have t1 := M1.cell (by exact s0) HnM.out; have HG2 : Hid (GrAt G g1 ins F1 w2) := G1; have HX11 : Hid (HasL g1 x1) := D1.has; have HA2 : Hid (HasL g1 (turnL a)) := HA.out.ext D1.ext; have HB2 : Hid (HasL g1 b) := HB.out.ext D1.ext; have HC2 : Hid (HasL g1 c) := HC.out.ext D1.ext; have HL2 : Hid (g1.length + 3 < 88900) := (by have := HL.out; have := D1.len; unfold Hid; omega)))
  have hM := ((HM1.out.trans M1.undrew).trans M2).trans (M3.trans M4)
  have hD : Mad gs g4 4 x4 (fun inp => blw (valL gs inp a) (valL gs inp b) (valL gs inp c)) := ⟨((D1.ext.trans D2.ext).trans D3.ext).trans D4.ext, by have := D1.len; have := D2.len; have := D3.len; have := D4.len; omega, D4.has, fun inp => by
    rw [D4.val inp, D3.ext.val inp HX12.out, D2.ext.val inp HX11.out, D1.val inp, D3.val inp, D2.val inp, D2.ext.val inp HC2.out, D1.ext.val inp HC.out, D1.ext.val inp HA.out, D1.ext.val inp HB.out, HVA.out inp]
    rfl⟩
  have HEND : Hid (GrAt G g4 ins F4 w5 ∧ Mvd F F4 w w5 ∧ Mad gs g4 4 x4 (fun inp => blw (valL gs inp a) (valL gs inp b) (valL gs inp c))) := ⟨G4, hM, hD⟩
  clear hM hD G1 G2 G3 G4 M1 M2 M3 M4 D1 D2 D3 D4 t1 t2 t3 t4 s0
  go_wp2
  go_ret
  exact ⟨x4, g4, F4, rfl, HEND.out.1, HEND.out.2.1, HEND.out.2.2⟩
set_option maxRecDepth 100000 in
set_option maxHeartbeats 4000000 in
theorem unlike_any {G : Nat} {gs : List (Int × Int)} {ins : Nat} {F : Nat → Prop} {w : World} (h : GrAt G gs ins F w) (oa ob : Option Addr) (n ca cb : Nat) (a b : List Int) (hva : LitsAt F w (.slice oa n ca) a) (hvb : LitsAt F w (.slice ob n cb) b) (hna : a.length = n) (hnb : b.length = n) (ha : ∀ x ∈ a, HasL gs x) (hb : ∀ x ∈ b, HasL gs x) (hl : gs.length + 4 * n < 87000) :
    Calls Tryz.prog 65 #[.agg #[.pointer (some ⟨G, 0, none⟩)], .slice oa n ca, .slice ob n cb] w fun e w' => ∃ x gs' F', e = .returned (.int .i64 x) ∧ GrAt G gs' ins F' w' ∧ Mvd F F' w w' ∧ Mad gs gs' (4 * n) x (fun inp => orF (fun i => bitsL gs inp a i ^^ bitsL gs inp b i) n) := by
  obtain ⟨i0, hi0, hz0, hz1, hz2⟩ := info_parts Tryz.infoLit
  have hn1 : n ≤ 1000 := by rw [← hna]; exact hva.1
  have HVA : Hid (LitsAt F w (.slice oa n ca) a) := hva
  have HVB : Hid (LitsAt F w (.slice ob n cb) b) := hvb
  have HNA : Hid (a.length = n) := hna
  have HNB : Hid (b.length = n) := hnb
  have HBY : Hid (i0.bytes * n ≤ 281474976710656) := by unfold Hid; rw [hz2]; omega
  have HMX : Hid (n ≤ maxLen) := by unfold Hid maxLen; omega
  have HLL : Hid (n ≤ 1000) := hn1
  have HL : Hid (gs.length + 4 * n < 87000) := hl
  have HA : Hid (∀ x ∈ a, HasL gs x) := ha
  have HB : Hid (∀ x ∈ b, HasL gs x) := hb
  have hF := h.2.2.1
  have HF0 : Hid (¬ F w.heap.size) := fun hf => by have := hF _ hf; omega
  have HF1 : Hid (¬ F (w.heap.size + 1)) := fun hf => by have := hF _ hf; omega
  have hb1 : Below w.heap.size w (w.alloc (.cells #[.pointer (some ⟨G, 0, none⟩)] 60)) := (Below.refl _ _).alloc (Nat.le_refl _) _
  have HBW : Hid (Below w.heap.size w (w.alloc (.cells #[.pointer (some ⟨G, 0, none⟩)] 60))) := hb1
  have HRM : Hid ((w.alloc (.cells #[.pointer (some ⟨G, 0, none⟩)] 60)).heap[w.heap.size]? = some (.cells #[.pointer (some ⟨G, 0, none⟩)] 60 (0, 0))) := heap_alloc_new _ _
  have HG : Hid (GrAt G gs ins F w) := h
  have HS0 : Hid ((w.alloc (.cells #[.pointer (some ⟨G, 0, none⟩)] 60)).heap.size = w.heap.size + 1) := by unfold Hid; simp
  clear hn1 hl ha hb hF hb1 h hva hvb hna hnb
  go_enter Tryz.func65, Tryz.ntmps65
  go_wp2_with (first
    | (at_make; refine wpList_make_full _ rfl _ _ 38 rfl 0 39 i0 _ 1 Tryz.underlying38 hi0 hz0 hz1 .i64 .i64 _ _ n rfl rfl (by simp) (by simp) HBY.out HMX.out (Nat.zero_le _) ?_; intro w1 hown1 hgr1)
    | go_in)
  have hV1 := made_lits hown1
  rw [HS0.out] at hV1
  have hb2 : Below (w.heap.size + 1) (w.alloc (.cells #[.pointer (some ⟨G, 0, none⟩)] 60)) w1 := ⟨hgr1.os, hgr1.tape, hgr1.output, hgr1.size, fun k hk => hgr1.block k (by rw [HS0.out]; exact hk) (by simp)⟩
  have HR1 : Hid (w1.heap[w.heap.size + 1]? = some (.cells (rowI (rowP [] n)) 39 (0, 0))) := hV1
  have HB1 : Hid (Below w.heap.size w w1) := HBW.out.trans (hb2.mono (by omega))
  have HM1 : Hid (w1.cell? ⟨w.heap.size, 0, none⟩ = some (.pointer (some ⟨G, 0, none⟩))) := by unfold Hid; rw [cell_of_row w1 _ 0 _ _ (0, 0) (by rw [hb2.block _ (by omega)]; exact HRM.out)]; rfl
  clear hown1 hgr1 hV1 hi0 hz0 hz1 hz2 HBY HMX hb2 HBW HRM
  go_loopw [14] (fun tv wr => ∃ (j : Nat) (os : List Int) (gj : List (Int × Int)) (Fj : Nat → Prop), j ≤ n ∧ os.length = j ∧ tv = .int .i64 j ∧ wr.cell? ⟨w.heap.size, 0, none⟩ = some (.pointer (some ⟨G, 0, none⟩)) ∧ ¬ Fj w.heap.size ∧ wr.heap[w.heap.size + 1]? = some (.cells (rowI (rowP os n)) 39 (0, 0)) ∧ ¬ Fj (w.heap.size + 1) ∧
    GrAt G gj ins Fj wr ∧ Mvd F Fj w wr ∧ Mads gs gj (3 * j) os (fun inp i => bitsL gs inp a i ^^ bitsL gs inp b i)) (fun tv _ => n - (intOf tv).toNat)
  case atStart => exact ⟨0, [], gs, F, Nat.zero_le _, rfl, rfl, HM1.out, HF0.out, HR1.out, HF1.out, HG.out.below HB1.out, Mvd.of_below HB1.out, Mads.nil (Ext.refl _) (by omega) _⟩
  case round =>
    obtain ⟨j, os, gj, Fj, hj, hos, rfl, hcM, hnM, hrV, hnV, hG, hM, hD⟩ := hrel
    by_cases hjl : j < n
    · obtain ⟨x, hx⟩ : ∃ x, a[j]? = some x := ⟨_, List.getElem?_eq_getElem (by have := HNA.out; omega)⟩
      obtain ⟨y, hy⟩ : ∃ y, b[j]? = some y := ⟨_, List.getElem?_eq_getElem (by have := HNB.out; omega)⟩
      obtain ⟨ba, fa, rfl, hba, hmva⟩ := HVA.out.at hx
      obtain ⟨bb, fb, rfl, hbb, hmvb⟩ := HVB.out.at hy
      obtain ⟨hna, hcx⟩ := hmva _ _ hM
      obtain ⟨hnb, hcy⟩ := hmvb _ _ hM
      have i0' : (0 : Int) ≤ (j : Int) := by omega
      have i1' : (j : Int) < (n : Int) := by omega
      have N4 : Hid (wrap64 ((j : Int) + 1) = (j : Int) + 1) := by have := HLL.out; unfold Hid wrap64; omega
      have HJ : Hid (j < n) := hjl
      have HOS : Hid (os.length = j) := hos
      have HG1 : Hid (GrAt G gj ins Fj wr) := hG
      have HMv : Hid (Mvd F Fj w wr) := hM
      have HD : Hid (Mads gs gj (3 * j) os _) := hD
      have HX0 : Hid (HasL gj x) := (HA.out x (List.mem_of_getElem? hx)).ext hD.ext
      have HY0 : Hid (HasL gj y) := (HB.out y (List.mem_of_getElem? hy)).ext hD.ext
      have HVX : Hid (∀ inp, valL gj inp x = bitsL gs inp a j) := fun inp => by rw [bitsL_get hx, hD.ext.val inp (HA.out x (List.mem_of_getElem? hx))]
      have HVY : Hid (∀ inp, valL gj inp y = bitsL gs inp b j) := fun inp => by rw [bitsL_get hy, hD.ext.val inp (HB.out y (List.mem_of_getElem? hy))]
      have HL1 : Hid (gj.length < 89000) := by have := HL.out; have := hD.len; unfold Hid; omega
      have HnM : Hid (¬ Fj w.heap.size) := hnM
      have HnV : Hid (¬ Fj (w.heap.size + 1)) := hnV
      have Hna : Hid (¬ Fj ba) := hna
      have Hnb : Hid (¬ Fj bb) := hnb
      have NE : Hid (w.heap.size ≠ w.heap.size + 1 ∧ ba ≠ w.heap.size + 1 ∧ bb ≠ w.heap.size + 1) := by unfold Hid; omega
      have HrV : Hid (wr.heap[w.heap.size + 1]? = some (.cells (rowI (rowP os n)) 39 (0, 0))) := hrV
      clear hj hos hnM hrV hnV hG hM hD hjl hx hy hmva hmvb hna hnb hba hbb
      go_wp2
      go_region_held3 (fun w' => w'.cell? ⟨w.heap.size, 0, none⟩ = some (.pointer (some ⟨G, 0, none⟩)) ∧ w'.cell? ⟨ba, fa + j, none⟩ = some (.int .i64 x) ∧ w'.cell? ⟨bb, fb + j, none⟩ = some (.int .i64 y)) ((first | exact ⟨(cell_apart NE.out.1).trans q0.1, (cell_apart NE.out.2.1).trans q1.1, (cell_apart NE.out.2.2).trans q2.1⟩ | exact ⟨q0.1, q1.1, q2.1⟩ | exact ⟨hcM, hcx, hcy⟩ | go_keep))
        (first
          | (go_at_call 58; refine (mxor_any (by exact HG1.out) HL1.out _ _ HX0.out HY0.out).mono ?_; rintro e w3 ⟨x1, g1, F3, rfl, G3, M3, D3⟩; have q0 := M3.cell (by exact hcM) HnM.out; have q1 := M3.cell (by exact hcx) Hna.out; have q2 := M3.cell (by exact hcy) Hnb.out; have q3 := (M3.undrew).rowKept HrV.out HnV.out; have fV : w3.frozen? ⟨w.heap.size + 1, j, none⟩ = false := frozen_row q3.1; have cV := rowP_cell q3.1 (by rw [HOS.out]; exact HJ.out); rw [HOS.out] at cV))
      have hst := rowP_store q3.1 (by rw [HOS.out]; exact HJ.out) x1
      rw [HOS.out] at hst
      have hDD : Mads gs g1 (3 * (j + 1)) (os ++ [x1]) (fun inp i => bitsL gs inp a i ^^ bitsL gs inp b i) :=
        (HD.out.snoc D3 (fun inp => by rw [HVX.out inp, HVY.out inp, HOS.out])).to (by omega) (fun _ _ _ => rfl)
      obtain ⟨w4, hw4⟩ : ∃ w4, w4 = w3.setCell ⟨w.heap.size + 1, j, none⟩ (.int .i64 x1) := ⟨_, rfl⟩
      have HEND : Hid (w4.cell? ⟨w.heap.size, 0, none⟩ = some (.pointer (some ⟨G, 0, none⟩)) ∧ ¬ F3 w.heap.size ∧ w4.heap[w.heap.size + 1]? = some (.cells (rowI (rowP (os ++ [x1]) n)) 39 (0, 0)) ∧ ¬ F3 (w.heap.size + 1) ∧ GrAt G g1 ins F3 w4 ∧ Mvd F F3 w w4 ∧ Mads gs g1 (3 * (j + 1)) (os ++ [x1]) (fun inp i => bitsL gs inp a i ^^ bitsL gs inp b i)) := by
        refine ⟨?_, q0.2, ?_, q3.2, ?_, ?_, hDD⟩
        · rw [hw4, cell_apart NE.out.1]; exact q0.1
        · rw [hw4]; exact hst
        · rw [hw4]; exact G3.set q3.2 _ _
        · rw [hw4]; exact (HMv.out.trans M3.undrew).set (by omega) _
      have HLO : Hid ((os ++ [x1]).length = j + 1) := by unfold Hid; rw [List.length_append, HOS.out]; rfl
      rw [← hw4]
      clear hst D3 hDD hw4 q0 q1 q2 q3 fV cV G3 M3 hcM hcx hcy
      go_wp2
      try rw [N4.out]
      exact ⟨⟨j + 1, _, _, F3, HJ.out, HLO.out, rfl, HEND.out⟩, by have := HJ.out; simp [intOf]; omega⟩
    · obtain rfl : j = n := by omega
      rw [rowP_all hos] at hrV
      have hLV : LitsAt Fj wr (.slice (some ⟨w.heap.size + 1, 0, none⟩) j j) os := by
        have := lits_row (c := j) hrV hnV (by have := HLL.out; omega)
        rw [hos] at this
        exact this
      have HC : Hid (Calls Tryz.prog 64 #[.agg #[.pointer (some ⟨G, 0, none⟩)], .slice (some ⟨w.heap.size + 1, 0, none⟩) j j] wr fun e w' => ∃ x gs' F', e = .returned (.int .i64 x) ∧ GrAt G gs' ins F' w' ∧ Mvd Fj F' wr w' ∧ Mad gj gs' j x (fun inp => orF (bitsL gj inp os) j)) := many_any hG _ j j os hLV hos hD.has (by have := HL.out; have := hD.len; omega)
      have HM : Hid (Mvd F Fj w wr) := hM
      have HD : Hid (Mads gs gj (3 * j) os (fun inp i => bitsL gs inp a i ^^ bitsL gs inp b i)) := hD
      have HOS : Hid (os.length = j) := hos
      clear hj hos hnM hrV hnV hG hM hD hjl hLV
      go_wp2_with fail
      refine HC.out.mono ?_
      rintro e w3 ⟨x, g2, F2, rfl, G2, M2, D2⟩
      have HEND : Hid (GrAt G g2 ins F2 w3 ∧ Mvd F F2 w w3 ∧ Mad gs g2 (4 * j) x (fun inp => orF (fun i => bitsL gs inp a i ^^ bitsL gs inp b i) j)) := ⟨G2, HM.out.trans M2, ⟨HD.out.ext.trans D2.ext, by have := HD.out.len; have := D2.len; omega, D2.has, fun inp => by
        rw [D2.val inp]
        exact orF_same (fun i hi => HD.out.bits inp (by rw [HOS.out]; exact hi))⟩⟩
      clear G2 M2 D2 hcM
      go_wp2
      go_ret
      exact ⟨x, g2, F2, rfl, HEND.out.1, HEND.out.2.1, HEND.out.2.2⟩
/-- Less, by the bits of two words: that of the sign the other way around. -/
def lessB (a b : Nat → Bool) : Bool := blw (b 7) (a 7) (ltB a b 7)
set_option maxRecDepth 100000 in
set_option maxHeartbeats 4000000 in
theorem less_any {G : Nat} {gs : List (Int × Int)} {ins : Nat} {F : Nat → Prop} {w : World} (h : GrAt G gs ins F w) (oa ob : Option Addr) (ca cb : Nat) (a b : List Int) (hva : LitsAt F w (.slice oa 8 ca) a) (hvb : LitsAt F w (.slice ob 8 cb) b) (hna : a.length = 8) (hnb : b.length = 8) (ha : ∀ x ∈ a, HasL gs x) (hb : ∀ x ∈ b, HasL gs x) (hl : gs.length + 32 < 88000) :
    Calls Tryz.prog 66 #[.agg #[.pointer (some ⟨G, 0, none⟩)], .slice oa 8 ca, .slice ob 8 cb] w fun e w' => ∃ x gs' F', e = .returned (.int .i64 x) ∧ GrAt G gs' ins F' w' ∧ Mvd F F' w w' ∧ Mad gs gs' 32 x (fun inp => lessB (bitsL gs inp a) (bitsL gs inp b)) := by
  have HVA : Hid (LitsAt F w (.slice oa 8 ca) a) := hva
  have HVB : Hid (LitsAt F w (.slice ob 8 cb) b) := hvb
  have HNA : Hid (a.length = 8) := hna
  have HNB : Hid (b.length = 8) := hnb
  have HL : Hid (gs.length + 32 < 88000) := hl
  have HA : Hid (∀ x ∈ a, HasL gs x) := ha
  have HB : Hid (∀ x ∈ b, HasL gs x) := hb
  have hF := h.2.2.1
  have HF0 : Hid (¬ F w.heap.size) := fun hf => by have := hF _ hf; omega
  obtain ⟨w1, hw1⟩ : ∃ w1, w1 = w.alloc (.cells #[.pointer (some ⟨G, 0, none⟩)] 60) := ⟨_, rfl⟩
  have hb1 : Below w.heap.size w w1 := by rw [hw1]; exact (Below.refl _ _).alloc (Nat.le_refl _) _
  have HB1 : Hid (Below w.heap.size w w1) := hb1
  have HRM : Hid (w1.cell? ⟨w.heap.size, 0, none⟩ = some (.pointer (some ⟨G, 0, none⟩))) := by unfold Hid; rw [hw1]; simp
  have HG : Hid (GrAt G gs ins F w) := h
  have HW : Hid (w.alloc (.cells #[.pointer (some ⟨G, 0, none⟩)] 60) = w1) := hw1.symm
  have N7 : wrap64 (8 - 1) = 7 := by unfold wrap64; omega
  clear hva hvb hna hnb ha hb hl hF hb1 h hw1
  go_enter Tryz.func66, Tryz.ntmps66
  go_wp2
  rw [HW.out]
  go_loopw [8, 14] (fun xv tv wr => ∃ (j : Nat) (x : Int) (gj : List (Int × Int)) (Fj : Nat → Prop), j ≤ 7 ∧ tv = .int .i64 j ∧ xv = .int .i64 x ∧ wr.cell? ⟨w.heap.size, 0, none⟩ = some (.pointer (some ⟨G, 0, none⟩)) ∧ ¬ Fj w.heap.size ∧ GrAt G gj ins Fj wr ∧ Mvd F Fj w wr ∧ Mad gs gj (4 * j) x (fun inp => ltB (bitsL gs inp a) (bitsL gs inp b) j)) (fun _ tv _ => 7 - (intOf tv).toNat)
  case atStart => exact ⟨0, 0, gs, F, Nat.zero_le _, rfl, rfl, HRM.out, HF0.out, HG.out.below HB1.out, Mvd.of_below HB1.out, ⟨Ext.refl _, by omega, HasL.zero _, fun inp => val_zero _ _⟩⟩
  case round =>
    obtain ⟨j, x, gj, Fj, hj, rfl, rfl, hcM, hnM, hG, hM, hD⟩ := hrel
    by_cases hjl : j < 7
    · obtain ⟨y, hy⟩ : ∃ y, a[j]? = some y := ⟨_, List.getElem?_eq_getElem (by have := HNA.out; omega)⟩
      obtain ⟨z, hz⟩ : ∃ z, b[j]? = some z := ⟨_, List.getElem?_eq_getElem (by have := HNB.out; omega)⟩
      obtain ⟨ba, fa, rfl, _, hmva⟩ := HVA.out.at hy
      obtain ⟨bb, fb, rfl, _, hmvb⟩ := HVB.out.at hz
      obtain ⟨hna, hcx⟩ := hmva _ _ hM
      obtain ⟨hnb, hcy⟩ := hmvb _ _ hM
      have i0' : (0 : Int) ≤ (j : Int) := by omega
      have i1' : (j : Int) < 8 := by omega
      have i2' : (j : Int) < 7 := by omega
      have N4 : Hid (wrap64 ((j : Int) + 1) = (j : Int) + 1) := by unfold Hid wrap64; omega
      have HJ : Hid (j < 7) := hjl
      have HG1 : Hid (GrAt G gj ins Fj wr) := hG
      have HMv : Hid (Mvd F Fj w wr) := hM
      have HD : Hid (Mad gs gj (4 * j) x (fun inp => ltB (bitsL gs inp a) (bitsL gs inp b) j)) := hD
      have HX0 : Hid (HasL gj x) := hD.has
      have HY0 : Hid (HasL gj y) := (HA.out y (List.mem_of_getElem? hy)).ext hD.ext
      have HZ0 : Hid (HasL gj z) := (HB.out z (List.mem_of_getElem? hz)).ext hD.ext
      have HVY : Hid (∀ inp, valL gj inp y = bitsL gs inp a j) := fun inp => by rw [bitsL_get hy, hD.ext.val inp (HA.out y (List.mem_of_getElem? hy))]
      have HVZ : Hid (∀ inp, valL gj inp z = bitsL gs inp b j) := fun inp => by rw [bitsL_get hz, hD.ext.val inp (HB.out z (List.mem_of_getElem? hz))]
      have HL1 : Hid (gj.length + 4 < 88900) := by have := HL.out; have := hD.len; unfold Hid; omega
      have HnM : Hid (¬ Fj w.heap.size) := hnM
      have Hna : Hid (¬ Fj ba) := hna
      have Hnb : Hid (¬ Fj bb) := hnb
      clear hj hjl hy hz hmva hmvb hna hnb hnM hG hM hD
      go_wp2
      go_region_held3 (fun w' => w'.cell? ⟨w.heap.size, 0, none⟩ = some (.pointer (some ⟨G, 0, none⟩)) ∧ w'.cell? ⟨ba, fa + j, none⟩ = some (.int .i64 y) ∧ w'.cell? ⟨bb, fb + j, none⟩ = some (.int .i64 z)) ((first | exact ⟨q0.1, q1.1, q2.1⟩ | exact ⟨hcM, hcx, hcy⟩ | go_keep))
        (first
          | (go_at_call 81; refine (below_any (by exact HG1.out) HL1.out _ _ _ HY0.out HZ0.out HX0.out).mono ?_; rintro e w3 ⟨x1, g1, F3, rfl, G3, M3, D3⟩; have q0 := M3.cell (by exact hcM) HnM.out; have q1 := M3.cell (by exact hcx) Hna.out; have q2 := M3.cell (by exact hcy) Hnb.out))
      have HEND : Hid (w3.cell? ⟨w.heap.size, 0, none⟩ = some (.pointer (some ⟨G, 0, none⟩)) ∧ ¬ F3 w.heap.size ∧ GrAt G g1 ins F3 w3 ∧ Mvd F F3 w w3 ∧ Mad gs g1 (4 * (j + 1)) x1 (fun inp => ltB (bitsL gs inp a) (bitsL gs inp b) (j + 1))) := ⟨q0.1, q0.2, G3, HMv.out.trans M3.undrew, ⟨HD.out.ext.trans D3.ext, by have := HD.out.len; have := D3.len; omega, D3.has, fun inp => by rw [D3.val inp, HVY.out inp, HVZ.out inp, HD.out.val inp]; rfl⟩⟩
      clear q0 q1 q2 G3 M3 D3 hcM hcx hcy
      go_wp2
      try rw [N4.out]
      exact ⟨⟨j + 1, x1, g1, F3, HJ.out, rfl, rfl, HEND.out⟩, by have := HJ.out; simp [intOf]; omega⟩
    · obtain rfl : j = 7 := by omega
      obtain ⟨y, hy⟩ : ∃ y, a[7]? = some y := ⟨_, List.getElem?_eq_getElem (by have := HNA.out; omega)⟩
      obtain ⟨z, hz⟩ : ∃ z, b[7]? = some z := ⟨_, List.getElem?_eq_getElem (by have := HNB.out; omega)⟩
      obtain ⟨ba, fa, rfl, _, hmva⟩ := HVA.out.at hy
      obtain ⟨bb, fb, rfl, _, hmvb⟩ := HVB.out.at hz
      obtain ⟨hna, hcx⟩ := hmva _ _ hM
      obtain ⟨hnb, hcy⟩ := hmvb _ _ hM
      have HG1 : Hid (GrAt G gj ins Fj wr) := hG
      have HMv : Hid (Mvd F Fj w wr) := hM
      have HD : Hid (Mad gs gj (4 * 7) x (fun inp => ltB (bitsL gs inp a) (bitsL gs inp b) 7)) := hD
      have HX0 : Hid (HasL gj x) := hD.has
      have HY0 : Hid (HasL gj y) := (HA.out y (List.mem_of_getElem? hy)).ext hD.ext
      have HZ0 : Hid (HasL gj z) := (HB.out z (List.mem_of_getElem? hz)).ext hD.ext
      have HVY : Hid (∀ inp, valL gj inp y = bitsL gs inp a 7) := fun inp => by rw [bitsL_get hy, hD.ext.val inp (HA.out y (List.mem_of_getElem? hy))]
      have HVZ : Hid (∀ inp, valL gj inp z = bitsL gs inp b 7) := fun inp => by rw [bitsL_get hz, hD.ext.val inp (HB.out z (List.mem_of_getElem? hz))]
      have HL1 : Hid (gj.length + 4 < 88900) := by have := HL.out; have := hD.len; unfold Hid; omega
      have HnM : Hid (¬ Fj w.heap.size) := hnM
      have Hna : Hid (¬ Fj ba) := hna
      have Hnb : Hid (¬ Fj bb) := hnb
      clear hj hjl hy hz hmva hmvb hna hnb hnM hG hM hD
      go_wp2
      go_region_held3 (fun w' => w'.cell? ⟨w.heap.size, 0, none⟩ = some (.pointer (some ⟨G, 0, none⟩)) ∧ w'.cell? ⟨ba, fa + 7, none⟩ = some (.int .i64 y) ∧ w'.cell? ⟨bb, fb + 7, none⟩ = some (.int .i64 z)) ((first | exact ⟨q0.1, q1.1, q2.1⟩ | exact ⟨hcM, hcx, hcy⟩ | go_keep))
        (first
          | (go_at_call 81; refine (below_any (by exact HG1.out) HL1.out _ _ _ HZ0.out HY0.out HX0.out).mono ?_; rintro e w3 ⟨x1, g1, F3, rfl, G3, M3, D3⟩; have q0 := M3.cell (by exact hcM) HnM.out; have q1 := M3.cell (by exact hcx) Hna.out; have q2 := M3.cell (by exact hcy) Hnb.out))
      have HEND : Hid (GrAt G g1 ins F3 w3 ∧ Mvd F F3 w w3 ∧ Mad gs g1 32 x1 (fun inp => lessB (bitsL gs inp a) (bitsL gs inp b))) := ⟨G3, HMv.out.trans M3.undrew, ⟨HD.out.ext.trans D3.ext, by have := HD.out.len; have := D3.len; omega, D3.has, fun inp => by rw [D3.val inp, HVY.out inp, HVZ.out inp, HD.out.val inp]; rfl⟩⟩
      clear q0 q1 q2 G3 M3 D3 hcM hcx hcy
      go_wp2
      go_ret
      exact ⟨x1, g1, F3, rfl, HEND.out.1, HEND.out.2.1, HEND.out.2.2⟩
end Go.Proofs.YtpiglmaojonbnaaGreatDoor
