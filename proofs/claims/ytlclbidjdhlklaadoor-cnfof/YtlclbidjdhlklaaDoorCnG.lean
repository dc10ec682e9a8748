/-
  package cnf: sayGates BY CONTRACT.
-/
import Derived.Test.YtlclbidjdhlklaaDoorCnF
namespace Go.Proofs.YtlclbidjdhlklaaDoor
open Go.RowKit Go.Maps

set_option maxRecDepth 100000 in
set_option maxHeartbeats 4000000 in
theorem sayGates_any {G : Nat} {gs : List (Int × Int)} {ins : Nat} {E : Nat → Prop} {B U C N : Nat} {n : Int} {F : Nat → Prop} {w : World} (hg : GrAt G gs ins E w) (hgl : gs.length ≤ 1000) (hEF : ∀ k, E k → ¬ F k) (hN : N = gs.length + 1) (h : FmAt B n [] F w) (l : List Bool) (hl0 : numA l 0 = 0) (tu tc : TypeId) (hU : w.heap[U]? = some (.cells (rowI (numL l N)) tu (0, 0))) (hC : w.heap[C]? = some (.cells #[.slice (some ⟨U, 0, none⟩) N N] tc (0, 0))) (hFU : ¬ F U) (hFC : ¬ F C)
    (te : TypeId) (qe : Value) (he : w.cell? ⟨8, 0, none⟩ = some (.iface te qe)) (hFe : ¬ F 8) :
    Calls Tryd.prog 32 #[.pointer (some ⟨G, 0, none⟩), .slice (some ⟨U, 0, none⟩) N N, .func (.func 30) #[] #[.pointer (some ⟨C, 0, none⟩)], .func (.func 29) #[] #[.pointer (some ⟨B, 0, none⟩)]] w fun e w' => e = .returned (.tuple #[]) ∧ ∃ F', FmAt B n (gatesC gs l gs.length) F' w' ∧ Mvd F F' w w' := by
  have HG : Hid (GrAt G gs ins E w) := hg
  have HGL : Hid (gs.length ≤ 1000) := hgl
  have HEF : Hid (∀ k, E k → ¬ F k) := hEF
  have HN : Hid (N = gs.length + 1) := hN
  have H0 : Hid (FmAt B n [] F w) := h
  have HL0 : Hid (numA l 0 = 0) := hl0
  have HU : Hid (w.heap[U]? = some (.cells (rowI (numL l N)) tu (0, 0))) := hU
  have HC : Hid (w.heap[C]? = some (.cells #[.slice (some ⟨U, 0, none⟩) N N] tc (0, 0))) := hC
  have HFU : Hid (¬ F U) := hFU
  have HFC : Hid (¬ F C) := hFC
  have HE : Hid (w.cell? ⟨8, 0, none⟩ = some (.iface te qe)) := he
  have HFE : Hid (¬ F 8) := hFe
  have HS : Hid (N ≤ 100000) := by unfold Hid; omega
  clear hg hgl hEF hN h hl0 hU hC hFU hFC he hFe
  go_enter Tryd.func32, Tryd.ntmps32
  go_wp2
  go_loopw [15] (fun t wr => ∃ (j : Nat) (F' : Nat → Prop), j ≤ N ∧ t = .int .i64 j ∧ FmAt B n (gatesC gs l (j - 1)) F' wr ∧ Mvd F F' w wr) (fun t _ => N - (intOf t).toNat)
  case atStart => exact ⟨0, F, Nat.zero_le _, rfl, H0.out, Mvd.refl _ _⟩
  case round =>
    obtain ⟨j, F', hj, rfl, hfm, hmv⟩ := hrel
    by_cases hjl : j < N
    · obtain ⟨hu, hnu⟩ := hmv.rowN HU.out HFU.out
      obtain ⟨hc, hnc⟩ := hmv.rowN HC.out HFC.out
      have hgr := HG.out.other hmv HEF.out
      have q0 : wr.cell? ⟨U, j, none⟩ = some (.int .i64 (numA l j)) := by rw [cell_of_row wr U _ _ _ (0, 0) hu]; exact rowI_get (numL_get l hjl)
      have i0' : (0 : Int) ≤ (j : Int) := by omega
      have i1' : (j : Int) < (N : Int) := by omega
      have N4 : Hid (wrap64 ((j : Int) + 1) = (j : Int) + 1) := by have := HS.out; unfold Hid wrap64; omega
      have HJ : Hid (j < N) := hjl
      have HFM : Hid (FmAt B n (gatesC gs l (j - 1)) F' wr) := hfm
      have HMV : Hid (Mvd F F' w wr) := hmv
      have HUW : Hid (wr.heap[U]? = some (.cells (rowI (numL l N)) tu (0, 0))) := hu
      have HCW : Hid (wr.heap[C]? = some (.cells #[.slice (some ⟨U, 0, none⟩) N N] tc (0, 0))) := hc
      have HNU : Hid (¬ F' U) := hnu
      have HNC : Hid (¬ F' C) := hnc
      rcases j with _ | i
      · have e0 := (hmv.cellN HE.out HFE.out).1
        have HP : Hid (Calls Tryd.prog 46 #[.pointer (some ⟨G, 0, none⟩), .int .i64 0] wr fun e w' => e = .returned (.tuple #[.int .i64 0, .int .i64 0, .bool false]) ∧ Below wr.heap.size wr w') := partsOf_bad hgr (Nat.le_trans HGL.out (by omega)) 0 (.inl (by omega)) _ _ e0
        rw [HL0.out] at q0
        clear hj hjl hfm hmv hu hnu hc hnc hgr e0
        go_wp2_with fail
        refine HP.out.mono ?_
        rintro e w3 ⟨rfl, hb3⟩
        have HB3 : Hid (Below wr.heap.size wr w3) := hb3
        clear hb3 q0
        go_wp2
        exact ⟨⟨1, F', HJ.out, rfl, HFM.out.below HB3.out, HMV.out.trans (Mvd.of_below HB3.out)⟩, by have := HJ.out; simp [intOf]; omega⟩
      · obtain ⟨p, hp⟩ : ∃ p, gs[i]? = some p := ⟨_, List.getElem?_eq_getElem (by have := HN.out; omega)⟩
        have HP : Hid (Calls Tryd.prog 46 #[.pointer (some ⟨G, 0, none⟩), .int .i64 ((i + 1 : Nat) : Int)] wr fun e w' => e = .returned (.tuple #[.int .i64 p.1, .int .i64 p.2, .bool (!inpB p)]) ∧ Below wr.heap.size wr w') := partsOf_ok hgr (Nat.le_trans HGL.out (by omega)) i p hp _ (by omega)
        have hpg : gs.getD i (0, 0) = p := by rw [List.getD_eq_getElem?_getD, hp]; rfl
        have hlit : inpB p = false → 0 ≤ p.1 ∧ p.1 < 2 * (N : Int) ∧ 0 ≤ p.2 ∧ p.2 < 2 * (N : Int) := fun hq => by
          have := HG.out.1.lits hp hq
          have := HN.out
          omega
        have HLit : Hid (inpB p = false → 0 ≤ p.1 ∧ p.1 < 2 * (N : Int) ∧ 0 ≤ p.2 ∧ p.2 < 2 * (N : Int)) := hlit
        have hr := numA_range l (i + 1)
        have hgc : gatesC gs l (i + 1) = gatesC gs l i ++ gateC gs l i := gatesC_succ gs l i
        have hge : gateC gs l i = if 0 < numA l (i + 1) ∧ inpB p = false then [[- numA l (i + 1), sgnL l p.1], [- numA l (i + 1), sgnL l p.2], [numA l (i + 1), - sgnL l p.1, - sgnL l p.2]] else [] := by
          unfold gateC; rw [hpg]
        rw [hge] at hgc
        have hlen : (gatesC gs l i).length ≤ 3 * i := gatesC_length gs l i
        have HLen : Hid ((gatesC gs l i).length ≤ 90000) := by have := HN.out; have := HGL.out; unfold Hid; omega
        obtain ⟨X, hX⟩ : ∃ X, X = numA l (i + 1) := ⟨_, rfl⟩
        rw [← hX] at q0 hr hgc
        have HX : Hid (0 ≤ X ∧ X ≤ 100000) := by have := HN.out; have := HGL.out; unfold Hid; omega
        have HGC : Hid (gatesC gs l (i + 1) = gatesC gs l i ++ if 0 < X ∧ inpB p = false then [[- X, sgnL l p.1], [- X, sgnL l p.2], [X, - sgnL l p.1, - sgnL l p.2]] else []) := hgc
        obtain ⟨p1, p2⟩ := p
        clear hj hjl hfm hmv hu hnu hc hnc hgr hp hpg hlit hr hgc hge hlen hX
        go_wp2_with fail
        refine HP.out.mono ?_
        clear HP
        rintro e w3 ⟨rfl, hb3⟩
        have HB3 : Hid (Below wr.heap.size wr w3) := hb3
        have HFM3 : Hid (FmAt B n (gatesC gs l i) F' w3) := HFM.out.below hb3
        have HMV3 : Hid (Mvd F F' w w3) := HMV.out.trans (Mvd.of_below hb3)
        have HU3 : Hid (w3.heap[U]? = some (.cells (rowI (numL l N)) tu (0, 0))) := row_keep hb3 HUW.out
        have HC3 : Hid (w3.heap[C]? = some (.cells #[.slice (some ⟨U, 0, none⟩) N N] tc (0, 0))) := row_keep hb3 HCW.out
        clear hb3 q0 HFM HMV HUW HCW
        have N5 : Hid (wrap64 ((i : Int) + 1 + 1) = (i : Int) + 1 + 1) := by have := HS.out; have := HJ.out; unfold Hid wrap64; omega
        by_cases hx : 0 < X
        · cases hq : inpB (p1, p2)
          · have HGC2 : Hid (gatesC gs l (i + 1) = gatesC gs l i ++ [[- X, sgnL l p1], [- X, sgnL l p2], [X, - sgnL l p1, - sgnL l p2]]) := by
              unfold Hid; rw [HGC.out, if_pos ⟨hx, hq⟩]
            obtain ⟨a0, a1, b0, b1⟩ := HLit.out hq
            have ra := sgnL_range l p1 N a0 a1
            have rb := sgnL_range l p2 N b0 b1
            have V1 : Hid (∀ w', w'.heap[U]? = some (.cells (rowI (numL l N)) tu (0, 0)) → w'.heap[C]? = some (.cells #[.slice (some ⟨U, 0, none⟩) N N] tc (0, 0)) → Calls Tryd.prog 30 #[.int .i64 p1, .pointer (some ⟨C, 0, none⟩)] w' fun e w'' => e = .returned (.int .i64 (sgnL l p1)) ∧ w'' = w') := fun w' u c => variable_any w' U C N l _ _ u c p1 a0 a1 HS.out
            have V2 : Hid (∀ w', w'.heap[U]? = some (.cells (rowI (numL l N)) tu (0, 0)) → w'.heap[C]? = some (.cells #[.slice (some ⟨U, 0, none⟩) N N] tc (0, 0)) → Calls Tryd.prog 30 #[.int .i64 p2, .pointer (some ⟨C, 0, none⟩)] w' fun e w'' => e = .returned (.int .i64 (sgnL l p2)) ∧ w'' = w') := fun w' u c => variable_any w' U C N l _ _ u c p2 b0 b1 HS.out
            obtain ⟨a, ha⟩ : ∃ a, a = sgnL l p1 := ⟨_, rfl⟩
            obtain ⟨b, hb⟩ : ∃ b, b = sgnL l p2 := ⟨_, rfl⟩
            rw [← ha] at HGC2 V1 ra
            rw [← hb] at HGC2 V2 rb
            have HAB : Hid (wrap64 (-X) = -X ∧ wrap64 (-a) = -a ∧ wrap64 (-b) = -b) := by
              have := HX.out; have := HS.out
              unfold Hid wrap64; omega
            clear a0 a1 b0 b1 ra rb ha hb HLit HGC
            go_wp2_with fail
            refine (V1.out _ HU3.out HC3.out).mono ?_
            rintro e w' ⟨rfl, hw⟩
            have hw2 := hw.symm
            subst hw2
            go_wp2_with fail
            rw [HAB.out.1]
            refine (said_one HFM3.out (Nat.le_trans HLen.out (by omega)) [-X, a] 3 2 rfl).mono ?_
            rintro e w4 ⟨rfl, F4, k1, k2⟩
            have HFM4 : Hid (FmAt B n (gatesC gs l i ++ [[-X, a]]) F4 w4) := k1
            have HMV4 : Hid (Mvd F F4 w w4) := HMV3.out.trans k2
            have HU4 : Hid (w4.heap[U]? = some (.cells (rowI (numL l N)) tu (0, 0)) ∧ ¬ F4 U) := k2.rowN HU3.out HNU.out
            have HC4 : Hid (w4.heap[C]? = some (.cells #[.slice (some ⟨U, 0, none⟩) N N] tc (0, 0)) ∧ ¬ F4 C) := k2.rowN HC3.out HNC.out
            clear k1 k2
            go_wp2_with fail
            refine (V2.out _ HU4.out.1 HC4.out.1).mono ?_
            rintro e w' ⟨rfl, hw⟩
            have hw2 := hw.symm
            subst hw2
            go_wp2_with fail
            rw [HAB.out.1]
            refine (said_one HFM4.out (by rw [List.length_append]; have := HLen.out; simp; omega) [-X, b] 3 2 rfl).mono ?_
            rintro e w5 ⟨rfl, F5, k1, k2⟩
            have HFM5 : Hid (FmAt B n (gatesC gs l i ++ [[-X, a]] ++ [[-X, b]]) F5 w5) := k1
            have HMV5 : Hid (Mvd F F5 w w5) := HMV4.out.trans k2
            have HU5 : Hid (w5.heap[U]? = some (.cells (rowI (numL l N)) tu (0, 0)) ∧ ¬ F5 U) := k2.rowN HU4.out.1 HU4.out.2
            have HC5 : Hid (w5.heap[C]? = some (.cells #[.slice (some ⟨U, 0, none⟩) N N] tc (0, 0)) ∧ ¬ F5 C) := k2.rowN HC4.out.1 HC4.out.2
            clear k1 k2
            go_wp2_with fail
            refine (V1.out _ HU5.out.1 HC5.out.1).mono ?_
            rintro e w' ⟨rfl, hw⟩
            have hw2 := hw.symm
            subst hw2
            go_wp2_with fail
            refine (V2.out _ HU5.out.1 HC5.out.1).mono ?_
            rintro e w' ⟨rfl, hw⟩
            have hw2 := hw.symm
            subst hw2
            go_wp2_with fail
            rw [HAB.out.2.1, HAB.out.2.2]
            refine (said_one HFM5.out (by rw [List.length_append, List.length_append]; have := HLen.out; simp; omega) [X, -a, -b] 3 3 rfl).mono ?_
            rintro e w6 ⟨rfl, F6, k1, k2⟩
            have HFM6 : Hid (FmAt B n (gatesC gs l (i + 1)) F6 w6) := by
              unfold Hid
              rw [HGC2.out]
              have e : gatesC gs l i ++ [[-X, a]] ++ [[-X, b]] ++ [[X, -a, -b]] = gatesC gs l i ++ [[-X, a], [-X, b], [X, -a, -b]] := by simp
              rw [← e]; exact k1
            have HMV6 : Hid (Mvd F F6 w w6) := HMV5.out.trans k2
            clear k1 k2
            go_wp2
            exact ⟨⟨i + 2, F6, HJ.out, by rw [N5.out]; rfl, HFM6.out, HMV6.out⟩, by rw [N5.out]; have := HJ.out; simp [intOf]; omega⟩
          · have HGC2 : Hid (gatesC gs l (i + 1) = gatesC gs l i) := by
              unfold Hid; rw [HGC.out, if_neg (by rw [hq]; simp), List.append_nil]
            go_wp2
            exact ⟨⟨i + 2, F', HJ.out, by rw [N5.out]; rfl, by show FmAt B n (gatesC gs l (i + 1)) F' w3; rw [HGC2.out]; exact HFM3.out, HMV3.out⟩, by rw [N5.out]; have := HJ.out; simp [intOf]; omega⟩
        · have HGC2 : Hid (gatesC gs l (i + 1) = gatesC gs l i) := by
            unfold Hid; rw [HGC.out, if_neg (by omega), List.append_nil]
          have d0 : (0 < X) = False := eq_false hx
          clear hx
          go_wp2
          exact ⟨⟨i + 2, F', HJ.out, by rw [N5.out]; rfl, by show FmAt B n (gatesC gs l (i + 1)) F' w3; rw [HGC2.out]; exact HFM3.out, HMV3.out⟩, by rw [N5.out]; have := HJ.out; simp [intOf]; omega⟩
    · obtain rfl : j = N := by omega
      have hj1 : j - 1 = gs.length := by have := HN.out; omega
      rw [hj1] at hfm
      have HFM : Hid (FmAt B n (gatesC gs l gs.length) F' wr) := hfm
      have HMV : Hid (Mvd F F' w wr) := hmv
      clear hj hjl hfm hmv hj1
      go_wp2
      go_end0
      exact ⟨rfl, F', HFM.out, HMV.out⟩
end Go.Proofs.YtlclbidjdhlklaaDoor
