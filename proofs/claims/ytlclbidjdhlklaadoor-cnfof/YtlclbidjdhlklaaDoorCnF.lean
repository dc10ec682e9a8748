/-
  package cnf: sayGates, sayRoots BY CONTRACT.
-/
import Derived.Test.YtlclbidjdhlklaaDoorCnE
namespace Go.Proofs.YtlclbidjdhlklaaDoor
open Go.RowKit Go.Maps

/-- One clause more is said. -/
theorem said_one {B : Nat} {n : Int} {cs : List (List Int)} {F : Nat → Prop} {w : World} (h : FmAt B n cs F w) (hl : cs.length ≤ 100000) (l : List Int) (t : TypeId) (m : Nat) (hm : m = l.length) :
    Calls Tryd.prog 29 #[.slice (some ⟨w.heap.size, 0, none⟩) m m, .pointer (some ⟨B, 0, none⟩)] (w.alloc (.cells (rowI l) t)) fun e w' => e = .returned (.tuple #[]) ∧ ∃ F', FmAt B n (cs ++ [l]) F' w' ∧ Mvd F F' w w' := by
  have hb : Below w.heap.size w (w.alloc (.cells (rowI l) t)) := (Below.refl _ _).alloc (Nat.le_refl _) _
  have hF : ∀ k, (F k ∨ k < B) → k < w.heap.size := fun k hk => by
    rcases hk with hk | hk
    · exact h.2.1 k hk
    · exact Nat.lt_trans hk (h.2.1 B h.1)
  refine (say_any (h.below hb) hl _ l (ClIn.new hF l t m hm)).mono ?_
  rintro e w' ⟨rfl, F', h1, h2⟩
  exact ⟨rfl, F', h1, (Mvd.of_below hb).trans h2⟩
set_option maxRecDepth 100000 in
set_option maxHeartbeats 4000000 in
theorem sayRoots_any {B U C N : Nat} {n : Int} {cs : List (List Int)} {F : Nat → Prop} {w : World} (h : FmAt B n cs F w) (hl : cs.length ≤ 10000) (l : List Bool) (tu tc : TypeId) (hU : w.heap[U]? = some (.cells (rowI (numL l N)) tu (0, 0))) (hC : w.heap[C]? = some (.cells #[.slice (some ⟨U, 0, none⟩) N N] tc (0, 0))) (hFU : ¬ F U) (hFC : ¬ F C) (hs : N ≤ 100000)
    (o : Option Addr) (m c : Nat) (rs : List Int) (hv : IntsAt w (.slice o m c) rs) (hvF : 0 < m → ∀ b off, o = some ⟨b, off, none⟩ → ¬ F b) (hm : m = rs.length) (hms : m ≤ 1000) (hr : ∀ x ∈ rs, 0 ≤ x ∧ x < 2 * (N : Int)) :
    Calls Tryd.prog 33 #[.slice o m c, .func (.func 30) #[] #[.pointer (some ⟨C, 0, none⟩)], .func (.func 29) #[] #[.pointer (some ⟨B, 0, none⟩)]] w fun e w' => e = .returned (.tuple #[]) ∧ ∃ F', FmAt B n (cs ++ rootsC l rs) F' w' ∧ Mvd F F' w w' := by
  have H0 : Hid (FmAt B n cs F w) := h
  have HL : Hid (cs.length ≤ 10000) := hl
  have HU : Hid (w.heap[U]? = some (.cells (rowI (numL l N)) tu (0, 0))) := hU
  have HC : Hid (w.heap[C]? = some (.cells #[.slice (some ⟨U, 0, none⟩) N N] tc (0, 0))) := hC
  have HFU : Hid (¬ F U) := hFU
  have HFC : Hid (¬ F C) := hFC
  have HS : Hid (N ≤ 100000) := hs
  have HV : Hid (IntsAt w (.slice o m c) rs) := hv
  have HVF : Hid (0 < m → ∀ b off, o = some ⟨b, off, none⟩ → ¬ F b) := hvF
  have HM : Hid (m = rs.length) := hm
  have HMS : Hid (m ≤ 1000) := hms
  have HR : Hid (∀ x ∈ rs, 0 ≤ x ∧ x < 2 * (N : Int)) := hr
  clear h hl hU hC hFU hFC hs hv hvF hm hms hr
  go_enter Tryd.func33, Tryd.ntmps33
  go_wp2
  go_loopw [10] (fun t wr => ∃ (j : Nat) (F' : Nat → Prop), j ≤ m ∧ t = .int .i64 j ∧ FmAt B n (cs ++ rootsC l (rs.take j)) F' wr ∧ Mvd F F' w wr) (fun t _ => m - (intOf t).toNat)
  case atStart => exact ⟨0, F, Nat.zero_le _, rfl, by simpa [rootsC] using H0.out, Mvd.refl _ _⟩
  case round =>
    obtain ⟨j, F', hj, rfl, hfm, hmv⟩ := hrel
    by_cases hjl : j < m
    · obtain ⟨x, hx⟩ : ∃ x, rs[j]? = some x := ⟨_, List.getElem?_eq_getElem (by have := HM.out; omega)⟩
      obtain ⟨b, off, rfl, hcx⟩ := HV.out.get hx
      have q0 := (hmv.cellN hcx (HVF.out (by omega) _ _ rfl)).1
      obtain ⟨hu, hnu⟩ := hmv.rowN HU.out HFU.out
      obtain ⟨hc, hnc⟩ := hmv.rowN HC.out HFC.out
      obtain ⟨x0, x1⟩ := HR.out x (List.mem_of_getElem? hx)
      have hlen : (cs ++ rootsC l (rs.take j)).length ≤ 100000 := by
        rw [List.length_append]
        have := rootsC_length l (rs.take j)
        have : (rs.take j).length ≤ j := List.length_take_le _ _
        have := HL.out; have := HMS.out
        omega
      have etk : rootsC l (rs.take (j + 1)) = rootsC l (rs.take j) ++ rootC l x := by rw [List.take_add_one, hx]; exact rootsC_snoc _ _ _
      have HTK : Hid (rootsC l (rs.take (j + 1)) = rootsC l (rs.take j) ++ rootC l x) := etk
      have HFM : Hid (FmAt B n (cs ++ rootsC l (rs.take j)) F' wr) := hfm
      have HMV : Hid (Mvd F F' w wr) := hmv
      have HLEN : Hid ((cs ++ rootsC l (rs.take j)).length ≤ 100000) := hlen
      have i0' : (0 : Int) ≤ (j : Int) := by omega
      have i1' : (j : Int) < (m : Int) := by omega
      have N4 : Hid (wrap64 ((j : Int) + 1) = (j : Int) + 1) := by have := HMS.out; unfold Hid wrap64; omega
      have HJ : Hid (j < m) := hjl
      by_cases h0 : x = 0
      · subst h0
        have HSAY : Hid (Calls Tryd.prog 29 #[.slice none 0 0, .pointer (some ⟨B, 0, none⟩)] wr fun e w' => e = .returned (.tuple #[]) ∧ ∃ F'', FmAt B n (cs ++ rootsC l (rs.take j) ++ [[]]) F'' w' ∧ Mvd F' F'' wr w') := say_any hfm hlen _ [] (ClIn.nil _ _)
        clear hj hjl hx hcx hu hnu hc hnc x0 x1 hlen etk hfm hmv
        go_wp2_with (go_at_call 29; refine HSAY.out.mono ?_; rintro e w' ⟨rfl, F'', k1, k2⟩; have K1 : Hid (FmAt _ _ _ _ _) := k1; have K2 : Hid (Mvd _ _ _ _) := k2; clear k1 k2)
        exact ⟨⟨j + 1, F'', HJ.out, by rw [N4.out]; rfl, by rw [HTK.out, ← List.append_assoc]; exact K1.out, HMV.out.trans K2.out⟩, by rw [N4.out]; have := HJ.out; simp [intOf]; omega⟩
      · have d0 : (x == 0) = false := by simp [h0]
        by_cases h1 : x = 1
        · subst h1
          have HE : Hid (rootC l 1 = []) := rfl
          clear hj hjl hx hcx hu hnu hc hnc x0 x1 hlen etk hfm hmv
          go_wp2
          exact ⟨⟨j + 1, F', HJ.out, by rw [N4.out]; rfl, by rw [HTK.out, HE.out, List.append_nil]; exact HFM.out, HMV.out⟩, by rw [N4.out]; have := HJ.out; simp [intOf]; omega⟩
        · have d1 : (x == 1) = false := by simp [h1]
          have HE : Hid (rootC l x = [[sgnL l x]]) := by unfold Hid rootC; rw [if_neg h0, if_neg h1]
          have HVAR : Hid (Calls Tryd.prog 30 #[.int .i64 x, .pointer (some ⟨C, 0, none⟩)] wr fun e w' => e = .returned (.int .i64 (sgnL l x)) ∧ w' = wr) := variable_any wr U C N l _ _ hu hc x x0 x1 HS.out
          have HSAY : Hid (Calls Tryd.prog 29 #[.slice (some ⟨wr.heap.size, 0, none⟩) 1 1, .pointer (some ⟨B, 0, none⟩)] (wr.alloc (.cells #[.int .i64 (sgnL l x)] 3)) fun e w' => e = .returned (.tuple #[]) ∧ ∃ F'', FmAt B n (cs ++ rootsC l (rs.take j) ++ [[sgnL l x]]) F'' w' ∧ Mvd F' F'' wr w') := said_one hfm hlen [sgnL l x] 3 1 rfl
          clear hj hjl hx hcx hu hnu hc hnc x0 x1 hlen etk hfm hmv h0 h1
          go_wp2_with fail
          refine HVAR.out.mono ?_
          rintro e w' ⟨rfl, hw⟩
          have hw2 := hw.symm
          subst hw2
          go_wp2_with fail
          refine HSAY.out.mono ?_
          rintro e w' ⟨rfl, F'', k1, k2⟩
          have K1 : Hid (FmAt _ _ _ _ _) := k1
          have K2 : Hid (Mvd _ _ _ _) := k2
          clear k1 k2
          go_wp2
          exact ⟨⟨j + 1, F'', HJ.out, by rw [N4.out]; rfl, by rw [HTK.out, HE.out, ← List.append_assoc]; exact K1.out, HMV.out.trans K2.out⟩, by rw [N4.out]; have := HJ.out; simp [intOf]; omega⟩
    · obtain rfl : j = m := by omega
      rw [List.take_of_length_le (by rw [HM.out]; exact Nat.le_refl _)] at hfm
      have HFM : Hid (FmAt B n (cs ++ rootsC l rs) F' wr) := hfm
      have HMV : Hid (Mvd F F' w wr) := hmv
      clear hj hjl hfm hmv
      go_wp2
      go_end0
      exact ⟨rfl, F', HFM.out, HMV.out⟩
end Go.Proofs.YtlclbidjdhlklaaDoor
