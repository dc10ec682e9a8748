/-
  lustrumref3.Holds BY CONTRACT.
-/
import Derived.Test.YtbbakcpflckbnaaDoorCnU
namespace Go.Proofs.YtbbakcpflckbnaaDoor
open Go.RowKit Go.Maps

theorem varB_pos {vs : List Bool} {x : Int} (h : 0 < x) : varB vs x = vs.getD (x - 1).toNat false := by
  unfold varB; rw [decide_eq_true h, decide_eq_false (by omega)]; simp
theorem varB_neg {vs : List Bool} {x : Int} (h : x < 0) : varB vs x = !vs.getD (-x - 1).toNat false := by
  unfold varB; rw [decide_eq_false (by omega), decide_eq_true h]; simp
theorem varB_zero {vs : List Bool} {x : Int} (h0 : ¬ 0 < x) (h1 : ¬ x < 0) : varB vs x = false := by
  unfold varB; rw [decide_eq_false h0, decide_eq_false h1]; simp
theorem any_take {c : List Int} {k : Nat} {x : Int} (h : c[k]? = some x) (f : Int → Bool) : (c.take (k + 1)).any f = ((c.take k).any f || f x) := by
  rw [List.take_add_one, h, List.any_append]; simp
set_option maxRecDepth 100000 in
set_option maxHeartbeats 4000000 in
theorem holds3_any (w : World) (n : Int) (v : Value) (cs : List (List Int)) (hv : ClsAt w v cs) (hs : sizC cs ≤ 100000) (V m : Nat) (vs : List Bool) (t : TypeId) (hV : w.heap[V]? = some (.cells (rowB vs) t (0, 0))) (hm : vs.length = m) (hml : m ≤ 100000) (hx : ∀ c ∈ cs, ∀ x ∈ c, -(m : Int) ≤ x ∧ x ≤ (m : Int)) :
    Calls Tryd.prog 17 #[.agg #[.int .i64 n, v], .slice (some ⟨V, 0, none⟩) m m] w fun e w' => e = .returned (.bool (holdF vs cs)) ∧ Below w.heap.size w w' := by
  have HV : Hid (ClsAt w v cs) := hv
  obtain ⟨_, o, c, rfl, _⟩ := hv
  obtain ⟨w1, hw1⟩ : ∃ w1, w1 = w.alloc (.cells #[.int .i64 n, .slice o cs.length c] 40) := ⟨_, rfl⟩
  have hb1 : Below w.heap.size w w1 := by rw [hw1]; exact (Below.refl _ _).alloc (Nat.le_refl _) _
  have hf1 : w1.heap[w.heap.size]? = some (.cells #[.int .i64 n, .slice o cs.length c] 40 (0, 0)) := by rw [hw1]; exact heap_alloc_new _ _
  have z1 : w1.cell? ⟨w.heap.size, 0 + 1, none⟩ = some (.slice o cs.length c) := by rw [cell_of_row w1 _ _ _ _ (0, 0) hf1]; rfl
  have HV1 : Hid (ClsAt w1 (.slice o cs.length c) cs) := HV.out.below hb1
  have HR : Hid (w1.heap[V]? = some (.cells (rowB vs) t (0, 0))) := row_keep hb1 hV
  have HM : Hid (vs.length = m) := hm
  have HML : Hid (m ≤ 100000) := hml
  have HX : Hid (∀ c ∈ cs, ∀ x ∈ c, -(m : Int) ≤ x ∧ x ≤ (m : Int)) := hx
  have HS : Hid (sizC cs ≤ 100000) := hs
  have HLN : Hid (cs.length ≤ 100000) := by have := sizC_len cs; unfold Hid; omega
  have HW1 : Hid (w.alloc (.cells #[.int .i64 n, .slice o cs.length c] 40) = w1) := hw1.symm
  have HB1 : Hid (Below w.heap.size w w1) := hb1
  clear hV hm hml hx hs hw1 hb1 hf1 HV
  go_enter Tryd.func17, Tryd.ntmps17
  go_wp2
  rw [HW1.out]
  go_loop [5] (fun t => ∃ j : Nat, j ≤ cs.length ∧ t = .int .i64 j ∧ ∀ k d, k < j → cs[k]? = some d → holdC vs d = true) (fun t => cs.length - (intOf t).toNat)
  case atStart => exact ⟨0, Nat.zero_le _, rfl, fun k d hk => by omega⟩
  case round =>
    obtain ⟨j, hj, rfl, hall⟩ := hrel
    have HALL : Hid (∀ k d, k < j → cs[k]? = some d → holdC vs d = true) := hall
    by_cases hjl : j < cs.length
    · obtain ⟨d, hd⟩ : ∃ d, cs[j]? = some d := ⟨_, List.getElem?_eq_getElem hjl⟩
      obtain ⟨b, off, o', c', rfl, q0, hin⟩ := HV1.out.get hd
      have hsz := sizC_get hd
      have HIN : Hid (∀ j x, d[j]? = some x → ∃ b' off', o' = some ⟨b', off', none⟩ ∧ w1.cell? ⟨b', off' + j, none⟩ = some (.int .i64 x)) := hin
      have HDX : Hid (∀ x ∈ d, -(m : Int) ≤ x ∧ x ≤ (m : Int)) := HX.out d (List.mem_of_getElem? hd)
      have HDL : Hid (d.length ≤ 100000) := by have := HS.out; unfold Hid; omega
      have HD : Hid (cs[j]? = some d) := hd
      have i0' : (0 : Int) ≤ (j : Int) := by omega
      have i1' : (j : Int) < (cs.length : Int) := by omega
      have HJ : Hid (j < cs.length) := hjl
      have N4 : Hid (wrap64 ((j : Int) + 1) = (j : Int) + 1) := by have := HLN.out; unfold Hid wrap64; omega
      clear hall hj hjl hd hin hsz
      go_wp2
      go_loop [6, 7] (fun s t => ∃ k : Nat, k ≤ d.length ∧ t = .int .i64 k ∧ s = .bool ((d.take k).any (varB vs))) (fun _ t => d.length - (intOf t).toNat)
      case atStart => exact ⟨0, Nat.zero_le _, rfl, rfl⟩
      case round =>
        obtain ⟨k, hk, rfl, rfl⟩ := hrel
        by_cases hkl : k < d.length
        · obtain ⟨x, hx⟩ : ∃ x, d[k]? = some x := ⟨_, List.getElem?_eq_getElem hkl⟩
          obtain ⟨b', off', rfl, q1⟩ := HIN.out k x hx
          obtain ⟨x0, x1⟩ := HDX.out x (List.mem_of_getElem? hx)
          have hat := any_take hx (varB vs)
          have HAT : Hid ((d.take (k + 1)).any (varB vs) = ((d.take k).any (varB vs) || varB vs x)) := hat
          have j0' : (0 : Int) ≤ (k : Int) := by omega
          have j1' : (k : Int) < (d.length : Int) := by omega
          have HK : Hid (k < d.length) := hkl
          have N5 : Hid (wrap64 ((k : Int) + 1) = (k : Int) + 1) := by have := HDL.out; unfold Hid wrap64; omega
          by_cases hp : 0 < x
          · obtain ⟨i, hi⟩ : ∃ i : Nat, (x - 1).toNat = i := ⟨_, rfl⟩
            have hil : i < vs.length := by have := HM.out; omega
            have hg : vs[i]? = some vs[i] := List.getElem?_eq_getElem hil
            have e1 : varB vs x = vs[i] := by rw [varB_pos hp, hi, List.getD_eq_getElem?_getD, hg]; rfl
            have q2 : w1.cell? ⟨V, i, none⟩ = some (.bool vs[i]) := by rw [cell_of_row w1 V _ _ t (0, 0) HR.out]; exact rowB_get hg
            rw [e1] at HAT
            have d0 : (0 < x) = True := eq_true hp
            have d1 : (x < 0) = False := eq_false (by omega)
            have r0 : (0 : Int) ≤ (i : Int) := by omega
            have r1 : (i : Int) < (m : Int) := by have := HM.out; omega
            have n1 : wrap64 (x - 1) = (i : Int) := by have := HML.out; unfold wrap64; omega
            obtain ⟨y, hy⟩ : ∃ y, y = vs[i] := ⟨_, rfl⟩
            rw [← hy] at HAT q2
            clear hk hkl hx x0 x1 hat hp hi hil hg e1 hy
            cases y
            · go_wp2
              exact ⟨⟨k + 1, HK.out, by rw [N5.out]; rfl, by rw [HAT.out, Bool.or_false]⟩, by rw [N5.out]; have := HK.out; simp [intOf]; omega⟩
            · go_wp2
              exact ⟨⟨k + 1, HK.out, by rw [N5.out]; rfl, by rw [HAT.out, Bool.or_true]⟩, by rw [N5.out]; have := HK.out; simp [intOf]; omega⟩
          · have d0 : (0 < x) = False := eq_false hp
            by_cases hq : x < 0
            · obtain ⟨i, hi⟩ : ∃ i : Nat, (-x - 1).toNat = i := ⟨_, rfl⟩
              have hil : i < vs.length := by have := HM.out; omega
              have hg : vs[i]? = some vs[i] := List.getElem?_eq_getElem hil
              have e1 : varB vs x = !vs[i] := by rw [varB_neg hq, hi, List.getD_eq_getElem?_getD, hg]; rfl
              have q2 : w1.cell? ⟨V, i, none⟩ = some (.bool vs[i]) := by rw [cell_of_row w1 V _ _ t (0, 0) HR.out]; exact rowB_get hg
              rw [e1] at HAT
              have d1 : (x < 0) = True := eq_true hq
              have r0 : (0 : Int) ≤ (i : Int) := by omega
              have r1 : (i : Int) < (m : Int) := by have := HM.out; omega
              have n0 : wrap64 (-x) = -x ∧ wrap64 (-x - 1) = (i : Int) := by have := HML.out; unfold wrap64; omega
              have n1 := n0.1
              have n2 := n0.2
              obtain ⟨y, hy⟩ : ∃ y, y = vs[i] := ⟨_, rfl⟩
              rw [← hy] at HAT q2
              clear hk hkl hx x0 x1 hat hp hq hi hil hg e1 hy n0
              cases y
              · go_wp2
                exact ⟨⟨k + 1, HK.out, by rw [N5.out]; rfl, by rw [HAT.out]; simp⟩, by rw [N5.out]; have := HK.out; simp [intOf]; omega⟩
              · go_wp2
                exact ⟨⟨k + 1, HK.out, by rw [N5.out]; rfl, by rw [HAT.out]; simp⟩, by rw [N5.out]; have := HK.out; simp [intOf]; omega⟩
            · have d1 : (x < 0) = False := eq_false hq
              rw [varB_zero hp hq] at HAT
              clear hk hkl hx x0 x1 hat hp hq
              go_wp2
              exact ⟨⟨k + 1, HK.out, by rw [N5.out]; rfl, by rw [HAT.out, Bool.or_false]⟩, by rw [N5.out]; have := HK.out; simp [intOf]; omega⟩
        · obtain rfl : k = d.length := by omega
          rw [List.take_of_length_le (Nat.le_refl _)]
          clear hk hkl
          cases hh : d.any (varB vs)
          · have HF : Hid (holdF vs cs = false) := by
              unfold Hid holdF
              rw [List.all_eq_false]
              exact ⟨d, List.mem_of_getElem? HD.out, by unfold holdC; rw [hh]; simp⟩
            go_wp2
            go_ret
            exact ⟨by rw [HF.out]; rfl, HB1.out⟩
          · have HT : Hid (holdC vs d = true) := hh
            go_wp2
            refine ⟨⟨j + 1, HJ.out, by rw [N4.out]; rfl, fun k y hk hy => ?_⟩, by rw [N4.out]; have := HJ.out; simp [intOf]; omega⟩
            rcases Nat.lt_or_ge k j with h1 | h1
            · exact HALL.out k y h1 hy
            · obtain rfl : k = j := by omega
              rw [HD.out] at hy
              cases hy
              exact HT.out
    · obtain rfl : j = cs.length := by omega
      have HF : Hid (holdF vs cs = true) := by
        unfold Hid holdF
        rw [List.all_eq_true]
        intro d hd
        obtain ⟨k, hk, rfl⟩ := List.getElem_of_mem hd
        exact hall k _ hk (List.getElem?_eq_getElem hk)
      clear hall hj hjl
      go_wp2
      go_ret
      exact ⟨by rw [HF.out]; rfl, HB1.out⟩
end Go.Proofs.YtbbakcpflckbnaaDoor
