/-
  lustrumlaw3.bitsOf BY CONTRACT: the bits of ints.
-/
import Derived.Test.YtmmfodiagcnjeaaDoorWdC
import Derived.Test.YtmmfodiagcnjeaaDoorSgB
namespace Go.Proofs.YtmmfodiagcnjeaaDoor
open Go.RowKit Go.Maps

/-- The bits of ints, eight each. -/
def bitsAll (l : List Int) : List Bool := l.flatMap fun n => (List.range 8).map (bitB n)
theorem bitsAll_length (l : List Int) : (bitsAll l).length = 8 * l.length := by
  induction l with
  | nil => rfl
  | cons x r ih => simp only [bitsAll, List.flatMap_cons, List.length_append] at ih ⊢; simp [ih]; omega
theorem bitsAll_get : ∀ (l : List Int) (i j : Nat) (x : Int), l[i]? = some x → j < 8 → (bitsAll l).getD (8 * i + j) false = bitB x j
  | [], i, j, x, h, _ => by simp at h
  | y :: r, 0, j, x, h, hj => by
    simp at h; subst h
    have e : bitsAll (y :: r) = (List.range 8).map (bitB y) ++ bitsAll r := by simp [bitsAll]
    rw [e, Nat.mul_zero, Nat.zero_add, List.getD_eq_getElem?_getD, List.getElem?_append_left (by simp; omega), List.getElem?_map, List.getElem?_range hj]
    rfl
  | y :: r, i + 1, j, x, h, hj => by
    have e : bitsAll (y :: r) = (List.range 8).map (bitB y) ++ bitsAll r := by simp [bitsAll]
    have ih := bitsAll_get r i j x (by simpa using h) hj
    rw [List.getD_eq_getElem?_getD] at ih ⊢
    rw [e, List.getElem?_append_right (by simp; omega)]
    have : 8 * (i + 1) + j - ((List.range 8).map (bitB y)).length = 8 * i + j := by simp; omega
    rw [this]
    exact ih
theorem tmod_kj (x : Int) : (x.tmod 256 < 0 ∧ wrap64 (x.tmod 256 + 256) = kj x 0) ∨ (¬ x.tmod 256 < 0 ∧ x.tmod 256 = kj x 0) := by
  rw [kj_zero]
  have h : x.tmod 256 = x % 256 ∨ x.tmod 256 = x % 256 - 256 ∧ x % 256 ≠ 0 := by
    rcases Int.lt_or_le x 0 with h | h
    · have e : x.tmod 256 = -((-x) % 256) := by
        have := Int.neg_tmod (-x) 256
        rw [Int.neg_neg] at this
        rw [this, Int.tmod_eq_emod_of_nonneg (by omega)]
      rw [e]
      omega
    · exact .inl (Int.tmod_eq_emod_of_nonneg h)
  unfold wrap64
  omega
theorem bools_of_owns {w : World} {base n : Nat} {o : Option Addr} {c : Nat} {l : List Bool} (h : w.ownsRow base 4 1 (.slice o n c) n (l.map Value.bool)) (hn : l.length = n) (hm : n ≤ maxLen) : BoolsAt w (.slice o n c) l := by
  subst hn
  refine ⟨hm, o, c, rfl, fun k x hk => ?_⟩
  have hlt := (List.getElem?_eq_some_iff.1 hk).1
  obtain ⟨g, cap, e, _, _⟩ := h.form (by omega)
  obtain ⟨rfl, rfl⟩ : o = some ⟨g, 0, none⟩ ∧ c = cap := by simpa using e
  have hadd' : ∀ j, (⟨g, 0, none⟩ : Addr).add j = ⟨g, 0 + j, none⟩ := fun j => by unfold Addr.add; split <;> simp_all
  refine ⟨g, 0, rfl, ?_⟩
  rw [← hadd']
  exact h.cells (g := g) rfl k _ (by simp [hk])
set_option maxRecDepth 100000 in
set_option maxHeartbeats 4000000 in
theorem lbits_any (w : World) (o : Option Addr) (n c : Nat) (l : List Int) (hv : IntsAt w (.slice o n c) l) (hn : n = l.length) (hl : n ≤ 5) :
    Calls Tryd.prog 21 #[.slice o n c] w fun e w' => ∃ o' c', e = .returned (.slice o' (8 * n) c') ∧ BoolsAt w' (.slice o' (8 * n) c') (bitsAll l) ∧ Below w.heap.size w w' := by
  obtain ⟨i0, hi0, hz0, hz1, hz2⟩ := info_parts Tryd.infoBool
  have HV : Hid (IntsAt w (.slice o n c) l) := hv
  have HN : Hid (n = l.length) := hn
  have HL : Hid (n ≤ 5) := hl
  clear hv hn hl
  go_enter Tryd.func21, Tryd.ntmps21
  go_wp2
  go_loopw [3, 4] (fun sv t wr => ∃ (i : Nat) (so : Option Addr) (sc : Nat), i ≤ n ∧ t = .int .i64 i ∧ sv = .slice so (8 * i) sc ∧ wr.ownsRow w.heap.size 4 1 (.slice so (8 * i) sc) (8 * i) ((bitsAll (l.take i)).map Value.bool) ∧ Below w.heap.size w wr) (fun _ t _ => n - (intOf t).toNat)
  case atStart => exact ⟨0, none, 0, Nat.zero_le _, rfl, rfl, World.ownsRow_nil _ _ _ _, Below.refl _ _⟩
  case round =>
    obtain ⟨i, so, sc, hi, rfl, rfl, hown, hb⟩ := hrel
    have HO1 : Hid (wr.ownsRow w.heap.size 4 1 (.slice so (8 * i) sc) (8 * i) ((bitsAll (l.take i)).map Value.bool)) := hown
    have HB1 : Hid (Below w.heap.size w wr) := hb
    clear hown hb
    by_cases hil : i < n
    · obtain ⟨x, hx⟩ : ∃ x, l[i]? = some x := ⟨_, List.getElem?_eq_getElem (by have := HN.out; omega)⟩
      obtain ⟨b0, f0, rfl, hcx⟩ := HV.out.get hx
      have q0 := cell_keep HB1.out hcx
      have i0' : (0 : Int) ≤ (i : Int) := by omega
      have i1' : (i : Int) < (n : Int) := by omega
      have N4 : Hid (wrap64 ((i : Int) + 1) = (i : Int) + 1) := by have := HL.out; unfold Hid wrap64; omega
      have HI : Hid (i < n) := hil
      have HX : Hid (l[i]? = some x) := hx
      have hkj := tmod_kj x
      obtain ⟨y, hy⟩ : ∃ y, x.tmod 256 = y := ⟨_, rfl⟩
      rw [hy] at hkj
      clear hi hil hx hcx
      go_upto_if 19 with fail
      rename World => wq
      go_cut [5] (fun s wc => s = .int .i64 (kj x 0) ∧ wc = wq)
      case first =>
        rcases hkj with ⟨h1, h2⟩ | ⟨h1, h2⟩
        · have d1 : (y < 0) = True := eq_true h1
          have H2 : Hid (wrap64 (y + 256) = kj x 0) := h2
          clear h1 h2
          simp only [d1, decide_true]
          go_wp2
          go_meet
          case rel => exact ⟨by rw [H2.out], rfl⟩
        · have d1 : (y < 0) = False := eq_false h1
          have H2 : Hid (y = kj x 0) := h2
          clear h1 h2
          simp only [d1, decide_false]
          go_wp2
          go_meet
          case rel => exact ⟨by rw [H2.out], rfl⟩
      case rest =>
        obtain ⟨rfl, hwc⟩ := hcut
        have hwc2 := hwc.symm
        subst hwc2
        clear hkj hy q0
        go_wp2
        go_loopw [3, 5, 6] (fun sv kv t wr => ∃ (j : Nat) (so : Option Addr) (sc : Nat), j ≤ 8 ∧ t = .int .i64 j ∧ kv = .int .i64 (kj x j) ∧ sv = .slice so (8 * i + j) sc ∧ wr.ownsRow w.heap.size 4 1 (.slice so (8 * i + j) sc) (8 * i + j) ((bitsAll (l.take i) ++ (List.range j).map (bitB x)).map Value.bool) ∧ Below w.heap.size w wr) (fun _ _ t _ => 8 - (intOf t).toNat)
        case atStart => exact ⟨0, so, sc, Nat.zero_le _, rfl, rfl, rfl, by simpa using HO1.out, HB1.out⟩
        case round =>
          obtain ⟨j, so2, sc2, hj, rfl, rfl, rfl, hown, hb⟩ := hrel
          have HO2 : Hid (wr.ownsRow w.heap.size 4 1 (.slice so2 (8 * i + j) sc2) (8 * i + j) ((bitsAll (l.take i) ++ (List.range j).map (bitB x)).map Value.bool)) := hown
          have HB2 : Hid (Below w.heap.size w wr) := hb
          clear hown hb
          by_cases hjl : j < 8
          · have j1' : (j : Int) < 8 := by omega
            have HJ : Hid (j < 8) := hjl
            have hb := kj_bit x hjl
            have hs := kj_succ x j
            have hw1 : wrap64 ((kj x j).tdiv 2) = kj x (j + 1) := by rw [← hs]; have := kj_nonneg x (j + 1); have := kj_le x (j + 1); unfold wrap64; omega
            have hbb : ((bitI x j) == 1) = bitB x j := rfl
            obtain ⟨p, hp⟩ : ∃ p, p = kj x j := ⟨_, rfl⟩
            obtain ⟨z, hz⟩ : ∃ z, z = bitI x j := ⟨_, rfl⟩
            obtain ⟨bz, hbz⟩ : ∃ bz, bz = (z == 1) := ⟨_, rfl⟩
            rw [← hp] at hb hw1 ⊢
            rw [← hz] at hb hbb
            rw [← hbz] at hbb
            have HW1 : Hid (wrap64 (p.tdiv 2) = kj x (j + 1)) := hw1
            have HBB : Hid (bz = bitB x j) := hbb
            have hbz' : (z == 1) = bz := hbz.symm
            have HO : Hid (∀ o', (wr.alloc o').ownsRow w.heap.size 4 1 (.slice so2 (8 * i + j) sc2) (8 * i + j) ((bitsAll (l.take i) ++ (List.range j).map (bitB x)).map Value.bool)) := fun o' => HO2.out.alloc o'
            have HN' : Hid _ := World.news_of_block (heap_alloc_new wr (.cells #[.bool bz] 4))
            have HMX : Hid (8 * i + j + 1 ≤ maxLen) := by have := HL.out; have := HI.out; unfold Hid maxLen; omega
            have HBY : Hid ((8 * i + j + 1) * 1 ≤ 140737488355328) := by have := HL.out; have := HI.out; unfold Hid; omega
            have HSZ : Hid (w.heap.size ≤ (wr.alloc (.cells #[.bool bz] 4)).heap.size) := Nat.le_trans HB2.out.size (by simp)
            have HRW : Hid (∀ k, (Value.slice so2 (8 * i + j) sc2).ownBlock = some k → w.heap.size ≤ k) := fun k hk => (HO2.out.lt k hk).1
            clear hp hz hbz hs hw1 hbb hj hjl
            go_wp2_with (first
              | (at_builtin; refine wpList_append_lies _ rfl _ _ 42 rfl w.heap.size 4 i0 _ 1 1 Tryd.underlying42 hi0 hz0 hz1 hz2 rfl (by omega) (.slice so2 (8 * i + j) sc2) (8 * i + j) _ rfl (HO.out _) ⟨wr.heap.size, 0, none⟩ 1 1 [.bool bz] rfl rfl HN'.out (by simp [Value.oneCell']) (by omega) HMX.out HBY.out HSZ.out _ rfl ?_; intro g cap w6 hown6 hgrow hat hlt6; have hb6 : Below w.heap.size w w6 := (HB2.out.alloc HB2.out.size _).grown hgrow HSZ.out HRW.out)
              | go_in)
            have e7 : ((bitsAll (l.take i) ++ (List.range (j + 1)).map (bitB x)).map Value.bool) = (bitsAll (l.take i) ++ (List.range j).map (bitB x)).map Value.bool ++ [.bool bz] := by
              rw [HBB.out, List.range_succ]; simp
            rw [← e7] at hown6
            exact ⟨⟨j + 1, _, _, HJ.out, rfl, by rw [HW1.out], rfl, hown6, hb6⟩, by have := HJ.out; simp [intOf]; omega⟩
          · obtain rfl : j = 8 := by omega
            clear hj hjl
            have e8 : 8 * (i + 1) = 8 * i + 8 := by omega
            have e7 : bitsAll (l.take (i + 1)) = bitsAll (l.take i) ++ (List.range 8).map (bitB x) := by
              rw [List.take_add_one, HX.out]; simp [bitsAll]
            have HO3 : Hid (wr.ownsRow w.heap.size 4 1 (.slice so2 (8 * (i + 1)) sc2) (8 * (i + 1)) ((bitsAll (l.take (i + 1))).map Value.bool)) := by unfold Hid; rw [e7, e8]; exact HO2.out
            have E8 : Hid (8 * (i + 1) = 8 * i + 8) := e8
            clear e7 e8
            go_wp2
            exact ⟨⟨i + 1, so2, sc2, HI.out, by rw [N4.out]; rfl, by rw [E8.out], HO3.out, HB2.out⟩, by rw [N4.out]; have := HI.out; simp [intOf]; omega⟩
    · obtain rfl : i = n := by omega
      clear hi hil
      go_wp2
      go_ret
      refine ⟨so, sc, rfl, ?_, HB1.out⟩
      have := HO1.out
      rw [List.take_of_length_le (by rw [HN.out]; exact Nat.le_refl _)] at this
      exact bools_of_owns this (by rw [bitsAll_length, HN.out]) (by have := HL.out; unfold maxLen; omega)
end Go.Proofs.YtmmfodiagcnjeaaDoor
