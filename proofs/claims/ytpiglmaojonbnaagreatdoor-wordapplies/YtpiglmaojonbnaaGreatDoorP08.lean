/-
  WHAT GATES COME TO, AS MATHEMATICS; rows of bools in memory; package graph's holds BY CONTRACT.
-/
import Derived.Test.YtpiglmaojonbnaaGreatDoorP07
import Derived.OwnWalk
namespace Go.Proofs.YtpiglmaojonbnaaGreatDoor
open Go.RowKit Go.Maps

/-- A literal, gates having such values. -/
def litV (vs : List Bool) (x : Int) : Bool := (vs.getD (x / 2).toNat false) != (x % 2 == 1)
/-- The values of so many gates, from gate 0 on; how many inputs were taken. -/
def valsTo (gs : List (Int × Int)) (inp : List Bool) : Nat → List Bool × Nat
  | 0 => ([false], 0)
  | n + 1 =>
    match gs[n]? with
    | some p => if inpB p = true then ((valsTo gs inp n).1 ++ [inp.getD (valsTo gs inp n).2 false], (valsTo gs inp n).2 + 1) else ((valsTo gs inp n).1 ++ [litV (valsTo gs inp n).1 p.1 && litV (valsTo gs inp n).1 p.2], (valsTo gs inp n).2)
    | none => ((valsTo gs inp n).1 ++ [false], (valsTo gs inp n).2)
/-- How many inputs there are among these. -/
def cntI (gs : List (Int × Int)) : Nat := (gs.filter inpB).length
theorem valsTo_length (gs : List (Int × Int)) (inp : List Bool) : ∀ n, (valsTo gs inp n).1.length = n + 1
  | 0 => rfl
  | n + 1 => by
    unfold valsTo
    split
    · split <;> simp [valsTo_length gs inp n]
    · simp [valsTo_length gs inp n]
theorem valsTo_cnt (gs : List (Int × Int)) (inp : List Bool) : ∀ n, n ≤ gs.length → (valsTo gs inp n).2 = cntI (gs.take n)
  | 0, _ => by simp [valsTo, cntI]
  | n + 1, h => by
    have ih := valsTo_cnt gs inp n (by omega)
    have hg : gs[n]? = some gs[n] := List.getElem?_eq_getElem (by omega)
    unfold valsTo
    rw [hg]
    simp only
    have e : cntI (gs.take (n + 1)) = cntI (gs.take n) + if inpB gs[n] = true then 1 else 0 := by
      unfold cntI
      rw [List.take_add_one, hg]
      simp only [Option.toList_some, List.filter_append, List.length_append]
      by_cases hp : inpB gs[n] = true
      · simp [hp]
      · simp [hp]
    rw [e]
    split
    · rw [ih]
    · rw [ih]; rfl
theorem cntI_take_le (gs : List (Int × Int)) (n : Nat) : cntI (gs.take n) ≤ cntI gs := by
  unfold cntI
  exact ((List.take_sublist n gs).filter _).length_le
/-- An input is taken that is there. -/
theorem valsTo_in {gs : List (Int × Int)} {inp : List Bool} {n : Nat} {p : Int × Int} (hp : gs[n]? = some p) (hi : inpB p = true) (hc : cntI gs = inp.length) : (valsTo gs inp n).2 < inp.length := by
  have hn : n < gs.length := (List.getElem?_eq_some_iff.1 hp).1
  have h1 := valsTo_cnt gs inp (n + 1) (by omega)
  have h2 := cntI_take_le gs (n + 1)
  unfold valsTo at h1
  rw [hp] at h1
  simp only [hi, if_true] at h1
  omega
/-- The values so far, the rest false. -/
def rowN (gs : List (Int × Int)) (inp : List Bool) (n : Nat) : List Bool := (valsTo gs inp n).1 ++ List.replicate (gs.length - n) false
theorem rowN_length {gs : List (Int × Int)} {inp : List Bool} {n : Nat} (h : n ≤ gs.length) : (rowN gs inp n).length = gs.length + 1 := by
  unfold rowN
  rw [List.length_append, valsTo_length, List.length_replicate]
  omega
theorem rowN_set {gs : List (Int × Int)} {inp : List Bool} {n : Nat} (h : n < gs.length) (b : Bool) (hb : (valsTo gs inp (n + 1)).1 = (valsTo gs inp n).1 ++ [b]) : rowN gs inp (n + 1) = (rowN gs inp n).set (n + 1) b := by
  unfold rowN
  rw [hb]
  have hl := valsTo_length gs inp n
  rw [List.set_append_right _ _ (by omega), hl, Nat.sub_self]
  have : gs.length - n = (gs.length - (n + 1)) + 1 := by omega
  rw [this, List.replicate_succ]
  simp
theorem rowN_lit {gs : List (Int × Int)} {inp : List Bool} {n : Nat} {x : Int} (hx : x < 2 * ((n : Int) + 1)) : litV (rowN gs inp n) x = litV (valsTo gs inp n).1 x := by
  unfold litV rowN
  have hl := valsTo_length gs inp n
  have : (x / 2).toNat < (valsTo gs inp n).1.length := by omega
  simp only [List.getD_eq_getElem?_getD]
  rw [List.getElem?_append_left this]

/-- A row of bools. -/
def rowB (l : List Bool) : Array Value := (l.map Value.bool).toArray
theorem rowB_get {l : List Bool} {k : Nat} {b : Bool} (h : l[k]? = some b) : (rowB l)[k]? = some (.bool b) := by simp [rowB, h]
theorem rowB_set (l : List Bool) (k : Nat) (b : Bool) : (rowB l).setIfInBounds k (.bool b) = rowB (l.set k b) := by simp [rowB, List.map_set]
def BoolsAt (w : World) (v : Value) (l : List Bool) : Prop := l.length ≤ maxLen ∧ ∃ o c, v = .slice o l.length c ∧ ∀ k x, l[k]? = some x → ∃ b off, o = some ⟨b, off, none⟩ ∧ w.cell? ⟨b, off + k, none⟩ = some (.bool x)
theorem BoolsAt.below {w w' : World} {v : Value} {l : List Bool} (h : BoolsAt w v l) (hb : Below w.heap.size w w') : BoolsAt w' v l := by
  obtain ⟨hl, o, c, rfl, h⟩ := h
  refine ⟨hl, o, c, rfl, fun k x hk => ?_⟩
  obtain ⟨b, off, e, hc⟩ := h k x hk
  exact ⟨b, off, e, cell_keep hb hc⟩
theorem bits_low {a : Int} (h0 : 0 ≤ a) (h1 : a ≤ 9223372036854775807) : bits .and .i64 a 1 = a % 2 := by
  have h2 : (BitVec.ofInt 64 a).toNat = a.toNat := by simp [BitVec.toNat_ofInt]; omega
  show IntKind.i64.wrap ((BitVec.ofInt 64 a &&& BitVec.ofInt 64 1).toNat : Int) = _
  have h3 : (BitVec.ofInt 64 (1 : Int)).toNat = 1 := by decide
  rw [BitVec.toNat_and, h3, h2, Nat.and_one_is_mod, IntKind.wrap_i64]
  omega
set_option maxRecDepth 100000 in
theorem holds_any (w : World) (V n : Nat) (vs : List Bool) (t : TypeId) (hV : w.heap[V]? = some (.cells (rowB vs) t (0, 0))) (hn : vs.length = n) (x : Int) (h0 : 0 ≤ x) (h1 : x < 2 * (n : Int)) (hs : n ≤ 100000) :
    Calls Tryz.prog 27 #[.slice (some ⟨V, 0, none⟩) n n, .int .i64 x] w fun e w' => e = .returned (.bool (litV vs x)) ∧ w' = w := by
  subst hn
  obtain ⟨k, hk⟩ : ∃ k : Nat, (x / 2).toNat = k := ⟨_, rfl⟩
  have hkl : k < vs.length := by omega
  have hg : vs[k]? = some vs[k] := List.getElem?_eq_getElem hkl
  have c0 : w.cell? ⟨V, k, none⟩ = some (.bool vs[k]) := by rw [cell_of_row w V _ _ t (0, 0) hV]; exact rowB_get hg
  have E1 : Hid (litV vs x = (vs[k] != (x % 2 == 1))) := by unfold Hid litV; rw [List.getD_eq_getElem?_getD, hk, hg]; rfl
  have hl := bits_low h0 (by omega)
  have n1 : wrap64 (x.tdiv 2) = (k : Int) := by rw [Int.tdiv_eq_ediv_of_nonneg h0]; unfold wrap64; omega
  have d1 : (0 : Int) ≤ (k : Int) := by omega
  have d2 : (k : Int) < (vs.length : Int) := by omega
  clear hg hV hs hk h0 h1
  go_enter Tryz.func27, Tryz.ntmps27
  go_wp2
  go_ret
  exact ⟨by rw [E1.out]; rfl, rfl⟩
end Go.Proofs.YtpiglmaojonbnaaGreatDoor

/-
  package graph: values BY ITS CONTRACT: what all gates come to.
-/
namespace Go.Proofs.YtpiglmaojonbnaaGreatDoor
open Go.RowKit Go.Maps

theorem Tryz.infoBool : (Tryz.prog.info? 4).map (fun i => (i.zero, i.size, i.bytes)) = some (some (.bool false), 1, 1) := by kernel_rfl
theorem made_bools {w : World} {V n : Nat} (h : w.ownsRow 0 4 1 (.slice (some ⟨V, 0, none⟩) n n) n (madeCells (Value.bool false).cells (n * 1)).toList) : w.heap[V]? = some (.cells (rowB (List.replicate n false)) 4 (0, 0)) := by
  obtain ⟨_, h2⟩ := h
  rcases h2 with ⟨h2, _⟩ | ⟨g, cap, cur, e, _, hg, _, _, hs, ht⟩
  · cases h2
  · obtain ⟨rfl, rfl⟩ : V = g ∧ n = cap := by simpa using e
    rw [hg]
    have e1 : (madeCells (Value.bool false).cells (n * 1)).toList = List.replicate n (.bool false) := by rw [Nat.mul_one]; exact toList_madeCells_one _ _
    rw [e1] at ht
    have e2 : cur.toList = List.replicate n (.bool false) := by rw [← ht, List.take_of_length_le (by simp [hs])]
    have : cur = rowB (List.replicate n false) := by
      apply Array.toList_inj.1
      rw [e2]
      simp [rowB]
    rw [this]
theorem rowN_zero (gs : List (Int × Int)) (inp : List Bool) : rowN gs inp 0 = List.replicate (gs.length + 1) false := by
  unfold rowN valsTo
  rw [List.replicate_succ]
  rfl
/-- All gates' values. -/
def valsOf (gs : List (Int × Int)) (inp : List Bool) : List Bool := (valsTo gs inp gs.length).1
theorem rowN_all (gs : List (Int × Int)) (inp : List Bool) : rowN gs inp gs.length = valsOf gs inp := by unfold rowN valsOf; simp
theorem Gs.lits {gs : List (Int × Int)} (h : Gs gs) {i : Nat} {p : Int × Int} (hi : gs[i]? = some p) (hn : inpB p = false) : 0 ≤ p.1 ∧ p.1 < 2 * ((i : Int) + 1) ∧ 0 ≤ p.2 ∧ p.2 < 2 * ((i : Int) + 1) := by
  have hp := (h.each i p hi).resolve_left (fun e => by rw [e] at hn; exact absurd hn (by decide))
  omega

theorem row_store {w : World} {V : Nat} {gs : List (Int × Int)} {inp : List Bool} {j : Nat} {t : TypeId} (hV : w.heap[V]? = some (.cells (rowB (rowN gs inp j)) t (0, 0))) (hj : j < gs.length) (b : Bool) (hb : (valsTo gs inp (j + 1)).1 = (valsTo gs inp j).1 ++ [b]) :
    (w.setCell ⟨V, j + 1, none⟩ (.bool b)).heap[V]? = some (.cells (rowB (rowN gs inp (j + 1))) t (0, 0)) := by
  rw [heap_setCell_at hV, rowB_set, ← rowN_set hj b hb]
set_option maxRecDepth 100000 in
set_option maxHeartbeats 4000000 in
theorem values_any {G : Nat} {gs : List (Int × Int)} {ins : Nat} {F : Nat → Prop} {w : World} (h : GrAt G gs ins F w) (hl : gs.length ≤ 80000) (v : Value) (inp : List Bool) (hv : BoolsAt w v inp) (hc : cntI gs = inp.length) :
    Calls Tryz.prog 26 #[.pointer (some ⟨G, 0, none⟩), v] w fun e w' => e = .returned (.slice (some ⟨w.heap.size, 0, none⟩) (gs.length + 1) (gs.length + 1)) ∧ w'.heap[w.heap.size]? = some (.cells (rowB (valsOf gs inp)) 4 (0, 0)) ∧ Below w.heap.size w w' := by
  have HV : Hid (BoolsAt w v inp) := hv
  obtain ⟨hil, io, ic, rfl, hic⟩ := hv
  obtain ⟨t, sv, mv, h3, c0, c1, c2, h4, h5, h6⟩ := h.cells
  obtain ⟨o, c, rfl, hn⟩ := owns_form h4
  obtain ⟨i0, hi0, hz0, hz1, hz2⟩ := info_parts Tryz.infoBool
  have H0 : Hid (GrAt G gs ins F w) := h
  have H4 : Hid (World.ownsRow _ _ _ _ _ _ _) := h4
  have HL : Hid (gs.length ≤ 100000) := Nat.le_trans hl (by omega)
  have HL9 : Hid (gs.length ≤ 90000) := Nat.le_trans hl (by omega)
  have HC : Hid (cntI gs = inp.length) := hc
  have HIC : Hid (∀ k x, inp[k]? = some x → ∃ b off, io = some ⟨b, off, none⟩ ∧ w.cell? ⟨b, off + k, none⟩ = some (.bool x)) := hic
  have hby : i0.bytes * (gs.length + 1) ≤ 281474976710656 := by rw [hz2]; omega
  have hmx : gs.length + 1 ≤ maxLen := by unfold maxLen; omega
  have HBY : Hid (i0.bytes * (gs.length + 1) ≤ 281474976710656) := hby
  have HMX : Hid (gs.length + 1 ≤ maxLen) := hmx
  have HCN : Hid (inp.length ≤ gs.length) := by unfold Hid; rw [← hc]; unfold cntI; exact List.length_filter_le _ _
  clear h h3 c1 c2 h4 h5 h6 hc hic hby hmx hn
  go_enter Tryz.func26, Tryz.ntmps26
  go_wp2_with (first
    | (go_at_call 32; refine (gates_any H0.out HL.out).mono ?_; rintro e w' ⟨rfl, hw⟩; have hw2 := hw.symm; subst hw2)
    | (at_make; refine wpList_make_full _ rfl _ _ 33 rfl 0 4 i0 _ 1 Tryz.underlying33 hi0 hz0 hz1 .i64 .i64 _ _ (gs.length + 1) rfl rfl (by simp) (by simp) HBY.out HMX.out (Nat.zero_le _) ?_; intro w1 hown1 hgr1; have d0 := hgr1.cell c0 (by simp))
    | go_in)
  have hV1 := made_bools hown1
  rw [← rowN_zero gs inp] at hV1
  have HR1 : Hid (w1.heap[w.heap.size]? = some (.cells (rowB (rowN gs inp 0)) 4 (0, 0))) := hV1
  have HB1 : Hid (Below w.heap.size w w1) := ⟨hgr1.os, hgr1.tape, hgr1.output, hgr1.size, fun k hk => hgr1.block k hk (by simp)⟩
  have hVlt : w.heap.size < w1.heap.size := (Array.getElem?_eq_some_iff.1 hV1).1
  have HVL : Hid (w.heap.size < w1.heap.size) := hVlt
  clear hown1 hgr1 hV1 d0 c0 hi0 hz0 hz1 hz2 HBY HMX hVlt
  go_loopw [6, 17] (fun c t wr => ∃ j : Nat, j ≤ gs.length ∧ t = .int .i64 j ∧ c = .int .i64 ((valsTo gs inp j).2 : Int) ∧ wr.heap[w.heap.size]? = some (.cells (rowB (rowN gs inp j)) 4 (0, 0)) ∧ Below w.heap.size w wr) (fun _ t _ => gs.length - (intOf t).toNat)
  case atStart => exact ⟨0, Nat.zero_le _, rfl, rfl, HR1.out, HB1.out⟩
  case round =>
    obtain ⟨j, hj, rfl, rfl, hrow, hb⟩ := hrel
    by_cases hjl : j < gs.length
    · obtain ⟨p, hp⟩ : ∃ p, gs[j]? = some p := ⟨_, List.getElem?_eq_getElem hjl⟩
      obtain ⟨g, c', e', hgl, q0, q1⟩ := pair_cells H4.out hp
      obtain ⟨rfl, rfl⟩ : o = some ⟨g, 0, none⟩ ∧ c = c' := by simpa using e'
      obtain ⟨i1, i2⟩ := H0.out.1.i64 HL9.out hp
      have z0 := cell_keep hb q0
      have z1 := cell_keep hb q1
      have i0' : (0 : Int) ≤ (j : Int) := by omega
      have i1' : (j : Int) < (gs.length : Int) := by omega
      have HP : Hid (gs[j]? = some p) := hp
      have HJ : Hid (j < gs.length) := hjl
      have HW : Hid (Below w.heap.size w wr) := hb
      have HR : Hid (wr.heap[w.heap.size]? = some (.cells (rowB (rowN gs inp j)) 4 (0, 0))) := hrow
      have N4 : Hid (wrap64 ((j : Int) + 1) = (j : Int) + 1) := by unfold Hid wrap64; omega
      have hVr : w.heap.size < wr.heap.size := (Array.getElem?_eq_some_iff.1 hrow).1
      obtain ⟨p1, p2⟩ := p
      clear hp e' hgl q0 q1 hb hrow hj hjl hl hil
      go_wp2_with fail
      refine (isInput_any p1 p2 i1 i2 _).mono ?_
      rintro e w3 ⟨rfl, hw3⟩
      have r3 : w3.heap[wr.heap.size]? = some (.cells #[.int .i64 p1, .int .i64 p2] 58 (0, 0)) := by rw [hw3]; exact alloc_row _ (heap_alloc_new _ _)
      have hb3 : Below wr.heap.size wr w3 := by rw [hw3]; exact ((Below.refl _ _).alloc (Nat.le_refl _) _).alloc (by simp) _
      have hV3 := row_keep hb3 HR.out
      have HB3 : Hid (Below w.heap.size w w3) := HW.out.trans (hb3.mono HW.out.size)
      have x0 := cell_of_row w3 wr.heap.size 0 _ _ (0, 0) r3
      have x1 := cell_of_row w3 wr.heap.size (0 + 1) _ _ (0, 0) r3
      have fV : w3.frozen? ⟨w.heap.size, j + 1, none⟩ = false := frozen_row hV3
      have hlr := rowN_length (inp := inp) (Nat.le_of_lt HJ.out)
      obtain ⟨y, hy⟩ : ∃ y, (rowN gs inp j)[j + 1]? = some y := ⟨_, List.getElem?_eq_getElem (by have := HJ.out; omega)⟩
      have xV : w3.cell? ⟨w.heap.size, j + 1, none⟩ = some (.bool y) := by rw [cell_of_row w3 _ _ _ _ (0, 0) hV3]; exact rowB_get hy
      have HV3 : Hid (w3.heap[w.heap.size]? = some (.cells (rowB (rowN gs inp j)) 4 (0, 0))) := hV3
      have n5 : wrap64 (1 + (j : Int)) = (j : Int) + 1 := by have := HL.out; have := HJ.out; unfold wrap64; omega
      have d1 : (0 : Int) ≤ (j : Int) + 1 := by omega
      have d2 : (j : Int) + 1 < (gs.length : Int) + 1 := by omega
      clear hw3 r3 hb3 hV3 hlr hy z0 z1
      cases hin : inpB (p1, p2)
      · obtain ⟨k0, k1, k2, k3⟩ := H0.out.1.lits HP.out hin
        have LN : Hid ((rowN gs inp j).length = gs.length + 1) := rowN_length (Nat.le_of_lt HJ.out)
        have K0 : Hid (0 ≤ p1) := k0
        have K1 : Hid (p1 < 2 * ((gs.length + 1 : Nat) : Int)) := by have := HJ.out; unfold Hid; simp only at k1; omega
        have K2 : Hid (0 ≤ p2) := k2
        have K3 : Hid (p2 < 2 * ((gs.length + 1 : Nat) : Int)) := by have := HJ.out; unfold Hid; simp only at k3; omega
        have LS : Hid (gs.length + 1 ≤ 100000) := by have := HL9.out; unfold Hid; omega
        have HB : Hid ((valsTo gs inp (j + 1)).1 = (valsTo gs inp j).1 ++ [litV (rowN gs inp j) p1 && litV (rowN gs inp j) p2] ∧ (valsTo gs inp (j + 1)).2 = (valsTo gs inp j).2) := by
          unfold Hid
          rw [rowN_lit k1, rowN_lit k3]
          conv => lhs; lhs; unfold valsTo
          conv => rhs; lhs; unfold valsTo
          rw [HP.out]
          simp [hin]
        clear k0 k1 k2 k3
        cases b1 : litV (rowN gs inp j) p1
        · go_wp2_with fail
          refine (holds_any w3 _ _ _ _ HV3.out LN.out p1 K0.out K1.out LS.out).mono ?_
          rintro e w' ⟨rfl, hw⟩
          have hw2 := hw.symm
          subst hw2
          go_wp2
          have hb' := HB.out
          rw [b1, Bool.false_and] at hb'
          exact ⟨⟨j + 1, HJ.out, by rw [N4.out]; rfl, by rw [hb'.2], row_store HV3.out HJ.out _ hb'.1, HB3.out.setCell (Nat.le_refl _) _⟩, by rw [N4.out]; have := HJ.out; simp [intOf]; omega⟩
        · go_wp2_with fail
          refine (holds_any w3 _ _ _ _ HV3.out LN.out p1 K0.out K1.out LS.out).mono ?_
          rintro e w' ⟨rfl, hw⟩
          have hw2 := hw.symm
          subst hw2
          go_wp2_with fail
          refine (holds_any w3 _ _ _ _ HV3.out LN.out p2 K2.out K3.out LS.out).mono ?_
          rintro e w' ⟨rfl, hw⟩
          have hw2 := hw.symm
          subst hw2
          go_wp2
          have hb' := HB.out
          rw [b1, Bool.true_and] at hb'
          exact ⟨⟨j + 1, HJ.out, by rw [N4.out]; rfl, by rw [hb'.2], row_store HV3.out HJ.out _ hb'.1, HB3.out.setCell (Nat.le_refl _) _⟩, by rw [N4.out]; have := HJ.out; simp [intOf]; omega⟩
      · have hmi := valsTo_in HP.out hin HC.out
        obtain ⟨m, hm⟩ : ∃ m, m = (valsTo gs inp j).2 := ⟨_, rfl⟩
        rw [← hm] at hmi
        obtain ⟨x, hx⟩ : ∃ x, inp[m]? = some x := ⟨_, List.getElem?_eq_getElem hmi⟩
        obtain ⟨b, off, rfl, hcx⟩ := HIC.out m x hx
        have q3 := cell_keep HB3.out hcx
        have HB : Hid ((valsTo gs inp (j + 1)).1 = (valsTo gs inp j).1 ++ [x] ∧ (valsTo gs inp (j + 1)).2 = m + 1) := by
          unfold Hid
          conv => lhs; lhs; unfold valsTo
          conv => rhs; lhs; unfold valsTo
          rw [HP.out]
          simp [hin, ← hm, hx]
        have HM : Hid (m = (valsTo gs inp j).2) := hm
        have m1 : (0 : Int) ≤ (m : Int) := by omega
        have m2 : (m : Int) < (inp.length : Int) := by omega
        have N6 : Hid (wrap64 ((m : Int) + 1) = ((m + 1 : Nat) : Int)) := by have := HCN.out; have := HL9.out; unfold Hid wrap64; omega
        rw [← hm]
        clear hm hmi hx hcx
        go_wp2
        exact ⟨⟨j + 1, HJ.out, by rw [N4.out]; rfl, by rw [HB.out.2, N6.out], row_store HV3.out HJ.out _ HB.out.1, HB3.out.setCell (Nat.le_refl _) _⟩, by rw [N4.out]; have := HJ.out; simp [intOf]; omega⟩
    · obtain rfl : j = gs.length := by omega
      rw [rowN_all] at hrow
      have HR : Hid (wr.heap[w.heap.size]? = some (.cells (rowB (valsOf gs inp)) 4 (0, 0))) := hrow
      have HW : Hid (Below w.heap.size w wr) := hb
      clear hrow hb
      go_wp2
      go_ret
      exact ⟨rfl, HR.out, HW.out⟩
end Go.Proofs.YtpiglmaojonbnaaGreatDoor

/-
  GATES AS MATHEMATICS: what was made once is found again.
-/
namespace Go.Proofs.YtpiglmaojonbnaaGreatDoor

theorem andG_pre (gs : List (Int × Int)) (a b : Int) : ∃ t, andG gs a b = gs ++ t := by
  unfold andG
  split
  · exact ⟨[], by simp⟩
  · split
    · exact ⟨[], by simp⟩
    · split
      · exact ⟨[], by simp⟩
      · exact ⟨_, rfl⟩
theorem andG_mem {gs : List (Int × Int)} {a b : Int} (h1 : ¬ offB a b = true) (h2 : ¬ oneB a b = true) : (min a b, max a b) ∈ andG gs a b := by
  unfold andG
  rw [if_neg h1, if_neg h2]
  split
  · assumption
  · simp
theorem andG_same {hs : List (Int × Int)} {a b : Int} (h : offB a b = true ∨ oneB a b = true ∨ (min a b, max a b) ∈ hs) : andG hs a b = hs := by
  unfold andG
  by_cases h1 : offB a b = true
  · rw [if_pos h1]
  · rw [if_neg h1]
    by_cases h2 : oneB a b = true
    · rw [if_pos h2]
    · rw [if_neg h2, if_pos ((h.resolve_left h1).resolve_left h2)]
/-- Made again, among more gates: the same. -/
theorem and_again (gs t : List (Int × Int)) (a b : Int) : andL (andG gs a b ++ t) a b = andL gs a b ∧ andG (andG gs a b ++ t) a b = andG gs a b ++ t := by
  by_cases h1 : offB a b = true
  · exact ⟨by unfold andL; rw [if_pos h1, if_pos h1], andG_same (.inl h1)⟩
  · by_cases h2 : oneB a b = true
    · exact ⟨by unfold andL; rw [if_neg h1, if_pos h2, if_neg h1, if_pos h2], andG_same (.inr (.inl h2))⟩
    · have hm := andG_mem (gs := gs) h1 h2
      refine ⟨?_, andG_same (.inr (.inr (List.mem_append_left _ hm)))⟩
      unfold andL
      rw [if_neg h1, if_neg h2, if_neg h1, if_neg h2, idx_app hm]
      unfold andG
      rw [if_neg h1, if_neg h2]
      by_cases h3 : (min a b, max a b) ∈ gs
      · rw [if_pos h3]
      · rw [if_neg h3, idx_new h3, idx_out h3]
theorem and_comm (gs : List (Int × Int)) (a b : Int) : andL gs b a = andL gs a b ∧ andG gs b a = andG gs a b := by
  have e1 : min b a = min a b := by omega
  have e2 : max b a = max a b := by omega
  constructor
  · unfold andL offB oneB; rw [e1, e2]
  · unfold andG offB oneB; rw [e1, e2]
theorem or_again (gs t : List (Int × Int)) (a b : Int) : orL (orG gs a b ++ t) a b = orL gs a b ∧ orG (orG gs a b ++ t) a b = orG gs a b ++ t := by
  have h := and_again gs t (turnL a) (turnL b)
  exact ⟨by unfold orL orG; rw [h.1], h.2⟩
theorem either_again (gs : List (Int × Int)) (a b c d : Int) : eitherL (eitherG gs a b c d) a b c d = eitherL gs a b c d := by
  obtain ⟨t2, e2⟩ := andG_pre (andG gs a b) c d
  obtain ⟨t3, e3⟩ := andG_pre (andG (andG gs a b) c d) (turnL (andL gs a b)) (turnL (andL (andG gs a b) c d))
  have hE : eitherG gs a b c d = andG (andG gs a b) c d ++ t3 := e3
  have hE' : eitherG gs a b c d = andG gs a b ++ (t2 ++ t3) := by rw [hE, e2, List.append_assoc]
  have h1 := and_again gs (t2 ++ t3) a b
  rw [← hE'] at h1
  have h2 := and_again (andG gs a b) t3 c d
  rw [← hE] at h2
  have h3 := or_again (andG (andG gs a b) c d) [] (andL gs a b) (andL (andG gs a b) c d)
  rw [List.append_nil] at h3
  have h3' : orL (eitherG gs a b c d) (andL gs a b) (andL (andG gs a b) c d) = orL (andG (andG gs a b) c d) (andL gs a b) (andL (andG gs a b) c d) := h3.1
  show orL (andG (andG (eitherG gs a b c d) a b) c d) (andL (eitherG gs a b c d) a b) (andL (andG (eitherG gs a b c d) a b) c d) = _
  rw [h1.2, h1.1, h2.2, h2.1, h3']
  rfl
end Go.Proofs.YtpiglmaojonbnaaGreatDoor
