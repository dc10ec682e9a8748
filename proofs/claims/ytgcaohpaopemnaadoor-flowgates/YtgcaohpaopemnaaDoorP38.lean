/-
  package graph: Eval BY ITS CONTRACT.
-/
import Derived.Test.YtgcaohpaopemnaaDoorP17
import Derived.Test.YtgcaohpaopemnaaDoorP01
namespace Go.Proofs.YtgcaohpaopemnaaDoor
open Go.RowKit Go.Maps

theorem IntsAt.below {w w' : World} {v : Value} {l : List Int} (h : IntsAt w v l) (hb : Below w.heap.size w w') : IntsAt w' v l := by
  obtain ⟨hl, o, c, rfl, h⟩ := h
  refine ⟨hl, o, c, rfl, fun k x hk => ?_⟩
  obtain ⟨b, off, e, hc⟩ := h k x hk
  exact ⟨b, off, e, cell_keep hb hc⟩
set_option maxRecDepth 100000 in
set_option maxHeartbeats 1000000 in
theorem eval_bad {G : Nat} {gs : List (Int × Int)} {ins : Nat} {F : Nat → Prop} {w : World} (h : GrAt G gs ins F w) (hg : gs.length ≤ 80000) (v : Value) (inp : List Bool) (hv : BoolsAt w v inp) (u : Value) (l : List Int) (hu : IntsAt w u l) (hI : ∀ x ∈ l, I64 x) (hn : ¬ (inp.length = ins ∧ (l.all fun x => hasB gs x) = true)) (x : Value) (he : w.cell? ⟨0, 0, none⟩ = some x) :
    Calls Tryd.prog 8 #[.pointer (some ⟨G, 0, none⟩), v, u] w fun e w' => e = .returned (.tuple #[.slice none 0 0, x]) ∧ Below w.heap.size w w' := by
  obtain ⟨t, sv, mv, h3, c0, c1, c2, h4, h5, h6⟩ := h.cells
  have H0 : Hid (GrAt G gs ins F w) := h
  have HU : Hid (IntsAt w u l) := hu
  have HI : Hid (∀ x ∈ l, I64 x) := hI
  have HL : Hid (gs.length ≤ 100000) := Nat.le_trans hg (by omega)
  obtain ⟨hil, io, ic, rfl, hic⟩ := hv
  obtain ⟨hul, uo, uc, rfl, huc⟩ := hu
  clear h h3 c0 c1 h4 h5 h6 hic huc hI hg
  by_cases hi : inp.length = ins
  · have hf : (l.all fun x => hasB gs x) = false := by
      cases hx : (l.all fun x => hasB gs x)
      · rfl
      · exact absurd ⟨hi, hx⟩ hn
    have HF : Hid ((l.all fun x => hasB gs x) = false) := hf
    have d : (((inp.length : Nat) : Int) == ((ins : Nat) : Int)) = true := by rw [hi]; simp
    have d' : (((inp.length : Nat) : Int) != ((ins : Nat) : Int)) = false := by rw [hi]; simp
    clear hn hf
    subst hi
    go_enter Tryd.func8, Tryd.ntmps8
    go_wp2_with fail
    refine (has_any H0.out HL.out _ l HU.out HI.out).mono ?_
    rw [HF.out]
    rintro e w' ⟨rfl, hw⟩
    have hw2 := hw.symm
    subst hw2
    go_wp2
    go_region
    all_goals go_wp2
    all_goals go_ret2
    all_goals exact ⟨rfl, (Below.refl _ _).drew⟩
  · have d : (((inp.length : Nat) : Int) == ((ins : Nat) : Int)) = false := by simp; omega
    have d' : (((inp.length : Nat) : Int) != ((ins : Nat) : Int)) = true := by simp; omega
    clear hn hi
    go_enter Tryd.func8, Tryd.ntmps8
    go_wp2
    go_region
    all_goals go_wp2
    all_goals go_ret2
    all_goals exact ⟨rfl, (Below.refl _ _).drew⟩

/-- What was asked so far, the rest false. -/
def rowL (f : Int → Bool) (l : List Int) (n : Nat) : List Bool := (l.take n).map f ++ List.replicate (l.length - n) false
theorem rowL_zero (f : Int → Bool) (l : List Int) : rowL f l 0 = List.replicate l.length false := by simp [rowL]
theorem rowL_all (f : Int → Bool) (l : List Int) : rowL f l l.length = l.map f := by simp [rowL]
theorem rowL_length (f : Int → Bool) (l : List Int) {n : Nat} (h : n ≤ l.length) : (rowL f l n).length = l.length := by simp [rowL]; omega
theorem rowL_set (f : Int → Bool) (l : List Int) {n : Nat} {x : Int} (h : l[n]? = some x) : rowL f l (n + 1) = (rowL f l n).set n (f x) := by
  have hn : n < l.length := (List.getElem?_eq_some_iff.1 h).1
  unfold rowL
  have e1 : (l.take (n + 1)).map f = (l.take n).map f ++ [f x] := by rw [List.take_add_one, h]; simp
  have hl : ((l.take n).map f).length = n := by simp; omega
  rw [e1, List.set_append_right _ _ (by omega), hl, Nat.sub_self]
  have : l.length - n = (l.length - (n + 1)) + 1 := by omega
  rw [this, List.replicate_succ]
  simp
theorem rowL_store {w : World} {V : Nat} {f : Int → Bool} {l : List Int} {j : Nat} {x : Int} {t : TypeId} (hV : w.heap[V]? = some (.cells (rowB (rowL f l j)) t (0, 0))) (hj : l[j]? = some x) :
    (w.setCell ⟨V, j, none⟩ (.bool (f x))).heap[V]? = some (.cells (rowB (rowL f l (j + 1))) t (0, 0)) := by
  rw [heap_setCell_at hV, rowB_set, ← rowL_set f l hj]

set_option maxRecDepth 100000 in
set_option maxHeartbeats 4000000 in
theorem eval_ok {G : Nat} {gs : List (Int × Int)} {ins : Nat} {F : Nat → Prop} {w : World} (h : GrAt G gs ins F w) (hg : gs.length ≤ 80000) (v : Value) (inp : List Bool) (hv : BoolsAt w v inp) (u : Value) (l : List Int) (hu : IntsAt w u l) (hI : ∀ x ∈ l, I64 x) (hi : inp.length = ins) (hc : cntI gs = inp.length) (hall : (l.all fun x => hasB gs x) = true) (hll : l.length ≤ 1000) :
    Calls Tryd.prog 8 #[.pointer (some ⟨G, 0, none⟩), v, u] w fun e w' => ∃ O, e = .returned (.tuple #[.slice (some ⟨O, 0, none⟩) l.length l.length, .nilIface]) ∧ w'.heap[O]? = some (.cells (rowB (l.map (litV (valsOf gs inp)))) 4 (0, 0)) ∧ w.heap.size ≤ O ∧ Below w.heap.size w w' := by
  obtain ⟨t, sv, mv, h3, c0, c1, c2, h4, h5, h6⟩ := h.cells
  obtain ⟨i0, hi0, hz0, hz1, hz2⟩ := info_parts Tryd.infoBool
  have H0 : Hid (GrAt G gs ins F w) := h
  have HU : Hid (IntsAt w u l) := hu
  have HV : Hid (BoolsAt w v inp) := hv
  have HI : Hid (∀ x ∈ l, I64 x) := hI
  have HL : Hid (gs.length ≤ 100000) := Nat.le_trans hg (by omega)
  have HG : Hid (gs.length ≤ 80000) := hg
  have HC : Hid (cntI gs = inp.length) := hc
  have HA : Hid ((l.all fun x => hasB gs x) = true) := hall
  have HLL : Hid (l.length ≤ 1000) := hll
  have HBY : Hid (i0.bytes * l.length ≤ 281474976710656) := by unfold Hid; rw [hz2]; omega
  have HMX : Hid (l.length ≤ maxLen) := by unfold Hid maxLen; omega
  obtain ⟨hil, io, ic, rfl, hic⟩ := hv
  obtain ⟨hul, uo, uc, rfl, huc⟩ := hu
  have HUC : Hid (∀ k x, l[k]? = some x → ∃ b off, uo = some ⟨b, off, none⟩ ∧ w.cell? ⟨b, off + k, none⟩ = some (.int .i64 x)) := huc
  subst hi
  clear h h3 c0 c1 h4 h5 h6 hic huc hI hg hc hall hll hil hul
  go_enter Tryd.func8, Tryd.ntmps8
  go_wp2_with fail
  refine (has_any H0.out HL.out _ l HU.out HI.out).mono ?_
  rw [HA.out]
  rintro e w' ⟨rfl, hw⟩
  have hw2 := hw.symm
  subst hw2
  go_wp2_with fail
  refine (values_any H0.out HG.out _ inp HV.out HC.out).mono ?_
  rintro e w1 ⟨rfl, hV1, hb1⟩
  have HV1 : Hid (w1.heap[w.heap.size]? = some (.cells (rowB (valsOf gs inp)) 4 (0, 0))) := hV1
  have HB1 : Hid (Below w.heap.size w w1) := hb1
  clear hV1 hb1 c2
  go_wp2_with (first
    | (at_make; refine wpList_make_full _ rfl _ _ 42 rfl 0 4 i0 _ 1 Tryd.underlying42 hi0 hz0 hz1 .i64 .i64 _ _ l.length rfl rfl (by simp) (by simp) HBY.out HMX.out (Nat.zero_le _) ?_; intro w2 hown2 hgr2)
    | go_in)
  have hO := made_bools hown2
  rw [← rowL_zero (litV (valsOf gs inp)) l] at hO
  have HO : Hid (w2.heap[w1.heap.size]? = some (.cells (rowB (rowL (litV (valsOf gs inp)) l 0)) 4 (0, 0))) := hO
  have hb2 : Below w1.heap.size w1 w2 := ⟨hgr2.os, hgr2.tape, hgr2.output, hgr2.size, fun k hk => hgr2.block k hk (by simp)⟩
  have HB2 : Hid (Below w.heap.size w w2) := HB1.out.trans (hb2.mono HB1.out.size)
  have HV2 : Hid (w2.heap[w.heap.size]? = some (.cells (rowB (valsOf gs inp)) 4 (0, 0))) := row_keep hb2 HV1.out
  have HVO : Hid (w.heap.size < w1.heap.size) := (Array.getElem?_eq_some_iff.1 HV1.out).1
  clear hown2 hgr2 hO hb2 hi0 hz0 hz1 hz2 HBY HMX
  go_loopw [34] (fun t wr => ∃ j : Nat, j ≤ l.length ∧ t = .int .i64 j ∧ wr.heap[w1.heap.size]? = some (.cells (rowB (rowL (litV (valsOf gs inp)) l j)) 4 (0, 0)) ∧ wr.heap[w.heap.size]? = some (.cells (rowB (valsOf gs inp)) 4 (0, 0)) ∧ Below w.heap.size w wr) (fun t _ => l.length - (intOf t).toNat)
  case atStart => exact ⟨0, Nat.zero_le _, rfl, HO.out, HV2.out, HB2.out⟩
  case round =>
    obtain ⟨j, hj, rfl, hrow, hval, hb⟩ := hrel
    have HR : Hid (wr.heap[w1.heap.size]? = some (.cells (rowB (rowL (litV (valsOf gs inp)) l j)) 4 (0, 0))) := hrow
    have HVr : Hid (wr.heap[w.heap.size]? = some (.cells (rowB (valsOf gs inp)) 4 (0, 0))) := hval
    have HW : Hid (Below w.heap.size w wr) := hb
    by_cases hjl : j < l.length
    · obtain ⟨x, hx⟩ : ∃ x, l[j]? = some x := ⟨_, List.getElem?_eq_getElem hjl⟩
      obtain ⟨b, off, rfl, hcx⟩ := HUC.out j x hx
      have q0 := cell_keep hb hcx
      have hxl : HasL gs x := hasB_iff.1 (List.all_eq_true.1 HA.out x (List.mem_of_getElem? hx))
      have X0 : Hid (0 ≤ x) := hxl.1
      have X1 : Hid (x < 2 * ((gs.length + 1 : Nat) : Int)) := by unfold HasL at hxl; unfold Hid; omega
      have LN : Hid ((valsOf gs inp).length = gs.length + 1) := valsTo_length _ _ _
      have LS : Hid (gs.length + 1 ≤ 100000) := by have := HG.out; unfold Hid; omega
      have N4 : Hid (wrap64 ((j : Int) + 1) = (j : Int) + 1) := by have := HLL.out; unfold Hid wrap64; omega
      have i0' : (0 : Int) ≤ (j : Int) := by omega
      have i1' : (j : Int) < (l.length : Int) := by omega
      have HJ : Hid (j < l.length) := hjl
      have HXJ : Hid (l[j]? = some x) := hx
      obtain ⟨y, hy⟩ : ∃ y, (rowL (litV (valsOf gs inp)) l j)[j]? = some y := ⟨_, List.getElem?_eq_getElem (by rw [rowL_length _ _ (Nat.le_of_lt hjl)]; exact hjl)⟩
      have xO : wr.cell? ⟨w1.heap.size, j, none⟩ = some (.bool y) := by rw [cell_of_row wr _ _ _ _ (0, 0) hrow]; exact rowB_get hy
      have fO : wr.frozen? ⟨w1.heap.size, j, none⟩ = false := frozen_row hrow
      clear hj hrow hval hb hjl hx hcx hxl hy
      go_wp2_with fail
      refine (holds_any wr _ _ _ _ HVr.out LN.out x X0.out X1.out LS.out).mono ?_
      rintro e w' ⟨rfl, hw⟩
      have hw2 := hw.symm
      subst hw2
      go_wp2
      have hne : w.heap.size ≠ w1.heap.size := Nat.ne_of_lt HVO.out
      exact ⟨⟨j + 1, HJ.out, by rw [N4.out]; rfl, rowL_store HR.out HXJ.out, by rw [Below.heap_setCell _ _ _ _ hne]; exact HVr.out, HW.out.setCell (Nat.le_of_lt HVO.out) _⟩, by rw [N4.out]; have := HJ.out; simp [intOf]; omega⟩
    · obtain rfl : j = l.length := by omega
      rw [rowL_all] at hrow
      have HR' : Hid (wr.heap[w1.heap.size]? = some (.cells (rowB (l.map (litV (valsOf gs inp)))) 4 (0, 0))) := hrow
      clear hrow hval hb HR
      go_wp2
      go_ret2
      exact ⟨w1.heap.size, rfl, HR'.out, Nat.le_of_lt HVO.out, HW.out⟩
end Go.Proofs.YtgcaohpaopemnaaDoor
