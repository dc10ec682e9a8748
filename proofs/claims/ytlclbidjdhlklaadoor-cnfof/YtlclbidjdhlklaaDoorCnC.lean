/-
  package cnf: partsOf, needed, numbered BY CONTRACT.
-/
import Derived.Test.YtlclbidjdhlklaaDoorCnA
import Derived.Deep.QuietTactic
import Derived.BigQuiet
namespace Go.Proofs.YtlclbidjdhlklaaDoor
open Go.RowKit Go.Maps

theorem IntsAt.get {w : World} {o : Option Addr} {n c : Nat} {l : List Int} (h : IntsAt w (.slice o n c) l) {k : Nat} {x : Int} (hk : l[k]? = some x) : ∃ b off, o = some ⟨b, off, none⟩ ∧ w.cell? ⟨b, off + k, none⟩ = some (.int .i64 x) := by
  obtain ⟨_, o1, c1, e, h⟩ := h
  obtain ⟨b, off, rfl, r⟩ := h k x hk
  obtain ⟨rfl, _, _⟩ : o = some ⟨b, off, none⟩ ∧ n = l.length ∧ c = c1 := by simpa using e
  exact ⟨b, off, rfl, r⟩
theorem IntsAt.keep {w w' : World} {v : Value} {l : List Int} (h : IntsAt w v l) (hb : Below w.heap.size w w') : IntsAt w' v l := by
  obtain ⟨hl, o, c, rfl, h⟩ := h
  refine ⟨hl, o, c, rfl, fun k x hk => ?_⟩
  obtain ⟨b, off, e, hc⟩ := h k x hk
  exact ⟨b, off, e, cell_keep hb hc⟩
theorem results_tmp3 {fn : Func} {t u v : Tmp} (h : fn.results = #[.tmp t, .tmp u, .tmp v]) (tmps : Array Value) (P : Program) (w : World) :
    (results fn tmps).run P w = .ok (.tuple #[tmps.getD t undef, tmps.getD u undef, tmps.getD v undef]) w := by
  simp [results, h]
set_option maxRecDepth 100000 in
theorem partsOf_ok {G : Nat} {gs : List (Int × Int)} {ins : Nat} {F : Nat → Prop} {w : World} (h : GrAt G gs ins F w) (hl : gs.length ≤ 90000) (i : Nat) (p : Int × Int) (hi : gs[i]? = some p) (n : Int) (hn : n = (i : Int) + 1) :
    Calls Tryd.prog 46 #[.pointer (some ⟨G, 0, none⟩), .int .i64 n] w fun e w' => e = .returned (.tuple #[.int .i64 p.1, .int .i64 p.2, .bool (!inpB p)]) ∧ Below w.heap.size w w' := by
  have HP : Hid (Calls Tryd.prog 55 #[.pointer (some ⟨G, 0, none⟩), .int .i64 n] w fun e w' => e = .returned (.tuple #[.int .i64 p.1, .int .i64 p.2, .bool (inpB p), .nilIface]) ∧ Below w.heap.size w w') := parts_ok h hl i p hi n hn
  clear h hl hi hn
  obtain ⟨p1, p2⟩ := p
  cases hq : inpB (p1, p2)
  · go_enter Tryd.func46, Tryd.ntmps46
    go_wp2_with fail
    refine HP.out.mono ?_
    clear HP
    rw [hq]
    rintro e w1 ⟨rfl, hb1⟩
    have HB : Hid (Below w.heap.size w w1) := hb1
    clear hb1
    go_wp2
    go_quiet (fail)
    go_wp2
    refine bodyPost_ret (results_tmp3 rfl _ _ _) rfl ?_
    exact ⟨rfl, below_drewM HB.out _⟩
  · go_enter Tryd.func46, Tryd.ntmps46
    go_wp2_with fail
    refine HP.out.mono ?_
    clear HP
    rw [hq]
    rintro e w1 ⟨rfl, hb1⟩
    have HB : Hid (Below w.heap.size w w1) := hb1
    clear hb1
    go_wp2
    go_quiet (fail)
    go_wp2
    refine bodyPost_ret (results_tmp3 rfl _ _ _) rfl ?_
    exact ⟨rfl, below_drewM HB.out _⟩
set_option maxRecDepth 100000 in
theorem partsOf_bad {G : Nat} {gs : List (Int × Int)} {ins : Nat} {F : Nat → Prop} {w : World} (h : GrAt G gs ins F w) (hl : gs.length ≤ 90000) (n : Int) (hn : n < 1 ∨ (gs.length : Int) + 1 ≤ n) (t : TypeId) (q : Value) (he : w.cell? ⟨8, 0, none⟩ = some (.iface t q)) :
    Calls Tryd.prog 46 #[.pointer (some ⟨G, 0, none⟩), .int .i64 n] w fun e w' => e = .returned (.tuple #[.int .i64 0, .int .i64 0, .bool false]) ∧ Below w.heap.size w w' := by
  have HP : Hid (Calls Tryd.prog 55 #[.pointer (some ⟨G, 0, none⟩), .int .i64 n] w fun e w' => e = .returned (.tuple #[.int .i64 0, .int .i64 0, .bool false, .iface t q]) ∧ Below w.heap.size w w') := parts_bad h hl n hn _ he
  clear h hl hn he
  go_enter Tryd.func46, Tryd.ntmps46
  go_wp2_with fail
  refine HP.out.mono ?_
  clear HP
  rintro e w1 ⟨rfl, hb1⟩
  have HB : Hid (Below w.heap.size w w1) := hb1
  clear hb1
  go_wp2
  go_quiet (fail)
  go_wp2
  refine bodyPost_ret (results_tmp3 rfl _ _ _) rfl ?_
  exact ⟨rfl, below_drewM HB.out _⟩

set_option maxRecDepth 100000 in
theorem need1_any (w : World) (V C n : Nat) (l : List Bool) (t u : TypeId) (hV : w.heap[V]? = some (.cells (rowB l) t (0, 0))) (hC : w.heap[C]? = some (.cells #[.slice (some ⟨V, 0, none⟩) n n] u (0, 0))) (hn : l.length = n) (x : Int) (h0 : 0 ≤ x) (h1 : x < 2 * (n : Int)) (hs : n ≤ 100000) :
    Calls Tryd.prog 45 #[.int .i64 x, .pointer (some ⟨C, 0, none⟩)] w fun e w' => e = .returned (.tuple #[]) ∧ w' = w.setCell ⟨V, (x / 2).toNat, none⟩ (.bool true) := by
  subst hn
  obtain ⟨k, hk⟩ : ∃ k : Nat, (x / 2).toNat = k := ⟨_, rfl⟩
  have hkl : k < l.length := by omega
  have hg : l[k]? = some l[k] := List.getElem?_eq_getElem hkl
  have c0 : w.cell? ⟨V, k, none⟩ = some (.bool l[k]) := by rw [cell_of_row w V _ _ t (0, 0) hV]; exact rowB_get hg
  have f0 : w.frozen? ⟨V, k, none⟩ = false := frozen_row hV
  have c1 : w.cell? ⟨C, 0, none⟩ = some (.slice (some ⟨V, 0, none⟩) l.length l.length) := by rw [cell_of_row w C _ _ u (0, 0) hC]; rfl
  have n1 : wrap64 (x.tdiv 2) = (k : Int) := by rw [Int.tdiv_eq_ediv_of_nonneg h0]; unfold wrap64; omega
  have d1 : (0 : Int) ≤ (k : Int) := by omega
  have d2 : (k : Int) < (l.length : Int) := by omega
  rw [hk]
  clear hg hV hC hs hk h0 h1
  go_enter Tryd.func45, Tryd.ntmps45
  go_wp2
  go_end0
  exact ⟨rfl, rfl⟩
theorem mark_row {w : World} {V : Nat} {l : List Bool} {t : TypeId} (hV : w.heap[V]? = some (.cells (rowB l) t (0, 0))) (x : Int) : (w.setCell ⟨V, (x / 2).toNat, none⟩ (.bool true)).heap[V]? = some (.cells (rowB (markL l x)) t (0, 0)) := by
  rw [heap_setCell_at hV, rowB_set]; rfl
theorem foldl_take {l : List Int} {j : Nat} {x : Int} (h : l[j]? = some x) (b : List Bool) : (l.take (j + 1)).foldl markL b = markL ((l.take j).foldl markL b) x := by
  rw [List.take_add_one, h, List.foldl_append]; rfl
set_option maxRecDepth 100000 in
set_option maxHeartbeats 4000000 in
theorem needed_any {G : Nat} {gs : List (Int × Int)} {ins : Nat} {F : Nat → Prop} {w : World} (h : GrAt G gs ins F w) (hl : gs.length ≤ 80000) (o : Option Addr) (m c : Nat) (rs : List Int) (hv : IntsAt w (.slice o m c) rs) (hm : m = rs.length) (hms : m ≤ 1000) (hr : ∀ x ∈ rs, HasL gs x) :
    Calls Tryd.prog 28 #[.pointer (some ⟨G, 0, none⟩), .slice o m c] w fun e w' => ∃ V, e = .returned (.slice (some ⟨V, 0, none⟩) (gs.length + 1) (gs.length + 1)) ∧ w'.heap[V]? = some (.cells (rowB (needL gs rs)) 4 (0, 0)) ∧ Below w.heap.size w w' := by
  obtain ⟨i0, hi0, hz0, hz1, hz2⟩ := info_parts Tryd.infoBool
  have H0 : Hid (GrAt G gs ins F w) := h
  have HL : Hid (gs.length ≤ 100000) := Nat.le_trans hl (by omega)
  have HL9 : Hid (gs.length ≤ 90000) := Nat.le_trans hl (by omega)
  have HL1 : Hid (gs.length + 1 ≤ 100000) := by unfold Hid; omega
  have HV : Hid (IntsAt w (.slice o m c) rs) := hv
  have HM : Hid (m = rs.length) := hm
  have HMS : Hid (m ≤ 1000) := hms
  have HR : Hid (∀ x ∈ rs, HasL gs x) := hr
  have HBY : Hid (i0.bytes * (gs.length + 1) ≤ 281474976710656) := by unfold Hid; rw [hz2]; omega
  have HMX : Hid (gs.length + 1 ≤ maxLen) := by unfold Hid maxLen; omega
  clear h hl hv hm hms hr
  go_enter Tryd.func28, Tryd.ntmps28
  go_wp2_with (first
    | (go_at_call 23; refine (gates_any H0.out HL.out).mono ?_; rintro e w' ⟨rfl, hw⟩; have hw2 := hw.symm; subst hw2)
    | (at_make; refine wpList_make_full _ rfl _ _ 68 rfl 0 4 i0 _ 1 Tryd.underlying68 hi0 hz0 hz1 .i64 .i64 _ _ (gs.length + 1) rfl rfl (by simp) (by simp) HBY.out HMX.out (Nat.zero_le _) ?_; intro w1 hown1 hgr1; have HO1 : Hid _ := hown1; have HG1 : Hid _ := hgr1; clear hown1 hgr1)
    | go_in)
  have hV1 := made_bools HO1.out
  have hB1 : Below w.heap.size w w1 := ⟨HG1.out.os, HG1.out.tape, HG1.out.output, HG1.out.size, fun k hk => HG1.out.block k hk (by simp)⟩
  have hVlt : w.heap.size < w1.heap.size := (Array.getElem?_eq_some_iff.1 hV1).1
  obtain ⟨w2, hw2⟩ : ∃ w2, w2 = w1.alloc (.cells #[.slice (some ⟨w.heap.size, 0, none⟩) (gs.length + 1) (gs.length + 1)] 68) := ⟨_, rfl⟩
  have hC2 : w2.heap[w1.heap.size]? = some (.cells #[.slice (some ⟨w.heap.size, 0, none⟩) (gs.length + 1) (gs.length + 1)] 68 (0, 0)) := by
    rw [hw2]; exact heap_alloc_new _ _
  have hV2 : w2.heap[w.heap.size]? = some (.cells (rowB (List.replicate (gs.length + 1) false)) 4 (0, 0)) := by
    rw [hw2]; exact alloc_row _ hV1
  have hB2 : Below w.heap.size w w2 := by rw [hw2]; exact hB1.alloc (Nat.le_of_lt hVlt) _
  rw [← hw2]
  obtain ⟨C, hCC⟩ : ∃ C, C = w1.heap.size := ⟨_, rfl⟩
  rw [← hCC] at hC2 hVlt
  rw [← hCC]
  have HC2 : Hid (w2.heap[C]? = some (.cells #[.slice (some ⟨w.heap.size, 0, none⟩) (gs.length + 1) (gs.length + 1)] 68 (0, 0))) := hC2
  have HV2 : Hid (w2.heap[w.heap.size]? = some (.cells (rowB (List.replicate (gs.length + 1) false)) 4 (0, 0))) := hV2
  have HB2 : Hid (Below w.heap.size w w2) := hB2
  have HVC : Hid (w.heap.size < C) := hVlt
  clear hi0 hz0 hz1 hz2 HBY HMX hV1 hB1 hVlt hC2 hV2 hB2 hw2 HO1 HG1 hCC
  go_loopw [19] (fun t wr => ∃ j : Nat, j ≤ m ∧ t = .int .i64 j ∧ wr.heap[w.heap.size]? = some (.cells (rowB ((rs.take j).foldl markL (List.replicate (gs.length + 1) false))) 4 (0, 0)) ∧ wr.heap[C]? = some (.cells #[.slice (some ⟨w.heap.size, 0, none⟩) (gs.length + 1) (gs.length + 1)] 68 (0, 0)) ∧ Below w.heap.size w wr) (fun t _ => m - (intOf t).toNat)
  case atStart => exact ⟨0, Nat.zero_le _, rfl, HV2.out, HC2.out, HB2.out⟩
  case round =>
    obtain ⟨j, hj, rfl, hrow, hcel, hb⟩ := hrel
    by_cases hjl : j < m
    · obtain ⟨x, hx⟩ : ∃ x, rs[j]? = some x := ⟨_, List.getElem?_eq_getElem (by have := HM.out; omega)⟩
      obtain ⟨b, off, rfl, hcx⟩ := HV.out.get hx
      have q0 := cell_keep hb hcx
      have hxl := HR.out x (List.mem_of_getElem? hx)
      unfold HasL at hxl
      have HCall : Hid (Calls Tryd.prog 45 #[.int .i64 x, .pointer (some ⟨C, 0, none⟩)] wr fun e w' => e = .returned (.tuple #[]) ∧ w' = wr.setCell ⟨w.heap.size, (x / 2).toNat, none⟩ (.bool true)) := need1_any wr w.heap.size C (gs.length + 1) _ _ _ hrow hcel (by rw [marks_length, List.length_replicate]) x hxl.1 (by omega) HL1.out
      have hrow' := mark_row hrow x
      rw [← foldl_take hx] at hrow'
      have hcel' : (wr.setCell ⟨w.heap.size, (x / 2).toNat, none⟩ (.bool true)).heap[C]? = some (.cells #[.slice (some ⟨w.heap.size, 0, none⟩) (gs.length + 1) (gs.length + 1)] 68 (0, 0)) := by
        have e := Below.heap_setCell wr ⟨w.heap.size, (x / 2).toNat, none⟩ (.bool true) C (by have := HVC.out; show C ≠ w.heap.size; omega)
        rw [e]; exact hcel
      have HROW : Hid (_ = some (Obj.cells (rowB ((rs.take (j + 1)).foldl markL (List.replicate (gs.length + 1) false))) 4 (0, 0))) := hrow'
      have HCEL : Hid (_ = some (Obj.cells #[.slice (some ⟨w.heap.size, 0, none⟩) (gs.length + 1) (gs.length + 1)] 68 (0, 0))) := hcel'
      have HBB : Hid (Below w.heap.size w (wr.setCell ⟨w.heap.size, (x / 2).toNat, none⟩ (.bool true))) := hb.setCell (Nat.le_refl _) _
      have i0' : (0 : Int) ≤ (j : Int) := by omega
      have i1' : (j : Int) < (m : Int) := by omega
      have N4 : Hid (wrap64 ((j : Int) + 1) = (j : Int) + 1) := by have := HMS.out; unfold Hid wrap64; omega
      have HJ : Hid (j < m) := hjl
      clear hj hjl hrow hcel hb hx hcx hxl hrow' hcel'
      go_wp2_with (go_at_call 45; refine HCall.out.mono ?_; rintro e w' ⟨rfl, rfl⟩)
      exact ⟨⟨j + 1, HJ.out, by rw [N4.out]; rfl, HROW.out, HCEL.out, HBB.out⟩, by rw [N4.out]; have := HJ.out; simp [intOf]; omega⟩
    · obtain rfl : j = m := by omega
      rw [List.take_of_length_le (by rw [HM.out]; exact Nat.le_refl _)] at hrow
      have q1 : wr.cell? ⟨C, 0, none⟩ = some (.slice (some ⟨w.heap.size, 0, none⟩) (gs.length + 1) (gs.length + 1)) := by rw [cell_of_row wr C _ _ _ (0, 0) hcel]; rfl
      have HROW : Hid (wr.heap[w.heap.size]? = _) := hrow
      have HCEL : Hid (wr.heap[C]? = _) := hcel
      have HBW : Hid (Below w.heap.size w wr) := hb
      have N7 : Hid (wrap64 (gs.length : Int) = (gs.length : Int)) := by have := HL.out; unfold Hid wrap64; omega
      clear hj hjl hrow hcel hb HV2 HC2 HB2
      go_wp2
      go_loopw [9] (fun t wr => ∃ (n : Nat) (l : List Bool), n ≤ gs.length ∧ t = .int .i64 n ∧ l.length = gs.length + 1 ∧ downN gs n l = needR gs rs ∧ wr.heap[w.heap.size]? = some (.cells (rowB l) 4 (0, 0)) ∧ wr.heap[C]? = some (.cells #[.slice (some ⟨w.heap.size, 0, none⟩) (gs.length + 1) (gs.length + 1)] 68 (0, 0)) ∧ Below w.heap.size w wr) (fun t _ => (intOf t).toNat)
      case atStart => exact ⟨gs.length, _, Nat.le_refl _, by rw [N7.out], by rw [marks_length, List.length_replicate], rfl, HROW.out, HCEL.out, HBW.out⟩
      case round =>
        obtain ⟨n, l, hn, rfl, hll, hdn, hrow, hcel, hb⟩ := hrel
        have q1 : wr.cell? ⟨C, 0, none⟩ = some (.slice (some ⟨w.heap.size, 0, none⟩) (gs.length + 1) (gs.length + 1)) := by rw [cell_of_row wr C _ _ _ (0, 0) hcel]; rfl
        rcases n with _ | n
        · have hfin : (wr.setCell ⟨w.heap.size, 0, none⟩ (.bool false)).heap[w.heap.size]? = some (.cells (rowB (needL gs rs)) 4 (0, 0)) := by
            rw [heap_setCell_at hrow, rowB_set]
            unfold needL
            rw [← hdn]; rfl
          have HFIN : Hid (_ = some (Obj.cells (rowB (needL gs rs)) 4 (0, 0))) := hfin
          have HBW : Hid (Below w.heap.size w (wr.setCell ⟨w.heap.size, 0, none⟩ (.bool false))) := hb.setCell (Nat.le_refl _) _
          obtain ⟨y, hy⟩ : ∃ y, l[0]? = some y := ⟨_, List.getElem?_eq_getElem (by omega)⟩
          have q2 : wr.cell? ⟨w.heap.size, 0, none⟩ = some (.bool y) := by rw [cell_of_row wr _ _ _ _ (0, 0) hrow]; exact rowB_get hy
          have f2 : wr.frozen? ⟨w.heap.size, 0, none⟩ = false := frozen_row hrow
          have hne : C ≠ w.heap.size := by have := HVC.out; omega
          have q3 : (wr.setCell ⟨w.heap.size, 0, none⟩ (.bool false)).cell? ⟨C, 0, none⟩ = some (.slice (some ⟨w.heap.size, 0, none⟩) (gs.length + 1) (gs.length + 1)) := by
            have e := Below.heap_setCell wr ⟨w.heap.size, 0, none⟩ (.bool false) C hne
            rw [cell_of_row _ C _ _ _ (0, 0) (e.trans hcel)]; rfl
          clear hn hll hdn hrow hcel hb hfin hy HROW HCEL
          go_wp2
          go_ret
          exact ⟨_, rfl, HFIN.out, HBW.out⟩
        · obtain ⟨p, hp⟩ : ∃ p, gs[n]? = some p := ⟨_, List.getElem?_eq_getElem (by omega)⟩
          have HPO : Hid (Calls Tryd.prog 46 #[.pointer (some ⟨G, 0, none⟩), .int .i64 ((n + 1 : Nat) : Int)] wr fun e w' => e = .returned (.tuple #[.int .i64 p.1, .int .i64 p.2, .bool (!inpB p)]) ∧ Below wr.heap.size wr w') := partsOf_ok (H0.out.below hb) HL9.out n p hp _ (by omega)
          have hpg : gs.getD n (0, 0) = p := by rw [List.getD_eq_getElem?_getD, hp]; rfl
          obtain ⟨y, hy⟩ : ∃ y, l[n + 1]? = some y := ⟨_, List.getElem?_eq_getElem (by omega)⟩
          have hst : stepN gs l n = if y && !inpB p then markL (markL l p.1) p.2 else l := by
            unfold stepN; rw [hpg, List.getD_eq_getElem?_getD, hy]; rfl
          have HDN : Hid (downN gs n (stepN gs l n) = needR gs rs) := hdn
          have HST : Hid (stepN gs l n = if y && !inpB p then markL (markL l p.1) p.2 else l) := hst
          have HLL : Hid (l.length = gs.length + 1) := hll
          have HROW : Hid (wr.heap[w.heap.size]? = some (.cells (rowB l) 4 (0, 0))) := hrow
          have HCEL : Hid (wr.heap[C]? = _) := hcel
          have HBW : Hid (Below w.heap.size w wr) := hb
          have HY : Hid (l[n + 1]? = some y) := hy
          have HN : Hid (n < gs.length) := by unfold Hid; omega
          have HLit : Hid (inpB p = false → 0 ≤ p.1 ∧ p.1 < 2 * ((gs.length + 1 : Nat) : Int) ∧ 0 ≤ p.2 ∧ p.2 < 2 * ((gs.length + 1 : Nat) : Int)) := fun hq => by
            have := H0.out.1.lits hp hq
            omega
          have n5 : ((n + 1 : Nat) : Int) = (n : Int) + 1 := by omega
          have n0 : ((0 : Int) < (n : Int) + 1) = True := eq_true (by omega)
          have NW : Hid (wrap64 (n : Int) = (n : Int)) := by have := HL.out; unfold Hid wrap64; omega
          have d1 : (0 : Int) ≤ (n : Int) + 1 := by omega
          have d2 : (n : Int) + 1 < (gs.length : Int) + 1 := by omega
          obtain ⟨p1, p2⟩ := p
          clear hn hll hdn hrow hcel hb hp hpg hy hst
          rw [n5]
          rw [n5] at HPO
          go_wp2_with fail
          refine HPO.out.mono ?_
          clear HPO
          rintro e w3 ⟨rfl, hb3⟩
          have hrow3 := row_keep hb3 HROW.out
          have hcel3 := row_keep hb3 HCEL.out
          have HB3 : Hid (Below w.heap.size w w3) := HBW.out.trans (hb3.mono HBW.out.size)
          have x1 : w3.cell? ⟨C, 0, none⟩ = some (.slice (some ⟨w.heap.size, 0, none⟩) (gs.length + 1) (gs.length + 1)) := by rw [cell_of_row w3 C _ _ _ (0, 0) hcel3]; rfl
          have x2 : w3.cell? ⟨w.heap.size, n + 1, none⟩ = some (.bool y) := by rw [cell_of_row w3 _ _ _ _ (0, 0) hrow3]; exact rowB_get HY.out
          have HROW3 : Hid (w3.heap[w.heap.size]? = some (.cells (rowB l) 4 (0, 0))) := hrow3
          have HCEL3 : Hid (w3.heap[C]? = some (.cells #[.slice (some ⟨w.heap.size, 0, none⟩) (gs.length + 1) (gs.length + 1)] 68 (0, 0))) := hcel3
          clear hb3 hrow3 hcel3 q1 HROW HCEL HBW
          cases y
          · have HE : Hid (stepN gs l n = l) := by unfold Hid; rw [HST.out]; rfl
            go_wp2
            exact ⟨⟨n, l, Nat.le_of_lt HN.out, by rw [NW.out], HLL.out, by rw [← HE.out]; exact HDN.out, HROW3.out, HCEL3.out, HB3.out⟩, by rw [NW.out]; simp [intOf]⟩
          · cases hq : inpB (p1, p2)
            · have HE : Hid (stepN gs l n = markL (markL l p1) p2) := by unfold Hid; rw [HST.out, hq]; rfl
              obtain ⟨a0, a1, b0, b1⟩ := HLit.out hq
              have HC1 : Hid (Calls Tryd.prog 45 #[.int .i64 p1, .pointer (some ⟨C, 0, none⟩)] w3 fun e w' => e = .returned (.tuple #[]) ∧ w' = w3.setCell ⟨w.heap.size, (p1 / 2).toNat, none⟩ (.bool true)) := need1_any w3 w.heap.size C (gs.length + 1) _ _ _ HROW3.out HCEL3.out HLL.out p1 a0 a1 HL1.out
              have hrow4 := mark_row HROW3.out p1
              have hne : C ≠ w.heap.size := by have := HVC.out; omega
              have hcel4 : (w3.setCell ⟨w.heap.size, (p1 / 2).toNat, none⟩ (.bool true)).heap[C]? = some (.cells #[.slice (some ⟨w.heap.size, 0, none⟩) (gs.length + 1) (gs.length + 1)] 68 (0, 0)) := by
                have e := Below.heap_setCell w3 ⟨w.heap.size, (p1 / 2).toNat, none⟩ (.bool true) C hne
                rw [e]; exact HCEL3.out
              have hb4 := HB3.out.setCell (p := ⟨w.heap.size, (p1 / 2).toNat, none⟩) (Nat.le_refl _) (.bool true)
              obtain ⟨w4, hw4⟩ : ∃ w4, w4 = w3.setCell ⟨w.heap.size, (p1 / 2).toNat, none⟩ (.bool true) := ⟨_, rfl⟩
              rw [← hw4] at HC1 hrow4 hcel4 hb4
              have HC2 : Hid (Calls Tryd.prog 45 #[.int .i64 p2, .pointer (some ⟨C, 0, none⟩)] w4 fun e w' => e = .returned (.tuple #[]) ∧ w' = w4.setCell ⟨w.heap.size, (p2 / 2).toNat, none⟩ (.bool true)) := need1_any w4 w.heap.size C (gs.length + 1) _ _ _ hrow4 hcel4 (by rw [markL_length]; exact HLL.out) p2 b0 b1 HL1.out
              have hrow5 := mark_row hrow4 p2
              have hcel5 : (w4.setCell ⟨w.heap.size, (p2 / 2).toNat, none⟩ (.bool true)).heap[C]? = some (.cells #[.slice (some ⟨w.heap.size, 0, none⟩) (gs.length + 1) (gs.length + 1)] 68 (0, 0)) := by
                have e := Below.heap_setCell w4 ⟨w.heap.size, (p2 / 2).toNat, none⟩ (.bool true) C hne
                rw [e]; exact hcel4
              have hb5 := hb4.setCell (p := ⟨w.heap.size, (p2 / 2).toNat, none⟩) (Nat.le_refl _) (.bool true)
              obtain ⟨w5, hw5⟩ : ∃ w5, w5 = w4.setCell ⟨w.heap.size, (p2 / 2).toNat, none⟩ (.bool true) := ⟨_, rfl⟩
              rw [← hw5] at HC2 hrow5 hcel5 hb5
              have HROW5 : Hid (w5.heap[w.heap.size]? = some (.cells (rowB (markL (markL l p1) p2)) 4 (0, 0))) := hrow5
              have HCEL5 : Hid (w5.heap[C]? = _) := hcel5
              have HB5 : Hid (Below w.heap.size w w5) := hb5
              clear hrow4 hcel4 hb4 hw4 hrow5 hcel5 hb5 hw5 a0 a1 b0 b1 hne
              go_wp2_with fail
              refine HC1.out.mono ?_
              rintro e w' ⟨rfl, rfl⟩
              go_wp2_with fail
              refine HC2.out.mono ?_
              rintro e w' ⟨rfl, rfl⟩
              go_wp2
              exact ⟨⟨n, _, Nat.le_of_lt HN.out, by rw [NW.out], by rw [markL_length, markL_length]; exact HLL.out, by rw [← HE.out]; exact HDN.out, HROW5.out, HCEL5.out, HB5.out⟩, by rw [NW.out]; simp [intOf]⟩
            · have HE : Hid (stepN gs l n = l) := by unfold Hid; rw [HST.out, hq]; rfl
              go_wp2
              exact ⟨⟨n, l, Nat.le_of_lt HN.out, by rw [NW.out], HLL.out, by rw [← HE.out]; exact HDN.out, HROW3.out, HCEL3.out, HB3.out⟩, by rw [NW.out]; simp [intOf]⟩
end Go.Proofs.YtlclbidjdhlklaaDoor
