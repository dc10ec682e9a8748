/-
  lustrumlaw3.GraphEvals, WALKED: it answers true.
-/
import Derived.Test.YthdjenlpjceleaaDoorLwB
import Derived.Test.YthdjenlpjceleaaDoorMoC
namespace Go.Proofs.YthdjenlpjceleaaDoor
open Go.RowKit Go.Maps

theorem run_append_zero {P : Program} (w : World) (t ty e : TypeId) (i : TypeInfo) (ht : P.underlying t = some (.slice e)) (hi : P.info? e = some i) (no : Option Addr) (nc : Nat) : (Builtin.append_ #[t, t] ty #[.slice none 0 0, .slice no 0 nc]).run P w = .ok (.slice none 0 0) w := by
  cases no <;> simp [Builtin.append_, run_underlying ht, sizeOf, typeInfo, hi, Builtin.lenOf, Builtin.firstCells, loadCells, loadCellsFrom]
/-- 'append(nil, in...)': the bools, in new memory. -/
theorem run_copy_bools (w : World) (ty : TypeId) (v : Value) (inp : List Bool) (h : BoolsAt w v inp) (hl : inp.length ≤ 1000) :
    ∃ o c w', (Builtin.append_ #[40, 40] ty #[.slice none 0 0, v]).run Tryd.prog w = .ok (.slice o inp.length c) w' ∧ BoolsAt w' (.slice o inp.length c) inp ∧ Below w.heap.size w w' := by
  obtain ⟨i0, hi0, hz0, hz1, hz2⟩ := info_parts Tryd.infoBool
  obtain ⟨hm, io, ic, rfl, hc⟩ := h
  by_cases h0 : inp.length = 0
  · have hr := run_append_zero (P := Tryd.prog) w 40 ty 4 i0 Tryd.underlying40 hi0 io ic
    refine ⟨none, 0, w, by rw [h0]; exact hr, ⟨hm, none, 0, rfl, fun k x hk => ?_⟩, Below.refl _ _⟩
    have := (List.getElem?_eq_some_iff.1 hk).1
    omega
  · obtain ⟨b, off, rfl, _⟩ := hc 0 _ (List.getElem?_eq_getElem (by omega))
    have hadd : ∀ j, (⟨b, off, none⟩ : Addr).add j = ⟨b, off + j, none⟩ := fun j => by unfold Addr.add; split <;> simp_all
    obtain ⟨g, cap, w', hr, h2, h3, h4, h5⟩ := run_append_lies (P := Tryd.prog) w 40 ty w.heap.size 4 i0 _ 1 1 Tryd.underlying40 hi0 hz0 hz1 hz2 rfl (by omega) (.slice none 0 0) 0 [] (World.ownsRow_nil _ _ _ _) ⟨b, off, none⟩ inp.length ic (inp.map Value.bool) (by simp)
      (fun j u hu => by
        rw [hadd]
        rw [List.getElem?_map] at hu
        obtain ⟨x, hx, rfl⟩ := Option.map_eq_some_iff.1 hu
        obtain ⟨b', off', e, hc'⟩ := hc j x hx
        obtain ⟨rfl, rfl⟩ : b = b' ∧ off = off' := by simpa using e
        exact hc')
      (fun u hu => by obtain ⟨x, _, rfl⟩ := List.mem_map.1 hu; rfl) (by omega) (by unfold maxLen; omega) (by omega) (Nat.le_refl _) _ rfl
    rw [Nat.zero_add] at hr h2
    rw [List.nil_append] at h2
    have hcs := h2.cells (g := g) rfl
    have hadd' : ∀ j, (⟨g, 0, none⟩ : Addr).add j = ⟨g, 0 + j, none⟩ := fun j => by unfold Addr.add; split <;> simp_all
    refine ⟨some ⟨g, 0, none⟩, cap, w', hr, ⟨hm, _, cap, rfl, fun k x hk => ⟨g, 0, rfl, ?_⟩⟩, ⟨h3.os, h3.tape, h3.output, h3.size, fun k hk => h3.block k hk (by simp [Value.ownBlock])⟩⟩
    rw [← hadd']
    exact hcs k _ (by simp [hk])
theorem wpList_copy_bools (w : World) {ops : Array Oper} {rest : List Oper} {o : Oper} {a : Act} {Q : Exit → Act → World → Prop} (hgd : o.guard = none) (s x : Operand)
    (ho : o.op = .call { callee := .builtin .append, args := #[s, x], argTypes := #[40, 40] }) (hs : a.eval s = .slice none 0 0) (v : Value) (hx : a.eval x = v) (inp : List Bool) (h : BoolsAt w v inp) (hl : inp.length ≤ 1000)
    (hK : ∀ o' c w', BoolsAt w' (.slice o' inp.length c) inp → Below w.heap.size w w' → wpList Tryd.prog ops Q rest (a.put o.dst (.slice o' inp.length c)) w') : wpList Tryd.prog ops Q (o :: rest) a w := by
  refine wpList_plain hgd fun K hK' => ?_
  obtain ⟨o', c, w', hr, h1, h2⟩ := run_copy_bools w o.type v inp h hl
  unfold Oper.wp execOp
  simp only [ho, resolve, invoke, builtin, Sem.run_bind, Sem.run_pure, Result.andThen_ok, List.map_toArray, List.map_cons, List.map_nil, hs, hx, hr]
  exact hK' _ _ (hK o' c w' h1 h2)
theorem Tryd.infoLit : (Tryd.prog.info? 31).map (fun i => (i.zero, i.size, i.bytes)) = some (some (.int .i64 0), 1, 8) := by kernel_rfl
theorem ints_of_owns {w : World} {base n : Nat} {o : Option Addr} {c : Nat} {l : List Int} (h : w.ownsRow base 31 1 (.slice o n c) n (l.map (Value.int .i64))) (hn : l.length = n) (hm : n ≤ maxLen) : IntsAt w (.slice o n c) l := by
  subst hn
  refine ⟨hm, o, c, rfl, fun k x hk => ?_⟩
  have hlt := (List.getElem?_eq_some_iff.1 hk).1
  obtain ⟨g, cap, e, _, _⟩ := h.form (by omega)
  obtain ⟨rfl, rfl⟩ : o = some ⟨g, 0, none⟩ ∧ c = cap := by simpa using e
  have hadd' : ∀ j, (⟨g, 0, none⟩ : Addr).add j = ⟨g, 0 + j, none⟩ := fun j => by unfold Addr.add; split <;> simp_all
  refine ⟨g, 0, rfl, ?_⟩
  rw [← hadd']
  exact h.cells (g := g) rfl k _ (by simp [hk])

set_option maxRecDepth 100000 in
set_option maxHeartbeats 4000000 in
theorem evals_walk (a : Nat → Addr) (w : World) (S : Sents a w) (v : Value) (l : List Mk) (hv : MakesAt w v l) (hlm : l.length ≤ maxLen) (vi : Value) (inp : List Bool) (hvi : BoolsAt w vi inp) (va : Value) (ask : List Int) (hva : IntsAt w va ask) (hI : ∀ x ∈ ask, I64 x) :
    Calls Tryd.prog 4 #[v, vi, va] w fun e w' => e = .returned (.bool true) ∧ Below w.heap.size w w' := by
  have HS : Hid (Sents a w) := S
  have HV : Hid (MakesAt w v l) := hv
  have HVI : Hid (BoolsAt w vi inp) := hvi
  have HVA : Hid (IntsAt w va ask) := hva
  have HI : Hid (∀ x ∈ ask, I64 x) := hI
  obtain ⟨o, c, rfl, hv'⟩ := hv
  obtain ⟨him, io, ic, rfl, hic⟩ := hvi
  obtain ⟨ham, ao, ac, rfl, hac⟩ := hva
  have HAC : Hid (∀ k x, ask[k]? = some x → ∃ b off, ao = some ⟨b, off, none⟩ ∧ w.cell? ⟨b, off + k, none⟩ = some (.int .i64 x)) := hac
  unfold maxLen at hlm him ham
  clear S hv' hic hac hI
  go_enter Tryd.func4, Tryd.ntmps4
  by_cases hl : l.length ≤ 60 ∧ ask.length ≤ 60 ∧ inp.length ≤ 100
  · obtain ⟨hl, hla, hli⟩ := hl
    have hd : ((60 : Int) < (l.length : Int)) = False := eq_false (by omega)
    have hd2 : ((60 : Int) < (ask.length : Int)) = False := eq_false (by omega)
    have hd3 : ((100 : Int) < (inp.length : Int)) = False := eq_false (by omega)
    clear hlm him ham
    go_wp2_with fail
    refine (empty_any w).mono ?_
    rintro e w1 ⟨rfl, hb1⟩
    have HB1 : Hid (Below w.heap.size w w1) := hb1
    clear hb1
    go_wp2_with fail
    refine (build_any a w1 (HS.out.below HB1.out) _ l (HV.out.below HB1.out) hl).mono ?_
    rintro e w2 ⟨gs, ins, F, E, rfl, hB, hgl, hil⟩
    have HB2 : Hid (Both _ _ _ _ _ _ _ _ _) := hB
    have HG : Hid (gs.length ≤ 200) := hgl
    have HL : Hid (gs.length ≤ 100000) := Nat.le_trans hgl (by omega)
    have HL3 : Hid (gs.length ≤ 1000) := Nat.le_trans hgl (by omega)
    have HLA : Hid (ask.length ≤ 60) := hla
    have HLI : Hid (inp.length ≤ 100) := hli
    have HBB : Hid (Below w.heap.size w w2) := HB1.out.trans (hB.bel.mono HB1.out.size)
    obtain ⟨t, mo, mc, m3, e0, e1, _, _⟩ := hB.mo.cells
    obtain ⟨i0, hi0, hz0, hz1, hz2⟩ := info_parts Tryd.infoLit
    clear hB hgl hil hd hd2 hd3 HV hl hla hli e0 m3
    go_wp2
    go_loopw [11, 12, 13] (fun s r t wr => ∃ (j : Nat) (so : Option Addr) (sc : Nat), j ≤ ask.length ∧ t = .int .i64 j ∧ s = .slice so j sc ∧ wr.ownsRow w2.heap.size 31 1 (.slice so j sc) j ((ask.take j).map (Value.int .i64)) ∧ (∃ b, r = .bool b ∧ Hid (b = (((inp.length : Int) == (ins : Int)) && (ask.take j).all fun x => hasB gs x))) ∧ Below w2.heap.size w2 wr) (fun _ _ t _ => ask.length - (intOf t).toNat)
    case atStart => exact ⟨0, none, 0, Nat.zero_le _, rfl, rfl, World.ownsRow_nil _ _ _ _, ⟨_, rfl, by unfold Hid; simp⟩, Below.refl _ _⟩
    case round =>
      obtain ⟨j, so, sc, hj, rfl, rfl, hown, ⟨rb, rfl, HRB⟩, hb⟩ := hrel
      have HW : Hid (Below w2.heap.size w2 wr) := hb
      have HWW : Hid (Below w.heap.size w wr) := HBB.out.trans (hb.mono HBB.out.size)
      by_cases hjl : j < ask.length
      · obtain ⟨x, hx⟩ : ∃ x, ask[j]? = some x := ⟨_, List.getElem?_eq_getElem hjl⟩
        obtain ⟨b0, off, rfl, hcx⟩ := HAC.out j x hx
        have q0 := cell_keep HWW.out hcx
        have i0' : (0 : Int) ≤ (j : Int) := by omega
        have i1' : (j : Int) < (ask.length : Int) := by omega
        have HJ : Hid (j < ask.length) := hjl
        have N4 : Hid (wrap64 ((j : Int) + 1) = (j : Int) + 1) := by have := HLA.out; unfold Hid wrap64; omega
        have HM : Hid (j + 1 ≤ maxLen) := by have := HLA.out; unfold Hid maxLen; omega
        have HBY : Hid ((j + 1) * 8 ≤ 140737488355328) := by have := HLA.out; unfold Hid; omega
        have HO : Hid (∀ o', (wr.alloc o').ownsRow w2.heap.size 31 1 (.slice so j sc) j ((ask.take j).map (Value.int .i64))) := fun o' => hown.alloc o'
        have HN' : Hid _ := World.news_of_block (heap_alloc_new wr (.cells #[.int .i64 x] 31))
        have HRW : Hid (∀ k, (Value.slice so j sc).ownBlock = some k → w2.heap.size ≤ k) := fun k hk => (hown.lt k hk).1
        have HSZ : Hid (w2.heap.size ≤ (wr.alloc (.cells #[.int .i64 x] 31)).heap.size) := Nat.le_trans hb.size (by simp)
        have etk : (ask.take (j + 1)).map (Value.int .i64) = (ask.take j).map (Value.int .i64) ++ [.int .i64 x] := by rw [List.take_add_one, hx]; simp
        have eal : ((ask.take (j + 1)).all fun x => hasB gs x) = (((ask.take j).all fun x => hasB gs x) && hasB gs x) := by rw [List.take_add_one, hx]; simp
        have ETK : Hid _ := etk
        have EAL : Hid (_ = (_ && hasB gs x)) := eal
        have HCX : Hid (w.cell? ⟨b0, off + j, none⟩ = some (.int .i64 x)) := hcx
        clear hj hown hb hjl hx hcx etk eal
        cases rb
        · go_wp2_with (first
            | (at_builtin; refine wpList_append_lies _ rfl _ _ 42 rfl w2.heap.size 31 i0 _ 1 8 Tryd.underlying42 hi0 hz0 hz1 hz2 rfl (by omega) (.slice so j sc) j _ rfl (HO.out _) ⟨wr.heap.size, 0, none⟩ 1 1 [.int .i64 x] rfl rfl HN'.out (by simp [Value.oneCell']) (by omega) HM.out HBY.out HSZ.out _ rfl ?_; intro g cap w3 hown3 hgrow hat hlt3; have hb3 : Below w2.heap.size w2 w3 := (HW.out.alloc HW.out.size _).grown hgrow HSZ.out HRW.out)
            | go_in)
          rw [← ETK.out] at hown3
          exact ⟨⟨j + 1, _, _, HJ.out, by rw [N4.out]; rfl, rfl, hown3, ⟨_, rfl, by unfold Hid; rw [EAL.out, ← Bool.and_assoc, ← HRB.out]; rfl⟩, hb3⟩, by rw [N4.out]; have := HJ.out; simp [intOf]; omega⟩
        · go_wp2_with (first
            | (at_builtin; refine wpList_append_lies _ rfl _ _ 42 rfl w2.heap.size 31 i0 _ 1 8 Tryd.underlying42 hi0 hz0 hz1 hz2 rfl (by omega) (.slice so j sc) j _ rfl (HO.out _) ⟨wr.heap.size, 0, none⟩ 1 1 [.int .i64 x] rfl rfl HN'.out (by simp [Value.oneCell']) (by omega) HM.out HBY.out HSZ.out _ rfl ?_; intro g cap w3 hown3 hgrow hat hlt3; have hb3 : Below w2.heap.size w2 w3 := (HW.out.alloc HW.out.size _).grown hgrow HSZ.out HRW.out; have q3 := cell_keep (HBB.out.trans (hb3.mono HBB.out.size)) HCX.out)
            | (go_at_call 11; refine (mhas_any (HB2.out.mo.below hb3) HL.out _).mono ?_; rintro e w' ⟨rfl, hw⟩; have hw2 := hw.symm; subst hw2)
            | go_in)
          rw [← ETK.out] at hown3
          exact ⟨⟨j + 1, _, _, HJ.out, by rw [N4.out]; rfl, rfl, hown3, ⟨_, rfl, by unfold Hid; rw [EAL.out, ← Bool.and_assoc, ← HRB.out]; rfl⟩, hb3⟩, by rw [N4.out]; have := HJ.out; simp [intOf]; omega⟩
      · obtain rfl : j = ask.length := by omega
        rw [List.take_length] at hown HRB
        have HIL : Hid (IntsAt wr (.slice so ask.length sc) ask) := ints_of_owns hown rfl (by have := HLA.out; unfold maxLen; omega)
        have HIN : Hid (BoolsAt wr (.slice io inp.length ic) inp) := HVI.out.below HWW.out
        have HI3 : Hid (inp.length ≤ 1000) := Nat.le_trans HLI.out (by omega)
        have HA3 : Hid (ask.length ≤ 1000) := Nat.le_trans HLA.out (by omega)
        clear hown hb hj hjl hi0 hz0 hz1 hz2
        cases rb
        · have HNB : Hid (¬ (inp.length = ins ∧ (ask.all fun x => hasB gs x) = true)) := fun hq => by
            have := HRB.out
            rw [hq.2, hq.1] at this
            simp at this
          go_wp2_with (first
            | (at_builtin; refine wpList_copy_bools _ rfl _ _ rfl rfl _ rfl inp HIN.out HI3.out ?_; intro bo bc w3 hin3 hb3; have G3 : Hid (GrAt _ _ _ _ w3) := HB2.out.gr.below (HW.out.trans (hb3.mono HW.out.size)); have B3 : Hid (Below w.heap.size w w3) := HWW.out.trans (hb3.mono HWW.out.size); have ES3 : Hid (w3.cell? ⟨1, 0, none⟩ = _) := (HS.out.below B3.out).g2; have L3 : Hid (IntsAt w3 _ ask) := HIL.out.below hb3; have I3 : Hid (BoolsAt w3 _ inp) := hin3; clear hin3 hb3)
            | (go_at_call 12; refine (eval_bad G3.out HL3.out _ inp I3.out _ ask L3.out HI.out HNB.out _ ES3.out).mono ?_; rintro e w4 ⟨rfl, hb4⟩; have B4 : Hid (Below w.heap.size w w4) := B3.out.trans (hb4.mono B3.out.size); clear hb4)
            | (go_at_call 10; refine (coded_shape (HS.out.below B4.out)).mono ?_; rintro e w5 ⟨rfl, hb5⟩; have B5 : Hid (Below w.heap.size w w5) := B4.out.trans (hb5.mono B4.out.size); clear hb5)
            | go_in)
          go_ret
          exact ⟨rfl, B5.out⟩
        · have hR : (inp.length : Int) = (ins : Int) ∧ (ask.all fun x => hasB gs x) = true := by
            have := HRB.out.symm
            rw [Bool.and_eq_true, beq_iff_eq] at this
            exact this
          have HIE : Hid (inp.length = ins) := by unfold Hid; omega
          have HAL : Hid ((ask.all fun x => hasB gs x) = true) := hR.2
          have HCN : Hid (cntI gs = inp.length) := HB2.out.cnt.trans HIE.out.symm
          clear hR
          go_wp2_with (first
            | (at_builtin; refine wpList_copy_bools _ rfl _ _ rfl rfl _ rfl inp HIN.out HI3.out ?_; intro bo bc w3 hin3 hb3; have G3 : Hid (GrAt _ _ _ _ w3) := HB2.out.gr.below (HW.out.trans (hb3.mono HW.out.size)); have B3 : Hid (Below w2.heap.size w2 w3) := HW.out.trans (hb3.mono HW.out.size); have L3 : Hid (IntsAt w3 _ ask) := HIL.out.below hb3; have I3 : Hid (BoolsAt w3 _ inp) := hin3; clear hin3 hb3)
            | (go_at_call 12; refine (eval_ok G3.out HL3.out _ inp I3.out _ ask L3.out HI.out HIE.out HCN.out HAL.out HA3.out).mono ?_; rintro e w4 ⟨O, rfl, hO4, hOl, hb4⟩; have B4 : Hid (Below w2.heap.size w2 w4) := B3.out.trans (hb4.mono B3.out.size); have O4 : Hid (w4.heap[O]? = _) := hO4; clear hb4 hO4 hOl)
            | go_in)
          rename World => w4
          go_loopw [17] (fun t wr => ∃ j : Nat, j ≤ ask.length ∧ t = .int .i64 j ∧ Below w4.heap.size w4 wr) (fun t _ => ask.length - (intOf t).toNat)
          case atStart => exact ⟨0, Nat.zero_le _, rfl, Below.refl _ _⟩
          case round =>
            obtain ⟨j, hj, rfl, hb⟩ := hrel
            have BW : Hid (Below w2.heap.size w2 wr) := B4.out.trans (hb.mono B4.out.size)
            have BWW : Hid (Below w.heap.size w wr) := HBB.out.trans (BW.out.mono HBB.out.size)
            by_cases hjl : j < ask.length
            · obtain ⟨x, hx⟩ : ∃ x, ask[j]? = some x := ⟨_, List.getElem?_eq_getElem hjl⟩
              obtain ⟨b0, off, rfl, hcx⟩ := HAC.out j x hx
              have q0 := cell_keep BWW.out hcx
              have hxl : HasL gs x := hasB_iff.1 (List.all_eq_true.1 HAL.out x (List.mem_of_getElem? hx))
              have hOr := row_keep hb O4.out
              have q1 : wr.cell? ⟨O, j, none⟩ = some (.bool (litV (valsOf gs inp) x)) := by rw [cell_of_row wr _ _ _ _ (0, 0) hOr]; exact rowB_get (by simp [hx])
              have i0' : (0 : Int) ≤ (j : Int) := by omega
              have i1' : (j : Int) < (ask.length : Int) := by omega
              have HJ : Hid (j < ask.length) := hjl
              have HBW : Hid (Below w4.heap.size w4 wr) := hb
              have N4 : Hid (wrap64 ((j : Int) + 1) = (j : Int) + 1) := by have := HLA.out; unfold Hid wrap64; omega
              have Hr : Hid (Calls Tryd.prog 13 #[.pointer (some ⟨w1.heap.size + 1, 0, none⟩), .slice io inp.length ic, .int .i64 x] wr.drew fun e w' => e = .returned (.bool (litV (valsOf gs inp) x)) ∧ Below w4.heap.size w4 w' ∧ w'.cell? ⟨O, j, none⟩ = some (.bool (litV (valsOf gs inp) x))) := by
                have hbd : Below w2.heap.size w2 wr.drew := BW.out.drew
                refine (meval_any HB2.out.gr.1 (HB2.out.mo.below hbd) HL3.out _ inp (HVI.out.below BWW.out.drew) HCN.out x hxl).mono ?_
                rintro e w' ⟨rfl, hb'⟩
                have hb'' : Below wr.heap.size wr w' := (Below.refl _ _).drew.trans hb'
                exact ⟨rfl, HBW.out.trans (hb''.mono HBW.out.size), cell_keep hb'' q1⟩
              clear hj hb hjl hx hcx hxl hOr
              go_wp2
              go_region_law (refine step_call rfl 13 #[.pointer (some ⟨w1.heap.size + 1, 0, none⟩), .slice io inp.length ic, .int .i64 x] (by kernel_rfl) ?_; refine Hr.out.mono ?_; rintro e w5 ⟨rfl, hb5, u0⟩)
              all_goals
                clear Hr
                go_wp2
                exact ⟨⟨j + 1, HJ.out, by rw [N4.out]; rfl, hb5⟩, by rw [N4.out]; have := HJ.out; simp [intOf]; omega⟩
            · clear hb
              go_wp2
              go_ret
              exact ⟨rfl, BWW.out⟩
  · have HD : Hid (60 < l.length ∨ l.length ≤ 60 ∧ 60 < ask.length ∨ l.length ≤ 60 ∧ ask.length ≤ 60 ∧ 100 < inp.length) := by unfold Hid; omega
    clear hlm him ham hl
    rcases HD.out with h1 | ⟨h1, h2⟩ | ⟨h1, h2, h3⟩
    · have hd : ((60 : Int) < (l.length : Int)) = True := eq_true (by omega)
      clear HD h1
      go_wp2_with (go_at_call 7; refine (empty_any _).mono ?_; rintro e w1 ⟨rfl, hb1⟩)
      go_ret
      exact ⟨rfl, hb1⟩
    · have hd : ((60 : Int) < (l.length : Int)) = False := eq_false (by omega)
      have hd2 : ((60 : Int) < (ask.length : Int)) = True := eq_true (by omega)
      clear HD h1 h2
      go_wp2_with (go_at_call 7; refine (empty_any _).mono ?_; rintro e w1 ⟨rfl, hb1⟩)
      go_ret
      exact ⟨rfl, hb1⟩
    · have hd : ((60 : Int) < (l.length : Int)) = False := eq_false (by omega)
      have hd2 : ((60 : Int) < (ask.length : Int)) = False := eq_false (by omega)
      have hd3 : ((100 : Int) < (inp.length : Int)) = True := eq_true (by omega)
      clear HD h1 h2 h3
      go_wp2_with (go_at_call 7; refine (empty_any _).mono ?_; rintro e w1 ⟨rfl, hb1⟩)
      go_ret
      exact ⟨rfl, hb1⟩
end Go.Proofs.YthdjenlpjceleaaDoor
