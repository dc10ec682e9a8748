/-
  lustrumlaw3.CnfHolds, WALKED: it answers true.
-/
import Derived.Test.YtbbakcpflckbnaaDoorCnW
import Derived.Test.YtbbakcpflckbnaaDoorCnJ
import Derived.Test.YtbbakcpflckbnaaDoorCnK
import Derived.Test.YtbbakcpflckbnaaDoorLwB
import Derived.Test.YtbbakcpflckbnaaDoorMoC
import Derived.Test.YtbbakcpflckbnaaDoorCpy
import Derived.Deep.RegionHeld3
namespace Go.Proofs.YtbbakcpflckbnaaDoor
open Go.RowKit Go.Maps

theorem texted_sents {a : Nat → Addr} {w : World} (S : Sents a w) (ht : Lib.TabIs Tryd.prog w "internal/strconv.uint64pow10" .u64 Lib.pow10Tab) : Calls Tryd.prog 7 #[] w fun e w' => e = .returned (.bool true) ∧ Below w.heap.size w w' :=
  texted_any w ht _ _ _ _ S.g1 S.g2
/-- The variables' values so far. -/
def ValsTo (gs : List (Int × Int)) (l inp vs : List Bool) (k : Nat) : Prop := ∀ i, i < k → 0 < numA l i → vs.getD (numA l i - 1).toNat false = valL gs inp (2 * (i : Int))
theorem ValsTo.skip {gs : List (Int × Int)} {l inp vs : List Bool} {k : Nat} (h : ValsTo gs l inp vs k) (hk : ¬ 0 < numA l k) : ValsTo gs l inp vs (k + 1) := fun i hi hp => by
  rcases Nat.lt_or_ge i k with h1 | h1
  · exact h i h1 hp
  · obtain rfl : i = k := by omega
    exact absurd hp hk
theorem ValsTo.next {gs : List (Int × Int)} {l inp vs : List Bool} {k : Nat} (h : ValsTo gs l inp vs k) (hk : 0 < numA l k) (hl : (numA l k - 1).toNat < vs.length) : ValsTo gs l inp (vs.set (numA l k - 1).toNat (valL gs inp (2 * (k : Int)))) (k + 1) := fun i hi hp => by
  rcases Nat.lt_or_ge i k with h1 | h1
  · have hne : (numA l k - 1).toNat ≠ (numA l i - 1).toNat := fun e => by
      have := numA_inj hk hp (by omega)
      omega
    rw [List.getD_eq_getElem?_getD, List.getElem?_set_ne hne, ← List.getD_eq_getElem?_getD]
    exact h i h1 hp
  · obtain rfl : i = k := by omega
    rw [List.getD_eq_getElem?_getD, List.getElem?_set_self hl]; rfl
theorem cell_set1 {w : World} {p : Addr} {x : Value} {B : Nat} (h : w.cell? p = some x) (hne : p.block ≠ B) (i : Nat) (u : Value) : (w.setCell ⟨B, i, none⟩ u).cell? p = some x := by
  have e2 := Below.heap_setCell w ⟨B, i, none⟩ u p.block hne
  simp only [World.cell?, e2] at h ⊢
  exact h
set_option maxRecDepth 100000 in
set_option maxHeartbeats 8000000 in
theorem holds_walk (a : Nat → Addr) (w : World) (S : Sents a w) (htab : Lib.TabIs Tryd.prog w "internal/strconv.uint64pow10" .u64 Lib.pow10Tab) (v : Value) (l : List Mk) (hv : MakesAt w v l) (hlm : l.length ≤ maxLen) (va : Value) (ask : List Int) (hva : IntsAt w va ask) (hI : ∀ x ∈ ask, I64 x) (vi : Value) (inp : List Bool) (hvi : BoolsAt w vi inp) :
    Calls Tryd.prog 4 #[v, va, vi] w fun e w' => e = .returned (.bool true) ∧ Below w.heap.size w w' := by
  have HT : Hid (Calls Tryd.prog 7 #[] w fun e w' => e = .returned (.bool true) ∧ Below w.heap.size w w') := texted_sents S htab
  have HS : Hid (Sents a w) := S
  have HV : Hid (MakesAt w v l) := hv
  have HVI : Hid (BoolsAt w vi inp) := hvi
  have HI : Hid (∀ x ∈ ask, I64 x) := hI
  obtain ⟨o, c, rfl, hv'⟩ := hv
  obtain ⟨him, io, ic, rfl, hic⟩ := hvi
  obtain ⟨ham, ao, ac, rfl, hac⟩ := hva
  have HAC : Hid (∀ k x, ask[k]? = some x → ∃ b off, ao = some ⟨b, off, none⟩ ∧ w.cell? ⟨b, off + k, none⟩ = some (.int .i64 x)) := hac
  unfold maxLen at hlm him ham
  clear S hv' hic hac hI htab
  by_cases hl : l.length ≤ 60
  · have hd : ((60 : Int) < (l.length : Int)) = False := eq_false (by omega)
    by_cases hla : ask.length ≤ 60
    · have hd2 : ((60 : Int) < (ask.length : Int)) = False := eq_false (by omega)
      have HIM : Hid (inp.length ≤ 9223372036854775807) := him
      clear hlm him ham
      go_enter Tryd.func4, Tryd.ntmps4
      go_wp2_with fail
      refine HT.out.mono ?_
      rintro e w1 ⟨rfl, hb1⟩
      have HB1 : Hid (Below w.heap.size w w1) := hb1
      clear hb1
      go_wp2_with fail
      refine (build_any a w1 (HS.out.below HB1.out) _ l (HV.out.below HB1.out) hl).mono ?_
      rintro e w2 ⟨gs, ins, F, E, rfl, hB, hgl, hil⟩
      have HB2 : Hid (Both _ _ _ _ _ _ _ _ _) := hB
      have HG : Hid (gs.length ≤ 200) := hgl
      have HL : Hid (gs.length ≤ 100000) := Nat.le_trans hgl (by omega)
      have HL3 : Hid (gs.length ≤ 1000) := Nat.le_trans hgl (by omega)
      have HLA : Hid (ask.length ≤ 60) := hla
      have HBB : Hid (Below w.heap.size w w2) := HB1.out.trans (hB.bel.mono HB1.out.size)
      have HIL : Hid (ins ≤ gs.length) := hil
      obtain ⟨t, mo, mc, m3, e0, e1, _, _⟩ := hB.mo.cells
      obtain ⟨i0, hi0, hz0, hz1, hz2⟩ := info_parts Tryd.infoLit
      clear hB hgl hil hd hd2 HV hl hla e0 m3
      by_cases hie : inp.length = ins
      · have HIE : Hid (inp.length = ins) := hie
        have HCN : Hid (cntI gs = inp.length) := HB2.out.cnt.trans hie.symm
        have di : (((inp.length : Nat) : Int) == ((ins : Nat) : Int)) = true := by simp [hie]
        have di2 : (((inp.length : Nat) : Int) != ((ins : Nat) : Int)) = false := by simp [hie]
        clear hie
        go_wp2
        go_loopw [11, 12, 13] (fun s r t wr => ∃ (j : Nat) (so : Option Addr) (sc : Nat), j ≤ ask.length ∧ t = .int .i64 j ∧ s = .slice so j sc ∧ wr.ownsRow w2.heap.size 30 1 (.slice so j sc) j ((ask.take j).map (Value.int .i64)) ∧ (∃ b, r = .bool b ∧ Hid (b = (ask.take j).all (valL gs inp))) ∧ Hid (∀ x ∈ ask.take j, HasL gs x) ∧ Below w2.heap.size w2 wr) (fun _ _ t _ => ask.length - (intOf t).toNat)
        case atStart => exact ⟨0, none, 0, Nat.zero_le _, rfl, rfl, World.ownsRow_nil _ _ _ _, ⟨_, rfl, rfl⟩, (fun x hx => by simp at hx), Below.refl _ _⟩
        case round =>
          obtain ⟨j, so, sc, hj, rfl, rfl, hown, ⟨rb, rfl, HRB⟩, HHAS, hb⟩ := hrel
          have HW : Hid (Below w2.heap.size w2 wr) := hb
          have HWW : Hid (Below w.heap.size w wr) := HBB.out.trans (hb.mono HBB.out.size)
          by_cases hjl : j < ask.length
          · obtain ⟨x, hx⟩ : ∃ x, ask[j]? = some x := ⟨_, List.getElem?_eq_getElem hjl⟩
            obtain ⟨b0, off, rfl, hcx⟩ := HAC.out j x hx
            have q0 := cell_keep HWW.out hcx
            have i0' : (0 : Int) ≤ (j : Int) := by omega
            have i1' : (j : Int) < (ask.length : Int) := by omega
            have HJ : Hid (j < ask.length) := hjl
            have N4 : Hid (wrap64 ((j : Int) + 1) = (j : Int) + 1) := by have := HLA.out; unfold Hid wrap64; omega
            have HM : Hid (j + 1 ≤ maxLen) := by have := HLA.out; unfold Hid maxLen; omega
            have HBY : Hid ((j + 1) * 8 ≤ 140737488355328) := by have := HLA.out; unfold Hid; omega
            have HO : Hid (∀ o', (wr.alloc o').ownsRow w2.heap.size 30 1 (.slice so j sc) j ((ask.take j).map (Value.int .i64))) := fun o' => hown.alloc o'
            have HN' : Hid _ := World.news_of_block (heap_alloc_new wr (.cells #[.int .i64 x] 30))
            have HRW : Hid (∀ k, (Value.slice so j sc).ownBlock = some k → w2.heap.size ≤ k) := fun k hk => (hown.lt k hk).1
            have HSZ : Hid (w2.heap.size ≤ (wr.alloc (.cells #[.int .i64 x] 30)).heap.size) := Nat.le_trans hb.size (by simp)
            have etk : (ask.take (j + 1)).map (Value.int .i64) = (ask.take j).map (Value.int .i64) ++ [.int .i64 x] := by rw [List.take_add_one, hx]; simp
            have eal := all_take hx (valL gs inp)
            have htk : ask.take (j + 1) = ask.take j ++ [x] := by rw [List.take_add_one, hx]; rfl
            have ETK : Hid ((ask.take (j + 1)).map (Value.int .i64) = (ask.take j).map (Value.int .i64) ++ [.int .i64 x]) := etk
            have EAL : Hid ((ask.take (j + 1)).all (valL gs inp) = ((ask.take j).all (valL gs inp) && valL gs inp x)) := eal
            have HTK : Hid (ask.take (j + 1) = ask.take j ++ [x]) := htk
            have HCX : Hid (w.cell? ⟨b0, off + j, none⟩ = some (.int .i64 x)) := hcx
            have HMH : Hid (Calls Tryd.prog 9 #[.pointer (some ⟨w1.heap.size + 1, 0, none⟩), .int .i64 x] wr fun e w' => e = .returned (.bool (hasB gs x)) ∧ w' = wr) := mhas_any (HB2.out.mo.below hb) HL.out x
            clear hj hown hb hjl hx hcx etk eal htk
            cases hhas : hasB gs x
            · go_wp2_with (first
                | (go_at_call 9; refine HMH.out.mono ?_; rw [hhas]; rintro e w' ⟨rfl, hw⟩; have hw2 := hw.symm; subst hw2)
                | fail)
              go_ret
              exact ⟨rfl, HWW.out⟩
            · have HHX : Hid (HasL gs x) := hasB_iff.1 hhas
              cases rb
              · go_wp2_with (first
                  | (go_at_call 9; refine HMH.out.mono ?_; rw [hhas]; rintro e w' ⟨rfl, hw⟩; have hw2 := hw.symm; subst hw2)
                  | (at_builtin; refine wpList_append_lies _ rfl _ _ 29 rfl w2.heap.size 30 i0 _ 1 8 Tryd.underlying29 hi0 hz0 hz1 hz2 rfl (by omega) (.slice so j sc) j _ rfl (HO.out _) ⟨wr.heap.size, 0, none⟩ 1 1 [.int .i64 x] rfl rfl HN'.out (by simp [Value.oneCell']) (by omega) HM.out HBY.out HSZ.out _ rfl ?_; intro g cap w3 hown3 hgrow hat hlt3; have hb3 : Below w2.heap.size w2 w3 := (HW.out.alloc HW.out.size _).grown hgrow HSZ.out HRW.out; have q3 := cell_keep (HBB.out.trans (hb3.mono HBB.out.size)) HCX.out; have HOW3 : Hid (World.ownsRow _ _ _ _ _ _ _) := hown3; have HB3 : Hid (Below w2.heap.size w2 w3) := hb3; clear hown3 hgrow hat hb3)
                  | (go_at_call 15; refine (meval_any HB2.out.gr.1 (HB2.out.mo.below HB3.out) HL3.out _ inp (HVI.out.below (HBB.out.trans (HB3.out.mono HBB.out.size))) HCN.out x HHX.out).mono ?_; rintro e w4 ⟨rfl, hb4⟩; have HB4 : Hid (Below w3.heap.size w3 w4) := hb4; clear hb4 q3)
                  | go_in)
                have hown4 : w4.ownsRow w2.heap.size 30 1 (.slice (some ⟨g, 0, none⟩) (j + 1) cap) (j + 1) ((ask.take (j + 1)).map (Value.int .i64)) := by
                  rw [ETK.out]
                  exact owns_keep HOW3.out (fun k hk => HB4.out.block k (HOW3.out.lt k hk).2)
                exact ⟨⟨j + 1, _, _, HJ.out, by rw [N4.out]; rfl, rfl, hown4, ⟨_, rfl, by unfold Hid; rw [EAL.out, ← HRB.out]; rfl⟩, by
                  unfold Hid
                  rw [HTK.out]
                  intro y hy
                  rcases List.mem_append.1 hy with hy | hy
                  · exact HHAS.out y hy
                  · simp at hy; rw [hy]; exact HHX.out, HB3.out.trans (HB4.out.mono HB3.out.size)⟩, by rw [N4.out]; have := HJ.out; simp [intOf]; omega⟩
              · go_wp2_with (first
                  | (go_at_call 9; refine HMH.out.mono ?_; rw [hhas]; rintro e w' ⟨rfl, hw⟩; have hw2 := hw.symm; subst hw2)
                  | (at_builtin; refine wpList_append_lies _ rfl _ _ 29 rfl w2.heap.size 30 i0 _ 1 8 Tryd.underlying29 hi0 hz0 hz1 hz2 rfl (by omega) (.slice so j sc) j _ rfl (HO.out _) ⟨wr.heap.size, 0, none⟩ 1 1 [.int .i64 x] rfl rfl HN'.out (by simp [Value.oneCell']) (by omega) HM.out HBY.out HSZ.out _ rfl ?_; intro g cap w3 hown3 hgrow hat hlt3; have hb3 : Below w2.heap.size w2 w3 := (HW.out.alloc HW.out.size _).grown hgrow HSZ.out HRW.out; have q3 := cell_keep (HBB.out.trans (hb3.mono HBB.out.size)) HCX.out; have HOW3 : Hid (World.ownsRow _ _ _ _ _ _ _) := hown3; have HB3 : Hid (Below w2.heap.size w2 w3) := hb3; clear hown3 hgrow hat hb3)
                  | (go_at_call 15; refine (meval_any HB2.out.gr.1 (HB2.out.mo.below HB3.out) HL3.out _ inp (HVI.out.below (HBB.out.trans (HB3.out.mono HBB.out.size))) HCN.out x HHX.out).mono ?_; rintro e w4 ⟨rfl, hb4⟩; have HB4 : Hid (Below w3.heap.size w3 w4) := hb4; clear hb4 q3)
                  | go_in)
                have hown4 : w4.ownsRow w2.heap.size 30 1 (.slice (some ⟨g, 0, none⟩) (j + 1) cap) (j + 1) ((ask.take (j + 1)).map (Value.int .i64)) := by
                  rw [ETK.out]
                  exact owns_keep HOW3.out (fun k hk => HB4.out.block k (HOW3.out.lt k hk).2)
                exact ⟨⟨j + 1, _, _, HJ.out, by rw [N4.out]; rfl, rfl, hown4, ⟨_, rfl, by unfold Hid; rw [EAL.out, ← HRB.out]; rfl⟩, by
                  unfold Hid
                  rw [HTK.out]
                  intro y hy
                  rcases List.mem_append.1 hy with hy | hy
                  · exact HHAS.out y hy
                  · simp at hy; rw [hy]; exact HHX.out, HB3.out.trans (HB4.out.mono HB3.out.size)⟩, by rw [N4.out]; have := HJ.out; simp [intOf]; omega⟩
          · obtain rfl : j = ask.length := by omega
            rw [List.take_length] at hown HRB HHAS
            have HIL : Hid (IntsAt wr (.slice so ask.length sc) ask) := ints_of_owns hown rfl (by have := HLA.out; unfold maxLen; omega)
            have HRB2 : Hid (rb = ask.all (valL gs inp)) := HRB
            clear hown hb hj hjl hi0 hz0 hz1 hz2
            go_wp2_with fail
            refine (of_any (HB2.out.gr.below HW.out) HL3.out so _ sc ask HIL.out rfl (by have := HLA.out; omega) HI.out _ _ _ _ (HS.out.below HWW.out).g2 (HS.out.below HWW.out).g8).mono ?_
            rintro e w5 ⟨hb5, ho⟩
            rcases ho with ⟨_, sv, U, hUl, rfl, hcl, hU⟩ | ⟨hn, _⟩
            · have hcl5 := hcl w5 (fun _ _ => rfl)
              obtain ⟨_, vo, vc, rfl, _⟩ := hcl5
              obtain ⟨L, hL⟩ : ∃ L, L = needL gs ask := ⟨_, rfl⟩
              rw [← hL] at hcl hU ⊢
              have hrng := allC_range HB2.out.gr.1 (l := L) HHAS.out
              have hsiz := sizC_all gs L ask
              have hhold : ∀ vs, ValsBy gs L inp vs → holdF vs (allC gs L ask) = ask.all (valL gs inp) := fun vs h => by rw [hL] at h ⊢; exact allC_holds HB2.out.gr.1 HHAS.out h
              have hcle := cntT_le L (gs.length + 1)
              have hL0 : numA L 0 = 0 := by rw [hL]; unfold numA; rw [List.getD_eq_getElem?_getD, needL_zero]; rfl
              obtain ⟨C, hC⟩ : ∃ C, C = cntT L (gs.length + 1) := ⟨_, rfl⟩
              have hnle : ∀ k, k < gs.length + 1 → numA L k ≤ (C : Int) := fun k hk => by rw [hC]; exact numA_le hk
              obtain ⟨cs, hcs⟩ : ∃ cs, cs = allC gs L ask := ⟨_, rfl⟩
              rw [← hC] at hrng hcle ⊢
              rw [← hcs] at hcl hrng hsiz hhold ⊢
              have HCL : Hid (∀ w'', (∀ k, wr.heap.size ≤ k → w''.heap[k]? = w5.heap[k]?) → ClsAt w'' (.slice vo cs.length vc) cs) := hcl
              have HU5 : Hid (w5.heap[U]? = some (.cells (rowI (numL L (gs.length + 1))) 3 (0, 0))) := hU
              have HRNG : Hid (∀ c ∈ cs, ∀ x ∈ c, -(C : Int) ≤ x ∧ x ≤ (C : Int)) := hrng
              have HSIZ : Hid (sizC cs ≤ 100000) := by have := HG.out; have := HLA.out; unfold Hid; omega
              have HHOLD : Hid (∀ vs, ValsBy gs L inp vs → holdF vs cs = ask.all (valL gs inp)) := hhold
              have HCLE : Hid (C ≤ 201) := by have := HG.out; unfold Hid; omega
              have HNLE : Hid (∀ k, k < gs.length + 1 → numA L k ≤ (C : Int)) := hnle
              have HL0 : Hid (numA L 0 = 0) := hL0
              have HB5 : Hid (Below w2.heap.size w2 w5) := HW.out.trans (hb5.mono HW.out.size)
              clear hcl hU hrng hsiz hhold hcle hnle hL0 hL hC hcs hb5 hUl
              obtain ⟨w6, hw6⟩ : ∃ w6, w6 = w5.alloc (.cells #[.int .i64 C, .slice vo cs.length vc] 34) := ⟨_, rfl⟩
              have hb6 : Below w5.heap.size w5 w6 := by rw [hw6]; exact (Below.refl _ _).alloc (Nat.le_refl _) _
              have hF6 : w6.heap[w5.heap.size]? = some (.cells #[.int .i64 C, .slice vo cs.length vc] 34 (0, 0)) := by rw [hw6]; exact heap_alloc_new _ _
              have HB6 : Hid (Below w2.heap.size w2 w6) := HB5.out.trans (hb6.mono HB5.out.size)
              have HF6 : Hid (w6.heap[w5.heap.size]? = some (.cells #[.int .i64 C, .slice vo cs.length vc] 34 (0, 0))) := hF6
              have HU6 : Hid (w6.heap[U]? = some (.cells (rowI (numL L (gs.length + 1))) 3 (0, 0))) := row_keep hb6 HU5.out
              have HC6 : Hid (ClsAt w6 (.slice vo cs.length vc) cs) := (HCL.out w5 (fun _ _ => rfl)).below hb6
              have HW6 : Hid (w5.alloc (.cells #[.int .i64 C, .slice vo cs.length vc] 34) = w6) := hw6.symm
              have z0 : w6.cell? ⟨w5.heap.size, 0, none⟩ = some (.int .i64 C) := by rw [cell_of_row w6 _ _ _ _ (0, 0) hF6]; rfl
              obtain ⟨k0, hk0, hy0, hy1, hy2⟩ := info_parts Tryd.infoBool
              have HBY : Hid (k0.bytes * C ≤ 281474976710656) := by have := HCLE.out; unfold Hid; rw [hy2]; omega
              have HMX : Hid (C ≤ maxLen) := by have := HCLE.out; unfold Hid maxLen; omega
              clear hw6 hb6 hF6 HU5 HCL HIL
              go_wp2_with fail
              rw [HW6.out]
              refine (gates_any (HB2.out.gr.below HB6.out) HL.out).mono ?_
              rintro e w' ⟨rfl, hw⟩
              have hw2 := hw.symm
              subst hw2
              go_wp2_with (first
                | (at_make; refine wpList_make_full _ rfl _ _ 46 rfl 0 4 k0 _ 1 Tryd.underlying46 hk0 hy0 hy1 .i64 .i64 _ _ C rfl rfl (by simp) (by simp) HBY.out HMX.out (Nat.zero_le _) ?_; intro w7 hown7 hgr7)
                | go_in)
              have hV7 := made_bools hown7
              have hb7 : Below w6.heap.size w6 w7 := ⟨hgr7.os, hgr7.tape, hgr7.output, hgr7.size, fun k hk => hgr7.block k hk (by simp)⟩
              have HV7 : Hid (w7.heap[w6.heap.size]? = some (.cells (rowB (List.replicate C false)) 4 (0, 0))) := hV7
              have HB7 : Hid (Below w6.heap.size w6 w7) := hb7
              clear hown7 hgr7 hV7 hb7 z0 hk0 hy0 hy1 hy2 HBY HMX
              go_loopw [19] (fun t wq => ∃ (k : Nat) (vs : List Bool), 1 ≤ k ∧ k ≤ gs.length + 1 ∧ t = .int .i64 k ∧ wq.heap[w6.heap.size]? = some (.cells (rowB vs) 4 (0, 0)) ∧ vs.length = C ∧ Hid (ValsTo gs L inp vs k) ∧ Below w6.heap.size w6 wq) (fun t _ => gs.length + 1 - (intOf t).toNat)
              case atStart => exact ⟨1, _, Nat.le_refl _, by omega, rfl, HV7.out, List.length_replicate .., (fun i hi hp => by
                obtain rfl : i = 0 := by omega
                rw [HL0.out] at hp
                omega), HB7.out⟩
              case round =>
                obtain ⟨k, vs, hk1, hk, rfl, hrow, hvl, HVT, hb⟩ := hrel
                have hbw2 : Below w2.heap.size w2 wr := HB6.out.trans (hb.mono HB6.out.size)
                have hfr := row_keep hb HF6.out
                have z1 : wr.cell? ⟨w5.heap.size, 0, none⟩ = some (.int .i64 C) := by rw [cell_of_row wr _ _ _ _ (0, 0) hfr]; rfl
                have z2 : wr.cell? ⟨w5.heap.size, 0 + 1, none⟩ = some (.slice vo cs.length vc) := by rw [cell_of_row wr _ _ _ _ (0, 0) hfr]; rfl
                have HBQ : Hid (Below w6.heap.size w6 wr) := hb
                have HBW2 : Hid (Below w2.heap.size w2 wr) := hbw2
                have HROW : Hid (wr.heap[w6.heap.size]? = some (.cells (rowB vs) 4 (0, 0))) := hrow
                have HVL : Hid (vs.length = C) := hvl
                by_cases hkl : k < gs.length + 1
                · have hur := row_keep hb HU6.out
                  have q0 : wr.cell? ⟨U, k, none⟩ = some (.int .i64 (numA L k)) := by rw [cell_of_row wr U _ _ _ (0, 0) hur]; exact rowI_get (numL_get L hkl)
                  have hnr := numA_range L k
                  have hnl := HNLE.out k hkl
                  have i0' : (0 : Int) ≤ (k : Int) := by omega
                  have i1' : (k : Int) < (gs.length : Int) + 1 := by omega
                  have HK : Hid (k < gs.length + 1) := hkl
                  have N4 : Hid (wrap64 ((k : Int) + 1) = (k : Int) + 1) := by have := HG.out; unfold Hid wrap64; omega
                  have HSK : Hid (¬ 0 < numA L k → ValsTo gs L inp vs (k + 1)) := fun h => HVT.out.skip h
                  have HNX : Hid (0 < numA L k → ValsTo gs L inp (vs.set (numA L k - 1).toNat (valL gs inp (2 * (k : Int)))) (k + 1)) := fun h => HVT.out.next h (by omega)
                  obtain ⟨x, hx⟩ : ∃ x, x = numA L k := ⟨_, rfl⟩
                  rw [← hx] at q0 HSK HNX hnl hnr
                  by_cases hp : 0 < x
                  · obtain ⟨i, hi⟩ : ∃ i : Nat, (x - 1).toNat = i := ⟨_, rfl⟩
                    have hil : i < vs.length := by omega
                    have hg : vs[i]? = some vs[i] := List.getElem?_eq_getElem hil
                    have d0 : (0 < x) = True := eq_true hp
                    have d1 : ((C : Int) < x) = False := eq_false (by omega)
                    have r0 : (0 : Int) ≤ (i : Int) := by omega
                    have r1 : (i : Int) < (C : Int) := by omega
                    have NN : Hid (IntKind.i64.wrap (x - 1) = (i : Int) ∧ IntKind.i64.wrap (2 * (k : Int)) = 2 * (k : Int)) := by have := HG.out; have := HCLE.out; unfold Hid; rw [IntKind.wrap_i64, IntKind.wrap_i64]; omega
                    have HNX2 : Hid (ValsTo gs L inp (vs.set i (valL gs inp (2 * (k : Int)))) (k + 1)) := by have := HNX.out hp; rw [hi] at this; exact this
                    have HEV : Hid (∀ W, Below w2.heap.size w2 W → Calls Tryd.prog 15 #[.pointer (some ⟨w1.heap.size + 1, 0, none⟩), .slice io inp.length ic, .int .i64 (2 * (k : Int))] W fun e w' => e = .returned (.bool (valL gs inp (2 * (k : Int)))) ∧ Below W.heap.size W w') := fun W hW => meval_any HB2.out.gr.1 (HB2.out.mo.below hW) HL3.out _ inp (HVI.out.below (HBB.out.trans (hW.mono HBB.out.size))) HCN.out _ (by unfold HasL; omega)
                    have HNUV : Hid (U ≠ w6.heap.size) := by
                      have := (Array.getElem?_eq_some_iff.1 HU6.out).1
                      unfold Hid; omega
                    obtain ⟨y, hy⟩ : ∃ y, y = vs[i] := ⟨_, rfl⟩
                    rw [← hy] at hg
                    have HGY : Hid (vs[i]? = some y) := hg
                    obtain ⟨b, hb'⟩ : ∃ b, b = valL gs inp (2 * (k : Int)) := ⟨_, rfl⟩
                    rw [← hb'] at HNX2 HEV
                    clear hk1 hk hrow hvl hb hbw2 hfr hkl hur hnr hnl hx hp hi hil hg hy HSK HNX z2 HVT hb'
                    go_wp2
                    go_quiet (fail)
                    go_wp2
                    have q1 : (wr.drewN nq).cell? ⟨U, k, none⟩ = some (.int .i64 x) := q0
                    have Q1 : Hid ((wr.drewN (nq + 1)).cell? ⟨U, k, none⟩ = some (.int .i64 x)) := q0
                    have HBE6 : Hid (Below w6.heap.size w6 (wr.drewN (nq + 1))) := below_drewM HBQ.out (nq + 1)
                    have HRE : Hid ((wr.drewN (nq + 1)).heap[w6.heap.size]? = some (.cells (rowB vs) 4 (0, 0))) := HROW.out
                    have HE1 : Hid (Calls Tryd.prog 15 #[.pointer (some ⟨w1.heap.size + 1, 0, none⟩), .slice io inp.length ic, .int .i64 (IntKind.i64.wrap (2 * (k : Int)))] (wr.drewN (nq + 1)) fun e w' => e = .returned (.bool b) ∧ Below (wr.drewN (nq + 1)).heap.size (wr.drewN (nq + 1)) w') := by
                      unfold Hid
                      rw [NN.out.2]
                      exact HEV.out _ (below_drewM HBW2.out (nq + 1))
                    have n1 := NN.out.1
                    clear HEV
                    go_region_held3 (fun w' => w'.cell? ⟨U, k, none⟩ = some (.int .i64 x)) (first | go_keep | exact hq8 | exact hq9)
                      ((go_at_call 15; (with_reducible refine Calls.mono HE1.out ?_); rintro e w8 ⟨rfl, hb8⟩; have hq8 := cell_keep hb8 Q1.out; have r8 : w8.heap[w6.heap.size]? = some (.cells (rowB vs) 4 (0, 0)) := row_keep hb8 HRE.out; have y0 : w8.cell? ⟨w6.heap.size, i, none⟩ = some (.bool y) := (by rw [cell_of_row w8 _ _ _ _ (0, 0) r8]; exact rowB_get HGY.out); have f0 : w8.frozen? ⟨w6.heap.size, i, none⟩ = false := frozen_row r8; have hq9 := cell_set1 hq8 HNUV.out i (.bool b)))
                    all_goals have hr9 : (w8.setCell ⟨w6.heap.size, i, none⟩ (.bool b)).heap[w6.heap.size]? = some (.cells (rowB (vs.set i b)) 4 (0, 0)) := by rw [heap_setCell_at r8, rowB_set]
                    all_goals have hb9 : Below w6.heap.size w6 (w8.setCell ⟨w6.heap.size, i, none⟩ (.bool b)) := (HBE6.out.trans (hb8.mono HBE6.out.size)).setCell (Nat.le_refl _) _
                    all_goals have HR9 : Hid (_ = some (Obj.cells (rowB (vs.set i b)) 4 (0, 0))) := hr9
                    all_goals have HB9 : Hid (Below w6.heap.size w6 (w8.setCell ⟨w6.heap.size, i, none⟩ (.bool b))) := hb9
                    all_goals have HK1 : Hid (1 ≤ k + 1) := by unfold Hid; omega
                    all_goals clear hr9 hb9 hq8 hq9 r8 y0 f0 hb8 q1 q0
                    all_goals go_wp2
                    all_goals exact ⟨⟨k + 1, vs.set i b, HK1.out, HK.out, by rw [N4.out]; rfl, HR9.out, by rw [List.length_set]; exact HVL.out, HNX2, HB9.out⟩, by rw [N4.out]; have := HK.out; simp [intOf]; omega⟩
                  · have d0 : (0 < x) = False := eq_false hp
                    have HVT2 : Hid (ValsTo gs L inp vs (k + 1)) := HSK.out hp
                    have HK1 : Hid (1 ≤ k + 1) := by unfold Hid; omega
                    clear hk1 hk hrow hvl hb hbw2 hfr hkl hur hnr hnl hx hp HSK HNX z1 z2
                    go_wp2
                    exact ⟨⟨k + 1, vs, HK1.out, HK.out, by rw [N4.out]; rfl, HROW.out, HVL.out, HVT2, HBQ.out⟩, by rw [N4.out]; have := HK.out; simp [intOf]; omega⟩
                · obtain rfl : k = gs.length + 1 := by omega
                  have HCW : Hid (ClsAt wr (.slice vo cs.length vc) cs) := HC6.out.below hb
                  have hvb : ValsBy gs L inp vs := fun i hi hp => HVT.out i (by omega) hp
                  have HHV : Hid (holdF vs cs = ask.all (valL gs inp)) := HHOLD.out vs hvb
                  have HBZ : Hid (Below w.heap.size w wr) := HBB.out.trans (hbw2.mono HBB.out.size)
                  have HHO : Hid (Calls Tryd.prog 17 #[.agg #[.int .i64 C, .slice vo cs.length vc], .slice (some ⟨w6.heap.size, 0, none⟩) C C] wr fun e w' => e = .returned (.bool (holdF vs cs)) ∧ Below wr.heap.size wr w') := holds3_any wr C _ cs HCW.out HSIZ.out w6.heap.size C vs _ hrow hvl (by have := HCLE.out; omega) HRNG.out
                  have HEQ : Hid (holdF vs cs = rb) := HHV.out.trans HRB2.out.symm
                  clear hk1 hk hrow hvl hb hbw2 hfr hkl HVT hvb
                  go_wp2_with fail
                  refine HHO.out.mono ?_
                  rw [HEQ.out]
                  rintro e w8 ⟨rfl, hb8⟩
                  have HB8 : Hid (Below w.heap.size w w8) := HBZ.out.trans (hb8.mono HBZ.out.size)
                  clear hb8 z1 z2
                  go_wp2
                  go_ret
                  exact ⟨by cases rb <;> rfl, HB8.out⟩
            · exact absurd HHAS.out hn
      · have di : (((inp.length : Nat) : Int) == ((ins : Nat) : Int)) = false := by simp; omega
        have di2 : (((inp.length : Nat) : Int) != ((ins : Nat) : Int)) = true := by simp; omega
        clear hie
        go_wp2
        go_ret
        exact ⟨rfl, HBB.out⟩
    · have hd2 : ((60 : Int) < (ask.length : Int)) = True := eq_true (by omega)
      clear hlm him ham hla hl
      go_enter Tryd.func4, Tryd.ntmps4
      go_wp2_with (go_at_call 7; refine HT.out.mono ?_; rintro e w1 ⟨rfl, hb1⟩)
      go_ret
      exact ⟨rfl, hb1⟩
  · have hd : ((60 : Int) < (l.length : Int)) = True := eq_true (by omega)
    clear hlm him ham hl
    go_enter Tryd.func4, Tryd.ntmps4
    go_wp2_with (go_at_call 7; refine HT.out.mono ?_; rintro e w1 ⟨rfl, hb1⟩)
    go_ret
    exact ⟨rfl, hb1⟩
end Go.Proofs.YtbbakcpflckbnaaDoor
