/-
  lustrumlaw3.CnfOf, WALKED: it answers true.
-/
import Derived.Test.YtlclbidjdhlklaaDoorCnW
import Derived.Test.YtlclbidjdhlklaaDoorCnS
import Derived.Test.YtlclbidjdhlklaaDoorCnZ
import Derived.Test.YtlclbidjdhlklaaDoorLwB
import Derived.Test.YtlclbidjdhlklaaDoorCpy
import Derived.Test.YtlclbidjdhlklaaDoorCdS
import Derived.Deep.RegionHeld3
namespace Go.Proofs.YtlclbidjdhlklaaDoor
open Go.RowKit Go.Maps

theorem texted_sents {a : Nat → Addr} {w : World} (S : Sents a w) (ht : Lib.TabIs Tryd.prog w "internal/strconv.uint64pow10" .u64 Lib.pow10Tab) : Calls Tryd.prog 4 #[] w fun e w' => e = .returned (.bool true) ∧ Below w.heap.size w w' :=
  texted_any w ht _ _ _ _ S.g1 S.g2
theorem all_takeI {ask : List Int} {j : Nat} {x : Int} (hx : ask[j]? = some x) (f : Int → Bool) : (ask.take (j + 1)).all f = ((ask.take j).all f && f x) := by
  rw [List.take_add_one, hx]; simp
set_option maxRecDepth 100000 in
set_option maxHeartbeats 8000000 in
theorem of_walk (a : Nat → Addr) (w : World) (S : Sents a w) (htab : Lib.TabIs Tryd.prog w "internal/strconv.uint64pow10" .u64 Lib.pow10Tab) (v : Value) (l : List Mk) (hv : MakesAt w v l) (hlm : l.length ≤ maxLen) (va : Value) (ask : List Int) (hva : IntsAt w va ask) (hI : ∀ x ∈ ask, I64 x) :
    Calls Tryd.prog 3 #[v, va] w fun e w' => e = .returned (.bool true) ∧ Below w.heap.size w w' := by
  have HT : Hid (Calls Tryd.prog 4 #[] w fun e w' => e = .returned (.bool true) ∧ Below w.heap.size w w') := texted_sents S htab
  have HS : Hid (Sents a w) := S
  have HV : Hid (MakesAt w v l) := hv
  have HI : Hid (∀ x ∈ ask, I64 x) := hI
  have HVA : Hid (IntsAt w va ask) := hva
  obtain ⟨o, c, rfl, hv'⟩ := hv
  obtain ⟨ham, ao, ac, rfl, hac⟩ := hva
  have HAC : Hid (∀ k x, ask[k]? = some x → ∃ b off, ao = some ⟨b, off, none⟩ ∧ w.cell? ⟨b, off + k, none⟩ = some (.int .i64 x)) := hac
  unfold maxLen at hlm ham
  clear S hv' hac hI htab
  by_cases hl : l.length ≤ 60
  · have hd : ((60 : Int) < (l.length : Int)) = False := eq_false (by omega)
    by_cases hla : ask.length ≤ 60
    · have hd2 : ((60 : Int) < (ask.length : Int)) = False := eq_false (by omega)
      clear hlm ham
      go_enter Tryd.func3, Tryd.ntmps3
      go_wp2_with fail
      refine HT.out.mono ?_
      rintro e w1 ⟨rfl, hb1⟩
      have HB1 : Hid (Below w.heap.size w w1) := hb1
      clear hb1
      go_wp2_with fail
      refine (build_any a w1 (HS.out.below HB1.out) _ l (HV.out.below HB1.out) hl).mono ?_
      rintro e w2 ⟨gs, ins, F, E, rfl, hB, hgl, hil⟩
      have HB2 : Hid (Both _ _ _ _ _ _ _ _ _) := hB
      have HG : Hid (gs.length ≤ 200) := hgl
      have HL : Hid (gs.length ≤ 100000) := Nat.le_trans hgl (by omega)
      have HL3 : Hid (gs.length ≤ 1000) := Nat.le_trans hgl (by omega)
      have HLA : Hid (ask.length ≤ 60) := hla
      have HBB : Hid (Below w.heap.size w w2) := HB1.out.trans (hB.bel.mono HB1.out.size)
      obtain ⟨i0, hi0, hz0, hz1, hz2⟩ := info_parts Tryd.infoLit
      clear hB hgl hil hd hd2 HV hl hla
      go_wp2
      go_loopw [9, 10, 11] (fun s r t wr => ∃ (j : Nat) (so : Option Addr) (sc : Nat), j ≤ ask.length ∧ t = .int .i64 j ∧ s = .slice so j sc ∧ wr.ownsRow w2.heap.size 30 1 (.slice so j sc) j ((ask.take j).map (Value.int .i64)) ∧ (∃ b, r = .bool b ∧ Hid (b = (ask.take j).all (hasB gs))) ∧ Below w2.heap.size w2 wr) (fun _ _ t _ => ask.length - (intOf t).toNat)
      case atStart => exact ⟨0, none, 0, Nat.zero_le _, rfl, rfl, World.ownsRow_nil _ _ _ _, ⟨_, rfl, rfl⟩, Below.refl _ _⟩
      case round =>
        obtain ⟨j, so, sc, hj, rfl, rfl, hown, ⟨rb, rfl, HRB⟩, hb⟩ := hrel
        have HW : Hid (Below w2.heap.size w2 wr) := hb
        have HWW : Hid (Below w.heap.size w wr) := HBB.out.trans (hb.mono HBB.out.size)
        by_cases hjl : j < ask.length
        · obtain ⟨x, hx⟩ : ∃ x, ask[j]? = some x := ⟨_, List.getElem?_eq_getElem hjl⟩
          obtain ⟨b0, off, rfl, hcx⟩ := HAC.out j x hx
          have q0 := cell_keep HWW.out hcx
          have i0' : (0 : Int) ≤ (j : Int) := by omega
          have i1' : (j : Int) < (ask.length : Int) := by omega
          have HJ : Hid (j < ask.length) := hjl
          have N4 : Hid (wrap64 ((j : Int) + 1) = (j : Int) + 1) := by have := HLA.out; unfold Hid wrap64; omega
          have HM : Hid (j + 1 ≤ maxLen) := by have := HLA.out; unfold Hid maxLen; omega
          have HBY : Hid ((j + 1) * 8 ≤ 140737488355328) := by have := HLA.out; unfold Hid; omega
          have HO : Hid (∀ o', (wr.alloc o').ownsRow w2.heap.size 30 1 (.slice so j sc) j ((ask.take j).map (Value.int .i64))) := fun o' => hown.alloc o'
          have HN' : Hid _ := World.news_of_block (heap_alloc_new wr (.cells #[.int .i64 x] 30))
          have HRW : Hid (∀ k, (Value.slice so j sc).ownBlock = some k → w2.heap.size ≤ k) := fun k hk => (hown.lt k hk).1
          have HSZ : Hid (w2.heap.size ≤ (wr.alloc (.cells #[.int .i64 x] 30)).heap.size) := Nat.le_trans hb.size (by simp)
          have etk : (ask.take (j + 1)).map (Value.int .i64) = (ask.take j).map (Value.int .i64) ++ [.int .i64 x] := by rw [List.take_add_one, hx]; simp
          have ETK : Hid ((ask.take (j + 1)).map (Value.int .i64) = (ask.take j).map (Value.int .i64) ++ [.int .i64 x]) := etk
          have EAL : Hid ((ask.take (j + 1)).all (hasB gs) = ((ask.take j).all (hasB gs) && hasB gs x)) := all_takeI hx _
          have HCX : Hid (w.cell? ⟨b0, off + j, none⟩ = some (.int .i64 x)) := hcx
          have HMH : Hid (∀ W, Below w2.heap.size w2 W → Calls Tryd.prog 6 #[.pointer (some ⟨w1.heap.size + 1, 0, none⟩), .int .i64 x] W fun e w' => e = .returned (.bool (hasB gs x)) ∧ w' = W) := fun W hW => mhas_any (HB2.out.mo.below hW) HL.out x
          clear hj hown hb hjl hx hcx etk
          cases rb
          · go_wp2_with (first
              | (at_builtin; refine wpList_append_lies _ rfl _ _ 29 rfl w2.heap.size 30 i0 _ 1 8 Tryd.underlying29 hi0 hz0 hz1 hz2 rfl (by omega) (.slice so j sc) j _ rfl (HO.out _) ⟨wr.heap.size, 0, none⟩ 1 1 [.int .i64 x] rfl rfl HN'.out (by simp [Value.oneCell']) (by omega) HM.out HBY.out HSZ.out _ rfl ?_; intro g cap w3 hown3 hgrow hat hlt3; have hb3 : Below w2.heap.size w2 w3 := (HW.out.alloc HW.out.size _).grown hgrow HSZ.out HRW.out; have HOW3 : Hid (World.ownsRow _ _ _ _ _ _ _) := hown3; have HB3 : Hid (Below w2.heap.size w2 w3) := hb3; clear hown3 hgrow hat hb3)
              | go_in)
            exact ⟨⟨j + 1, _, _, HJ.out, by rw [N4.out]; rfl, rfl, by rw [ETK.out]; exact HOW3.out, ⟨_, rfl, by unfold Hid; rw [EAL.out, ← HRB.out]; rfl⟩, HB3.out⟩, by rw [N4.out]; have := HJ.out; simp [intOf]; omega⟩
          · go_wp2_with (first
              | (go_at_call 6; refine (HMH.out _ HB3.out).mono ?_; rintro e w' ⟨rfl, hw⟩; have hw2 := hw.symm; subst hw2)
              | (at_builtin; refine wpList_append_lies _ rfl _ _ 29 rfl w2.heap.size 30 i0 _ 1 8 Tryd.underlying29 hi0 hz0 hz1 hz2 rfl (by omega) (.slice so j sc) j _ rfl (HO.out _) ⟨wr.heap.size, 0, none⟩ 1 1 [.int .i64 x] rfl rfl HN'.out (by simp [Value.oneCell']) (by omega) HM.out HBY.out HSZ.out _ rfl ?_; intro g cap w3 hown3 hgrow hat hlt3; have hb3 : Below w2.heap.size w2 w3 := (HW.out.alloc HW.out.size _).grown hgrow HSZ.out HRW.out; have q3 := cell_keep (HBB.out.trans (hb3.mono HBB.out.size)) HCX.out; have HOW3 : Hid (World.ownsRow _ _ _ _ _ _ _) := hown3; have HB3 : Hid (Below w2.heap.size w2 w3) := hb3; clear hown3 hgrow hat hb3)
              | go_in)
            exact ⟨⟨j + 1, _, _, HJ.out, by rw [N4.out]; rfl, rfl, by rw [ETK.out]; exact HOW3.out, ⟨_, rfl, by unfold Hid; rw [EAL.out, ← HRB.out]; rfl⟩, HB3.out⟩, by rw [N4.out]; have := HJ.out; simp [intOf]; omega⟩
        · obtain rfl : j = ask.length := by omega
          rw [List.take_length] at hown HRB
          have HIL : Hid (IntsAt wr (.slice so ask.length sc) ask) := ints_of_owns hown rfl (by have := HLA.out; unfold maxLen; omega)
          clear hown hb hj hjl hi0 hz0 hz1 hz2
          go_wp2_with fail
          refine (of_any (HB2.out.gr.below HW.out) HL3.out so _ sc ask HIL.out rfl (by have := HLA.out; omega) HI.out _ _ _ _ (HS.out.below HWW.out).g2 (HS.out.below HWW.out).g8).mono ?_
          rintro e w5 ⟨hb5, ho⟩
          have HB5 : Hid (Below w2.heap.size w2 w5) := HW.out.trans (hb5.mono HW.out.size)
          have HBW5 : Hid (Below w.heap.size w w5) := HWW.out.trans (hb5.mono HWW.out.size)
          rcases ho with ⟨hall, sv, U, hUl, rfl, hcl, hU⟩ | ⟨hn, rfl⟩
          · have hrb : rb = true := by
              rw [HRB.out, List.all_eq_true]
              exact fun x hx => hasB_iff.2 (hall x hx)
            subst hrb
            obtain ⟨_, vo, vc, rfl, _⟩ := hcl w5 (fun _ _ => rfl)
            have hcl5 := hcl w5 (fun _ _ => rfl)
            obtain ⟨cs, hcs⟩ : ∃ cs, cs = allC gs (needL gs ask) ask := ⟨_, rfl⟩
            have hsiz := sizC_all gs (needL gs ask) ask
            rw [← hcs] at hcl5 hsiz ⊢
            have HSIZ : Hid (sizC cs ≤ 100000) := by have := HG.out; have := HLA.out; unfold Hid; omega
            obtain ⟨C, hC⟩ : ∃ C : Int, C = (cntT (needL gs ask) (gs.length + 1) : Int) := ⟨_, rfl⟩
            rw [← hC]
            obtain ⟨ns, hns⟩ : ∃ ns, ns = numL (needL gs ask) (gs.length + 1) := ⟨_, rfl⟩
            have hnl := numL_length (needL gs ask) (gs.length + 1)
            rw [← hns] at hU hnl
            have HNL : Hid (gs.length + 1 = ns.length ∧ gs.length + 1 ≤ 100000) := by have := HG.out; unfold Hid; omega
            have HE : Hid (cs = allC gs (needL gs ask) ask ∧ C = (cntT (needL gs ask) (gs.length + 1) : Int) ∧ ns = numL (needL gs ask) (gs.length + 1)) := ⟨hcs, hC, hns⟩
            have HREF : Hid (∀ W, Below w2.heap.size w2 W → Calls Tryd.prog 9 #[.pointer (some ⟨w1.heap.size + 1, 0, none⟩), .slice ao ask.length ac] W fun e w' => RefP W.heap.size gs ask e w' ∧ Below W.heap.size W w') := fun W hW => refOf_any HB2.out.gr.1 (HB2.out.mo.below hW) HL3.out ao ask.length ac ask (HVA.out.below (HBB.out.trans (hW.mono HBB.out.size))) rfl (by have := HLA.out; omega) hall
            obtain ⟨w6, hw6⟩ : ∃ w6, w6 = w5.alloc (.cells #[.int .i64 C, .slice vo cs.length vc] 34) := ⟨_, rfl⟩
            have hb6 : Below w5.heap.size w5 w6 := by rw [hw6]; exact (Below.refl _ _).alloc (Nat.le_refl _) _
            have HF6 : Hid (w6.heap[w5.heap.size]? = some (.cells #[.int .i64 C, .slice vo cs.length vc] 34 (0, 0))) := by unfold Hid; rw [hw6]; exact heap_alloc_new _ _
            have HB6 : Hid (Below w2.heap.size w2 w6) := HB5.out.trans (hb6.mono HB5.out.size)
            have HU6 : Hid (w6.heap[U]? = some (.cells (rowI ns) 3 (0, 0))) := row_keep hb6 hU
            have HC6 : Hid (ClsAt w6 (.slice vo cs.length vc) cs) := hcl5.below hb6
            have HW6 : Hid (w5.alloc (.cells #[.int .i64 C, .slice vo cs.length vc] 34) = w6) := hw6.symm
            clear hcl hcl5 hsiz hU hnl hcs hC hns hw6 hb6 hb5 hUl hall HIL HRB
            go_wp2_with fail
            rw [HW6.out]
            refine (HREF.out _ HB6.out).mono ?_
            rintro e w7 ⟨⟨sv2, U2, hU2l, rfl, hcl2, hU2⟩, hb7⟩
            rw [← HE.out.1] at hcl2
            rw [← HE.out.2.2] at hU2
            rw [← HE.out.2.1]
            have hcl7 := hcl2
            obtain ⟨_, vo2, vc2, rfl, _⟩ := hcl2
            obtain ⟨w8, hw8⟩ : ∃ w8, w8 = w7.alloc (.cells #[.int .i64 C, .slice vo2 cs.length vc2] 40) := ⟨_, rfl⟩
            have hb8 : Below w7.heap.size w7 w8 := by rw [hw8]; exact (Below.refl _ _).alloc (Nat.le_refl _) _
            have hb68 : Below w6.heap.size w6 w8 := hb7.trans (hb8.mono hb7.size)
            have hF8 := row_keep hb68 HF6.out
            have hG8 : w8.heap[w7.heap.size]? = some (.cells #[.int .i64 C, .slice vo2 cs.length vc2] 40 (0, 0)) := by rw [hw8]; exact heap_alloc_new _ _
            have z0 : w8.cell? ⟨w5.heap.size, 0, none⟩ = some (.int .i64 C) := by rw [cell_of_row w8 _ _ _ _ (0, 0) hF8]; rfl
            have z1 : w8.cell? ⟨w5.heap.size, 0 + 1, none⟩ = some (.slice vo cs.length vc) := by rw [cell_of_row w8 _ _ _ _ (0, 0) hF8]; rfl
            have z2 : w8.cell? ⟨w7.heap.size, 0, none⟩ = some (.int .i64 C) := by rw [cell_of_row w8 _ _ _ _ (0, 0) hG8]; rfl
            have z3 : w8.cell? ⟨w7.heap.size, 0 + 1, none⟩ = some (.slice vo2 cs.length vc2) := by rw [cell_of_row w8 _ _ _ _ (0, 0) hG8]; rfl
            have HSC : Hid (Calls Tryd.prog 10 #[.slice vo cs.length vc, .slice vo2 cs.length vc2] w8 fun e w' => e = .returned (.bool true) ∧ ∃ k, w' = w8.drewN k) := sameC_any w8 vo vo2 cs.length vc vc2 cs (HC6.out.below hb68) (hcl7.below hb8) rfl HSIZ.out
            have HSI : Hid (∀ k, Calls Tryd.prog 11 #[.slice (some ⟨U, 0, none⟩) (gs.length + 1) (gs.length + 1), .slice (some ⟨U2, 0, none⟩) (gs.length + 1) (gs.length + 1)] (w8.drewN k) fun e w' => e = .returned (.bool true) ∧ ∃ k', w' = (w8.drewN k).drewN k') := fun k => sameI_any (w8.drewN k) _ _ (gs.length + 1) _ _ ns ((IntsO.row (row_keep hb68 HU6.out)).drew k) ((IntsO.row (row_keep hb8 hU2)).drew k) HNL.out.1 HNL.out.2
            have HBF : Hid (∀ k, Below w.heap.size w (w8.drewN k)) := fun k => below_drewM (HBB.out.trans ((HB6.out.trans (hb68.mono HB6.out.size)).mono HBB.out.size)) k
            have HW8 : Hid (w7.alloc (.cells #[.int .i64 C, .slice vo2 cs.length vc2] 40) = w8) := hw8.symm
            rw [hw8] at z0 z1 z2 z3
            clear hcl7 hU2 hU2l hb7 hw8 hb8 hb68 hF8 hG8
            go_wp2_with fail
            rw [HW8.out]
            refine HSC.out.mono ?_
            rintro e w9 ⟨rfl, k9, rfl⟩
            clear z0 z1 z2 z3
            go_wp2_with fail
            refine (HSI.out k9).mono ?_
            rintro e w10 ⟨rfl, k10, rfl⟩
            go_wp2
            go_ret
            exact ⟨rfl, HBF.out _⟩
          · have hrb : rb = false := by
              rw [HRB.out]
              cases h : ask.all (hasB gs)
              · rfl
              · exact absurd (fun x hx => hasB_iff.1 (List.all_eq_true.1 h x hx)) hn
            subst hrb
            obtain ⟨w6, hw6⟩ : ∃ w6, w6 = w5.alloc (.cells #[.int .i64 0, .slice none 0 0] 34) := ⟨_, rfl⟩
            have hb6 : Below w5.heap.size w5 w6 := by rw [hw6]; exact (Below.refl _ _).alloc (Nat.le_refl _) _
            have hF6 : w6.heap[w5.heap.size]? = some (.cells #[.int .i64 0, .slice none 0 0] 34 (0, 0)) := by rw [hw6]; exact heap_alloc_new _ _
            have HB6 : Hid (Below w.heap.size w w6) := HBW5.out.trans (hb6.mono HBW5.out.size)
            have HF6 : Hid (w6.heap[w5.heap.size]? = some (.cells #[.int .i64 0, .slice none 0 0] 34 (0, 0))) := hF6
            have HW6 : Hid (w5.alloc (.cells #[.int .i64 0, .slice none 0 0] 34) = w6) := hw6.symm
            clear hw6 hb6 hF6 hn hb5 HIL HRB
            go_wp2_with fail
            rw [HW6.out]
            refine (coded_shape (HS.out.below HB6.out)).mono ?_
            rintro e w7 ⟨rfl, hb7⟩
            have hF7 := row_keep hb7 HF6.out
            have z0 : w7.cell? ⟨w5.heap.size, 0, none⟩ = some (.int .i64 0) := by rw [cell_of_row w7 _ _ _ _ (0, 0) hF7]; rfl
            have z1 : w7.cell? ⟨w5.heap.size, 0 + 1, none⟩ = some (.slice none 0 0) := by rw [cell_of_row w7 _ _ _ _ (0, 0) hF7]; rfl
            have HB7 : Hid (Below w.heap.size w w7) := HB6.out.trans (hb7.mono HB6.out.size)
            clear hF7 hb7
            go_wp2
            go_ret
            exact ⟨rfl, HB7.out⟩
    · have hd2 : ((60 : Int) < (ask.length : Int)) = True := eq_true (by omega)
      clear hlm ham hla hl
      go_enter Tryd.func3, Tryd.ntmps3
      go_wp2_with (go_at_call 4; refine HT.out.mono ?_; rintro e w1 ⟨rfl, hb1⟩)
      go_ret
      exact ⟨rfl, hb1⟩
  · have hd : ((60 : Int) < (l.length : Int)) = True := eq_true (by omega)
    clear hlm ham hl
    go_enter Tryd.func3, Tryd.ntmps3
    go_wp2_with (go_at_call 4; refine HT.out.mono ?_; rintro e w1 ⟨rfl, hb1⟩)
    go_ret
    exact ⟨rfl, hb1⟩
end Go.Proofs.YtlclbidjdhlklaaDoor
