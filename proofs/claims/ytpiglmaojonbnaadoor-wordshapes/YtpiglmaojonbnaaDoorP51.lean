/-
  lustrumlaw3.WordShapes, WALKED: it answers true.
-/
import Derived.Test.YtpiglmaojonbnaaDoorP50
namespace Go.Proofs.YtpiglmaojonbnaaDoor
open Go.RowKit Go.Maps

set_option maxRecDepth 100000 in
set_option maxHeartbeats 4000000 in
theorem wordShapes_walk (a : Nat → Addr) (w : World) (S : Sents a w) (s : ByteArray) (hs : s.size ≤ maxLen) (v : Value) (ls : List Int) (hv : IntsAt w v ls) :
    Calls Tryd.prog 3 #[.string s, v] w fun e w' => e = .returned (.bool true) ∧ Below w.heap.size w w' := by
  have HS : Hid (Sents a w) := S
  have HSS : Hid (s.size ≤ maxLen) := hs
  have HV : Hid (IntsAt w v ls) := hv
  obtain ⟨hml, o, c, rfl, _⟩ := hv
  unfold maxLen at hml
  obtain ⟨i0, hi0, hz0, hz1, hz2⟩ := info_parts Tryd.infoLit
  obtain ⟨i1, hj0, hy0, hy1, hy2⟩ := info_parts Tryd.infoLitR
  obtain ⟨i2, hk0, hx0, hx1, hx2⟩ := info_parts Tryd.infoVal
  clear S hs
  go_enter Tryd.func3, Tryd.ntmps3
  by_cases hl : ls.length ≤ 5
  case neg =>
    have hd : ((5 : Int) < (ls.length : Int)) = True := eq_true (by omega)
    clear hml hl
    go_wp2_with (go_at_call 4; refine (five_any w).mono ?_; rintro e w1 ⟨rfl, hb1⟩)
    go_ret
    exact ⟨rfl, hb1⟩
  case pos =>
  have hd : ((5 : Int) < (ls.length : Int)) = False := eq_false (by omega)
  have HL : Hid (ls.length ≤ 5) := hl
  clear hml hl
  go_wp2_with (go_at_call 4; refine (five_any w).mono ?_; rintro e w1 ⟨rfl, hb1⟩)
  clear hd
  obtain ⟨w2, hw2⟩ : ∃ w2, w2 = w1.alloc (.cells #[.slice none 0 0, .map none, .int .i64 0] 28) := ⟨_, rfl⟩
  have HB2 : Hid (Below w.heap.size w w2) := by rw [hw2]; exact hb1.alloc hb1.size _
  have HG2 : Hid (GrAt w1.heap.size [] 0 (fun k => k = w1.heap.size) w2) := by rw [hw2]; exact new_graph w1 _
  have HZ2 : Hid (w.heap.size ≤ w1.heap.size ∧ w1.heap.size < w1.heap.size + 1 ∧ w1.heap.size + 1 ≤ w2.heap.size) := ⟨hb1.size, Nat.lt_succ_self _, by rw [hw2]; simp⟩
  rw [← hw2]
  obtain ⟨G, hG⟩ : ∃ G, G = w1.heap.size := ⟨_, rfl⟩
  rw [← hG] at HG2 HZ2 ⊢
  clear hw2 hb1 hG
  go_loopw [7, 8, 9, 10] (fun p r q t wr => ∃ (j : Nat) (po qo : Option Addr) (pc qc : Nat) (vs : List Value) (ks : List (Int × Int)), j ≤ ls.length ∧ t = .int .i64 j ∧ p = .slice po j pc ∧ r = .bool ((ls.take j).all oneEight) ∧ q = .slice qo ks.length qc ∧ ks.length ≤ j ∧ Hid (Shp w G (G + 1) ((ls.take j).map zerosL) (.slice po j pc) (.slice qo ks.length qc) vs ks wr ∧ ((ls.take j).all oneEight = true → ks = (ls.take j).map kvI) ∧ ∀ n ∈ ls.take j, 0 ≤ n)) (fun _ _ _ t _ => ls.length - (intOf t).toNat)
  case atStart => exact ⟨0, none, none, 0, 0, [], [], Nat.zero_le _, rfl, rfl, rfl, rfl, Nat.le_refl _, ⟨World.ownsRow_nil _ _ _ _, World.ownsRow_nil _ _ _ _, rfl, fun k l hk => by simp at hk, HG2.out, HB2.out, HZ2.out⟩, fun _ => rfl, fun n hn => by simp at hn⟩
  case round =>
    obtain ⟨j, po, qo, pc, qc, vs, ks, hj, rfl, rfl, rfl, rfl, hkj, HSH⟩ := hrel
    by_cases hjl : j < ls.length
    · obtain ⟨n, hn⟩ : ∃ n, ls[j]? = some n := ⟨_, List.getElem?_eq_getElem hjl⟩
      have hvr := HV.out
      obtain ⟨_, o', c', e', hcell⟩ := hvr
      obtain ⟨b, off, ho, c0⟩ := hcell j n hn
      obtain rfl : o = o' := (Value.slice.inj e').1
      subst ho
      have HC0 : Hid (w.cell? ⟨b, off + j, none⟩ = some (.int .i64 n)) := c0
      have HKJ : Hid (ks.length ≤ j) := hkj
      have c1 := cell_keep HSH.out.1.bel c0
      have HN : Hid (ls[j]? = some n) := hn
      have HJ : Hid (j < ls.length) := hjl
      have i0' : (0 : Int) ≤ (j : Int) := by omega
      have i1' : (j : Int) < (ls.length : Int) := by omega
      clear e' hcell c0 hn hj hkj
      by_cases h0 : n < 0
      · have d0 : (n < 0) = True := eq_true h0
        have HEND : Hid (Below w.heap.size w wr) := HSH.out.1.bel
        clear h0 hjl
        go_wp2
        go_ret
        exact ⟨rfl, HEND.out⟩
      by_cases h2 : 20 < n
      · have d0 : (n < 0) = False := eq_false h0
        have d1 : (20 < n) = True := eq_true h2
        have HEND : Hid (Below w.heap.size w wr) := HSH.out.1.bel
        clear h0 h2 hjl
        go_wp2
        go_ret
        exact ⟨rfl, HEND.out⟩
      obtain ⟨m, hm⟩ : ∃ m : Nat, n = (m : Int) := ⟨n.toNat, by omega⟩
      subst hm
      have hm20 : m ≤ 20 := by omega
      have d0 : ((m : Int) < 0) = False := eq_false h0
      have d1 : (20 < (m : Int)) = False := eq_false h2
      have HM20 : Hid (m ≤ 20) := hm20
      have HBY : Hid (i0.bytes * m ≤ 281474976710656) := by unfold Hid; rw [hz2]; omega
      have HMX : Hid (m ≤ maxLen) := by unfold Hid maxLen; omega
      have HM2 : Hid (j + 1 ≤ maxLen ∧ (j + 1) * 24 ≤ 140737488355328) := by have := HL.out; unfold Hid maxLen; omega
      have HM3 : Hid (ks.length + 1 ≤ maxLen ∧ (ks.length + 1) * 16 ≤ 140737488355328) := by have := HL.out; have := HKJ.out; unfold Hid maxLen; omega
      have hwl : ((ls.take j).map zerosL).length = j := by rw [List.length_map, List.length_take]; omega
      have HWL : Hid (((ls.take j).map zerosL).length = j) := hwl
      have HPR : Hid (wr.ownsRow (G + 1) 31 1 (.slice po j pc) j vs) := by have h := HSH.out.1.pr; rw [hwl] at h; exact h
      have htk : ls.take (j + 1) = ls.take j ++ [(m : Int)] := by rw [List.take_add_one, HN.out]; rfl
      have HTK : Hid (ls.take (j + 1) = ls.take j ++ [(m : Int)]) := htk
      have HMAP : Hid ((ls.take j).map zerosL ++ [List.replicate m 0] = (ls.take (j + 1)).map zerosL) := by unfold Hid; rw [htk, List.map_append]; rfl
      have HPOS : Hid (∀ n ∈ ls.take (j + 1), 0 ≤ n) := fun x hx => by
        rw [htk] at hx
        rcases List.mem_append.1 hx with hx | hx
        · exact HSH.out.2.2 x hx
        · simp at hx; subst hx; omega
      have HLO : Hid (G + 1 ≤ wr.heap.size) := HSH.out.1.lo.2.2
      have N4 : Hid (wrap64 ((j : Int) + 1) = (j : Int) + 1) := by have := HL.out; have := HJ.out; unfold Hid wrap64; omega
      clear h0 h2 hm20 hwl htk hjl
      by_cases h1 : m = 1
      · have e1 : ((m : Int) == 1) = true := by subst h1; rfl
        have e2 : ((m : Int) = 1) = True := eq_true (by omega)
        have HM1 : Hid (m = 1) := h1
        clear h1
        go_wp2_with (first
            | (at_make; refine wpList_make_full _ rfl _ _ 31 rfl 0 34 i0 _ 1 Tryd.underlying31 hi0 hz0 hz1 .i64 .i64 _ _ m rfl rfl (by simp) (by simp) HBY.out HMX.out (Nat.zero_le _) ?_; intro w3 hown3 hgr3; have HV3 : Hid (w3.heap[wr.heap.size]? = some (.cells (rowI (List.replicate m 0)) 34 (0, 0))) := (by have h := made_lits hown3; rw [rowP_zero] at h; exact h); have HB3 : Hid (Below wr.heap.size wr w3) := ⟨hgr3.os, hgr3.tape, hgr3.output, hgr3.size, fun k hk => hgr3.block k hk (by simp)⟩; have HO3 : Hid (∀ o', (w3.alloc o').ownsRow (G + 1) 31 1 (.slice po j pc) j vs) := (fun o' => (owns_keep HPR.out (fun k hk => HB3.out.block k (HPR.out.lt k hk).2)).alloc o'); have HN3 : Hid _ := World.news_of_block (heap_alloc_new w3 (.cells #[.slice (some ⟨wr.heap.size, 0, none⟩) m m] 31)); clear hown3 hgr3)
            | (at_builtin; refine wpList_append_lies _ rfl _ _ 29 rfl (G + 1) 31 i1 _ 1 24 Tryd.underlying29 hj0 hy0 hy1 hy2 rfl (by omega) (.slice po j pc) j vs rfl (HO3.out _) ⟨w3.heap.size, 0, none⟩ 1 1 [.slice (some ⟨wr.heap.size, 0, none⟩) m m] rfl rfl HN3.out (by simp [Value.oneCell']) (by omega) HM2.out.1 HM2.out.2 (Nat.le_trans (Nat.le_trans HLO.out HB3.out.size) (by simp)) _ rfl ?_; intro g cap w4 hown4 hgrow hat hlt4; have hsh4 := HSH.out.1.part (g := g) (cap := cap) HB3.out HV3.out (Nat.le_refl _) (Nat.le_trans HM20.out (by omega)) hgrow hat hlt4 (by rw [HWL.out]; exact hown4); rw [HWL.out] at hsh4; have HSH4 : Hid (Shp _ _ _ _ _ _ _ _ _) := hsh4; have c4 := cell_keep hsh4.bel HC0.out; have HQ4 : Hid (∀ o', (w4.alloc o').ownsRow (G + 1) 33 2 (.slice qo ks.length qc) ks.length (pcells ks)) := (fun o' => hsh4.qr.alloc o'); have HLO4 : Hid (G + 1 ≤ w4.heap.size) := hsh4.lo.2.2; have HN4 : Hid _ := World.news_of_block (heap_alloc_new w4 (.cells #[.int .i64 1, .int .i64 0] 33)); have HN8 : Hid _ := World.news_of_block (heap_alloc_new w4 (.cells #[.int .i64 2, .int .i64 1] 33)); clear hown4 hgrow hat hlt4 hsh4)
            | (at_builtin; refine wpList_append_lies _ rfl _ _ 30 rfl (G + 1) 33 i2 _ 2 16 Tryd.underlying30 hk0 hx0 hx1 hx2 rfl (by omega) (.slice qo ks.length qc) ks.length (pcells ks) rfl (HQ4.out _) ⟨w4.heap.size, 0, none⟩ 1 1 [.int .i64 1, .int .i64 0] rfl rfl HN4.out (by simp [Value.oneCell']) (by omega) HM3.out.1 HM3.out.2 (Nat.le_trans HLO4.out (by simp)) _ rfl ?_; intro g5 cap5 w5 hown5 hgrow5 hat5 hlt5)
            | go_in)
        have hend := HSH4.out.kind (x := (1, 0)) hgrow5 hat5 hlt5 hown5
        have hone : oneEight (m : Int) = true := by rw [HM1.out]; decide
        have hk1 : kvI (m : Int) = (1, 0) := by rw [HM1.out]; rfl
        have hkl : (ks ++ [(1, 0)]).length = ks.length + 1 := by simp
        rw [← hkl] at hend
        refine ⟨⟨j + 1, some ⟨g, 0, none⟩, some ⟨g5, 0, none⟩, cap, cap5, _, ks ++ [(1, 0)], HJ.out, by rw [N4.out]; rfl, rfl, by rw [HTK.out, List.all_append]; simp [hone], by rw [hkl], by have := HKJ.out; rw [hkl]; omega, ⟨by rw [← HMAP.out]; exact hend, fun hall => ?_, HPOS.out⟩⟩, by rw [N4.out]; have := HJ.out; simp [intOf]; omega⟩
        rw [HTK.out, List.all_append, Bool.and_eq_true] at hall
        rw [HTK.out, List.map_append, HSH.out.2.1 hall.1]
        simp [hk1]
      by_cases h8 : m = 8
      · have e1 : ((m : Int) == 1) = false := by subst h8; rfl
        have e2 : ((m : Int) = 1) = False := eq_false (by omega)
        have e3 : ((m : Int) == 8) = true := by subst h8; rfl
        have e4 : ((m : Int) = 8) = True := eq_true (by omega)
        have HM1 : Hid (m = 8) := h8
        clear h1 h8
        go_wp2_with (first
            | (at_make; refine wpList_make_full _ rfl _ _ 31 rfl 0 34 i0 _ 1 Tryd.underlying31 hi0 hz0 hz1 .i64 .i64 _ _ m rfl rfl (by simp) (by simp) HBY.out HMX.out (Nat.zero_le _) ?_; intro w3 hown3 hgr3; have HV3 : Hid (w3.heap[wr.heap.size]? = some (.cells (rowI (List.replicate m 0)) 34 (0, 0))) := (by have h := made_lits hown3; rw [rowP_zero] at h; exact h); have HB3 : Hid (Below wr.heap.size wr w3) := ⟨hgr3.os, hgr3.tape, hgr3.output, hgr3.size, fun k hk => hgr3.block k hk (by simp)⟩; have HO3 : Hid (∀ o', (w3.alloc o').ownsRow (G + 1) 31 1 (.slice po j pc) j vs) := (fun o' => (owns_keep HPR.out (fun k hk => HB3.out.block k (HPR.out.lt k hk).2)).alloc o'); have HN3 : Hid _ := World.news_of_block (heap_alloc_new w3 (.cells #[.slice (some ⟨wr.heap.size, 0, none⟩) m m] 31)); clear hown3 hgr3)
            | (at_builtin; refine wpList_append_lies _ rfl _ _ 29 rfl (G + 1) 31 i1 _ 1 24 Tryd.underlying29 hj0 hy0 hy1 hy2 rfl (by omega) (.slice po j pc) j vs rfl (HO3.out _) ⟨w3.heap.size, 0, none⟩ 1 1 [.slice (some ⟨wr.heap.size, 0, none⟩) m m] rfl rfl HN3.out (by simp [Value.oneCell']) (by omega) HM2.out.1 HM2.out.2 (Nat.le_trans (Nat.le_trans HLO.out HB3.out.size) (by simp)) _ rfl ?_; intro g cap w4 hown4 hgrow hat hlt4; have hsh4 := HSH.out.1.part (g := g) (cap := cap) HB3.out HV3.out (Nat.le_refl _) (Nat.le_trans HM20.out (by omega)) hgrow hat hlt4 (by rw [HWL.out]; exact hown4); rw [HWL.out] at hsh4; have HSH4 : Hid (Shp _ _ _ _ _ _ _ _ _) := hsh4; have c4 := cell_keep hsh4.bel HC0.out; have HQ4 : Hid (∀ o', (w4.alloc o').ownsRow (G + 1) 33 2 (.slice qo ks.length qc) ks.length (pcells ks)) := (fun o' => hsh4.qr.alloc o'); have HLO4 : Hid (G + 1 ≤ w4.heap.size) := hsh4.lo.2.2; have HN4 : Hid _ := World.news_of_block (heap_alloc_new w4 (.cells #[.int .i64 1, .int .i64 0] 33)); have HN8 : Hid _ := World.news_of_block (heap_alloc_new w4 (.cells #[.int .i64 2, .int .i64 1] 33)); clear hown4 hgrow hat hlt4 hsh4)
            | (at_builtin; refine wpList_append_lies _ rfl _ _ 30 rfl (G + 1) 33 i2 _ 2 16 Tryd.underlying30 hk0 hx0 hx1 hx2 rfl (by omega) (.slice qo ks.length qc) ks.length (pcells ks) rfl (HQ4.out _) ⟨w4.heap.size, 0, none⟩ 1 1 [.int .i64 2, .int .i64 1] rfl rfl HN8.out (by simp [Value.oneCell']) (by omega) HM3.out.1 HM3.out.2 (Nat.le_trans HLO4.out (by simp)) _ rfl ?_; intro g5 cap5 w5 hown5 hgrow5 hat5 hlt5)
            | go_in)
        have hend := HSH4.out.kind (x := (2, 1)) hgrow5 hat5 hlt5 hown5
        have hone : oneEight (m : Int) = true := by rw [HM1.out]; decide
        have hk1 : kvI (m : Int) = (2, 1) := by rw [HM1.out]; rfl
        have hkl : (ks ++ [(2, 1)]).length = ks.length + 1 := by simp
        rw [← hkl] at hend
        refine ⟨⟨j + 1, some ⟨g, 0, none⟩, some ⟨g5, 0, none⟩, cap, cap5, _, ks ++ [(2, 1)], HJ.out, by rw [N4.out]; rfl, rfl, by rw [HTK.out, List.all_append]; simp [hone], by rw [hkl], by have := HKJ.out; rw [hkl]; omega, ⟨by rw [← HMAP.out]; exact hend, fun hall => ?_, HPOS.out⟩⟩, by rw [N4.out]; have := HJ.out; simp [intOf]; omega⟩
        rw [HTK.out, List.all_append, Bool.and_eq_true] at hall
        rw [HTK.out, List.map_append, HSH.out.2.1 hall.1]
        simp [hk1]
      · have e1 : ((m : Int) == 1) = false := beq_eq_false_iff_ne.2 (by omega)
        have e2 : ((m : Int) = 1) = False := eq_false (by omega)
        have e3 : ((m : Int) == 8) = false := beq_eq_false_iff_ne.2 (by omega)
        have e4 : ((m : Int) = 8) = False := eq_false (by omega)
        have HM1 : Hid (m ≠ 1 ∧ m ≠ 8) := ⟨h1, h8⟩
        clear h1 h8
        go_wp2_with (first
            | (at_make; refine wpList_make_full _ rfl _ _ 31 rfl 0 34 i0 _ 1 Tryd.underlying31 hi0 hz0 hz1 .i64 .i64 _ _ m rfl rfl (by simp) (by simp) HBY.out HMX.out (Nat.zero_le _) ?_; intro w3 hown3 hgr3; have HV3 : Hid (w3.heap[wr.heap.size]? = some (.cells (rowI (List.replicate m 0)) 34 (0, 0))) := (by have h := made_lits hown3; rw [rowP_zero] at h; exact h); have HB3 : Hid (Below wr.heap.size wr w3) := ⟨hgr3.os, hgr3.tape, hgr3.output, hgr3.size, fun k hk => hgr3.block k hk (by simp)⟩; have HO3 : Hid (∀ o', (w3.alloc o').ownsRow (G + 1) 31 1 (.slice po j pc) j vs) := (fun o' => (owns_keep HPR.out (fun k hk => HB3.out.block k (HPR.out.lt k hk).2)).alloc o'); have HN3 : Hid _ := World.news_of_block (heap_alloc_new w3 (.cells #[.slice (some ⟨wr.heap.size, 0, none⟩) m m] 31)); clear hown3 hgr3)
            | (at_builtin; refine wpList_append_lies _ rfl _ _ 29 rfl (G + 1) 31 i1 _ 1 24 Tryd.underlying29 hj0 hy0 hy1 hy2 rfl (by omega) (.slice po j pc) j vs rfl (HO3.out _) ⟨w3.heap.size, 0, none⟩ 1 1 [.slice (some ⟨wr.heap.size, 0, none⟩) m m] rfl rfl HN3.out (by simp [Value.oneCell']) (by omega) HM2.out.1 HM2.out.2 (Nat.le_trans (Nat.le_trans HLO.out HB3.out.size) (by simp)) _ rfl ?_; intro g cap w4 hown4 hgrow hat hlt4; have hsh4 := HSH.out.1.part (g := g) (cap := cap) HB3.out HV3.out (Nat.le_refl _) (Nat.le_trans HM20.out (by omega)) hgrow hat hlt4 (by rw [HWL.out]; exact hown4); rw [HWL.out] at hsh4; have HSH4 : Hid (Shp _ _ _ _ _ _ _ _ _) := hsh4; have c4 := cell_keep hsh4.bel HC0.out; have HQ4 : Hid (∀ o', (w4.alloc o').ownsRow (G + 1) 33 2 (.slice qo ks.length qc) ks.length (pcells ks)) := (fun o' => hsh4.qr.alloc o'); have HLO4 : Hid (G + 1 ≤ w4.heap.size) := hsh4.lo.2.2; have HN4 : Hid _ := World.news_of_block (heap_alloc_new w4 (.cells #[.int .i64 1, .int .i64 0] 33)); have HN8 : Hid _ := World.news_of_block (heap_alloc_new w4 (.cells #[.int .i64 2, .int .i64 1] 33)); clear hown4 hgrow hat hlt4 hsh4)
            | go_in)
        have hone : oneEight (m : Int) = false := by have := HM1.out; unfold oneEight; simp; omega
        have hall : (ls.take (j + 1)).all oneEight = false := by rw [HTK.out, List.all_append]; simp [hone]
        exact ⟨⟨j + 1, some ⟨g, 0, none⟩, qo, cap, qc, _, ks, HJ.out, by rw [N4.out]; rfl, rfl, by rw [hall], rfl, by have := HKJ.out; omega, ⟨by rw [← HMAP.out]; exact HSH4.out, (fun h => by rw [hall] at h; cases h), HPOS.out⟩⟩, by rw [N4.out]; have := HJ.out; simp [intOf]; omega⟩
    · obtain rfl : j = ls.length := by omega
      have hT : ls.take ls.length = ls := List.take_length
      have hsh := HSH.out
      rw [hT] at hsh
      obtain ⟨hS1, hS2, hS3⟩ := hsh
      have hwl : (ls.map zerosL).length = ls.length := List.length_map ..
      have hwd : WordsAt (fun k => k = G) wr (.slice po ls.length pc) (ls.map zerosL) := hS1.words (by rw [hwl]; have := HL.out; omega) hwl.symm
      have hgsh := cell_keep hS1.bel HS.out.g2
      have hgF : ¬ (fun k => k = G) 1 := fun hf => by
        have h1 : 1 = G := hf
        have h2 := cell_lt HS.out.g2
        have h3 := hS1.lo.1
        have h4 : (1 : Nat) < w.heap.size := h2
        omega
      have hOF := ofop_any hS1.gr (by simp) s HSS.out po ls.length pc (ls.map zerosL) hwd hwl.symm (fun l hl x hx => by
        obtain ⟨n, _, rfl⟩ := List.mem_map.1 hl
        unfold zerosL at hx
        rw [(List.mem_replicate.1 hx).2]
        exact HasL.zero _) _ _ _ _ (cell_keep hS1.bel HS.out.g4) hgsh hgF
      have HKV : Hid (ls.all oneEight = true → ∀ F' w', Mvd (fun k => k = G) F' wr w' → ValsAt w' (.slice qo ks.length qc) (ls.map kvI)) := fun hall F' w' hm => by
        have e := hS2 hall
        have e2 : ks.length = ls.length := by rw [e, List.length_map]
        rw [← e]
        refine vals_of_owns (owns_keep hS1.qr (fun k hk => hm.block k (hS1.qr.lt k hk).2 (fun hf => ?_))) rfl (by rw [e2]; have := HL.out; unfold maxLen; omega)
        have h1 : k = G := hf
        have h2 := (hS1.qr.lt k hk).1
        omega
      have HSH5 : Hid (Below w.heap.size w wr ∧ w.heap.size ≤ G ∧ G < wr.heap.size) := ⟨hS1.bel, hS1.lo.1, by have := hS1.lo; omega⟩
      have HIFF : Hid ((ls.all oneEight = true ∧ isI s.toList (ls.map kvI) = 0) ↔ (askB s.data.toList (ls.map zerosL) = true ∧ noB s.data.toList = false)) := by
        have h := shape_all (op := s.data.toList) hS3
        rw [ByteArray.toList_eq]
        exact h
      obtain ⟨R, hR⟩ : ∃ R : Bool, R = ls.all oneEight := ⟨_, rfl⟩
      obtain ⟨I, hI⟩ : ∃ I : Int, I = isI s.toList (ls.map kvI) := ⟨_, rfl⟩
      have HI0 : Hid (0 ≤ I) := by unfold Hid; rw [hI]; exact isI_nonneg _ _
      have HIS : Hid (∀ v w, ValsAt w v (ls.map kvI) → Calls Tryd.prog 6 #[.string s, v] w fun e w' => e = .returned (.int .i64 I) ∧ Below w.heap.size w w') := by unfold Hid; rw [hI]; exact isApply_any s (ls.map kvI) (by rw [List.length_map]; have := HL.out; omega)
      rw [hT, ← hR]
      rw [← hR, ← hI] at HIFF
      rw [← hR] at HKV
      clear hjl hj hkj HSH hS1 hS2 hS3 hwl hwd hgsh hgF hT hR hI
      go_wp2_with fail
      refine hOF.mono ?_
      clear hOF
      rintro e w5 (⟨hask, hno, uv, tv, K, len, Pr, tf, rfl, hP, _, hSem⟩ | ⟨hno, rfl, F5, _, hm5⟩)
      · obtain ⟨V, out, tr, gs', F5, rfl, rfl, _, _, _, _, _, hm5, _⟩ := hP
        obtain ⟨hR1, hI1⟩ := HIFF.out.2 ⟨hask, hno⟩
        subst hR1
        subst hI1
        have hval := HKV.out rfl F5 w5 hm5
        have HB5 : Hid (Below w.heap.size w w5) := hm5.below HSH5.out.1 HSH5.out.1.size (fun k hk => by have h1 : k = G := hk; have := HSH5.out.2.1; omega)
        have hC := HIS.out _ w5 hval
        have hlen := sem_len hSem
        clear hm5 hask hno hSem HIFF HKV hval HIS HI0 HSH5
        rcases hlen with rfl | rfl
        · go_wp2_with (go_at_call 6; refine hC.mono ?_; rintro e w6 ⟨rfl, hb6⟩; have HB6 : Hid (Below w.heap.size w w6) := HB5.out.trans (hb6.mono HB5.out.size); clear hb6)
          go_ret
          exact ⟨rfl, HB6.out⟩
        · go_wp2_with (go_at_call 6; refine hC.mono ?_; rintro e w6 ⟨rfl, hb6⟩; have HB6 : Hid (Below w.heap.size w w6) := HB5.out.trans (hb6.mono HB5.out.size); clear hb6)
          go_ret
          exact ⟨rfl, HB6.out⟩
      · have HB5 : Hid (Below w.heap.size w w5) := hm5.below HSH5.out.1 HSH5.out.1.size (fun k hk => by have h1 : k = G := hk; have := HSH5.out.2.1; omega)
        have hnot : ¬ (R = true ∧ I = 0) := fun h => by
          have := HIFF.out.1 h
          rcases hno with h1 | h1
          · rw [this.1] at h1; cases h1
          · rw [this.2] at h1; cases h1
        cases R with
        | true =>
          have hpos : 0 < I := by
            have := HI0.out
            rcases Int.lt_or_eq_of_le this with h | h
            · exact h
            · exact absurd ⟨rfl, h.symm⟩ hnot
          have d5 : (0 < I) = True := eq_true hpos
          have hC := HIS.out _ w5 (HKV.out rfl F5 w5 hm5)
          clear hm5 hno HIFF HKV HIS HI0 HSH5 hnot hpos
          go_wp2_with (first
            | (go_at_call 6; refine hC.mono ?_; rintro e w6 ⟨rfl, hb6⟩; have HB6 : Hid (Below w.heap.size w w6) := HB5.out.trans (hb6.mono HB5.out.size); clear hb6)
            | (go_at_call 7; refine (coded_shape (HS.out.below HB6.out)).mono ?_; rintro e w7 ⟨rfl, hb7⟩; have HB7 : Hid (Below w.heap.size w w7) := HB6.out.trans (hb7.mono HB6.out.size); clear hb7))
          go_ret
          exact ⟨rfl, HB7.out⟩
        | false =>
          clear hm5 hno HIFF HKV HIS HI0 HSH5 hnot
          go_wp2_with (go_at_call 7; refine (coded_shape (HS.out.below HB5.out)).mono ?_; rintro e w7 ⟨rfl, hb7⟩; have HB7 : Hid (Below w.heap.size w w7) := HB5.out.trans (hb7.mono HB5.out.size); clear hb7)
          go_ret
          exact ⟨rfl, HB7.out⟩
end Go.Proofs.YtpiglmaojonbnaaDoor
