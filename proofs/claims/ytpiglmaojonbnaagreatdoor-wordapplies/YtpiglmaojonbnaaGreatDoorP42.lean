/-
  lustrumlaw3.WordApplies, WALKED: it answers true.
-/
import Derived.Test.YtpiglmaojonbnaaGreatDoorP41
import Derived.Deep.RegionHeld
namespace Go.Proofs.YtpiglmaojonbnaaGreatDoor
open Go.RowKit Go.Maps

set_option maxRecDepth 100000 in
set_option maxHeartbeats 4000000 in
theorem wordApplies_walk (a : Nat → Addr) (w : World) (S : Sents a w) (s : ByteArray) (hs : s.size ≤ maxLen) (v : Value) (l : List (Int × Int)) (hv : ValsAt w v l) :
    Calls Tryz.prog 3 #[.string s, v] w fun e w' => e = .returned (.bool true) ∧ Below w.heap.size w w' := by
  have HS : Hid (Sents a w) := S
  have HSS : Hid (s.size ≤ maxLen) := hs
  have HV : Hid (ValsAt w v l) := hv
  obtain ⟨hml, o, c, rfl, hc⟩ := hv
  have HC : Hid (∀ k x, l[k]? = some x → ∃ b off, o = some ⟨b, off, none⟩ ∧ w.cell? ⟨b, off + k * 2, none⟩ = some (.int .i64 x.1) ∧ w.cell? ⟨b, off + k * 2 + 1, none⟩ = some (.int .i64 x.2)) := hc
  obtain ⟨i0, hi0, hz0, hz1, hz2⟩ := info_parts Tryz.infoLit
  obtain ⟨i1, hj0, hy0, hy1, hy2⟩ := info_parts Tryz.infoLitR
  obtain ⟨i2, hk0, hx0, hx1, hx2⟩ := info_parts Tryz.infoBool
  clear S hs hc hml
  go_enter Tryz.func3, Tryz.ntmps3
  by_cases hl : l.length ≤ 5
  case neg =>
    have hd : ((5 : Int) < (l.length : Int)) = True := eq_true (by omega)
    clear hl
    go_wp2_with (go_at_call 4; refine (five_any w).mono ?_; rintro e w1 ⟨rfl, hb1⟩)
    go_ret
    exact ⟨rfl, hb1⟩
  case pos =>
  have hd : ((5 : Int) < (l.length : Int)) = False := eq_false (by omega)
  have HL : Hid (l.length ≤ 5) := hl
  clear hl
  go_wp2_with (go_at_call 4; refine (five_any w).mono ?_; rintro e w1 ⟨rfl, hb1⟩)
  clear hd
  have HB1 : Hid (Below w.heap.size w w1) := hb1
  clear hb1
  go_loopw [6] (fun t wr => ∃ (j : Nat), j ≤ l.length ∧ t = .int .i64 j ∧ Hid ((∀ x ∈ l.take j, rightB x.1 x.2 x.1 = true) ∧ Below w.heap.size w wr)) (fun t _ => l.length - (intOf t).toNat)
  case atStart => exact ⟨0, Nat.zero_le _, rfl, ⟨fun x hx => by simp at hx, HB1.out⟩⟩
  case round =>
    obtain ⟨j, hj, rfl, HR⟩ := hrel
    by_cases hjl : j < l.length
    · obtain ⟨⟨xk, xn⟩, hx⟩ : ∃ x, l[j]? = some x := ⟨_, List.getElem?_eq_getElem hjl⟩
      obtain ⟨b0, off, rfl, hcx, hcy⟩ := HC.out j _ hx
      simp only at hcx hcy
      have q0 := cell_keep HR.out.2 hcx
      have q1 := cell_keep HR.out.2 hcy
      have i0' : (0 : Int) ≤ (j : Int) := by omega
      have i1' : (j : Int) < (l.length : Int) := by omega
      have HJ : Hid (j < l.length) := hjl
      have N4 : Hid (wrap64 ((j : Int) + 1) = (j : Int) + 1) := by have := HL.out; unfold Hid wrap64; omega
      have HTK : Hid (l.take (j + 1) = l.take j ++ [(xk, xn)]) := by unfold Hid; rw [List.take_add_one, hx]; rfl
      clear hj hjl hx hcx hcy
      rcases hrr : rightB xk xn xk
      · go_wp2
        go_region_held (fun w' => w'.cell? ⟨b0, off + j * 2, none⟩ = some (.int .i64 xk) ∧ w'.cell? ⟨b0, off + j * 2 + 1, none⟩ = some (.int .i64 xn)) ((first | go_keep | exact ⟨cell_keep HR1.out q0, cell_keep HR1.out q1⟩))
          (first | (go_at_call 5; refine (right_any _ _ _ _).mono ?_; rintro e wr1 ⟨rfl, hb1⟩; have HR1 : Hid (Below wr.heap.size wr wr1) := Below.trans (Below.drew (Below.refl _ _)) hb1; clear hb1))
        clear q0 q1
        go_wp2
        go_ret
        exact ⟨rfl, HR.out.2.trans (HR1.out.mono HR.out.2.size)⟩
      · go_wp2
        go_region_held (fun w' => w'.cell? ⟨b0, off + j * 2, none⟩ = some (.int .i64 xk) ∧ w'.cell? ⟨b0, off + j * 2 + 1, none⟩ = some (.int .i64 xn)) ((first | go_keep | exact ⟨cell_keep HR1.out q0, cell_keep HR1.out q1⟩))
          (first | (go_at_call 5; refine (right_any _ _ _ _).mono ?_; rintro e wr1 ⟨rfl, hb1⟩; have HR1 : Hid (Below wr.heap.size wr wr1) := Below.trans (Below.drew (Below.refl _ _)) hb1; clear hb1))
        clear q0 q1
        go_wp2
        refine ⟨⟨j + 1, HJ.out, by rw [N4.out]; rfl, ⟨fun x hx => ?_, HR.out.2.trans (HR1.out.mono HR.out.2.size)⟩⟩, by rw [N4.out]; have := HJ.out; simp [intOf]; omega⟩
        rw [HTK.out] at hx
        rcases List.mem_append.1 hx with hx | hx
        · exact HR.out.1 x hx
        · simp at hx; subst hx; exact hrr
    · obtain rfl : j = l.length := by omega
      rw [List.take_length] at HR
      clear hj hjl
      rename World => wa
      go_wp2
      obtain ⟨w2, hw2⟩ : ∃ w2, w2 = wa.alloc (.cells #[.slice none 0 0, .map none, .int .i64 0] 31) := ⟨_, rfl⟩
      have HB2 : Hid (Below w.heap.size w w2) := by rw [hw2]; exact HR.out.2.alloc HR.out.2.size _
      have HG2 : Hid (GrAt wa.heap.size [] 0 (fun k => k = wa.heap.size) w2) := by rw [hw2]; exact new_graph wa _
      have HZ2 : Hid (w.heap.size ≤ wa.heap.size) := HR.out.2.size
      have HRI : Hid (∀ x ∈ l, rightB x.1 x.2 x.1 = true) := HR.out.1
      rw [← hw2]
      obtain ⟨G, hG⟩ : ∃ G, G = wa.heap.size := ⟨_, rfl⟩
      rw [← hG] at HG2 HZ2 ⊢
      clear hw2 hG HR HB1
      go_loopw [9, 10, 11] (fun p q t wr => ∃ (j : Nat) (po qo : Option Addr) (pc qc : Nat) (vs : List Value) (F : Nat → Prop), j ≤ l.length ∧ t = .int .i64 j ∧ p = .slice po j pc ∧ q = .slice qo (allV (l.take j)).length qc ∧ Hid (Apl w2 (fun k => k = G) G (allV (l.take j)).length (wordsV 0 (l.take j)) (allV (l.take j)) (.slice po j pc) (.slice qo (allV (l.take j)).length qc) vs F wr)) (fun _ _ t _ => l.length - (intOf t).toNat)
      case atStart =>
        refine ⟨0, none, none, 0, 0, [], (fun k => k = G), Nat.zero_le _, rfl, rfl, rfl, ?_⟩
        exact ⟨HG2.out, Mvd.refl _ _, World.ownsRow_nil _ _ _ _, fun k hk => by simp [Value.ownBlock] at hk, World.ownsRow_nil _ _ _ _, fun k hk => by simp [Value.ownBlock] at hk, rfl, fun k a hk => by simp [wordsV] at hk⟩
      case round =>
        obtain ⟨j, po, qo, pc, qc, vs, F, hj, rfl, rfl, rfl, HA⟩ := hrel
        have HBR : Hid (Below w.heap.size w wr) := HA.out.mv.below HB2.out HB2.out.size (fun k hk => by have h1 : k = G := hk; have := HZ2.out; omega)
        have HFW : Hid (∀ k, F k → w.heap.size ≤ k) := fun k hk => by
          rcases HA.out.mv.more k hk with h1 | h1
          · have h1' : k = G := h1; have := HZ2.out; omega
          · have := HB2.out.size; omega
        by_cases hjl : j < l.length
        · obtain ⟨⟨xk, xn⟩, hx⟩ : ∃ x, l[j]? = some x := ⟨_, List.getElem?_eq_getElem hjl⟩
          obtain ⟨b0, off, rfl, hcx, hcy⟩ := HC.out j _ hx
          simp only at hcx hcy
          have q0 := cell_keep HBR.out hcx
          have q1 := cell_keep HBR.out hcy
          have i0' : (0 : Int) ≤ (j : Int) := by omega
          have i1' : (j : Int) < (l.length : Int) := by omega
          have HJ : Hid (j < l.length) := hjl
          have N4 : Hid (wrap64 ((j : Int) + 1) = (j : Int) + 1) := by have := HL.out; unfold Hid wrap64; omega
          have HTK : Hid (l.take (j + 1) = l.take j ++ [(xk, xn)]) := by unfold Hid; rw [List.take_add_one, hx]; rfl
          have HXR : Hid (rightB xk xn xk = true) := HRI.out (xk, xn) (List.mem_of_getElem? hx)
          obtain ⟨N, hN⟩ : ∃ N, N = (allV (l.take j)).length := ⟨_, rfl⟩
          have HNN : Hid (N = (allV (l.take j)).length) := hN
          have HN40 : Hid (N ≤ 8 * j ∧ j < 5) := by have h1 := allV_le (l.take j); rw [← hN, List.length_take] at h1; have := HL.out; unfold Hid; omega
          rw [← hN] at HA ⊢
          have hwl : (wordsV 0 (l.take j)).length = j := by rw [wordsV_length, List.length_take]; omega
          have HWL : Hid ((wordsV 0 (l.take j)).length = j) := hwl
          clear hj hjl hx hcx hcy hN hwl
          rename World => wq
          go_wp2_with (go_at_call 6; refine (bits_ok xk xn HXR.out wq).mono ?_; rintro e w3 ⟨m, V0, rfl, hV0, hrow, hb3, hm⟩)
          have hmw : m = widK xk ∧ 1 ≤ m ∧ m ≤ 8 := by
            rcases hm with ⟨h1, h2, _⟩ | ⟨h1, h2, _⟩
            · subst h1; subst h2; exact ⟨rfl, by omega, by omega⟩
            · subst h1; subst h2; exact ⟨rfl, by omega, by omega⟩
          have HMW : Hid (m = widK xk ∧ 1 ≤ m ∧ m ≤ 8) := hmw
          have HV0 : Hid (wq.heap.size ≤ V0) := hV0
          have HROW : Hid (w3.heap[V0]? = some (.cells (rowB (wordB xn m)) 4 (0, 0))) := hrow
          have HA3 : Hid (Apl w2 (fun k => k = G) G N (wordsV 0 (l.take j)) (allV (l.take j)) (.slice po j pc) (.slice qo N qc) vs F w3) := HA.out.move (Mvd.of_below hb3) (HA.out.gr.below hb3)
          have HF0 : Hid (¬ F V0) := fun hf => by have := HA.out.gr.2.2.1 _ hf; omega
          have HPB : Hid (∀ k, (Value.slice po j pc).ownBlock = some k → k < wq.heap.size) := fun k hk => (HA.out.pr.lt k hk).2
          have HQB : Hid (∀ k, (Value.slice qo N qc).ownBlock = some k → k < wq.heap.size) := fun k hk => (HA.out.qr.lt k hk).2
          have HW3 : Hid (wq.heap.size ≤ w3.heap.size) := hb3.size
          clear hV0 hrow hb3 hm hmw q0 q1 HA
          go_loopw [14, 15] (fun sv t wr => ∃ (i : Nat) (Fj : Nat → Prop) (so : Option Addr) (sc : Nat), i ≤ m ∧ t = .int .i64 i ∧ sv = .slice so i sc ∧ GrAt G (inps (N + i)) (N + i) Fj wr ∧ Mvd F Fj w3 wr ∧ wr.ownsRow w3.heap.size 39 1 (.slice so i sc) i ((inpO N i).map (Value.int .i64)) ∧ (∀ k, (Value.slice so i sc).ownBlock = some k → ¬ Fj k)) (fun _ t _ => m - (intOf t).toNat)
          case atStart => exact ⟨0, F, none, 0, Nat.zero_le _, rfl, rfl, HA3.out.gr, Mvd.refl _ _, World.ownsRow_nil _ _ _ _, fun k hk => by simp [Value.ownBlock] at hk⟩
          case round =>
            obtain ⟨i, Fj, so, sc, hi, rfl, rfl, hG, hM, hown, hns⟩ := hrel
            have HG3 : Hid (GrAt G (inps (N + i)) (N + i) Fj wr) := hG
            have HM3 : Hid (Mvd F Fj w3 wr) := hM
            have HOS : Hid (wr.ownsRow w3.heap.size 39 1 (.slice so i sc) i ((inpO N i).map (Value.int .i64))) := hown
            have HNS : Hid (∀ k, (Value.slice so i sc).ownBlock = some k → ¬ Fj k) := hns
            clear hG hM hown hns
            by_cases hil : i < m
            · have i1'' : (i : Int) < (m : Int) := by omega
              have HI : Hid (i < m) := hil
              have N5 : Hid (wrap64 ((i : Int) + 1) = (i : Int) + 1) := by have := HMW.out; unfold Hid wrap64; omega
              have HL2 : Hid ((inps (N + i)).length < 90000) := by rw [inps_length]; have := HN40.out; have := HMW.out; unfold Hid; omega
              have HL3 : Hid (N + i ≤ (inps (N + i)).length) := by rw [inps_length]; exact Nat.le_refl _
              have HMX : Hid (i + 1 ≤ maxLen) := by have := HMW.out; unfold Hid maxLen; omega
              have HBY : Hid ((i + 1) * 8 ≤ 140737488355328) := by have := HMW.out; unfold Hid; omega
              clear hi hil
              go_wp2_with fail
              refine (input_ok HG3.out HL2.out HL3.out).mono ?_
              rw [inps_length, inps_succ]
              rintro e w5 ⟨rfl, F5, G5, M5⟩
              obtain ⟨x, hx⟩ : ∃ x : Int, x = 2 * ((N + i : Nat) : Int) + 2 := ⟨_, rfl⟩
              rw [← hx]
              have own5 := owns_move HOS.out M5 HNS.out
              have HO : Hid (∀ o', (w5.alloc o').ownsRow w3.heap.size 39 1 (.slice so i sc) i ((inpO N i).map (Value.int .i64))) := fun o' => own5.1.alloc o'
              have HN' : Hid _ := World.news_of_block (heap_alloc_new w5 (.cells #[.int .i64 x] 39))
              have HM5 : Hid (Mvd F F5 w3 (w5.alloc (.cells #[.int .i64 x] 39))) := (HM3.out.trans M5).alloc _
              have HSZ : Hid (w3.heap.size ≤ (w5.alloc (.cells #[.int .i64 x] 39)).heap.size) := HM5.out.size
              have HRW : Hid (∀ k, (Value.slice so i sc).ownBlock = some k → w3.heap.size ≤ k) := fun k hk => (own5.1.lt k hk).1
              have HNF : Hid (∀ k, (Value.slice so i sc).ownBlock = some k → ¬ F5 k) := own5.2
              have HG5 : Hid (GrAt G (inps (N + i + 1)) (N + i + 1) F5 (w5.alloc (.cells #[.int .i64 x] 39))) := G5.below ((Below.refl _ _).alloc (Nat.le_refl _) _)
              have HX : Hid (x = 2 * ((N + i : Nat) : Int) + 2) := hx
              clear own5 G5 M5 hx
              go_wp2_with (first
                | (at_builtin; refine wpList_append_lies _ rfl _ _ 38 rfl w3.heap.size 39 i0 _ 1 8 Tryz.underlying38 hi0 hz0 hz1 hz2 rfl (by omega) (.slice so i sc) i _ rfl (HO.out _) ⟨w5.heap.size, 0, none⟩ 1 1 [.int .i64 x] rfl rfl HN'.out (by simp [Value.oneCell']) (by omega) HMX.out HBY.out HSZ.out _ rfl ?_; intro g cap w6 hown6 hgrow hat hlt6)
                | go_in)
              have hg6 := grown_gr HG5.out hgrow HNF.out
              have hm6 : Mvd F F5 w3 w6 := ⟨hgrow.os.trans HM5.out.os, hgrow.tape.trans HM5.out.tape, hgrow.output.trans HM5.out.output, Nat.le_trans HM5.out.size hgrow.size, fun k hk hn => by
                rw [hgrow.block k (Nat.lt_of_lt_of_le hk HM5.out.size) (fun e => by have := HRW.out k e.symm; omega)]; exact HM5.out.block k hk hn, fun k hk => by
                  rcases HM5.out.more k hk with h1 | h1
                  · exact .inl h1
                  · exact .inr ⟨h1.1, Nat.lt_of_lt_of_le h1.2 hgrow.size⟩⟩
              have hown7 : w6.ownsRow w3.heap.size 39 1 (.slice (some ⟨g, 0, none⟩) (i + 1) cap) (i + 1) ((inpO N (i + 1)).map (Value.int .i64)) := by
                rw [inpO_succ, List.map_append, ← HX.out]; exact hown6
              have hnF6 : ∀ k, (Value.slice (some ⟨g, 0, none⟩) (i + 1) cap).ownBlock = some k → ¬ F5 k := fun k hk hf => by
                have : k = g := by simpa [Value.ownBlock] using hk.symm
                subst this
                rcases hat with hat | hat
                · exact HNF.out k hat hf
                · have := HG5.out.2.2.1 k hf; omega
              exact ⟨⟨i + 1, F5, _, _, HI.out, by rw [N5.out]; rfl, rfl, hg6, hm6, hown7, hnF6⟩, by rw [N5.out]; have := HI.out; simp [intOf]; omega⟩
            · obtain rfl : i = m := by omega
              clear hi hil
              obtain ⟨gw, rfl, hlit⟩ := lits_of_owns (l := inpO N i) HOS.out (inpO_length _ _) (by have := HMW.out; omega) (by have := HMW.out; omega) HNS.out
              have HA5 : Hid (Apl w2 (fun k => k = G) G (N + i) (wordsV 0 (l.take j)) (allV (l.take j)) (.slice po j pc) (.slice qo N qc) vs Fj wr) := HA3.out.move HM3.out HG3.out
              have HLIT : Hid (LitsAt Fj wr (.slice (some ⟨gw, 0, none⟩) i sc) (inpO N i)) := hlit
              have HGW : Hid (w3.heap.size ≤ gw ∧ gw < wr.heap.size) := HOS.out.lt gw rfl
              have HR5 : Hid (wr.heap[V0]? = some (.cells (rowB (wordB xn i)) 4 (0, 0))) := (HM3.out.rowKept HROW.out HF0.out).1
              have HQR : Hid (wr.ownsRow w2.heap.size 4 1 (.slice qo N qc) N ((allV (l.take j)).map Value.bool)) := by have h := HA5.out.qr; rw [← HNN.out] at h; exact h
              have HNW : Hid (∀ j u, ((wordB xn i).map Value.bool)[j]? = some u → wr.cell? ((⟨V0, 0, none⟩ : Addr).add j) = some u) := rowb_owns HR5.out
              have HLE : Hid (((wordB xn i).map Value.bool).length = i * 1) := by unfold Hid; rw [List.length_map, wordB_length, Nat.mul_one]
              have HM1 : Hid (0 < i ∧ N + i ≤ maxLen ∧ (N + i) * 1 ≤ 140737488355328 ∧ j + 1 ≤ maxLen ∧ (j + 1) * 24 ≤ 140737488355328) := by have := HMW.out; have := HN40.out; unfold Hid maxLen; omega
              have HSZ : Hid (w2.heap.size ≤ wr.heap.size) := HA5.out.mv.size
              have HPQ : Hid (∀ k, (Value.slice po j pc).ownBlock = some k → (Value.slice qo N qc).ownBlock ≠ some k) := fun k hk => owns_apart HA5.out.pr HA5.out.qr (by decide) hk
              clear hlit
              go_wp2_with (first
                | (at_builtin; refine wpList_append_lies _ rfl _ _ 33 rfl w2.heap.size 4 i2 _ 1 1 Tryz.underlying33 hk0 hx0 hx1 hx2 rfl (by omega) (.slice qo N qc) N _ rfl HQR.out ⟨V0, 0, none⟩ i i ((wordB xn i).map Value.bool) rfl HLE.out HNW.out (bools_one _) HM1.out.1 HM1.out.2.1 HM1.out.2.2.1 HSZ.out _ rfl ?_; intro g6 cap6 w6 hown6 hgrow6 hat6 hlt6; have hA6 := HA5.out.bits (b := wordB xn i) (n := N + i) hgrow6 hat6 (by rw [wordB_length, ← HNN.out]) hown6 HPQ.out; have HA6 : Hid (Apl w2 (fun k => k = G) G (N + i) (wordsV 0 (l.take j)) (allV (l.take j) ++ wordB xn i) (.slice po j pc) (.slice (some ⟨g6, 0, none⟩) (N + i) cap6) vs Fj w6) := hA6; have HL6 : Hid (LitsAt Fj w6 (.slice (some ⟨gw, 0, none⟩) i sc) (inpO N i)) := lits_grown HLIT.out hgrow6 (fun e => by have := HQB.out gw e; have := HGW.out; have := HW3.out; omega); have HG6 : Hid (gw < w6.heap.size) := Nat.lt_of_lt_of_le HGW.out.2 hgrow6.size; have HQ6 : Hid (g6 ≠ gw) := (fun e => hat6.elim (fun h => by have := HQB.out g6 h; have := HGW.out; have := HW3.out; omega) (fun h => by have := HGW.out; omega)); have HP6 : Hid (∀ o', (w6.alloc o').ownsRow w2.heap.size 38 1 (.slice po j pc) j vs) := (fun o' => by have h := hA6.pr; rw [HWL.out] at h; exact h.alloc o'); have HS6 : Hid (∀ o', w2.heap.size ≤ (w6.alloc o').heap.size) := (fun o' => Nat.le_trans hA6.mv.size (by simp)); have HN6 : Hid _ := World.news_of_block (heap_alloc_new w6 (.cells #[.slice (some ⟨gw, 0, none⟩) i sc] 38)); clear hown6 hgrow6 hat6 hlt6 hA6)
                | (at_builtin; refine wpList_append_lies _ rfl _ _ 32 rfl w2.heap.size 38 i1 _ 1 24 Tryz.underlying32 hj0 hy0 hy1 hy2 rfl (by omega) (.slice po j pc) j _ rfl (HP6.out _) ⟨w6.heap.size, 0, none⟩ 1 1 [.slice (some ⟨gw, 0, none⟩) i sc] rfl rfl HN6.out (by simp [Value.oneCell']) (by omega) HM1.out.2.2.2.1 HM1.out.2.2.2.2 (HS6.out _) _ rfl ?_; intro g7 cap7 w7 hown7 hgrow7 hat7 hlt7)
                | go_in)
              have hpq : ∀ k, (Value.slice po j pc).ownBlock = some k → (Value.slice (some ⟨g6, 0, none⟩) (N + i) cap6).ownBlock ≠ some k := fun k hk => owns_apart HA6.out.pr HA6.out.qr (by decide) hk
              have hA7 := HA6.out.word (a := inpO N i) (inpO_length _ _) HL6.out HG6.out (fun e => by have := HPB.out gw e; have := HGW.out; have := HW3.out; omega) (fun e => HQ6.out (by simpa [Value.ownBlock] using e)) hgrow7 hat7 (by rw [HWL.out]; exact hown7) hpq
              rw [HWL.out] at hA7
              have ew : wordsV 0 (l.take j) ++ [inpO N i] = wordsV 0 (l.take (j + 1)) := by
                rw [HTK.out, wordsV_app, Nat.zero_add, ← HNN.out, HMW.out.1]
              have eb : allV (l.take j) ++ wordB xn i = allV (l.take (j + 1)) := by
                rw [HTK.out, allV_app]; unfold bitsV; rw [HMW.out.1]
              have en : N + i = (allV (l.take (j + 1))).length := by
                rw [← eb, List.length_append, wordB_length, ← HNN.out]
              rw [ew, eb, en] at hA7
              exact ⟨⟨j + 1, _, _, _, _, _, Fj, HJ.out, by rw [N4.out]; rfl, rfl, by rw [en], hA7⟩, by rw [N4.out]; have := HJ.out; simp [intOf]; omega⟩
        · obtain rfl : j = l.length := by omega
          rw [List.take_length] at HA ⊢
          have hN40 := allV_le l
          have hwl : (wordsV 0 l).length = l.length := wordsV_length _ _
          have hOF := ofop_any HA.out.gr (by rw [inps_length]; have := HL.out; omega) s HSS.out po l.length pc (wordsV 0 l) (HA.out.words (by rw [hwl]; have := HL.out; omega) hwl.symm) hwl.symm (wordsV_has l 0 (by omega)) _ _ _ _ (cell_keep HBR.out HS.out.g4) (cell_keep HBR.out HS.out.g2) (fun hf => by
            have h1 := HFW.out _ hf
            have h2 : (1 : Nat) < w.heap.size := cell_lt HS.out.g2
            omega)
          have HIFF : Hid (isI s.toList l = 0 ↔ (askB s.data.toList (wordsV 0 l) = true ∧ noB s.data.toList = false)) := by
            unfold Hid
            rw [ByteArray.toList_eq, ← isI_words s.data.toList HRI.out]
            exact shape_iff (words_len 0)
          have HN40 : Hid ((allV l).length ≤ 40) := by have := HL.out; unfold Hid; omega
          obtain ⟨n, hn⟩ : ∃ n, n = (allV l).length := ⟨_, rfl⟩
          have HNN : Hid (n = (allV l).length) := hn
          rw [← hn] at hOF HA HN40 ⊢
          have HLL : Hid (l.length ≤ 10) := by have := HL.out; unfold Hid; omega
          clear hjl hj hwl hN40 hn
          go_wp2_with fail
          refine hOF.mono ?_
          clear hOF
          rintro e w5 (⟨hask, hno, uv, tv, K, len, Pr, tf, rfl, hP, hK, hSem⟩ | ⟨hno, rfl, F5, _, hm5⟩)
          · obtain ⟨V, out, tr, gs, F5, rfl, rfl, hol, _, hrow, _, hg5, hm5, ⟨f, hf, hM⟩, htr, htv⟩ := hP
            have hI0 := HIFF.out.2 ⟨hask, hno⟩
            have HB5 : Hid (Below w.heap.size w w5) := hm5.below HBR.out HBR.out.size HFW.out
            have hval := HV.out.below HB5.out
            have hC := isApply_any s l HLL.out _ w5 hval
            rw [hI0] at hC
            have HIS : Hid (Calls Tryz.prog 9 #[.string s, .slice o l.length c] w5 fun e w' => e = .returned (.int .i64 0) ∧ Below w5.heap.size w5 w') := hC
            have HAP : Hid (∀ W, Below w.heap.size w W → Calls Tryz.prog 12 #[.string s, .slice o l.length c] W fun e w' => e = .returned (.tuple #[.agg #[.int .i64 (appT s.toList l).1.1, .int .i64 (appT s.toList l).1.2], .bool (appT s.toList l).2]) ∧ Below W.heap.size W w') := fun W hW => applyOf_any s l hI0 _ W (HV.out.below hW)
            have hT := sem_app (wrds_all l [] n (by rw [HNN.out]; simp)) HRI.out hSem hf
            rw [List.nil_append, ← ByteArray.toList_eq] at hT
            have hE := told_eval hM hol (htv (allV l)) hT
            obtain ⟨⟨⟨rk, rn⟩, rt⟩, hr⟩ : ∃ r, r = appT s.toList l := ⟨_, rfl⟩
            rw [← hr] at HAP hE
            simp only at HAP hE
            have HE : Hid (((out ++ [tr]).map (litV (valsOf gs (allV l))))[len]? = some rt ∧ (rt = false → valK (((out ++ [tr]).map (litV (valsOf gs (allV l)))).take len) = rk ∧ valI (((out ++ [tr]).map (litV (valsOf gs (allV l)))).take len) = rn)) := hE
            have hq5 := owns_move HA.out.qr hm5 HA.out.qf
            have HQ5 : Hid (BoolsAt w5 (.slice qo n qc) (allV l)) := by have h := hq5.1; rw [← HNN.out] at h; exact bools_of_owns h HNN.out.symm (by have := HN40.out; unfold maxLen; omega)
            have HG5 : Hid (GrAt G gs n F5 w5) := hg5
            have HLS : Hid ((∀ x ∈ out ++ [tr], HasL gs x) ∧ gs.length ≤ 1060 ∧ cntI gs = n) := ⟨fun x hx => by
              rcases List.mem_append.1 hx with hx | hx
              · exact hM.has x hx
              · simp at hx; rw [hx]; exact htr, by have := hM.len; rw [inps_length] at this; have := HN40.out; omega, by rw [hM.ext.cnt, inps_cnt]⟩
            have HVR : Hid (w5.heap[V]? = some (.cells (rowI out) 39 (0, 0))) := hrow
            have HOL : Hid (out.length = len) := hol
            have hlen := sem_len hSem
            clear hask hno hK hSem hm5 hf hM htr htv hI0 hval hC hT hE hr hq5 hg5 hrow hol HA HIFF
            rcases hlen with rfl | rfl
            · have LL : Hid ((out.map (Value.int .i64)).length = 1 * 1) := by unfold Hid; rw [List.length_map, HOL.out]
              have M9 : Hid (0 + 1 ≤ maxLen ∧ (0 + 1) * 8 ≤ 140737488355328 ∧ 1 + 1 ≤ maxLen ∧ (1 + 1) * 8 ≤ 140737488355328) := by unfold Hid maxLen; omega
              go_wp2_with (first
                | (go_at_call 9; refine (HIS.out).mono ?_; rintro e w6 ⟨rfl, hb6⟩; have HB6 : Hid (Below w5.heap.size w5 w6) := hb6; have HNO : Hid (∀ j u, (out.map (Value.int .i64))[j]? = some u → w6.cell? ((⟨V, 0, none⟩ : Addr).add j) = some u) := rowi_news (row_keep HB6.out HVR.out); have HS6 : Hid (w5.heap.size ≤ w6.heap.size) := hb6.size; clear hb6)
                | (at_builtin; refine wpList_append_lies _ rfl _ _ 38 rfl w5.heap.size 39 i0 _ 1 8 Tryz.underlying38 hi0 hz0 hz1 hz2 rfl (by omega) (.slice (some ⟨g1, 0, none⟩) 1 cap1) 1 _ rfl (A1.out _) ⟨w7.heap.size, 0, none⟩ 1 1 [.int .i64 tr] rfl rfl HN7.out (by simp [Value.oneCell']) (by omega) M9.out.2.2.1 M9.out.2.2.2 (S7.out _) _ rfl ?_; intro g2 cap2 w9 hown9 hgrow9 hat9 hlt9)
                | (at_builtin; refine wpList_append_lies _ rfl _ _ 38 rfl w5.heap.size 39 i0 _ 1 8 Tryz.underlying38 hi0 hz0 hz1 hz2 rfl (by omega) (.slice none 0 0) 0 [] rfl (World.ownsRow_nil _ _ _ _) ⟨V, 0, none⟩ 1 1 (out.map (Value.int .i64)) rfl LL.out HNO.out (ints_one _) (by omega) M9.out.1 M9.out.2.1 HS6.out _ rfl ?_; intro g1 cap1 w7 hown7 hgrow7 hat7 hlt7; have HB7 : Hid (Below w5.heap.size w5 w7) := HB6.out.grown hgrow7 HS6.out (fun k hk => by simp [Value.ownBlock] at hk); have A1 : Hid (∀ o', (w7.alloc o').ownsRow w5.heap.size 39 1 (.slice (some ⟨g1, 0, none⟩) 1 cap1) 1 (out.map (Value.int .i64))) := (fun o' => hown7.alloc o'); have R1 : Hid (∀ k, (Value.slice (some ⟨g1, 0, none⟩) 1 cap1).ownBlock = some k → w5.heap.size ≤ k) := (fun k hk => (hown7.lt k hk).1); have S7 : Hid (∀ o', w5.heap.size ≤ (w7.alloc o').heap.size) := (fun o' => Nat.le_trans HB7.out.size (by simp)); have HN7 : Hid _ := World.news_of_block (heap_alloc_new w7 (.cells #[.int .i64 tr] 39)); clear hown7 hgrow7 hat7 hlt7))
              have hb8 : Below w5.heap.size w5 (w7.alloc (.cells #[.int .i64 tr] 39)) := HB7.out.alloc HB7.out.size _
              have hb9 : Below w5.heap.size w5 w9 := hb8.grown hgrow9 (S7.out _) R1.out
              have hlo : (out ++ [tr]).length = 1 + 1 := by rw [List.length_append, HOL.out]; rfl
              have hown : w9.ownsRow w5.heap.size 39 1 (.slice (some ⟨g2, 0, none⟩) (1 + 1) cap2) (1 + 1) ((out ++ [tr]).map (Value.int .i64)) := by
                rw [List.map_append]; exact hown9
              have hev := eval_ok (HG5.out.below hb9) (by have := HLS.out.2.1; omega) (.slice qo n qc) (allV l) (HQ5.out.below hb9) _ (out ++ [tr]) (ints_of_owns hown hlo (by unfold maxLen; omega)) (fun x hx => (HLS.out.1 x hx).i64 (by have := HLS.out.2.1; omega)) HNN.out.symm (by rw [HLS.out.2.2]; exact HNN.out) (by rw [List.all_eq_true]; intro x hx; exact hasB_t (HLS.out.1 x hx)) (by rw [hlo]; omega)
              rw [hlo] at hev
              have HB9 : Hid (Below w.heap.size w w9) := HB5.out.trans (hb9.mono HB5.out.size)
              clear hown9 hgrow9 hat9 hlt9 hb8 hb9 hown A1 R1 S7 HN7 HB6 HB7 HS6 HNO LL M9 HIS
              refine hev.mono ?_
              clear hev
              rintro e w10 ⟨O, rfl, hO, _, hb10⟩
              obtain ⟨L, hLe⟩ : ∃ L, L = (out ++ [tr]).map (litV (valsOf gs (allV l))) := ⟨_, rfl⟩
              rw [← hLe] at hO HE
              have hll : L.length = 1 + 1 := by rw [hLe, List.length_map, hlo]
              have HLL2 : Hid (L.length = 1 + 1) := hll
              have HO : Hid (w10.heap[O]? = some (.cells (rowB L) 4 (0, 0))) := hO
              have HB10 : Hid (Below w.heap.size w w10) := HB9.out.trans (hb10.mono HB9.out.size)
              clear hO hLe hll hlo hb10 HLS HOL HVR HG5 HQ5
              go_wp2_with fail
              refine (HAP.out w10 HB10.out).mono ?_
              rintro e w11 ⟨rfl, hb11⟩
              obtain ⟨w12, hw12⟩ : ∃ w12, w12 = w11.alloc (.cells #[.int .i64 rk, .int .i64 rn] 26) := ⟨_, rfl⟩
              have hb12 : Below w11.heap.size w11 w12 := by rw [hw12]; exact (Below.refl _ _).alloc (Nat.le_refl _) _
              have HO12 : Hid (w12.heap[O]? = some (.cells (rowB L) 4 (0, 0))) := row_keep hb12 (row_keep hb11 HO.out)
              have HR12 : Hid (w12.heap[w11.heap.size]? = some (.cells #[.int .i64 rk, .int .i64 rn] 26 (0, 0))) := by unfold Hid; rw [hw12]; exact heap_alloc_new _ _
              have hbw11 : Below w.heap.size w w11 := HB10.out.trans (hb11.mono HB10.out.size)
              have HB12 : Hid (Below w.heap.size w w12) := hbw11.trans (hb12.mono hbw11.size)
              have z0 : w12.cell? ⟨O, 1, none⟩ = some (.bool rt) := by rw [cell_of_row w12 O _ _ _ (0, 0) HO12.out]; exact rowB_get HE.out.1
              have HW12 : Hid (w11.alloc (.cells #[.int .i64 rk, .int .i64 rn] 26) = w12) := hw12.symm
              rw [hw12] at z0
              clear hb11 hb12 hbw11 hw12 HAP HO
              cases rt with
              | true =>
                go_wp2
                go_ret
                exact ⟨rfl, by rw [HW12.out]; exact HB12.out⟩
              | false =>
                have hv := HE.out.2 rfl
                have hlt : (L.take 1).length = 1 := by rw [List.length_take, HLL2.out]; rfl
                have HVAL : Hid (Calls Tryz.prog 13 #[.slice (some ⟨O, 0, none⟩) 1 (1 + 1)] w12 fun e w' => e = .returned (.tuple #[.agg #[.int .i64 rk, .int .i64 rn], .nilIface]) ∧ Below w12.heap.size w12 w') := by
                  have h := value_ok (.slice (some ⟨O, 0, none⟩) 1 (1 + 1)) (L.take 1) w12 (bools_head HO12.out 1 (by have := HLL2.out; omega) (by unfold maxLen; omega)) (by rw [hlt]; simp)
                  rw [hv.1, hv.2] at h
                  exact h
                clear hv hlt HE
                go_wp2_with fail
                rw [HW12.out]
                refine HVAL.out.mono ?_
                rintro e w13 ⟨rfl, hb13⟩
                obtain ⟨w14, hw14⟩ : ∃ w14, w14 = w13.alloc (.cells #[.int .i64 rk, .int .i64 rn] 26) := ⟨_, rfl⟩
                have hb14 : Below w13.heap.size w13 w14 := by rw [hw14]; exact (Below.refl _ _).alloc (Nat.le_refl _) _
                have hr14 := row_keep hb14 (row_keep hb13 HR12.out)
                have hs14 : w14.heap[w13.heap.size]? = some (.cells #[.int .i64 rk, .int .i64 rn] 26 (0, 0)) := by rw [hw14]; exact heap_alloc_new _ _
                have y0 : w14.cell? ⟨w11.heap.size, 0, none⟩ = some (.int .i64 rk) := by rw [cell_of_row w14 _ _ _ _ (0, 0) hr14]; rfl
                have y1 : w14.cell? ⟨w11.heap.size, 0 + 1, none⟩ = some (.int .i64 rn) := by rw [cell_of_row w14 _ _ _ _ (0, 0) hr14]; rfl
                have y2 : w14.cell? ⟨w13.heap.size, 0, none⟩ = some (.int .i64 rk) := by rw [cell_of_row w14 _ _ _ _ (0, 0) hs14]; rfl
                have y3 : w14.cell? ⟨w13.heap.size, 0 + 1, none⟩ = some (.int .i64 rn) := by rw [cell_of_row w14 _ _ _ _ (0, 0) hs14]; rfl
                have hbw13 := HB12.out.trans (hb13.mono HB12.out.size)
                have HB14 : Hid (Below w.heap.size w w14) := hbw13.trans (hb14.mono hbw13.size)
                have HW14 : Hid (w13.alloc (.cells #[.int .i64 rk, .int .i64 rn] 26) = w14) := hw14.symm
                rw [hw14] at y0 y1 y2 y3
                clear hb13 hb14 hr14 hs14 hw14 z0 hbw13
                go_wp2
                go_ret
                exact ⟨rfl, by rw [HW14.out]; exact HB14.out⟩
            · have LL : Hid ((out.map (Value.int .i64)).length = 8 * 1) := by unfold Hid; rw [List.length_map, HOL.out]
              have M9 : Hid (0 + 8 ≤ maxLen ∧ (0 + 8) * 8 ≤ 140737488355328 ∧ 8 + 1 ≤ maxLen ∧ (8 + 1) * 8 ≤ 140737488355328) := by unfold Hid maxLen; omega
              go_wp2_with (first
                | (go_at_call 9; refine (HIS.out).mono ?_; rintro e w6 ⟨rfl, hb6⟩; have HB6 : Hid (Below w5.heap.size w5 w6) := hb6; have HNO : Hid (∀ j u, (out.map (Value.int .i64))[j]? = some u → w6.cell? ((⟨V, 0, none⟩ : Addr).add j) = some u) := rowi_news (row_keep HB6.out HVR.out); have HS6 : Hid (w5.heap.size ≤ w6.heap.size) := hb6.size; clear hb6)
                | (at_builtin; refine wpList_append_lies _ rfl _ _ 38 rfl w5.heap.size 39 i0 _ 1 8 Tryz.underlying38 hi0 hz0 hz1 hz2 rfl (by omega) (.slice (some ⟨g1, 0, none⟩) 8 cap1) 8 _ rfl (A1.out _) ⟨w7.heap.size, 0, none⟩ 1 1 [.int .i64 tr] rfl rfl HN7.out (by simp [Value.oneCell']) (by omega) M9.out.2.2.1 M9.out.2.2.2 (S7.out _) _ rfl ?_; intro g2 cap2 w9 hown9 hgrow9 hat9 hlt9)
                | (at_builtin; refine wpList_append_lies _ rfl _ _ 38 rfl w5.heap.size 39 i0 _ 1 8 Tryz.underlying38 hi0 hz0 hz1 hz2 rfl (by omega) (.slice none 0 0) 0 [] rfl (World.ownsRow_nil _ _ _ _) ⟨V, 0, none⟩ 8 8 (out.map (Value.int .i64)) rfl LL.out HNO.out (ints_one _) (by omega) M9.out.1 M9.out.2.1 HS6.out _ rfl ?_; intro g1 cap1 w7 hown7 hgrow7 hat7 hlt7; have HB7 : Hid (Below w5.heap.size w5 w7) := HB6.out.grown hgrow7 HS6.out (fun k hk => by simp [Value.ownBlock] at hk); have A1 : Hid (∀ o', (w7.alloc o').ownsRow w5.heap.size 39 1 (.slice (some ⟨g1, 0, none⟩) 8 cap1) 8 (out.map (Value.int .i64))) := (fun o' => hown7.alloc o'); have R1 : Hid (∀ k, (Value.slice (some ⟨g1, 0, none⟩) 8 cap1).ownBlock = some k → w5.heap.size ≤ k) := (fun k hk => (hown7.lt k hk).1); have S7 : Hid (∀ o', w5.heap.size ≤ (w7.alloc o').heap.size) := (fun o' => Nat.le_trans HB7.out.size (by simp)); have HN7 : Hid _ := World.news_of_block (heap_alloc_new w7 (.cells #[.int .i64 tr] 39)); clear hown7 hgrow7 hat7 hlt7))
              have hb8 : Below w5.heap.size w5 (w7.alloc (.cells #[.int .i64 tr] 39)) := HB7.out.alloc HB7.out.size _
              have hb9 : Below w5.heap.size w5 w9 := hb8.grown hgrow9 (S7.out _) R1.out
              have hlo : (out ++ [tr]).length = 8 + 1 := by rw [List.length_append, HOL.out]; rfl
              have hown : w9.ownsRow w5.heap.size 39 1 (.slice (some ⟨g2, 0, none⟩) (8 + 1) cap2) (8 + 1) ((out ++ [tr]).map (Value.int .i64)) := by
                rw [List.map_append]; exact hown9
              have hev := eval_ok (HG5.out.below hb9) (by have := HLS.out.2.1; omega) (.slice qo n qc) (allV l) (HQ5.out.below hb9) _ (out ++ [tr]) (ints_of_owns hown hlo (by unfold maxLen; omega)) (fun x hx => (HLS.out.1 x hx).i64 (by have := HLS.out.2.1; omega)) HNN.out.symm (by rw [HLS.out.2.2]; exact HNN.out) (by rw [List.all_eq_true]; intro x hx; exact hasB_t (HLS.out.1 x hx)) (by rw [hlo]; omega)
              rw [hlo] at hev
              have HB9 : Hid (Below w.heap.size w w9) := HB5.out.trans (hb9.mono HB5.out.size)
              clear hown9 hgrow9 hat9 hlt9 hb8 hb9 hown A1 R1 S7 HN7 HB6 HB7 HS6 HNO LL M9 HIS
              refine hev.mono ?_
              clear hev
              rintro e w10 ⟨O, rfl, hO, _, hb10⟩
              obtain ⟨L, hLe⟩ : ∃ L, L = (out ++ [tr]).map (litV (valsOf gs (allV l))) := ⟨_, rfl⟩
              rw [← hLe] at hO HE
              have hll : L.length = 8 + 1 := by rw [hLe, List.length_map, hlo]
              have HLL2 : Hid (L.length = 8 + 1) := hll
              have HO : Hid (w10.heap[O]? = some (.cells (rowB L) 4 (0, 0))) := hO
              have HB10 : Hid (Below w.heap.size w w10) := HB9.out.trans (hb10.mono HB9.out.size)
              clear hO hLe hll hlo hb10 HLS HOL HVR HG5 HQ5
              go_wp2_with fail
              refine (HAP.out w10 HB10.out).mono ?_
              rintro e w11 ⟨rfl, hb11⟩
              obtain ⟨w12, hw12⟩ : ∃ w12, w12 = w11.alloc (.cells #[.int .i64 rk, .int .i64 rn] 26) := ⟨_, rfl⟩
              have hb12 : Below w11.heap.size w11 w12 := by rw [hw12]; exact (Below.refl _ _).alloc (Nat.le_refl _) _
              have HO12 : Hid (w12.heap[O]? = some (.cells (rowB L) 4 (0, 0))) := row_keep hb12 (row_keep hb11 HO.out)
              have HR12 : Hid (w12.heap[w11.heap.size]? = some (.cells #[.int .i64 rk, .int .i64 rn] 26 (0, 0))) := by unfold Hid; rw [hw12]; exact heap_alloc_new _ _
              have hbw11 : Below w.heap.size w w11 := HB10.out.trans (hb11.mono HB10.out.size)
              have HB12 : Hid (Below w.heap.size w w12) := hbw11.trans (hb12.mono hbw11.size)
              have z0 : w12.cell? ⟨O, 8, none⟩ = some (.bool rt) := by rw [cell_of_row w12 O _ _ _ (0, 0) HO12.out]; exact rowB_get HE.out.1
              have HW12 : Hid (w11.alloc (.cells #[.int .i64 rk, .int .i64 rn] 26) = w12) := hw12.symm
              rw [hw12] at z0
              clear hb11 hb12 hbw11 hw12 HAP HO
              cases rt with
              | true =>
                go_wp2
                go_ret
                exact ⟨rfl, by rw [HW12.out]; exact HB12.out⟩
              | false =>
                have hv := HE.out.2 rfl
                have hlt : (L.take 8).length = 8 := by rw [List.length_take, HLL2.out]; rfl
                have HVAL : Hid (Calls Tryz.prog 13 #[.slice (some ⟨O, 0, none⟩) 8 (8 + 1)] w12 fun e w' => e = .returned (.tuple #[.agg #[.int .i64 rk, .int .i64 rn], .nilIface]) ∧ Below w12.heap.size w12 w') := by
                  have h := value_ok (.slice (some ⟨O, 0, none⟩) 8 (8 + 1)) (L.take 8) w12 (bools_head HO12.out 8 (by have := HLL2.out; omega) (by unfold maxLen; omega)) (by rw [hlt]; simp)
                  rw [hv.1, hv.2] at h
                  exact h
                clear hv hlt HE
                go_wp2_with fail
                rw [HW12.out]
                refine HVAL.out.mono ?_
                rintro e w13 ⟨rfl, hb13⟩
                obtain ⟨w14, hw14⟩ : ∃ w14, w14 = w13.alloc (.cells #[.int .i64 rk, .int .i64 rn] 26) := ⟨_, rfl⟩
                have hb14 : Below w13.heap.size w13 w14 := by rw [hw14]; exact (Below.refl _ _).alloc (Nat.le_refl _) _
                have hr14 := row_keep hb14 (row_keep hb13 HR12.out)
                have hs14 : w14.heap[w13.heap.size]? = some (.cells #[.int .i64 rk, .int .i64 rn] 26 (0, 0)) := by rw [hw14]; exact heap_alloc_new _ _
                have y0 : w14.cell? ⟨w11.heap.size, 0, none⟩ = some (.int .i64 rk) := by rw [cell_of_row w14 _ _ _ _ (0, 0) hr14]; rfl
                have y1 : w14.cell? ⟨w11.heap.size, 0 + 1, none⟩ = some (.int .i64 rn) := by rw [cell_of_row w14 _ _ _ _ (0, 0) hr14]; rfl
                have y2 : w14.cell? ⟨w13.heap.size, 0, none⟩ = some (.int .i64 rk) := by rw [cell_of_row w14 _ _ _ _ (0, 0) hs14]; rfl
                have y3 : w14.cell? ⟨w13.heap.size, 0 + 1, none⟩ = some (.int .i64 rn) := by rw [cell_of_row w14 _ _ _ _ (0, 0) hs14]; rfl
                have hbw13 := HB12.out.trans (hb13.mono HB12.out.size)
                have HB14 : Hid (Below w.heap.size w w14) := hbw13.trans (hb14.mono hbw13.size)
                have HW14 : Hid (w13.alloc (.cells #[.int .i64 rk, .int .i64 rn] 26) = w14) := hw14.symm
                rw [hw14] at y0 y1 y2 y3
                clear hb13 hb14 hr14 hs14 hw14 z0 hbw13
                go_wp2
                go_ret
                exact ⟨rfl, by rw [HW14.out]; exact HB14.out⟩
          · have HB5 : Hid (Below w.heap.size w w5) := hm5.below HBR.out HBR.out.size HFW.out
            have hnz : isI s.toList l ≠ 0 := fun h0 => by
              have := HIFF.out.1 h0
              rcases hno with h1 | h1
              · rw [this.1] at h1; cases h1
              · rw [this.2] at h1; cases h1
            have hC := isApply_any s l HLL.out _ w5 (HV.out.below HB5.out)
            obtain ⟨I, hI⟩ : ∃ I : Int, I = isI s.toList l := ⟨_, rfl⟩
            have h0 := isI_nonneg s.toList l
            rw [← hI] at hC hnz h0
            have d5 : (0 < I) = True := eq_true (by omega)
            clear hm5 hno HIFF HA hnz h0 hI
            go_wp2_with (first
              | (go_at_call 9; refine hC.mono ?_; rintro e w6 ⟨rfl, hb6⟩; have HB6 : Hid (Below w.heap.size w w6) := HB5.out.trans (hb6.mono HB5.out.size); clear hb6)
              | (go_at_call 10; refine (coded_shape (HS.out.below HB6.out)).mono ?_; rintro e w7 ⟨rfl, hb7⟩; have HB7 : Hid (Below w.heap.size w w7) := HB6.out.trans (hb7.mono HB6.out.size); clear hb7))
            go_ret
            exact ⟨rfl, HB7.out⟩
end Go.Proofs.YtpiglmaojonbnaaGreatDoor
