/-
  package types: typed$1 BY CONTRACT.
-/
import Derived.Test.YtpkgingjmgakbaaDoorP14
namespace Go.Proofs.YtpkgingjmgakbaaDoor
open Go.RowKit Go.Maps

theorem owns_ne {w : World} {base size n b : Nat} {e t : TypeId} {v : Value} {xs : List Value} {cs : Array Value} {fr : Nat × Nat} (h : w.ownsRow base e size v n xs) (hb : w.heap[b]? = some (.cells cs t fr)) (ht : t ≠ e) : v.ownBlock ≠ some b := fun hv => by
  obtain ⟨cur, hc⟩ := owns_block h hv
  rw [hb] at hc
  exact ht (Obj.cells.inj (Option.some.inj hc)).2.1
set_option maxRecDepth 100000 in
set_option maxHeartbeats 4000000 in
theorem typed1_any {X : Nat → Prop} {cb b0 b1 b2 : Nat} {kd : List UInt8 → Option Int} {F : Nat → Prop} {w : World} (l : List Ex) (hok : okL kd l) (hsz : szL l ≤ 4000) (hck : CkAt X cb kd [] F w) (o : Option Addr) (c : Nat) (ys : List Value) (hrow : RowAt w (fun b => ¬ (F b ∨ b = b1)) 4 (.slice o l.length c) l.length ys) (hex : ExIn w (fun b => ¬ (F b ∨ b = b1)) l ys)
    (h0 : w.heap[b0]? = some (.cells #[.slice o l.length c] 27 (0, 0))) (h1 : w.heap[b1]? = some (.cells #[.slice none 0 0] 22 (0, 0))) (h2 : w.heap[b2]? = some (.cells #[.pointer (some ⟨cb, 0, none⟩)] 110 (0, 0))) (n1 : ¬ F b1) (n2 : ¬ F b2 ∧ b2 ≠ b1) (hL : ¬ X b1) :
    Calls Tryd.prog 54 #[.pointer (some ⟨b0, 0, none⟩), .pointer (some ⟨b1, 0, none⟩), .pointer (some ⟨b2, 0, none⟩)] w (Typ1P X cb b1 kd l F w) := by
  obtain ⟨i0, hi0, hz0, hz1, hz2⟩ := info_parts Tryd.infoInt
  have c0 : w.cell? ⟨b0, 0, none⟩ = some (.slice o l.length c) := by rw [cell_of_row w b0 _ _ _ (0, 0) h0]; rfl
  have HOK : Hid (okL kd l) := hok
  have HSZ : Hid (szL l ≤ 4000) := hsz
  have HROW : Hid (RowAt w (fun b => ¬ (F b ∨ b = b1)) 4 (.slice o l.length c) l.length ys) := hrow
  have HEX : Hid (ExIn w (fun b => ¬ (F b ∨ b = b1)) l ys) := hex
  have H2 : Hid (w.heap[b2]? = some (.cells #[.pointer (some ⟨cb, 0, none⟩)] 110 (0, 0))) := h2
  have HN2 : Hid (¬ (F b2 ∨ b2 = b1)) := fun h => h.elim n2.1 n2.2
  have HLL : Hid (l.length ≤ 4000) := by have := szL_ss l; unfold Hid; omega
  have HS0 : Hid (TyS X cb b1 kd w F [] [] none 0 F w) := ⟨hck, h1, World.ownsRow_nil _ _ _ _, n1, fun k hk => by simp [Value.ownBlock] at hk, ⟨rfl, rfl, rfl, Nat.le_refl _, fun _ _ _ => rfl, fun k hk => by
    rcases hk with hk | hk | hk
    · exact .inl (.inl hk)
    · exact .inl (.inr hk)
    · simp [Value.ownBlock] at hk⟩, fun k hk => by simp [Value.ownBlock] at hk, hL⟩
  clear hok hsz hck hrow hex h0 h1 h2 n1 n2 hL
  go_enter Tryd.func54, Tryd.ntmps54
  go_wp2
  clear c0
  go_loopw [7] (fun t wr => ∃ (j : Nat) (ks qs : List Int) (ta : Option Addr) (tc : Nat) (Fj : Nat → Prop), j ≤ l.length ∧ t = .int .i64 j ∧ Hid (tyL kd (l.take j) = some (ks, qs) ∧ TyS X cb b1 kd w F ks qs ta tc Fj wr)) (fun t _ => l.length - (intOf t).toNat)
  case atStart => exact ⟨0, [], [], none, 0, F, Nat.zero_le _, rfl, ⟨by simp [tyL], HS0.out⟩⟩
  case round =>
    obtain ⟨j, ks, qs, ta, tc, Fj, hj, rfl, HJR⟩ := hrel
    by_cases hjl : j < l.length
    · obtain ⟨op', n', s', es, oo, cc, zs, e, x0, x1, x2, x3, r1, r2⟩ := HEX.out.at hjl
      obtain ⟨p, f, cp, ev, hpF, _, g⟩ := HROW.out.at (by have := HROW.out.1; omega)
      obtain ⟨rfl, rfl⟩ : o = some ⟨p, f, none⟩ ∧ c = cp := by simpa using ev
      have hmv := HJR.out.2.mv
      have y0 := (hmv.cell (g _ _ x0) hpF).1
      have y1 := (hmv.cell (g _ _ x1) hpF).1
      have y2 := (hmv.cell (g _ _ x2) hpF).1
      have y3 := (hmv.cell (g _ _ x3) hpF).1
      rw [← Nat.add_assoc] at y1 y2 y3
      have i0' : (0 : Int) ≤ (j : Int) := by omega
      have i1' : (j : Int) < (l.length : Int) := by omega
      have ej : l[j]? = some (.mk op' n' s' es) := by rw [List.getElem?_eq_getElem hjl, e]
      have hb5 : Below wr.heap.size wr (wr.alloc (.cells #[.string op', .int .i64 n', .string s', .slice oo es.length cc] 32)) := (Below.refl _ _).alloc (Nat.le_refl _) _
      obtain ⟨w5, hw5⟩ : ∃ w5, w5 = wr.alloc (.cells #[.string op', .int .i64 n', .string s', .slice oo es.length cc] 32) := ⟨_, rfl⟩
      have he5 : w5.heap[wr.heap.size]? = some (.cells #[.string op', .int .i64 n', .string s', .slice oo es.length cc] 32 (0, 0)) := by rw [hw5]; exact heap_alloc_new _ _
      rw [← hw5] at hb5
      have hm5 := hmv.trans (Mvd.of_below hb5)
      have hs1 := tyL_size kd (l.take j) ks qs (okL_take HOK.out) HJR.out.1
      have hs2 := szL_take l j _ ej
      have hs3 := szL_le l (j + 1)
      have hwk : ∀ b, ¬ OwnT Fj b1 (.slice ta ks.length tc) b → ¬ Fj b := fun b hb hf => hb (.inl hf)
      have HIH : Hid (Calls Tryd.prog 55 #[.pointer (some ⟨cb, 0, none⟩), .agg #[.string op', .int .i64 n', .string s', .slice oo es.length cc]] w5.drew (TyP X cb kd qs (tyE kd (.mk op' n' s' es)) Fj w5.drew)) := value_any kd _ op' n' s' es (Nat.lt_succ_self _) (okL_get HOK.out ej) X cb qs Fj w5.drew oo cc zs ((HJR.out.2.ck.below hb5).below (Below.refl _ _).drew) (by have := HSZ.out; simp only [szE] at hs2 ⊢; omega) (((r1.keep hm5.stays).less hwk).keep (fun b hb _ => ⟨hb, rfl⟩)) (((r2.keep hm5.stays).less hwk).keep (fun b hb _ => ⟨hb, rfl⟩))
      have HTL : Hid (tyL kd (l.take (j + 1)) = (tyE kd (.mk op' n' s' es)).map fun x => (ks ++ [x.1], qs ++ x.2)) := tyL_take ej HJR.out.1
      have HKL : Hid (ks.length = j) := by have := tyL_len HJR.out.1; unfold Hid; rw [this, List.length_take]; omega
      have HJ : Hid (j < l.length) := hjl
      have N4 : Hid (wrap64 ((j : Int) + 1) = (j : Int) + 1) := by have := HLL.out; have := HJ.out; unfold Hid wrap64; omega
      have hb25 : w5.heap[b2]? = some (.cells #[.pointer (some ⟨cb, 0, none⟩)] 110 (0, 0)) := (hm5.rowKept H2.out HN2.out).1
      have hb15 : w5.heap[b1]? = some (.cells #[.slice ta ks.length tc] 22 (0, 0)) := row_keep hb5 HJR.out.2.cell
      have z2 : w5.drew.cell? ⟨b2, 0, none⟩ = some (.pointer (some ⟨cb, 0, none⟩)) := by rw [cell_of_row _ b2 _ _ _ (0, 0) (show w5.drew.heap[b2]? = _ from hb25)]; rfl
      have z1 : w5.drew.cell? ⟨b1, 0, none⟩ = some (.slice ta ks.length tc) := by rw [cell_of_row _ b1 _ _ _ (0, 0) (show w5.drew.heap[b1]? = _ from hb15)]; rfl
      have e0 : w5.drew.cell? ⟨wr.heap.size, 0, none⟩ = some (.string op') := by rw [cell_of_row _ _ _ _ _ (0, 0) (show w5.drew.heap[wr.heap.size]? = _ from he5)]; rfl
      have e1 : w5.drew.cell? ⟨wr.heap.size, 0 + 1, none⟩ = some (.int .i64 n') := by rw [cell_of_row _ _ _ _ _ (0, 0) (show w5.drew.heap[wr.heap.size]? = _ from he5)]; rfl
      have e2 : w5.drew.cell? ⟨wr.heap.size, 0 + 2, none⟩ = some (.string s') := by rw [cell_of_row _ _ _ _ _ (0, 0) (show w5.drew.heap[wr.heap.size]? = _ from he5)]; rfl
      have e3 : w5.drew.cell? ⟨wr.heap.size, 0 + 3, none⟩ = some (.slice oo es.length cc) := by rw [cell_of_row _ _ _ _ _ (0, 0) (show w5.drew.heap[wr.heap.size]? = _ from he5)]; rfl
      have HNB : Hid (¬ Fj b2 ∧ ¬ Fj wr.heap.size ∧ ¬ Fj b1 ∧ b2 ≠ b1 ∧ wr.heap.size ≠ b1) := ⟨fun hf => (hm5.rowKept H2.out HN2.out).2 (.inl hf), fun hf => by have := HJR.out.2.ck.lt _ hf; omega, HJR.out.2.nf, fun e => HN2.out (.inr e), fun e => by have := (Array.getElem?_eq_some_iff.1 HJR.out.2.cell).1; omega⟩
      have HSO : Hid (∀ W : World, W.heap[b2]? = some (.cells #[.pointer (some ⟨cb, 0, none⟩)] 110 (0, 0)) → W.heap[wr.heap.size]? = some (.cells #[.string op', .int .i64 n', .string s', .slice oo es.length cc] 32 (0, 0)) → W.cell? ⟨b2, 0, none⟩ = some (.pointer (some ⟨cb, 0, none⟩)) ∧ W.cell? ⟨wr.heap.size, 0, none⟩ = some (.string op') ∧ W.cell? ⟨wr.heap.size, 0 + 1, none⟩ = some (.int .i64 n') ∧ W.cell? ⟨wr.heap.size, 0 + 2, none⟩ = some (.string s') ∧ W.cell? ⟨wr.heap.size, 0 + 3, none⟩ = some (.slice oo es.length cc)) := fun W r1 r2 => ⟨by rw [cell_of_row W _ _ _ _ (0, 0) r1]; rfl, by rw [cell_of_row W _ _ _ _ (0, 0) r2]; rfl, by rw [cell_of_row W _ _ _ _ (0, 0) r2]; rfl, by rw [cell_of_row W _ _ _ _ (0, 0) r2]; rfl, by rw [cell_of_row W _ _ _ _ (0, 0) r2]; rfl⟩
      have HW5 : Hid (wr.alloc (.cells #[.string op', .int .i64 n', .string s', .slice oo es.length cc] 32) = w5) := hw5.symm
      have HB5 : Hid (Below wr.heap.size wr w5) := hb5
      have HE5 : Hid (w5.heap[wr.heap.size]? = some (.cells #[.string op', .int .i64 n', .string s', .slice oo es.length cc] 32 (0, 0))) := he5
      have HB25 : Hid (w5.heap[b2]? = some (.cells #[.pointer (some ⟨cb, 0, none⟩)] 110 (0, 0))) := hb25
      clear x0 x1 x2 x3 r1 r2 g ev e ej hb5 hw5 hm5 hs1 hs2 hs3 hwk hmv hj hjl hpF he5 hb25 hb15
      go_wp2
      rw [HW5.out]
      refine wp_region_till 6 (fun w' => w'.cell? ⟨b2, 0, none⟩ = some (.pointer (some ⟨cb, 0, none⟩)) ∧ w'.cell? ⟨wr.heap.size, 0, none⟩ = some (.string op') ∧ w'.cell? ⟨wr.heap.size, 0 + 1, none⟩ = some (.int .i64 n') ∧ w'.cell? ⟨wr.heap.size, 0 + 2, none⟩ = some (.string s') ∧ w'.cell? ⟨wr.heap.size, 0 + 3, none⟩ = some (.slice oo es.length cc)) (fun w' => w'.cell? ⟨b1, 0, none⟩ = some (.slice ta ks.length tc)) (by kernel_rfl) ⟨z2, e0, e1, e2, e3⟩ z1 (fun hHeld => ?_)
      refine wpTill_load 5 (i := 0) (oi := ⟨some 11, _, _, _, _, _⟩) (v := .slice ta ks.length tc) rfl rfl (by kernel_rfl) (by kernel_rfl) (by kernel_rfl) (by kernel_rfl) (by kernel_rfl) (by kernel_rfl) (by kernel_rfl) (fun _ _ _ h => h) (Or.inl ⟨by rfl, ?_⟩) hHeld ?_
      · intro w hSw; (try dsimp only at hSw); go_simp
      try simp only [Act.put, List.setIfInBounds_toArray, List.set_cons_zero, List.set_cons_succ]
      refine wpTill_take (i := 1) (oi := ⟨some 12, _, _, _, _, _⟩) (v := .pointer (some ⟨cb, 0, none⟩)) rfl rfl (by kernel_rfl) (by kernel_rfl) (by kernel_rfl) (fun _ _ _ h => h) (Or.inl ⟨by rfl, ?_⟩) hHeld ?_
      · intro w hSw; (try dsimp only at hSw); obtain ⟨a1, a2, a3, a4, a5⟩ := hSw; go_simp
      try simp only [Act.put, List.setIfInBounds_toArray, List.set_cons_zero, List.set_cons_succ]
      refine wpTill_take (i := 2) (oi := ⟨some 13, _, _, _, _, _⟩) (v := .agg #[.string op', .int .i64 n', .string s', .slice oo es.length cc]) rfl rfl (by kernel_rfl) (by kernel_rfl) (by kernel_rfl) (fun _ _ _ h => h) (Or.inl ⟨by rfl, ?_⟩) hHeld ?_
      · intro w hSw; (try dsimp only at hSw); obtain ⟨a1, a2, a3, a4, a5⟩ := hSw; go_simp
      try simp only [Act.put, List.setIfInBounds_toArray, List.set_cons_zero, List.set_cons_succ]
      refine wpTill_ready (rs := [3]) (by kernel_rfl) (by simp) ?_
      refine AllTill.cons (o := ⟨some 14, _, _, _, _, _⟩) rfl (fun K hK => ?_) AllTill.nil
      go_simp
      refine HIH.out.mono ?_
      rintro e w6 (⟨k, rs, F6, hty, rfl, hck6, hm6⟩ | ⟨hty, hth, F6, hm6⟩)
      · have hmr : Mvd Fj F6 wr w6 := (Mvd.of_below HB5.out).trans ⟨hm6.os, hm6.tape, hm6.output, hm6.size, hm6.block, hm6.more⟩
        have p2 := (hm6.rowKept (show w5.drew.heap[b2]? = _ from HB25.out) HNB.out.1).1
        have pe := (hm6.rowKept (show w5.drew.heap[wr.heap.size]? = _ from HE5.out) HNB.out.2.1).1
        have p1 := (hmr.rowKept HJR.out.2.cell HJR.out.2.nf).1
        have hr6 := (owns_move HJR.out.2.row hmr HJR.out.2.nr).1
        have q1 : w6.cell? ⟨b1, 0, none⟩ = some (.slice ta ks.length tc) := by rw [cell_of_row w6 _ _ _ _ (0, 0) p1]; rfl
        go_wp2_with fail
        refine hK.out _ _ ⟨HSO.out w6 p2 pe, fun _ => q1⟩ (fun hHeld => ?_)
        clear hK K
        try simp only [Act.put, List.setIfInBounds_toArray, List.set_cons_zero, List.set_cons_succ]
        refine wpTill_ready (rs := [4]) (by kernel_rfl) (by simp) ?_
        refine AllTill.cons (o := ⟨some 15, _, _, _, _, _⟩) rfl (fun K hK => ?_) AllTill.nil
        go_simp
        have hba : Below w6.heap.size w6 (w6.alloc (.cells #[.int .i64 k] 3)) := (Below.refl _ _).alloc (Nat.le_refl _) _
        refine hK.out _ _ ⟨HSO.out _ (row_keep hba p2) (row_keep hba pe), fun _ => cell_keep hba q1⟩ (fun hHeld => ?_)
        clear hK K
        try simp only [Act.put, List.setIfInBounds_toArray, List.set_cons_zero, List.set_cons_succ]
        refine wpTill_ready (rs := [5]) (by kernel_rfl) (by simp) ?_
        refine AllTill.cons (o := ⟨some 16, _, _, _, _, _⟩) rfl (fun K hK => ?_) AllTill.nil
        refine step_append_lies _ rfl (.tmp 11) (.tmp 15) 22 rfl 0 3 i0 _ 1 8 Tryd.underlying22 hi0 hz0 hz1 hz2 rfl (by omega) (.slice ta ks.length tc) ks.length _ (by simp [Act.eval]) (hr6.alloc _) ⟨w6.heap.size, 0, none⟩ 1 1 [.int .i64 k] (by simp [Act.eval]) rfl (World.news_of_block (heap_alloc_new w6 (.cells #[.int .i64 k] 3))) (by simp [Value.oneCell']) (by omega) (by have := HKL.out; have := HLL.out; have := HJ.out; unfold maxLen; omega) (by have := HKL.out; have := HLL.out; have := HJ.out; omega) (Nat.zero_le _) _ rfl ?_
        intro g cap w7 hown7 hgrow hat hlt7
        have n2 := owns_ne hr6 p2 (by decide)
        have ne := owns_ne hr6 pe (by decide)
        have n1 := owns_ne hr6 p1 (by decide)
        have p27 := heap_grown' hgrow n2 (row_keep hba p2)
        have pe7 := heap_grown' hgrow ne (row_keep hba pe)
        have p17 := heap_grown' hgrow n1 (row_keep hba p1)
        have y1 : w7.cell? ⟨b1, 0, none⟩ = some (.slice ta ks.length tc) := by rw [cell_of_row w7 _ _ _ _ (0, 0) p17]; rfl
        have f1 : w7.frozen? ⟨b1, 0, none⟩ = false := frozen_row p17
        refine hK.out _ _ ⟨HSO.out w7 p27 pe7, fun _ => y1⟩ (fun hHeld => ?_)
        clear hK K
        try simp only [Act.put, List.setIfInBounds_toArray, List.set_cons_zero, List.set_cons_succ]
        refine wpTill_ready (rs := [6]) (by kernel_rfl) (by simp) ?_
        refine AllTill.cons (o := ⟨none, _, _, _, _, _⟩) rfl (fun K hK => ?_) AllTill.nil
        go_simp
        have hks : ∀ q, q ≠ b1 → (w7.setCell ⟨b1, 0, none⟩ (.slice (some ⟨g, 0, none⟩) (ks.length + 1) cap)).heap[q]? = w7.heap[q]? := fun q hq => Below.heap_setCell w7 ⟨b1, 0, none⟩ _ q hq
        refine hK.out _ _ (Till.last (HSO.out _ ((hks _ HNB.out.2.2.2.1).trans p27) ((hks _ HNB.out.2.2.2.2).trans pe7))) (fun hHeld => ?_)
        clear hK K
        try simp only [Act.put, List.setIfInBounds_toArray, List.set_cons_zero, List.set_cons_succ]
        refine wpTill_done (by kernel_rfl) ?_ _
        have HFIN : Hid (TyS X cb b1 kd w F (ks ++ [k]) (qs ++ rs) (some ⟨g, 0, none⟩) cap F6 (w7.setCell ⟨b1, 0, none⟩ (.slice (some ⟨g, 0, none⟩) (ks.length + 1) cap))) := HJR.out.2.next hmr hck6 hgrow hat hlt7 hown7
        have HTY : Hid (tyE kd (.mk op' n' s' es) = some (k, rs)) := hty
        clear hmr p2 pe p1 hr6 q1 hba hown7 hgrow hat hlt7 n2 ne n1 p27 pe7 p17 y1 f1 hks hck6 hm6 hty hHeld
        go_wp2
        exact ⟨⟨j + 1, ks ++ [k], qs ++ rs, _, _, F6, HJ.out, by rw [N4.out]; rfl, ⟨by rw [HTL.out, HTY.out]; rfl, HFIN.out⟩⟩, by rw [N4.out]; have := HJ.out; simp [intOf]; omega⟩
      · unfold ThrewT at hth
        subst hth
        have hN : tyL kd l = none := by
          have h := HTL.out
          rw [hty] at h
          exact tyL_none h
        have hmr : Mvd (OwnT Fj b1 (.slice ta ks.length tc)) (OwnT F6 b1 (.slice ta ks.length tc)) wr w6 := by
          have h1 : Mvd Fj F6 wr w6 := (Mvd.of_below HB5.out).trans ⟨hm6.os, hm6.tape, hm6.output, hm6.size, hm6.block, hm6.more⟩
          refine ⟨h1.os, h1.tape, h1.output, h1.size, fun q hq hn => h1.block q hq (fun hf => hn (.inl hf)), fun q hq => ?_⟩
          rcases hq with hq | hq
          · rcases h1.more q hq with h2 | h2
            · exact .inl (.inl h2)
            · exact .inr h2
          · exact .inl (.inr hq)
        have h1 : Mvd Fj F6 wr w6 := (Mvd.of_below HB5.out).trans ⟨hm6.os, hm6.tape, hm6.output, hm6.size, hm6.block, hm6.more⟩
        exact ⟨rfl, .inr ⟨hN, rfl, _, _, HJR.out.2.mv.trans hmr, (h1.rowKept HJR.out.2.cell HJR.out.2.nf).1⟩⟩
    · obtain rfl : j = l.length := by omega
      have HEND : Hid (Typ1P X cb b1 kd l F w (.returned (.tuple #[])) wr) := .inl ⟨ks, qs, ta, tc, Fj, by have h := HJR.out.1; rw [List.take_length] at h; exact h, rfl, HJR.out.2⟩
      clear hj hjl
      go_wp2
      exact bodyPost_ret (v := .tuple #[]) (by simp [results, Tryd.results54, go_sem]) rfl HEND.out
end Go.Proofs.YtpkgingjmgakbaaDoor
