/-
  lustrumlaw3.FlowGates, WALKED: it answers true.
-/
import Derived.Test.YtgcaohpaopemnaaDoorP45
import Derived.Deep.RegionHeld3
namespace Go.Proofs.YtgcaohpaopemnaaDoor
open Go.RowKit Go.Maps

theorem Errs.below {w w' : World} (h : Errs w) (hb : Below w.heap.size w w') : Errs w' := by
  obtain ⟨⟨t, q, h1⟩, ⟨t2, q2, h2⟩⟩ := h
  exact ⟨⟨t, q, cell_keep hb h1⟩, ⟨t2, q2, cell_keep hb h2⟩⟩
theorem vals_two (w : World) (a b c d : Int) (t : TypeId) : ValsAt (w.alloc (.cells #[.int .i64 a, .int .i64 b, .int .i64 c, .int .i64 d] t)) (.slice (some ⟨w.heap.size, 0, none⟩) 2 2) [(a, b), (c, d)] := by
  refine ⟨by unfold maxLen; simp, _, _, rfl, fun k x hk => ⟨w.heap.size, 0, rfl, ?_⟩⟩
  have hr := heap_alloc_new w (.cells #[.int .i64 a, .int .i64 b, .int .i64 c, .int .i64 d] t)
  rcases k with _ | _ | k
  · obtain rfl : (a, b) = x := by simpa using hk
    exact ⟨by rw [cell_of_row _ _ _ _ _ (0, 0) hr]; rfl, by rw [cell_of_row _ _ _ _ _ (0, 0) hr]; rfl⟩
  · obtain rfl : (c, d) = x := by simpa using hk
    exact ⟨by rw [cell_of_row _ _ _ _ _ (0, 0) hr]; rfl, by rw [cell_of_row _ _ _ _ _ (0, 0) hr]; rfl⟩
  · simp at hk
/-- What flow.Apply answers, in one form. -/
theorem fapply_one (w : World) (S : Errs w) (md : Bool) (o : Option Addr) (c : Nat) (a b : Int) (ha : -128 ≤ a ∧ a ≤ 127) (hb : -128 ≤ b ∧ b ≤ 127) (hv : ValsAt w (.slice o 2 c) [(2, a), (2, b)]) :
    Calls Tryd.prog 5 #[.string (divS md), .slice o 2 c] w fun e w' => Below w.heap.size w w' ∧ ∃ (k n : Int) (t : Bool), e = .returned (.tuple #[.agg #[.int .i64 k, .int .i64 n], .bool t, .nilIface]) ∧ t = decide (b = 0) ∧ (b ≠ 0 → k = 2 ∧ n = aroundI (divR md a b)) := by
  have hr : ∀ n : Int, -128 ≤ n ∧ n ≤ 127 → rightB 2 n 2 = true := fun n hn => by
    unfold rightB
    rw [if_pos rfl, if_neg (by decide), decide_eq_true (show -129 < n by omega), decide_eq_true (show n < 128 by omega)]; rfl
  refine (fapply_any w S md o c a b (by unfold Sm; omega) (by unfold Sm; omega) (hr a ha) (hr b hb) hv).mono ?_
  rintro e w' ⟨h1, ⟨h0, rfl⟩ | ⟨h0, rfl⟩⟩
  · exact ⟨h1, _, _, _, rfl, (decide_eq_true h0).symm, fun h => absurd h0 h⟩
  · exact ⟨h1, _, _, _, rfl, (decide_eq_false h0).symm, fun _ => ⟨rfl, rfl⟩⟩
theorem wd_const {w : World} {F : Nat → Prop} {V : Nat} {n : Int} {t : TypeId} (h : w.heap[V]? = some (.cells (rowI (wordI n 8)) t (0, 0))) (hn : ¬ F V) : Wd [] F w (some ⟨V, 0, none⟩) 8 (wordI n 8) := by
  have hl := lits_row (c := 8) h hn (by rw [wordI_length]; omega)
  rw [wordI_length] at hl
  exact ⟨hl, wordI_length n 8, const_has n⟩
theorem bools_part {w : World} {O : Nat} {L : List Bool} {t : TypeId} {c : Nat} (h : w.heap[O]? = some (.cells (rowB L) t (0, 0))) (n : Nat) (hn : n ≤ L.length) (hm : n ≤ maxLen) : BoolsAt w (.slice (some ⟨O, 0, none⟩) n c) (L.take n) := by
  have hl : (L.take n).length = n := by rw [List.length_take]; omega
  refine ⟨by rw [hl]; exact hm, some ⟨O, 0, none⟩, c, by rw [hl], fun k x hk => ⟨O, 0, rfl, ?_⟩⟩
  have hk2 : k < n := by have := (List.getElem?_eq_some_iff.1 hk).1; omega
  rw [List.getElem?_take_of_lt hk2] at hk
  rw [Nat.zero_add, cell_of_row w O _ _ t (0, 0) h]; exact rowB_get hk
theorem bits_part {gs : List (Int × Int)} {out : List Int} {tr : Int} (hl : out.length = 8) : natF (fun i => (((out ++ [tr]).map (litV (valsOf gs []))).take 8).getD i false) 8 = numW gs [] out := by
  unfold numW
  refine natF_congr (fun i hi => ?_)
  obtain ⟨x, hx⟩ : ∃ x, out[i]? = some x := ⟨_, List.getElem?_eq_getElem (by omega)⟩
  rw [bitsL_get hx, List.getD_eq_getElem?_getD, List.getElem?_take_of_lt hi, List.getElem?_map, List.getElem?_append_left (by omega), hx]; rfl
theorem owns_lits {w : World} {V : Nat} {out : List Int} (h : w.heap[V]? = some (.cells (rowI out) 38 (0, 0))) (hl : out.length = 8) : w.ownsRow 0 38 1 (.slice (some ⟨V, 0, none⟩) 8 8) 8 (out.map (Value.int .i64)) :=
  ⟨by rw [List.length_map, hl], .inr ⟨V, 8, rowI out, rfl, Nat.zero_le _, h, Nat.le_refl _, by unfold maxLen; omega, by simp [rowI, hl], by simp [rowI, hl, List.take_of_length_le]⟩⟩
set_option maxRecDepth 100000 in
set_option maxHeartbeats 4000000 in
theorem gates_div (w : World) (S : Errs w) (a b : Int) (ha : -128 ≤ a ∧ a ≤ 127) (hb : -128 ≤ b ∧ b ≤ 127) :
    Calls Tryd.prog 3 #[.string ⟨#[47]⟩, .int .i64 a, .int .i64 b] w fun e w' => e = .returned (.bool true) ∧ Below w.heap.size w w' := by
  have HS : Hid (Errs w) := S
  have HA : Hid (-128 ≤ a ∧ a ≤ 127) := ha
  have HB : Hid (-128 ≤ b ∧ b ≤ 127) := hb
  have d1 : (a < -128) = False := eq_false (by omega)
  have d2 : (127 < a) = False := eq_false (by omega)
  have d3 : (b < -128) = False := eq_false (by omega)
  have d4 : (127 < b) = False := eq_false (by omega)
  obtain ⟨i0, hi0, hz0, hz1, hz2⟩ := info_parts Tryd.infoLit
  clear S ha hb
  go_enter Tryd.func3, Tryd.ntmps3
  go_wp2_with fail
  refine (five_any w).mono ?_
  rintro e w1 ⟨rfl, hb1⟩
  have HB1 : Hid (Below w.heap.size w w1) := hb1
  obtain ⟨w2, hw2⟩ : ∃ w2, w2 = w1.alloc (.cells #[.int .i64 2, .int .i64 a, .int .i64 2, .int .i64 b] 24) := ⟨_, rfl⟩
  have hb2 : Below w1.heap.size w1 w2 := by rw [hw2]; exact (Below.refl _ _).alloc (Nat.le_refl _) _
  have HB2 : Hid (Below w.heap.size w w2) := hb1.trans (hb2.mono hb1.size)
  have HV2 : Hid (ValsAt w2 (.slice (some ⟨w1.heap.size, 0, none⟩) 2 2) [(2, a), (2, b)]) := by unfold Hid; rw [hw2]; exact vals_two w1 2 a 2 b _
  have HW2 : Hid (w1.alloc (.cells #[.int .i64 2, .int .i64 a, .int .i64 2, .int .i64 b] 24) = w2) := hw2.symm
  clear hb1 hb2 hw2
  go_wp2_with fail
  rw [HW2.out]
  refine (fapply_one w2 (HS.out.below HB2.out) false _ _ a b HA.out HB.out HV2.out).mono ?_
  rintro e w3 ⟨hb3, k, n, t, rfl, ht, hkn⟩
  obtain ⟨w4, hw4⟩ : ∃ w4, w4 = w3.alloc (.cells #[.int .i64 k, .int .i64 n] 24) := ⟨_, rfl⟩
  have hb4 : Below w3.heap.size w3 w4 := by rw [hw4]; exact (Below.refl _ _).alloc (Nat.le_refl _) _
  have hbw3 : Below w.heap.size w w3 := HB2.out.trans (hb3.mono HB2.out.size)
  have HB4 : Hid (Below w.heap.size w w4) := hbw3.trans (hb4.mono hbw3.size)
  have HR4 : Hid (w4.heap[w3.heap.size]? = some (.cells #[.int .i64 k, .int .i64 n] 24 (0, 0))) := by unfold Hid; rw [hw4]; exact heap_alloc_new _ _
  have HW4 : Hid (w3.alloc (.cells #[.int .i64 k, .int .i64 n] 24) = w4) := hw4.symm
  have HKN : Hid (t = decide (b = 0) ∧ (b ≠ 0 → k = 2 ∧ n = aroundI (divR false a b))) := ⟨ht, hkn⟩
  clear hb3 hb4 hbw3 hw4 ht hkn d1 d2 d3 d4
  go_wp2_with fail
  rw [HW4.out]
  refine (const_ok a (by unfold isB; have := HA.out; rw [decide_eq_true (show -128 ≤ a by omega), decide_eq_true (show a < 128 by omega)]; rfl) w4).mono ?_
  rintro e w5 ⟨rfl, r5, hb5⟩
  have HB5 : Hid (Below w.heap.size w w5) := HB4.out.trans (hb5.mono HB4.out.size)
  have HB45 : Hid (Below w4.heap.size w4 w5) := hb5
  have HR5 : Hid (w5.heap[w4.heap.size]? = some (.cells (rowI (wordI a 8)) 38 (0, 0))) := r5
  clear r5 hb5
  go_wp2_with fail
  refine (const_ok b (by unfold isB; have := HB.out; rw [decide_eq_true (show -128 ≤ b by omega), decide_eq_true (show b < 128 by omega)]; rfl) w5).mono ?_
  rintro e w6 ⟨rfl, r6, hb6⟩
  obtain ⟨w7, hw7⟩ : ∃ w7, w7 = w6.alloc (.cells #[.slice none 0 0, .map none, .int .i64 0] 37) := ⟨_, rfl⟩
  have hb7 : Below w6.heap.size w6 w7 := by rw [hw7]; exact (Below.refl _ _).alloc (Nat.le_refl _) _
  have hbw6 : Below w.heap.size w w6 := HB5.out.trans (hb6.mono HB5.out.size)
  have hg7 : GrAt w6.heap.size [] 0 (fun k => k = w6.heap.size) w7 := by rw [hw7]; exact new_graph w6 _
  have hq7 : Sq w w6.heap.size [] 0 (fun k => k = w6.heap.size) w7 := ⟨hg7, hbw6.trans (hb7.mono hbw6.size), fun k hk => by rw [hk]; exact hbw6.size⟩
  have l5 : w4.heap.size < w5.heap.size := (Array.getElem?_eq_some_iff.1 HR5.out).1
  have l6 : w5.heap.size < w6.heap.size := (Array.getElem?_eq_some_iff.1 r6).1
  have hx7 : Wd [] (fun k => k = w6.heap.size) w7 (some ⟨w4.heap.size, 0, none⟩) 8 (wordI a 8) := wd_const (row_keep hb7 (row_keep hb6 HR5.out)) (by omega)
  have hy7 : Wd [] (fun k => k = w6.heap.size) w7 (some ⟨w5.heap.size, 0, none⟩) 8 (wordI b 8) := wd_const (row_keep hb7 r6) (by omega)
  have HOF : Hid (Calls Tryd.prog 7 #[.pointer (some ⟨w6.heap.size, 0, none⟩), .string (divS false), .slice (some ⟨w7.heap.size, 0, none⟩) 2 2] (w7.alloc (.cells #[.slice (some ⟨w4.heap.size, 0, none⟩) 8 8, .slice (some ⟨w5.heap.size, 0, none⟩) 8 8] 30)) (DofP w w6.heap.size false a b (fun k => k = w6.heap.size) w7)) := dof_any HS.out hq7 false _ _ 8 8 a b HA.out HB.out hx7 hy7
  have HB47 : Hid (Below w4.heap.size w4 w7) := HB45.out.trans ((hb6.trans (hb7.mono hb6.size)).mono HB45.out.size)
  have HW7 : Hid (w6.alloc (.cells #[.slice none 0 0, .map none, .int .i64 0] 37) = w7) := hw7.symm
  have HL7 : Hid (w6.heap.size + 1 = w7.heap.size) := by unfold Hid; rw [hw7]; simp
  have HR7 : Hid (w7.heap[w3.heap.size]? = some (.cells #[.int .i64 k, .int .i64 n] 24 (0, 0)) ∧ w3.heap.size ≠ w6.heap.size) := ⟨row_keep HB47.out HR4.out, by have := (Array.getElem?_eq_some_iff.1 HR4.out).1; omega⟩
  clear r6 hb6 hw7 hb7 hbw6 hg7 hq7 l5 l6 hx7 hy7
  go_wp2_with fail
  rw [HW7.out, HL7.out]
  refine HOF.out.mono ?_
  rintro e w8 ⟨V, out, tr, gs, F, rfl, h8, hVl, hV, hFV, hq8, hgl, hcnt, hhas, htr, hvt, hnum, hmv⟩
  have HR8 : Hid (w8.heap[w3.heap.size]? = some (.cells #[.int .i64 k, .int .i64 n] 24 (0, 0))) := (hmv.rowKept HR7.out.1 HR7.out.2).1
  have HNV : Hid (V ≠ w3.heap.size) := fun e => by
    have h1 := HR8.out
    rw [← e, hV] at h1
    obtain ⟨_, h3, _⟩ := Obj.cells.inj (Option.some.inj h1)
    exact absurd h3 (by decide)
  have HO : Hid (∀ o', (w8.alloc o').ownsRow 0 38 1 (.slice (some ⟨V, 0, none⟩) 8 8) 8 (out.map (Value.int .i64))) := fun o' => (owns_lits hV h8).alloc o'
  have HN' : Hid _ := World.news_of_block (heap_alloc_new w8 (.cells #[.int .i64 tr] 38))
  have HM : Hid (8 + 1 ≤ maxLen ∧ (8 + 1) * 8 ≤ 140737488355328) := by unfold Hid maxLen; omega
  have HQ8 : Hid (Sq w w6.heap.size gs 0 F w8) := hq8
  have HLS : Hid ((∀ x ∈ out, HasL gs x) ∧ HasL gs tr ∧ gs.length ≤ 1020 ∧ cntI gs = 0 ∧ out.length = 8) := ⟨hhas, htr, hgl, hcnt, h8⟩
  have HVT : Hid (valL gs [] tr = decide (b = 0) ∧ (b ≠ 0 → numW gs [] out = divR false a b % 256)) := ⟨hvt, hnum⟩
  have HFV : Hid (¬ F V ∧ w.heap.size ≤ V) := ⟨hFV, hVl⟩
  clear h8 hVl hV hFV hq8 hgl hcnt hhas htr hvt hnum hmv
  go_wp2_with (first
    | (at_builtin; refine wpList_append_lies _ rfl _ _ 30 rfl 0 38 i0 _ 1 8 Tryd.underlying30 hi0 hz0 hz1 hz2 rfl (by omega) (.slice (some ⟨V, 0, none⟩) 8 8) 8 _ rfl (HO.out _) ⟨w8.heap.size, 0, none⟩ 1 1 [.int .i64 tr] rfl rfl HN'.out (by simp [Value.oneCell']) (by omega) HM.out.1 HM.out.2 (Nat.zero_le _) _ rfl ?_; intro g cap w9 hown9 hgrow hat hlt9)
    | fail)
  have hb81 : Below w8.heap.size w8 (w8.alloc (.cells #[.int .i64 tr] 38)) := (Below.refl _ _).alloc (Nat.le_refl _) _
  have hg9 : GrAt w6.heap.size gs 0 F w9 := grown_gr (HQ8.out.gr.below hb81) hgrow (fun k hk => by
    have : V = k := by simpa [Value.ownBlock] using hk
    subst this; exact HFV.out.1)
  have hbw9 : Below w.heap.size w w9 := by
    have h1 := HQ8.out.bel.trans (hb81.mono HQ8.out.bel.size)
    refine ⟨hgrow.os.trans h1.os, hgrow.tape.trans h1.tape, hgrow.output.trans h1.output, Nat.le_trans h1.size hgrow.size, fun k hk => ?_⟩
    rw [hgrow.block k (Nat.lt_of_lt_of_le hk h1.size) (fun e => by
      have : k = V := by simpa [Value.ownBlock] using e
      have := HFV.out.2; omega)]
    exact h1.block k hk
  have hr9 : w9.heap[w3.heap.size]? = some (.cells #[.int .i64 k, .int .i64 n] 24 (0, 0)) := by
    have h1 := row_keep hb81 HR8.out
    rw [hgrow.block _ (Array.getElem?_eq_some_iff.1 h1).1 (fun e => HNV.out (by simpa [Value.ownBlock] using e.symm))]; exact h1
  have hl9 : (out ++ [tr]).length = 9 := by rw [List.length_append, HLS.out.2.2.2.2]; rfl
  have hown : w9.ownsRow 0 38 1 (.slice (some ⟨g, 0, none⟩) 9 cap) 9 ((out ++ [tr]).map (Value.int .i64)) := by
    rw [List.map_append]; exact hown9
  have hL : ∀ x ∈ out ++ [tr], HasL gs x := fun x hx => by
    rcases List.mem_append.1 hx with hx | hx
    · exact HLS.out.1 x hx
    · simp at hx; rw [hx]; exact HLS.out.2.1
  have hev := eval_ok hg9 (by have := HLS.out.2.2.1; omega) (.slice none 0 0) [] ⟨by unfold maxLen; simp, none, 0, rfl, fun k x hk => by simp at hk⟩ _ (out ++ [tr]) (ints_of_owns hown hl9 (by unfold maxLen; omega)) (fun x hx => (hL x hx).i64 (by have := HLS.out.2.2.1; omega)) rfl (by rw [HLS.out.2.2.2.1]; rfl) (by rw [List.all_eq_true]; intro x hx; exact hasB_t (hL x hx)) (by omega)
  rw [hl9] at hev
  have HEV : Hid (Calls Tryd.prog 8 #[.pointer (some ⟨w6.heap.size, 0, none⟩), .slice none 0 0, .slice (some ⟨g, 0, none⟩) 9 cap] w9 fun e w' => ∃ O, e = .returned (.tuple #[.slice (some ⟨O, 0, none⟩) 9 9, .nilIface]) ∧ w'.heap[O]? = some (.cells (rowB ((out ++ [tr]).map (litV (valsOf gs [])))) 4 (0, 0)) ∧ w9.heap.size ≤ O ∧ Below w9.heap.size w9 w') := hev
  have HB9 : Hid (Below w.heap.size w w9) := hbw9
  have HR9 : Hid (w9.heap[w3.heap.size]? = some (.cells #[.int .i64 k, .int .i64 n] 24 (0, 0))) := hr9
  clear hown9 hgrow hat hlt9 hb81 hg9 hbw9 hr9 hl9 hown hL hev HO HN'
  refine HEV.out.mono ?_
  rintro e w10 ⟨O, rfl, hO, _, hb10⟩
  obtain ⟨L, hLe⟩ : ∃ L, L = (out ++ [tr]).map (litV (valsOf gs [])) := ⟨_, rfl⟩
  rw [← hLe] at hO
  have hl8 : L[8]? = some (decide (b = 0)) := by
    rw [hLe, List.getElem?_map, List.getElem?_append_right (by have := HLS.out.2.2.2.2; omega), HLS.out.2.2.2.2, ← HVT.out.1]; rfl
  have hll : L.length = 9 := by rw [hLe, List.length_map, List.length_append, HLS.out.2.2.2.2]; rfl
  have hpart : natF (fun i => (L.take 8).getD i false) 8 = numW gs [] out := by rw [hLe]; exact bits_part HLS.out.2.2.2.2
  have z0 : w10.cell? ⟨O, 8, none⟩ = some (.bool (decide (b = 0))) := by rw [cell_of_row w10 O _ _ _ (0, 0) hO]; exact rowB_get hl8
  have hbl := bools_part (c := 9) hO 8 (by omega) (by unfold maxLen; omega)
  have HBL : Hid (BoolsAt w10 (.slice (some ⟨O, 0, none⟩) 8 9) (L.take 8)) := hbl
  have HLL : Hid ((L.take 8).length = 8) := by unfold Hid; rw [List.length_take]; omega
  have HPART : Hid (natF (fun i => (L.take 8).getD i false) 8 = numW gs [] out) := hpart
  have HB10 : Hid (Below w.heap.size w w10) := HB9.out.trans (hb10.mono HB9.out.size)
  have HR10 : Hid (w10.heap[w3.heap.size]? = some (.cells #[.int .i64 k, .int .i64 n] 24 (0, 0))) := row_keep hb10 HR9.out
  obtain ⟨ht, hkn⟩ := HKN.out
  clear hO hLe hl8 hll hpart hbl hb10 HEV
  subst ht
  by_cases h0 : b = 0
  · subst h0
    clear hkn
    go_wp2
    go_ret
    exact ⟨rfl, HB10.out⟩
  · obtain ⟨rfl, hn⟩ := hkn h0
    have hv := val_around HLL.out (HPART.out.trans (HVT.out.2 h0))
    have HVAL : Hid (Calls Tryd.prog 9 #[.slice (some ⟨O, 0, none⟩) 8 9] w10 fun e w' => e = .returned (.tuple #[.agg #[.int .i64 2, .int .i64 n], .nilIface]) ∧ Below w10.heap.size w10 w') := by
      have h := value_ok (.slice (some ⟨O, 0, none⟩) 8 9) (L.take 8) w10 HBL.out (Or.inr HLL.out)
      rw [hv.1, hv.2, ← hn] at h
      exact h
    have d0 : decide (b = 0) = false := decide_eq_false h0
    have d5 : (b == 0) = false := by simp [h0]
    rw [d0] at z0
    rw [d0]
    clear hkn hn hv h0
    go_wp2_with fail
    refine HVAL.out.mono ?_
    rintro e w11 ⟨rfl, hb11⟩
    obtain ⟨w12, hw12⟩ : ∃ w12, w12 = w11.alloc (.cells #[.int .i64 2, .int .i64 n] 24) := ⟨_, rfl⟩
    have hb12 : Below w11.heap.size w11 w12 := by rw [hw12]; exact (Below.refl _ _).alloc (Nat.le_refl _) _
    have hr12 := row_keep hb12 (row_keep hb11 HR10.out)
    have hs12 : w12.heap[w11.heap.size]? = some (.cells #[.int .i64 2, .int .i64 n] 24 (0, 0)) := by rw [hw12]; exact heap_alloc_new _ _
    have y0 : w12.cell? ⟨w3.heap.size, 0, none⟩ = some (.int .i64 2) := by rw [cell_of_row w12 _ _ _ _ (0, 0) hr12]; rfl
    have y1 : w12.cell? ⟨w3.heap.size, 0 + 1, none⟩ = some (.int .i64 n) := by rw [cell_of_row w12 _ _ _ _ (0, 0) hr12]; rfl
    have y2 : w12.cell? ⟨w11.heap.size, 0, none⟩ = some (.int .i64 2) := by rw [cell_of_row w12 _ _ _ _ (0, 0) hs12]; rfl
    have y3 : w12.cell? ⟨w11.heap.size, 0 + 1, none⟩ = some (.int .i64 n) := by rw [cell_of_row w12 _ _ _ _ (0, 0) hs12]; rfl
    have HB12 : Hid (Below w.heap.size w w12) := (HB10.out.trans (hb11.mono HB10.out.size)).trans (hb12.mono (HB10.out.trans (hb11.mono HB10.out.size)).size)
    have HW12 : Hid (w11.alloc (.cells #[.int .i64 2, .int .i64 n] 24) = w12) := hw12.symm
    rw [hw12] at y0 y1 y2 y3
    clear hb11 hb12 hr12 hs12 hw12 z0
    go_wp2
    go_ret
    exact ⟨rfl, by rw [HW12.out]; exact HB12.out⟩
set_option maxRecDepth 100000 in
set_option maxHeartbeats 4000000 in
theorem gates_mod (w : World) (S : Errs w) (a b : Int) (ha : -128 ≤ a ∧ a ≤ 127) (hb : -128 ≤ b ∧ b ≤ 127) :
    Calls Tryd.prog 3 #[.string ⟨#[109, 111, 100]⟩, .int .i64 a, .int .i64 b] w fun e w' => e = .returned (.bool true) ∧ Below w.heap.size w w' := by
  have HS : Hid (Errs w) := S
  have HA : Hid (-128 ≤ a ∧ a ≤ 127) := ha
  have HB : Hid (-128 ≤ b ∧ b ≤ 127) := hb
  have d1 : (a < -128) = False := eq_false (by omega)
  have d2 : (127 < a) = False := eq_false (by omega)
  have d3 : (b < -128) = False := eq_false (by omega)
  have d4 : (127 < b) = False := eq_false (by omega)
  obtain ⟨i0, hi0, hz0, hz1, hz2⟩ := info_parts Tryd.infoLit
  clear S ha hb
  go_enter Tryd.func3, Tryd.ntmps3
  go_wp2_with fail
  refine (five_any w).mono ?_
  rintro e w1 ⟨rfl, hb1⟩
  have HB1 : Hid (Below w.heap.size w w1) := hb1
  obtain ⟨w2, hw2⟩ : ∃ w2, w2 = w1.alloc (.cells #[.int .i64 2, .int .i64 a, .int .i64 2, .int .i64 b] 24) := ⟨_, rfl⟩
  have hb2 : Below w1.heap.size w1 w2 := by rw [hw2]; exact (Below.refl _ _).alloc (Nat.le_refl _) _
  have HB2 : Hid (Below w.heap.size w w2) := hb1.trans (hb2.mono hb1.size)
  have HV2 : Hid (ValsAt w2 (.slice (some ⟨w1.heap.size, 0, none⟩) 2 2) [(2, a), (2, b)]) := by unfold Hid; rw [hw2]; exact vals_two w1 2 a 2 b _
  have HW2 : Hid (w1.alloc (.cells #[.int .i64 2, .int .i64 a, .int .i64 2, .int .i64 b] 24) = w2) := hw2.symm
  clear hb1 hb2 hw2
  go_wp2_with fail
  rw [HW2.out]
  refine (fapply_one w2 (HS.out.below HB2.out) true _ _ a b HA.out HB.out HV2.out).mono ?_
  rintro e w3 ⟨hb3, k, n, t, rfl, ht, hkn⟩
  obtain ⟨w4, hw4⟩ : ∃ w4, w4 = w3.alloc (.cells #[.int .i64 k, .int .i64 n] 24) := ⟨_, rfl⟩
  have hb4 : Below w3.heap.size w3 w4 := by rw [hw4]; exact (Below.refl _ _).alloc (Nat.le_refl _) _
  have hbw3 : Below w.heap.size w w3 := HB2.out.trans (hb3.mono HB2.out.size)
  have HB4 : Hid (Below w.heap.size w w4) := hbw3.trans (hb4.mono hbw3.size)
  have HR4 : Hid (w4.heap[w3.heap.size]? = some (.cells #[.int .i64 k, .int .i64 n] 24 (0, 0))) := by unfold Hid; rw [hw4]; exact heap_alloc_new _ _
  have HW4 : Hid (w3.alloc (.cells #[.int .i64 k, .int .i64 n] 24) = w4) := hw4.symm
  have HKN : Hid (t = decide (b = 0) ∧ (b ≠ 0 → k = 2 ∧ n = aroundI (divR true a b))) := ⟨ht, hkn⟩
  clear hb3 hb4 hbw3 hw4 ht hkn d1 d2 d3 d4
  go_wp2_with fail
  rw [HW4.out]
  refine (const_ok a (by unfold isB; have := HA.out; rw [decide_eq_true (show -128 ≤ a by omega), decide_eq_true (show a < 128 by omega)]; rfl) w4).mono ?_
  rintro e w5 ⟨rfl, r5, hb5⟩
  have HB5 : Hid (Below w.heap.size w w5) := HB4.out.trans (hb5.mono HB4.out.size)
  have HB45 : Hid (Below w4.heap.size w4 w5) := hb5
  have HR5 : Hid (w5.heap[w4.heap.size]? = some (.cells (rowI (wordI a 8)) 38 (0, 0))) := r5
  clear r5 hb5
  go_wp2_with fail
  refine (const_ok b (by unfold isB; have := HB.out; rw [decide_eq_true (show -128 ≤ b by omega), decide_eq_true (show b < 128 by omega)]; rfl) w5).mono ?_
  rintro e w6 ⟨rfl, r6, hb6⟩
  obtain ⟨w7, hw7⟩ : ∃ w7, w7 = w6.alloc (.cells #[.slice none 0 0, .map none, .int .i64 0] 37) := ⟨_, rfl⟩
  have hb7 : Below w6.heap.size w6 w7 := by rw [hw7]; exact (Below.refl _ _).alloc (Nat.le_refl _) _
  have hbw6 : Below w.heap.size w w6 := HB5.out.trans (hb6.mono HB5.out.size)
  have hg7 : GrAt w6.heap.size [] 0 (fun k => k = w6.heap.size) w7 := by rw [hw7]; exact new_graph w6 _
  have hq7 : Sq w w6.heap.size [] 0 (fun k => k = w6.heap.size) w7 := ⟨hg7, hbw6.trans (hb7.mono hbw6.size), fun k hk => by rw [hk]; exact hbw6.size⟩
  have l5 : w4.heap.size < w5.heap.size := (Array.getElem?_eq_some_iff.1 HR5.out).1
  have l6 : w5.heap.size < w6.heap.size := (Array.getElem?_eq_some_iff.1 r6).1
  have hx7 : Wd [] (fun k => k = w6.heap.size) w7 (some ⟨w4.heap.size, 0, none⟩) 8 (wordI a 8) := wd_const (row_keep hb7 (row_keep hb6 HR5.out)) (by omega)
  have hy7 : Wd [] (fun k => k = w6.heap.size) w7 (some ⟨w5.heap.size, 0, none⟩) 8 (wordI b 8) := wd_const (row_keep hb7 r6) (by omega)
  have HOF : Hid (Calls Tryd.prog 7 #[.pointer (some ⟨w6.heap.size, 0, none⟩), .string (divS true), .slice (some ⟨w7.heap.size, 0, none⟩) 2 2] (w7.alloc (.cells #[.slice (some ⟨w4.heap.size, 0, none⟩) 8 8, .slice (some ⟨w5.heap.size, 0, none⟩) 8 8] 30)) (DofP w w6.heap.size true a b (fun k => k = w6.heap.size) w7)) := dof_any HS.out hq7 true _ _ 8 8 a b HA.out HB.out hx7 hy7
  have HB47 : Hid (Below w4.heap.size w4 w7) := HB45.out.trans ((hb6.trans (hb7.mono hb6.size)).mono HB45.out.size)
  have HW7 : Hid (w6.alloc (.cells #[.slice none 0 0, .map none, .int .i64 0] 37) = w7) := hw7.symm
  have HL7 : Hid (w6.heap.size + 1 = w7.heap.size) := by unfold Hid; rw [hw7]; simp
  have HR7 : Hid (w7.heap[w3.heap.size]? = some (.cells #[.int .i64 k, .int .i64 n] 24 (0, 0)) ∧ w3.heap.size ≠ w6.heap.size) := ⟨row_keep HB47.out HR4.out, by have := (Array.getElem?_eq_some_iff.1 HR4.out).1; omega⟩
  clear r6 hb6 hw7 hb7 hbw6 hg7 hq7 l5 l6 hx7 hy7
  go_wp2_with fail
  rw [HW7.out, HL7.out]
  refine HOF.out.mono ?_
  rintro e w8 ⟨V, out, tr, gs, F, rfl, h8, hVl, hV, hFV, hq8, hgl, hcnt, hhas, htr, hvt, hnum, hmv⟩
  have HR8 : Hid (w8.heap[w3.heap.size]? = some (.cells #[.int .i64 k, .int .i64 n] 24 (0, 0))) := (hmv.rowKept HR7.out.1 HR7.out.2).1
  have HNV : Hid (V ≠ w3.heap.size) := fun e => by
    have h1 := HR8.out
    rw [← e, hV] at h1
    obtain ⟨_, h3, _⟩ := Obj.cells.inj (Option.some.inj h1)
    exact absurd h3 (by decide)
  have HO : Hid (∀ o', (w8.alloc o').ownsRow 0 38 1 (.slice (some ⟨V, 0, none⟩) 8 8) 8 (out.map (Value.int .i64))) := fun o' => (owns_lits hV h8).alloc o'
  have HN' : Hid _ := World.news_of_block (heap_alloc_new w8 (.cells #[.int .i64 tr] 38))
  have HM : Hid (8 + 1 ≤ maxLen ∧ (8 + 1) * 8 ≤ 140737488355328) := by unfold Hid maxLen; omega
  have HQ8 : Hid (Sq w w6.heap.size gs 0 F w8) := hq8
  have HLS : Hid ((∀ x ∈ out, HasL gs x) ∧ HasL gs tr ∧ gs.length ≤ 1020 ∧ cntI gs = 0 ∧ out.length = 8) := ⟨hhas, htr, hgl, hcnt, h8⟩
  have HVT : Hid (valL gs [] tr = decide (b = 0) ∧ (b ≠ 0 → numW gs [] out = divR true a b % 256)) := ⟨hvt, hnum⟩
  have HFV : Hid (¬ F V ∧ w.heap.size ≤ V) := ⟨hFV, hVl⟩
  clear h8 hVl hV hFV hq8 hgl hcnt hhas htr hvt hnum hmv
  go_wp2_with (first
    | (at_builtin; refine wpList_append_lies _ rfl _ _ 30 rfl 0 38 i0 _ 1 8 Tryd.underlying30 hi0 hz0 hz1 hz2 rfl (by omega) (.slice (some ⟨V, 0, none⟩) 8 8) 8 _ rfl (HO.out _) ⟨w8.heap.size, 0, none⟩ 1 1 [.int .i64 tr] rfl rfl HN'.out (by simp [Value.oneCell']) (by omega) HM.out.1 HM.out.2 (Nat.zero_le _) _ rfl ?_; intro g cap w9 hown9 hgrow hat hlt9)
    | fail)
  have hb81 : Below w8.heap.size w8 (w8.alloc (.cells #[.int .i64 tr] 38)) := (Below.refl _ _).alloc (Nat.le_refl _) _
  have hg9 : GrAt w6.heap.size gs 0 F w9 := grown_gr (HQ8.out.gr.below hb81) hgrow (fun k hk => by
    have : V = k := by simpa [Value.ownBlock] using hk
    subst this; exact HFV.out.1)
  have hbw9 : Below w.heap.size w w9 := by
    have h1 := HQ8.out.bel.trans (hb81.mono HQ8.out.bel.size)
    refine ⟨hgrow.os.trans h1.os, hgrow.tape.trans h1.tape, hgrow.output.trans h1.output, Nat.le_trans h1.size hgrow.size, fun k hk => ?_⟩
    rw [hgrow.block k (Nat.lt_of_lt_of_le hk h1.size) (fun e => by
      have : k = V := by simpa [Value.ownBlock] using e
      have := HFV.out.2; omega)]
    exact h1.block k hk
  have hr9 : w9.heap[w3.heap.size]? = some (.cells #[.int .i64 k, .int .i64 n] 24 (0, 0)) := by
    have h1 := row_keep hb81 HR8.out
    rw [hgrow.block _ (Array.getElem?_eq_some_iff.1 h1).1 (fun e => HNV.out (by simpa [Value.ownBlock] using e.symm))]; exact h1
  have hl9 : (out ++ [tr]).length = 9 := by rw [List.length_append, HLS.out.2.2.2.2]; rfl
  have hown : w9.ownsRow 0 38 1 (.slice (some ⟨g, 0, none⟩) 9 cap) 9 ((out ++ [tr]).map (Value.int .i64)) := by
    rw [List.map_append]; exact hown9
  have hL : ∀ x ∈ out ++ [tr], HasL gs x := fun x hx => by
    rcases List.mem_append.1 hx with hx | hx
    · exact HLS.out.1 x hx
    · simp at hx; rw [hx]; exact HLS.out.2.1
  have hev := eval_ok hg9 (by have := HLS.out.2.2.1; omega) (.slice none 0 0) [] ⟨by unfold maxLen; simp, none, 0, rfl, fun k x hk => by simp at hk⟩ _ (out ++ [tr]) (ints_of_owns hown hl9 (by unfold maxLen; omega)) (fun x hx => (hL x hx).i64 (by have := HLS.out.2.2.1; omega)) rfl (by rw [HLS.out.2.2.2.1]; rfl) (by rw [List.all_eq_true]; intro x hx; exact hasB_t (hL x hx)) (by omega)
  rw [hl9] at hev
  have HEV : Hid (Calls Tryd.prog 8 #[.pointer (some ⟨w6.heap.size, 0, none⟩), .slice none 0 0, .slice (some ⟨g, 0, none⟩) 9 cap] w9 fun e w' => ∃ O, e = .returned (.tuple #[.slice (some ⟨O, 0, none⟩) 9 9, .nilIface]) ∧ w'.heap[O]? = some (.cells (rowB ((out ++ [tr]).map (litV (valsOf gs [])))) 4 (0, 0)) ∧ w9.heap.size ≤ O ∧ Below w9.heap.size w9 w') := hev
  have HB9 : Hid (Below w.heap.size w w9) := hbw9
  have HR9 : Hid (w9.heap[w3.heap.size]? = some (.cells #[.int .i64 k, .int .i64 n] 24 (0, 0))) := hr9
  clear hown9 hgrow hat hlt9 hb81 hg9 hbw9 hr9 hl9 hown hL hev HO HN'
  refine HEV.out.mono ?_
  rintro e w10 ⟨O, rfl, hO, _, hb10⟩
  obtain ⟨L, hLe⟩ : ∃ L, L = (out ++ [tr]).map (litV (valsOf gs [])) := ⟨_, rfl⟩
  rw [← hLe] at hO
  have hl8 : L[8]? = some (decide (b = 0)) := by
    rw [hLe, List.getElem?_map, List.getElem?_append_right (by have := HLS.out.2.2.2.2; omega), HLS.out.2.2.2.2, ← HVT.out.1]; rfl
  have hll : L.length = 9 := by rw [hLe, List.length_map, List.length_append, HLS.out.2.2.2.2]; rfl
  have hpart : natF (fun i => (L.take 8).getD i false) 8 = numW gs [] out := by rw [hLe]; exact bits_part HLS.out.2.2.2.2
  have z0 : w10.cell? ⟨O, 8, none⟩ = some (.bool (decide (b = 0))) := by rw [cell_of_row w10 O _ _ _ (0, 0) hO]; exact rowB_get hl8
  have hbl := bools_part (c := 9) hO 8 (by omega) (by unfold maxLen; omega)
  have HBL : Hid (BoolsAt w10 (.slice (some ⟨O, 0, none⟩) 8 9) (L.take 8)) := hbl
  have HLL : Hid ((L.take 8).length = 8) := by unfold Hid; rw [List.length_take]; omega
  have HPART : Hid (natF (fun i => (L.take 8).getD i false) 8 = numW gs [] out) := hpart
  have HB10 : Hid (Below w.heap.size w w10) := HB9.out.trans (hb10.mono HB9.out.size)
  have HR10 : Hid (w10.heap[w3.heap.size]? = some (.cells #[.int .i64 k, .int .i64 n] 24 (0, 0))) := row_keep hb10 HR9.out
  obtain ⟨ht, hkn⟩ := HKN.out
  clear hO hLe hl8 hll hpart hbl hb10 HEV
  subst ht
  by_cases h0 : b = 0
  · subst h0
    clear hkn
    go_wp2
    go_ret
    exact ⟨rfl, HB10.out⟩
  · obtain ⟨rfl, hn⟩ := hkn h0
    have hv := val_around HLL.out (HPART.out.trans (HVT.out.2 h0))
    have HVAL : Hid (Calls Tryd.prog 9 #[.slice (some ⟨O, 0, none⟩) 8 9] w10 fun e w' => e = .returned (.tuple #[.agg #[.int .i64 2, .int .i64 n], .nilIface]) ∧ Below w10.heap.size w10 w') := by
      have h := value_ok (.slice (some ⟨O, 0, none⟩) 8 9) (L.take 8) w10 HBL.out (Or.inr HLL.out)
      rw [hv.1, hv.2, ← hn] at h
      exact h
    have d0 : decide (b = 0) = false := decide_eq_false h0
    have d5 : (b == 0) = false := by simp [h0]
    rw [d0] at z0
    rw [d0]
    clear hkn hn hv h0
    go_wp2_with fail
    refine HVAL.out.mono ?_
    rintro e w11 ⟨rfl, hb11⟩
    obtain ⟨w12, hw12⟩ : ∃ w12, w12 = w11.alloc (.cells #[.int .i64 2, .int .i64 n] 24) := ⟨_, rfl⟩
    have hb12 : Below w11.heap.size w11 w12 := by rw [hw12]; exact (Below.refl _ _).alloc (Nat.le_refl _) _
    have hr12 := row_keep hb12 (row_keep hb11 HR10.out)
    have hs12 : w12.heap[w11.heap.size]? = some (.cells #[.int .i64 2, .int .i64 n] 24 (0, 0)) := by rw [hw12]; exact heap_alloc_new _ _
    have y0 : w12.cell? ⟨w3.heap.size, 0, none⟩ = some (.int .i64 2) := by rw [cell_of_row w12 _ _ _ _ (0, 0) hr12]; rfl
    have y1 : w12.cell? ⟨w3.heap.size, 0 + 1, none⟩ = some (.int .i64 n) := by rw [cell_of_row w12 _ _ _ _ (0, 0) hr12]; rfl
    have y2 : w12.cell? ⟨w11.heap.size, 0, none⟩ = some (.int .i64 2) := by rw [cell_of_row w12 _ _ _ _ (0, 0) hs12]; rfl
    have y3 : w12.cell? ⟨w11.heap.size, 0 + 1, none⟩ = some (.int .i64 n) := by rw [cell_of_row w12 _ _ _ _ (0, 0) hs12]; rfl
    have HB12 : Hid (Below w.heap.size w w12) := (HB10.out.trans (hb11.mono HB10.out.size)).trans (hb12.mono (HB10.out.trans (hb11.mono HB10.out.size)).size)
    have HW12 : Hid (w11.alloc (.cells #[.int .i64 2, .int .i64 n] 24) = w12) := hw12.symm
    rw [hw12] at y0 y1 y2 y3
    clear hb11 hb12 hr12 hs12 hw12 z0
    go_wp2
    go_ret
    exact ⟨rfl, by rw [HW12.out]; exact HB12.out⟩
set_option maxRecDepth 100000 in
set_option maxHeartbeats 4000000 in
theorem gates_off (w : World) (s : ByteArray) (a b : Int) (hab : ¬ ((-128 ≤ a ∧ a ≤ 127) ∧ (-128 ≤ b ∧ b ≤ 127))) (hs : s = ⟨#[47]⟩ ∨ s = ⟨#[109, 111, 100]⟩) :
    Calls Tryd.prog 3 #[.string s, .int .i64 a, .int .i64 b] w fun e w' => e = .returned (.bool true) ∧ Below w.heap.size w w' := by
  rcases hs with rfl | rfl
  · by_cases h1 : a < -128
    · have d1 : (a < -128) = True := eq_true h1
      clear hab h1
      go_enter Tryd.func3, Tryd.ntmps3
      go_wp2_with (go_at_call 4; refine (five_any w).mono ?_; rintro e w1 ⟨rfl, hb1⟩)
      go_ret
      exact ⟨rfl, hb1⟩
    · by_cases h2 : 127 < a
      · have d1 : (a < -128) = False := eq_false h1
        have d2 : (127 < a) = True := eq_true h2
        clear hab h1 h2
        go_enter Tryd.func3, Tryd.ntmps3
        go_wp2_with (go_at_call 4; refine (five_any w).mono ?_; rintro e w1 ⟨rfl, hb1⟩)
        go_ret
        exact ⟨rfl, hb1⟩
      · by_cases h3 : b < -128
        · have d1 : (a < -128) = False := eq_false h1
          have d2 : (127 < a) = False := eq_false h2
          have d3 : (b < -128) = True := eq_true h3
          clear hab h1 h2 h3
          go_enter Tryd.func3, Tryd.ntmps3
          go_wp2_with (go_at_call 4; refine (five_any w).mono ?_; rintro e w1 ⟨rfl, hb1⟩)
          go_ret
          exact ⟨rfl, hb1⟩
        · have d1 : (a < -128) = False := eq_false h1
          have d2 : (127 < a) = False := eq_false h2
          have d3 : (b < -128) = False := eq_false h3
          have d4 : (127 < b) = True := eq_true (by omega)
          clear hab h1 h2 h3
          go_enter Tryd.func3, Tryd.ntmps3
          go_wp2_with (go_at_call 4; refine (five_any w).mono ?_; rintro e w1 ⟨rfl, hb1⟩)
          go_ret
          exact ⟨rfl, hb1⟩
  · by_cases h1 : a < -128
    · have d1 : (a < -128) = True := eq_true h1
      clear hab h1
      go_enter Tryd.func3, Tryd.ntmps3
      go_wp2_with (go_at_call 4; refine (five_any w).mono ?_; rintro e w1 ⟨rfl, hb1⟩)
      go_ret
      exact ⟨rfl, hb1⟩
    · by_cases h2 : 127 < a
      · have d1 : (a < -128) = False := eq_false h1
        have d2 : (127 < a) = True := eq_true h2
        clear hab h1 h2
        go_enter Tryd.func3, Tryd.ntmps3
        go_wp2_with (go_at_call 4; refine (five_any w).mono ?_; rintro e w1 ⟨rfl, hb1⟩)
        go_ret
        exact ⟨rfl, hb1⟩
      · by_cases h3 : b < -128
        · have d1 : (a < -128) = False := eq_false h1
          have d2 : (127 < a) = False := eq_false h2
          have d3 : (b < -128) = True := eq_true h3
          clear hab h1 h2 h3
          go_enter Tryd.func3, Tryd.ntmps3
          go_wp2_with (go_at_call 4; refine (five_any w).mono ?_; rintro e w1 ⟨rfl, hb1⟩)
          go_ret
          exact ⟨rfl, hb1⟩
        · have d1 : (a < -128) = False := eq_false h1
          have d2 : (127 < a) = False := eq_false h2
          have d3 : (b < -128) = False := eq_false h3
          have d4 : (127 < b) = True := eq_true (by omega)
          clear hab h1 h2 h3
          go_enter Tryd.func3, Tryd.ntmps3
          go_wp2_with (go_at_call 4; refine (five_any w).mono ?_; rintro e w1 ⟨rfl, hb1⟩)
          go_ret
          exact ⟨rfl, hb1⟩
set_option maxRecDepth 100000 in
set_option maxHeartbeats 4000000 in
theorem flowgates_walk (w : World) (S : Errs w) (s : ByteArray) (a b : Int) :
    Calls Tryd.prog 3 #[.string s, .int .i64 a, .int .i64 b] w fun e w' => e = .returned (.bool true) ∧ Below w.heap.size w w' := by
  have HS : Hid (Errs w) := S
  by_cases h1 : s = ⟨#[47]⟩
  · subst h1
    by_cases hab : (-128 ≤ a ∧ a ≤ 127) ∧ (-128 ≤ b ∧ b ≤ 127)
    · exact gates_div w S a b hab.1 hab.2
    · exact gates_off w _ a b hab (Or.inl rfl)
  · by_cases h2 : s = ⟨#[109, 111, 100]⟩
    · subst h2
      by_cases hab : (-128 ≤ a ∧ a ≤ 127) ∧ (-128 ≤ b ∧ b ≤ 127)
      · exact gates_mod w S a b hab.1 hab.2
      · exact gates_off w _ a b hab (Or.inr rfl)
    · have key : ∀ l : Array UInt8, s ≠ ⟨l⟩ → (s.toList == l.toList) = false := fun l h => by
        rw [beq_eq_false_iff_ne, ByteArray.toList_eq]
        intro e
        apply h
        obtain ⟨d⟩ := s
        exact congrArg ByteArray.mk (Array.toList_inj.1 e)
      have d1 : (s.toList == [47]) = false := key #[47] h1
      have d2 : (s.toList == [109, 111, 100]) = false := key #[109, 111, 100] h2
      have d3 : (s.toList != [47]) = true := by unfold bne; rw [d1]; rfl
      have d4 : (s.toList != [109, 111, 100]) = true := by unfold bne; rw [d2]; rfl
      clear key h1 h2
      clear S
      go_enter Tryd.func3, Tryd.ntmps3
      go_wp2_with (go_at_call 4; refine (five_any w).mono ?_; rintro e w1 ⟨rfl, hb1⟩)
      go_ret
      exact ⟨rfl, hb1⟩
end Go.Proofs.YtgcaohpaopemnaaDoor
