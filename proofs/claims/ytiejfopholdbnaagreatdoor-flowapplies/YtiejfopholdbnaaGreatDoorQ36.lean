/-
  package flow: Apply of any operator, BY CONTRACT.
-/
import Derived.Test.YtiejfopholdbnaaGreatDoorQ35
namespace Go.Proofs.YtiejfopholdbnaaGreatDoor
open Go.RowKit Go.Maps
set_option maxRecDepth 100000
set_option maxHeartbeats 4000000

theorem resK_shp {op : List UInt8} {ps : List Int} (h : shpK op ps = true) : resK op ps = none := by
 unfold shpK at h
 unfold resK
 cases hs : signRow op with
 | none => rfl
 | some x =>
  obtain ⟨tk, gv⟩ := x
  rw [hs] at h
  simp only at h ⊢
  rw [if_neg (by simpa using h)]
theorem ops_some {W : World} {B : Nat} (hO : OpsAt W B) {t : List UInt8 × Nat × Int × Int} (h : t ∈ sigL) : ∃ f n, FnAt W B n f ∧ ∃ v, f t.1 = some v := by
 obtain ⟨f, n, hF, h4, h5, h6, h7⟩ := hO
 refine ⟨f, n, hF, ?_⟩
 rcases sig_mem h with rfl | rfl | rfl | rfl | rfl | rfl | rfl | rfl | rfl | rfl | rfl | rfl | rfl | rfl | rfl | rfl | rfl | rfl
 ·exact ⟨fnV 111, (h7 [110, 111, 116] (by rfl) (by rfl) (by rfl)).trans (by rfl)⟩
 ·exact ⟨fnV 112, (h7 [110, 101, 103] (by rfl) (by rfl) (by rfl)).trans (by rfl)⟩
 ·exact ⟨fnV 114, (h7 [105, 102] (by rfl) (by rfl) (by rfl)).trans (by rfl)⟩
 ·obtain ⟨p, e1, _⟩ := h6 [97, 110, 100] (fnV 158) (by rfl)
  exact ⟨_, e1⟩
 ·obtain ⟨p, e1, _⟩ := h6 [111, 114] (fnV 159) (by rfl)
  exact ⟨_, e1⟩
 ·obtain ⟨p, e1, _⟩ := h6 [120, 111, 114] (fnV 160) (by rfl)
  exact ⟨_, e1⟩
 ·obtain ⟨p, e1, _⟩ := h6 [61, 62] (fnV 161) (by rfl)
  exact ⟨_, e1⟩
 ·obtain ⟨p, e1, _⟩ := h6 [61] (fnV 162) (by rfl)
  exact ⟨_, e1⟩
 ·obtain ⟨p, e1, _⟩ := h6 [60, 62] (fnV 163) (by rfl)
  exact ⟨_, e1⟩
 ·obtain ⟨p, e1, _⟩ := h6 [60] (fnV 164) (by rfl)
  exact ⟨_, e1⟩
 ·obtain ⟨p, e1, _⟩ := h6 [60, 61] (fnV 165) (by rfl)
  exact ⟨_, e1⟩
 ·obtain ⟨p, e1, _⟩ := h6 [62] (fnV 166) (by rfl)
  exact ⟨_, e1⟩
 ·obtain ⟨p, e1, _⟩ := h6 [62, 61] (fnV 167) (by rfl)
  exact ⟨_, e1⟩
 ·obtain ⟨p, e1, _⟩ := h4 [43] (fnV 153) (by rfl)
  exact ⟨_, e1⟩
 ·obtain ⟨p, e1, _⟩ := h4 [45] (fnV 154) (by rfl)
  exact ⟨_, e1⟩
 ·obtain ⟨p, e1, _⟩ := h4 [42] (fnV 155) (by rfl)
  exact ⟨_, e1⟩
 ·obtain ⟨p, e1, _⟩ := h5 [47] (fnV 156) (by rfl)
  exact ⟨_, e1⟩
 ·obtain ⟨p, e1, _⟩ := h5 [109, 111, 100] (fnV 157) (by rfl)
  exact ⟨_, e1⟩
def DoV (op : List UInt8) (l : List (Int × Int)) (W : World) (v : Value) : Prop :=
 allR l = true → ∀ k, resK op (l.map Prod.fst) = some k → isI op l = 0 ∧ ∃ r tr, appT op l = (if tr = true then ((0, 0), true) else ((k, r), false)) ∧ ∃ fid cap, v = .func (.func fid) #[] cap ∧ Six fid cap ∧ ∀ w x, Below W.heap.size W w → KindsAt w x (l.map Prod.snd) → Calls Tryz.prog fid (#[x] ++ cap) w fun e w' => e = .returned (.tuple #[.int .i64 r, .bool tr]) ∧ Below w.heap.size w w'
theorem ops_do {W : World} {B : Nat} (hO : OpsAt W B) {t : List UInt8 × Nat × Int × Int} (h : t ∈ sigL) (l : List (Int × Int)) : ∃ f n, FnAt W B n f ∧ ∃ v, f t.1 = some v ∧ DoV t.1 l W v := by
 by_cases hc : l.length = t.2.1 ∧ allR l = true
 ·rcases ap_all t h l hc.1 hc.2 with ⟨_, hn⟩ | ⟨h0, k, r, tr, hk, ha, hd⟩
  ·obtain ⟨f, n, hF, v, hv⟩ := ops_some hO h
   exact ⟨f, n, hF, v, hv, fun _ k hk => by rw [hn] at hk; cases hk⟩
  ·obtain ⟨f, n, hF, fid, cap, hv, h6, hg⟩ := hd W B hO
   refine ⟨f, n, hF, _, hv, fun _ k' hk' => ?_⟩
   obtain rfl : k = k' := Option.some.inj (hk.symm.trans hk')
   exact ⟨h0, r, tr, ha, fid, cap, rfl, h6, hg⟩
 ·obtain ⟨f, n, hF, v, hv⟩ := ops_some hO h
  refine ⟨f, n, hF, v, hv, fun hr k hk => ?_⟩
  have hl : l.length ≠ t.2.1 := fun e => hc ⟨e, hr⟩
  have : shpK t.1 (l.map Prod.fst) = true := by rw [sig_shp t h, List.length_map, decide_eq_false hl]; rfl
  rw [resK_shp this] at hk
  cases hk
theorem is_shp {t : List UInt8 × Nat × Int × Int} (h : t ∈ sigL) (l : List (Int × Int)) (hs : shpK t.1 (l.map Prod.fst) = true) : isI t.1 l = 3 := by
 rw [isI_of t (sig_find t h), if_neg]
 rw [sig_shp t h, List.length_map] at hs
 intro e
 rw [decide_eq_true e.symm] at hs
 cases hs
theorem is_typ {t : List UInt8 × Nat × Int × Int} (h : t ∈ sigL) (l : List (Int × Int)) (hs : shpK t.1 (l.map Prod.fst) = false) (hr : allR l = false ∨ resK t.1 (l.map Prod.fst) = none) : isI t.1 l = 5 := by
 rw [sig_shp t h, List.length_map] at hs
 have hl : l.length = t.2.1 := by simpa using hs
 cases ha : allR l with
 | false => rw [isI_of t (sig_find t h), if_pos hl.symm, ha]; rfl
 | true =>
  rcases hr with hr | hr
  ·rw [ha] at hr; cases hr
  ·rcases ap_all t h l hl ha with ⟨h5, _⟩ | ⟨_, k, _, _, hk, _⟩
   ·exact h5
   ·rw [hk] at hr; cases hr
def ApR (op : List UInt8) (l : List (Int × Int)) (st et : TypeId) (sq eq : Value) (e : Ending) : Prop :=
 (isI op l = 3 ∧ e = .returned (.tuple #[.agg #[.int .i64 0, .int .i64 0], .bool false, .iface st sq])) ∨
 (isI op l = 5 ∧ e = .returned (.tuple #[.agg #[.int .i64 0, .int .i64 0], .bool false, .iface et eq])) ∨
 (isI op l = 0 ∧ e = .returned (.tuple #[.agg #[.int .i64 (appT op l).1.1, .int .i64 (appT op l).1.2], .bool (appT op l).2, .nilIface]))
theorem fapply_all (w : World) (op : ByteArray) (hs : op.size ≤ maxLen) (o : Option Addr) (n c : Nat) (l : List (Int × Int)) (hv : ValsAt w (.slice o n c) l) (hn : n = l.length) (hl : l.length ≤ 10) (et st : TypeId) (eq sq : Value) (he : w.cell? ⟨3, 0, none⟩ = some (.iface et eq)) (hsh : w.cell? ⟨4, 0, none⟩ = some (.iface st sq)) :
  Calls Tryz.prog 26 #[.string op, .slice o n c] w fun e w' => Below w.heap.size w w' ∧ ApR op.data.toList l st et sq eq e := by
 obtain ⟨w1, hw1⟩ : ∃ w1, w1 = w.alloc (.cells #[.int .i64 0, .int .i64 0] 66) := ⟨_, rfl⟩
 obtain ⟨V, hV⟩ : ∃ V, V = w.heap.size := ⟨_, rfl⟩
 have hb1 : Below w.heap.size w w1 := by rw [hw1]; exact bal
 have HR1 : Hid (w1.heap[V]? = some (.cells #[.int .i64 0, .int .i64 0] 66 (0, 0))) := by unfold Hid; rw [hw1, hV]; exact heap_alloc_new _ _
 have HB1 := hidP hb1
 have HW1 : Hid (w.alloc (.cells #[.int .i64 0, .int .i64 0] 66) = w1 ∧ w.heap.size = V) := ⟨hw1.symm, hV.symm⟩
 have HV : Hid (ValsAt w (.slice o n c) l ∧ n = l.length ∧ l.length ≤ 10) := ⟨hv, hn, hl⟩
 have HE : Hid (w.cell? ⟨3, 0, none⟩ = some (.iface et eq) ∧ w.cell? ⟨4, 0, none⟩ = some (.iface st sq) ∧ op.size ≤ maxLen) := ⟨he, hsh, hs⟩
 -- what is stored at the end
 have HEND : Hid (∀ W (k r : Int), Below w1.heap.size w1 W → ∃ wf, wf = (W.setCell ⟨V, 0, none⟩ (.int .i64 k)).setCell ⟨V, 1, none⟩ (.int .i64 r) ∧ wf.cell? ⟨V, 0, none⟩ = some (.int .i64 k) ∧ wf.cell? ⟨V, 1, none⟩ = some (.int .i64 r) ∧ Below w.heap.size w wf) := fun W k r hW => by
  have hr7 := row_keep hW HR1.out
  have hr8 : ((W.setCell ⟨V, 0, none⟩ (.int .i64 k)).setCell ⟨V, 1, none⟩ (.int .i64 r)).heap[V]? = some (.cells #[.int .i64 k, .int .i64 r] 66 (0, 0)) := heap_setCell_at (i := 1) (heap_setCell_at (i := 0) hr7 _) _
  refine ⟨_, rfl, cr hr8 rfl, cr hr8 rfl, ?_⟩
  exact ((HB1.out.trans (hW.mono HB1.out.size)).setCell (by rw [hV]; exact Nat.le_refl _) _).setCell (by rw [hV]; exact Nat.le_refl _) _
 have HAT : Hid (∀ W, Below w1.heap.size w1 W → W.cell? ⟨V, 0, none⟩ = some (.int .i64 0) ∧ W.cell? ⟨V, 0 + 1, none⟩ = some (.int .i64 0) ∧ W.frozen? ⟨V, 0, none⟩ = false ∧ W.frozen? ⟨V, 0 + 1, none⟩ = false ∧ W.cell? ⟨3, 0, none⟩ = some (.iface et eq) ∧ W.cell? ⟨4, 0, none⟩ = some (.iface st sq) ∧ ((W.setCell ⟨V, 0, none⟩ (.int .i64 0)).setCell ⟨V, 1, none⟩ (.int .i64 0)).cell? ⟨3, 0, none⟩ = some (.iface et eq) ∧ ((W.setCell ⟨V, 0, none⟩ (.int .i64 0)).setCell ⟨V, 1, none⟩ (.int .i64 0)).cell? ⟨4, 0, none⟩ = some (.iface st sq)) := fun W hW => by
  have hr7 := row_keep hW HR1.out
  obtain ⟨wf, hwf, _, _, hbf⟩ := HEND.out W 0 0 hW
  rw [hwf] at hbf
  have hbw := HB1.out.trans (hW.mono HB1.out.size)
  exact ⟨cr hr7 rfl, cr hr7 rfl, frozen_row hr7, frozen_row hr7, cell_keep hbw HE.out.1, cell_keep hbw HE.out.2.1, cell_keep hbf HE.out.1, cell_keep hbf HE.out.2.1⟩
 clear hv hn hl he hsh hs hb1 hw1 hV
 go_enter Tryz.func26, Tryz.ntmps26
 go_wp2_with fail
 rw [HW1.out.1, HW1.out.2]
 refine (operators_any w1).mono ?_
 rintro e w2 ⟨rfl, hO, hb2⟩
 have HB2 := hidP hb2
 have HOP : Hid ((sigL.find? (fun u => u.1 == op.data.toList) = none ∧ ∃ f n, FnAt w2 w1.heap.size n f ∧ f op.data.toList = none) ∨ ∃ t ∈ sigL, op.data.toList = t.1 ∧ ∃ f n, FnAt w2 w1.heap.size n f ∧ ∃ v, f op.data.toList = some v ∧ DoV op.data.toList l w2 v) := by
  cases hf : sigL.find? (fun u => u.1 == op.data.toList) with
  | none => exact .inl ⟨rfl, ops_none hO _ hf⟩
  | some t =>
   have ht := List.mem_of_find?_eq_some hf
   have he : op.data.toList = t.1 := by have := List.find?_some hf; simp at this; exact this.symm
   refine .inr ⟨t, ht, he, ?_⟩
   rw [he]
   exact ops_do hO ht l
 clear hO hb2
 obtain ⟨z0, z1, z2, z3, g5, g3, g5', g3'⟩ := HAT.out w2 HB2.out
 rcases HOP.out with ⟨hnone, f, m, hF, hf⟩ | ⟨t, ht, hop, f, m, hF, v, hf, hdo⟩
 ·have hlk := hF.look Tryz.underlying130 (zero_oper w2) op HE.out.2.2
  rw [hf] at hlk
  simp only [Option.getD_none, Option.isSome_none] at hlk
  have HN : Hid (isI op.data.toList l = 3) := isI_out l hnone
  clear hF hf hnone HOP HW1 HV
  go_upto_region 3 with fail
  clear hlk
  go_region
  all_goals go_wp2
  obtain ⟨wf, hwf, u0, u1, hbf⟩ := HEND.out w2 0 0 HB2.out
  rw [← hwf]
  have d0 : wf.drew.cell? ⟨V, 0, none⟩ = _ := u0
  have d1 : wf.drew.cell? ⟨V, 1, none⟩ = _ := u1
  refine bodyPost_ret (v := .tuple #[.agg #[.int .i64 0, .int .i64 0], .bool false, .iface st sq]) (by simp [results, Tryz.results26, go_sem, d0, d1]) rfl ?_
  exact ⟨hbf.drew, .inl ⟨HN.out, rfl⟩⟩
 ·have hlk := hF.look Tryz.underlying130 (zero_oper w2) op HE.out.2.2
  rw [hf] at hlk
  simp only [Option.getD_some, Option.isSome_some] at hlk
  have HT : Hid (t ∈ sigL ∧ op.data.toList = t.1 ∧ DoV op.data.toList l w2 v) := ⟨ht, hop, hdo⟩
  have HBW2 : Hid (Below w.heap.size w w2) := HB1.out.trans (HB2.out.mono HB1.out.size)
  have HKO : Hid (Calls Tryz.prog 64 #[.slice o n c] w2 fun e w' => ∃ v', e = .returned v' ∧ KindsAt w' v' (l.map (·.1)) ∧ Below w2.heap.size w2 w') := fkindsOf_any l HV.out.2.2 _ w2 (HV.out.1.below HBW2.out)
  clear hF hf hop hdo ht HOP HW1 z0 z1 z2 z3 g5 g3 g5' g3'
  go_upto_region 4 with fail
  clear hlk
  go_wp2_with (go_at_call 64; refine HKO.out.mono ?_; rintro e w3 ⟨v3, rfl, hk3, hb3⟩; obtain ⟨hl3, o3, c3, rfl, hc3⟩ := hk3)
  have HB3 : Hid (Below w1.heap.size w1 w3) := HB2.out.trans (hb3.mono HB2.out.size)
  have HB23 := hidP hb3
  have HBW3 : Hid (Below w.heap.size w w3) := HBW2.out.trans (hb3.mono HBW2.out.size)
  have HRES : Hid (Calls Tryz.prog 63 #[.string op, .slice o3 l.length c3] w3 fun e w' => Below w3.heap.size w3 w' ∧ ∃ k err, e = .returned (.tuple #[.int .i64 k, err]) ∧ ((resK op.data.toList (l.map Prod.fst) = some k ∧ err = .nilIface) ∨ (resK op.data.toList (l.map Prod.fst) = none ∧ shpK op.data.toList (l.map Prod.fst) = true ∧ err = .iface st sq) ∨ (resK op.data.toList (l.map Prod.fst) = none ∧ shpK op.data.toList (l.map Prod.fst) = false ∧ err = .iface et eq))) := by
   have h := result_full w3 op HE.out.2.2 o3 c3 (l.map Prod.fst) ⟨hl3, o3, c3, rfl, hc3⟩ (by rw [List.length_map]; have := HV.out.2.2; omega) et st eq sq (cell_keep HBW3.out HE.out.1) (cell_keep HBW3.out HE.out.2.1)
   rw [List.length_map] at h
   exact h
  clear hb3 hl3 hc3 HKO
  go_upto_region 5 with (go_at_call 63; refine HRES.out.mono ?_; rintro e w4 ⟨hb4, k, err, rfl, hres⟩; have HRS := hidP hres; have HB4 := hidP hb4; clear hb4 hres)
  have HBW4 : Hid (Below w.heap.size w w4) := HBW3.out.trans (HB4.out.mono HBW3.out.size)
  have HB24 : Hid (Below w2.heap.size w2 w4) := HB23.out.trans (HB4.out.mono HB23.out.size)
  have HB14 : Hid (Below w1.heap.size w1 w4) := HB3.out.trans (HB4.out.mono HB3.out.size)
  obtain ⟨z0, z1, z2, z3, g5, g3, g5', g3'⟩ := HAT.out w4 HB14.out
  rcases HRS.out with ⟨hk, rfl⟩ | ⟨hk, hsp, rfl⟩ | ⟨hk, hsp, rfl⟩
  ·have HK := hidP hk
   clear hk HRS HRES
   have HSP : Hid (shpK op.data.toList (l.map Prod.fst) = false) := by
    cases h : shpK op.data.toList (l.map Prod.fst) with
    | false => rfl
    | true => have := resK_shp h; rw [HK.out] at this; cases this
   obtain ⟨ar, har⟩ : ∃ ar, ar = allR l := ⟨_, rfl⟩
   have HAR := hidP har
   have HVC : Hid (Calls Tryz.prog 65 #[.slice o n c, .func (.func 66) #[] #[]] w4 fun e w' => e = .returned (.bool (!ar)) ∧ Below w4.heap.size w4 w') := by rw [har]; exact vcontains_all w4 o n c l (HV.out.1.below HBW4.out) HV.out.2.1 (by have := HV.out.2.1; have := HV.out.2.2; omega)
   clear har z0 z1 z2 z3 g5 g3 g5' g3'
   cases ar with
   | false =>
    go_upto_region 8 with (go_at_call 65; refine HVC.out.mono ?_; rintro e w5 ⟨rfl, hb5⟩; have HB5 : Hid (Below w1.heap.size w1 w5) := HB14.out.trans (hb5.mono HB14.out.size); clear hb5; obtain ⟨z0, z1, z2, z3, g5, g3, g5', g3'⟩ := HAT.out w5 HB5.out)
    go_region
    all_goals go_wp2
    have HIS : isI op.data.toList l = 5 := by
     rw [HT.out.2.1]
     exact is_typ HT.out.1 l (by rw [← HT.out.2.1]; exact HSP.out) (.inl HAR.out.symm)
    obtain ⟨wf, hwf, u0, u1, hbf⟩ := HEND.out w5 0 0 HB5.out
    rw [← hwf]
    have d0 : wf.drew.cell? ⟨V, 0, none⟩ = _ := u0
    have d1 : wf.drew.cell? ⟨V, 1, none⟩ = _ := u1
    refine bodyPost_ret (v := .tuple #[.agg #[.int .i64 0, .int .i64 0], .bool false, .iface et eq]) (by simp [results, Tryz.results26, go_sem, d0, d1]) rfl ?_
    exact ⟨hbf.drew, .inr (.inl ⟨HIS, rfl⟩)⟩
   | true =>
    go_upto_region 9 with (go_at_call 65; refine HVC.out.mono ?_; rintro e w5 ⟨rfl, hb5⟩; have HB5 : Hid (Below w2.heap.size w2 w5) := HB24.out.trans (hb5.mono HB24.out.size); clear hb5)
    have HBW5 : Hid (Below w.heap.size w w5) := HBW2.out.trans (HB5.out.mono HBW2.out.size)
    have HNU : Hid (Calls Tryz.prog 67 #[.slice o n c] w5 fun e w' => ∃ v', e = .returned v' ∧ KindsAt w' v' (l.map (·.2)) ∧ Below w5.heap.size w5 w') := numbersOf_any l HV.out.2.2 _ w5 (HV.out.1.below HBW5.out)
    obtain ⟨h0, r, tr, hap, fid, cap, rfl, hsix, hgo⟩ := HT.out.2.2 HAR.out.symm k HK.out
    have HAP : Hid (isI op.data.toList l = 0 ∧ appT op.data.toList l = (if tr = true then ((0, 0), true) else ((k, r), false))) := ⟨h0, hap⟩
    have HGO := hidP hgo
    clear h0 hap hgo HVC
    cases tr with
    | true =>
     cases hsix
     all_goals (go_wp2_with (go_at_call 67; refine HNU.out.mono ?_; rintro e w6 ⟨v6, rfl, hk6, hb6⟩; have HB6 : Hid (Below w2.heap.size w2 w6) := HB5.out.trans (hb6.mono HB5.out.size); have HK6 := hidP hk6; clear hb6 hk6))
     all_goals (have hc := HGO.out w6 v6 HB6.out HK6.out; refine hc.mono ?_; clear hc; rintro e w7 ⟨rfl, hb7⟩; have HB7 : Hid (Below w1.heap.size w1 w7) := HB2.out.trans ((HB6.out.trans (hb7.mono HB6.out.size)).mono HB2.out.size); clear hb7; obtain ⟨z0, z1, z2, z3, g5, g3, g5', g3'⟩ := HAT.out w7 HB7.out)
     all_goals go_wp2
     all_goals
      (obtain ⟨wf, hwf, u0, u1, hbf⟩ := HEND.out w7 0 0 HB7.out
       rw [← hwf]
       refine bodyPost_ret (v := .tuple #[.agg #[.int .i64 0, .int .i64 0], .bool true, .nilIface]) (by simp [results, Tryz.results26, go_sem, u0, u1]) rfl ?_
       exact ⟨hbf, .inr (.inr ⟨HAP.out.1, by rw [HAP.out.2]; rfl⟩)⟩)
    | false =>
     cases hsix
     all_goals (go_wp2_with (go_at_call 67; refine HNU.out.mono ?_; rintro e w6 ⟨v6, rfl, hk6, hb6⟩; have HB6 : Hid (Below w2.heap.size w2 w6) := HB5.out.trans (hb6.mono HB5.out.size); have HK6 := hidP hk6; clear hb6 hk6))
     all_goals (have hc := HGO.out w6 v6 HB6.out HK6.out; refine hc.mono ?_; clear hc; rintro e w7 ⟨rfl, hb7⟩; have HB7 : Hid (Below w1.heap.size w1 w7) := HB2.out.trans ((HB6.out.trans (hb7.mono HB6.out.size)).mono HB2.out.size); clear hb7; obtain ⟨z0, z1, z2, z3, g5, g3, g5', g3'⟩ := HAT.out w7 HB7.out)
     all_goals go_wp2
     all_goals
      (obtain ⟨wf, hwf, u0, u1, hbf⟩ := HEND.out w7 k r HB7.out
       rw [← hwf]
       refine bodyPost_ret (v := .tuple #[.agg #[.int .i64 k, .int .i64 r], .bool false, .nilIface]) (by simp [results, Tryz.results26, go_sem, u0, u1]) rfl ?_
       exact ⟨hbf, .inr (.inr ⟨HAP.out.1, by rw [HAP.out.2]; rfl⟩)⟩)
  ·have HIS : Hid (isI op.data.toList l = 3) := by
    unfold Hid
    rw [HT.out.2.1]
    exact is_shp HT.out.1 l (by rw [← HT.out.2.1]; exact hsp)
   clear hk hsp HRS HRES
   go_wp2
   obtain ⟨wf, hwf, u0, u1, hbf⟩ := HEND.out w4 0 0 HB14.out
   rw [← hwf]
   refine bodyPost_ret (v := .tuple #[.agg #[.int .i64 0, .int .i64 0], .bool false, .iface st sq]) (by simp [results, Tryz.results26, go_sem, u0, u1]) rfl ?_
   exact ⟨hbf, .inl ⟨HIS.out, rfl⟩⟩
  ·have HIS : Hid (isI op.data.toList l = 5) := by
    unfold Hid
    rw [HT.out.2.1]
    exact is_typ HT.out.1 l (by rw [← HT.out.2.1]; exact hsp) (.inr (by rw [← HT.out.2.1]; exact hk))
   clear hk hsp HRS HRES
   go_wp2
   obtain ⟨wf, hwf, u0, u1, hbf⟩ := HEND.out w4 0 0 HB14.out
   rw [← hwf]
   refine bodyPost_ret (v := .tuple #[.agg #[.int .i64 0, .int .i64 0], .bool false, .iface et eq]) (by simp [results, Tryz.results26, go_sem, u0, u1]) rfl ?_
   exact ⟨hbf, .inr (.inl ⟨HIS.out, rfl⟩)⟩
end Go.Proofs.YtiejfopholdbnaaGreatDoor
