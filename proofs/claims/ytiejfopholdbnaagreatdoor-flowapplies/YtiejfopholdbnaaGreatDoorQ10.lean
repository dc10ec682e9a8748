/-
  flow.operators BY CONTRACT.
-/
import Derived.Test.YtiejfopholdbnaaGreatDoorQ09
namespace Go.Proofs.YtiejfopholdbnaaGreatDoor
open Go.RowKit Go.Maps
set_option maxRecDepth 100000
set_option maxHeartbeats 1000000

theorem fset_fn {f : List UInt8 → Option Value} (h : ∀ k v, f k = some v → ∃ i, v = .func (.func i) #[] #[]) (k0 : List UInt8) (i0 : FuncId) : ∀ k v, fset f k0 (fnV i0) k = some v → ∃ i, v = .func (.func i) #[] #[] := by
 intro k v hk
 unfold fset at hk
 split at hk
 ·exact ⟨i0, (Option.some.inj hk).symm⟩
 ·exact h k v hk
theorem fnone_fn : ∀ k v, fnone k = some v → ∃ i, v = .func (.func i) #[] #[] := fun _ _ h => by cases h
theorem reckonings_fn : ∀ {k v}, reckoningsF k = some v → ∃ i, v = .func (.func i) #[] #[] := fun {k v} => fset_fn (fset_fn (fset_fn fnone_fn _ _) _ _) _ _ k v
theorem divisions_fn : ∀ {k v}, divisionsF k = some v → ∃ i, v = .func (.func i) #[] #[] := fun {k v} => fset_fn (fset_fn fnone_fn _ _) _ _ k v
theorem truths_fn : ∀ {k v}, truthsF k = some v → ∃ i, v = .func (.func i) #[] #[] := fun {k v} => fset_fn (fset_fn (fset_fn (fset_fn (fset_fn (fset_fn (fset_fn (fset_fn (fset_fn (fset_fn fnone_fn _ _) _ _) _ _) _ _) _ _) _ _) _ _) _ _) _ _) _ _ k v
def lit3F : List UInt8 → Option Value := fset (fset (fset fnone [110, 111, 116] (fnV 111)) [110, 101, 103] (fnV 112)) [105, 102] (fnV 114)
theorem fset_mem {f : List UInt8 → Option Value} {l : List (List UInt8)} (h : ∀ k v, f k = some v → k ∈ l) (k0 : List UInt8) (v0 : Value) : ∀ k v, fset f k0 v0 k = some v → k ∈ k0 :: l := by
 intro k v hk
 unfold fset at hk
 split at hk
 ·rename_i e
  rw [e]
  exact List.mem_cons_self
 ·exact List.mem_cons_of_mem _ (h k v hk)
theorem fnone_mem : ∀ k v, fnone k = some v → k ∈ ([] : List (List UInt8)) := fun _ _ h => by cases h
theorem rec_apart {k : List UInt8} {v : Value} (h : reckoningsF k = some v) : divisionsF k = none ∧ truthsF k = none := by
 have hm : k ∈ [[42], [45], [43]] := fset_mem (fset_mem (fset_mem fnone_mem _ _) _ _) _ _ k v h
 have h1 : (divisionsF k).isNone = true := (by decide : ∀ k ∈ ([[42], [45], [43]] : List (List UInt8)), (divisionsF k).isNone = true) k hm
 have h2 : (truthsF k).isNone = true := (by decide : ∀ k ∈ ([[42], [45], [43]] : List (List UInt8)), (truthsF k).isNone = true) k hm
 exact ⟨Option.isNone_iff_eq_none.1 h1, Option.isNone_iff_eq_none.1 h2⟩
theorem div_apart {k : List UInt8} {v : Value} (h : divisionsF k = some v) : truthsF k = none := by
 have hm : k ∈ [[109, 111, 100], [47]] := fset_mem (fset_mem fnone_mem _ _) _ _ k v h
 have h2 : (truthsF k).isNone = true := (by decide : ∀ k ∈ ([[109, 111, 100], [47]] : List (List UInt8)), (truthsF k).isNone = true) k hm
 exact Option.isNone_iff_eq_none.1 h2
def OpsAt (w : World) (B : Nat) : Prop := ∃ f n, FnAt w B n f ∧ (∀ k v, reckoningsF k = some v → ∃ p, f k = some (clo 116 p) ∧ w.cell? ⟨p, 0, none⟩ = some v) ∧
 (∀ k v, divisionsF k = some v → ∃ p, f k = some (clo 118 p) ∧ w.cell? ⟨p, 0, none⟩ = some v) ∧ (∀ k v, truthsF k = some v → ∃ p, f k = some (clo 120 p) ∧ w.cell? ⟨p, 0, none⟩ = some v) ∧
 ∀ k, reckoningsF k = none → divisionsF k = none → truthsF k = none → f k = lit3F k
theorem opsAt_of {B : Nat} {f1 f2 f3 : List UInt8 → Option Value} {W1 W2 W3 : World} {n : Nat} (d1 : Done B 116 reckoningsF lit3F f1 W1) (d2 : Done B 118 divisionsF f1 f2 W2) (d3 : Done B 120 truthsF f2 f3 W3) (g2 : W1.grownBy W2 (some B)) (g3 : W2.grownBy W3 (some B)) (hF : FnAt W3 B n f3) : OpsAt W3 B := by
 have e1 := done_keep (done_keep d1 g2) g3
 have e2 := done_keep d2 g3
 refine ⟨f3, n, hF, fun k v hk => ?_, fun k v hk => ?_, fun k v hk => ?_, fun k h1 h2 h3 => ?_⟩
 ·obtain ⟨a1, a2⟩ := rec_apart hk
  obtain ⟨p, _, _, q, r⟩ := e1.1 k v hk
  exact ⟨p, by rw [d3.2 k a2, d2.2 k a1]; exact q, r⟩
 ·obtain ⟨p, _, _, q, r⟩ := e2.1 k v hk
  exact ⟨p, by rw [d3.2 k (div_apart hk)]; exact q, r⟩
 ·obtain ⟨p, _, _, q, r⟩ := d3.1 k v hk
  exact ⟨p, q, r⟩
 ·rw [d3.2 k h3, d2.2 k h2, d1.2 k h1]
theorem operators_any (w : World) : Calls Tryz.prog 62 #[] w fun e w' => e = .returned (.map (some w.heap.size)) ∧ OpsAt w' w.heap.size ∧ Below w.heap.size w w' := by
 have hmm := @run_makeMap Tryz.prog
 have H0 : Hid (FnAt (w.alloc (.map #[] 0)) w.heap.size 0 fnone) := FnAt.made w
 have hb0 : Below w.heap.size w (w.alloc (.map #[] 0)) := bal
 have HZ := hidP hb0
 clear hb0
 go_enter Tryz.func62, Tryz.ntmps62
 go_wp2_with (first
  | (refine wpList_insert_fn _ rfl _ _ _ _ _ rfl Tryz.underlying130 w.heap.size 2 _ rfl H2.out (by decide) _ (by decide) rfl _ rfl ?_; intro w3 h3 g3; have H3 := hidP h3; clear h3)
  | (refine wpList_insert_fn _ rfl _ _ _ _ _ rfl Tryz.underlying130 w.heap.size 1 _ rfl H1.out (by decide) _ (by decide) rfl _ rfl ?_; intro w2 h2 g2; have H2 := hidP h2; clear h2)
  | (refine wpList_insert_fn _ rfl _ _ _ _ _ rfl Tryz.underlying130 w.heap.size 0 _ rfl H0.out (by decide) _ (by decide) rfl _ rfl ?_; intro w1 h1 g1; have H1 := hidP h1; clear h1)
  | (go_at_call 115; refine (reckonings_any _).mono ?_; rintro e v0 ⟨rfl, h4, g4⟩; have HM0 := hidP h4; have HV0 : Hid (Below w3.heap.size w3 v0) := g4; clear h4 g4)
  | (at_range; obtain ⟨D0, o0, k0⟩ := HM0.out; refine wpList_range_own _ rfl _ _ rfl 9 _ strKeyed Tryz.underlying200 heldE w3.heap.size 3 D0 rfl o0 ?_; intro x0 r0 g0 s0)
  | fail)
 have hb1 := HZ.out.grown g1 HZ.out.size (fun k hk => by obtain rfl := Option.some.inj hk; exact Nat.le_refl _)
 have hb2 := hb1.grown g2 hb1.size (fun k hk => by obtain rfl := Option.some.inj hk; exact Nat.le_refl _)
 have hb3 := hb2.grown g3 hb2.size (fun k hk => by obtain rfl := Option.some.inj hk; exact Nat.le_refl _)
 have HB0 := hidP hb3
 have HU0 : Hid (FnAt w3 w.heap.size 3 lit3F) := H3.out
 have HN0 : Hid (3 ≤ 3) := Nat.le_refl 3
 clear hmm H0 H1 H2 HZ g1 g2 g3 H3 hb1 hb2 hb3
 go_frame
 have hB0 : w.heap.size < w3.heap.size := HU0.out.lt
 have hs0 : w3.heap.size ≤ v0.heap.size := HV0.out.size
 have hc0 : Maps.size D0 ≤ 3 := o0.size_le
 have hf0 : FnAt v0 w.heap.size 3 lit3F := HU0.out.kept (HV0.out.block _ hB0)
 have hn0 := HN0.out
 go_loopw [] (fun wr => ∃ f left cnt n, FnAt wr w.heap.size n f ∧ n + cnt ≤ 6 ∧ wr.ranges Tryz.prog 9 heldE w3.heap.size v0.heap.size 3 D0 left cnt ∧ Goes 116 reckoningsF lit3F f left (v0.heap.size + 1) wr ∧ v0.grownBy wr (some w.heap.size) ∧ v0.heap.size + 1 ≤ wr.heap.size) (fun wr => wr.rangeLeft w3.heap.size v0.heap.size)
 case atStart => exact ⟨lit3F, _, _, 3, hf0.kept (g0.block _ (by omega) (by simp)), by omega, r0, Goes.start _ _ _ D0 (fun k => (k0 k).1) _ _, g0.but _, by omega⟩
 case round =>
  obtain ⟨f, left, cnt, n, hF, hn, hr, hG, hgw, hlo⟩ := hrel
  rcases fn_next hr k0 0 with ⟨h0, hl, hrun⟩ | ⟨s, v, w', cnt', hsz, hgs, hrun, hrg, hlt, hgr, hsw, hen⟩
  ·have HD0 : Hid (Done w.heap.size 116 reckoningsF lit3F f wr) := hG.done hl (by omega)
   have HU1 := hidP hF
   have HN1 : Hid (n ≤ 6) := by unfold Hid; omega
   have HG0 : Hid (w3.grownBy wr (some w.heap.size)) := grown_trans ⟨HV0.out.os, HV0.out.tape, HV0.out.output, HV0.out.size, fun k hk _ => HV0.out.block k hk⟩ hgw
   have HB1 : Hid (Below w.heap.size w wr) := HB0.out.grown HG0.out HB0.out.size (fun k hk => by obtain rfl := Option.some.inj hk; exact Nat.le_refl _)
   clear hF hn hr hG hgw hlo hl h0 k0 o0 hc0 hf0 hn0 g0 s0 r0 HM0 HV0 hs0 hB0 HU0
   rename World => W1
   rename (List UInt8 → Option Value) => f1
   rename Nat => n1
   go_wp2_with (first
     | (go_at_call 117; refine (divisions_any _).mono ?_; rintro e v1 ⟨rfl, h4, g4⟩; have HM1 := hidP h4; have HV1 : Hid (Below W1.heap.size W1 v1) := g4; clear h4 g4)
     | (at_range; obtain ⟨D1, o1, k1⟩ := HM1.out; refine wpList_range_own _ rfl _ _ rfl 9 _ strKeyed Tryz.underlying200 heldE W1.heap.size 2 D1 rfl o1 ?_; intro x1 r1 g1 s1)
     | fail)
   go_frame
   have hB1 : w.heap.size < W1.heap.size := HU1.out.lt
   have hs1 : W1.heap.size ≤ v1.heap.size := HV1.out.size
   have hc1 : Maps.size D1 ≤ 2 := o1.size_le
   have hf1 : FnAt v1 w.heap.size n1 f1 := HU1.out.kept (HV1.out.block _ hB1)
   have hn1 := HN1.out
   go_loopw [] (fun wr => ∃ f left cnt n, FnAt wr w.heap.size n f ∧ n + cnt ≤ 8 ∧ wr.ranges Tryz.prog 9 heldE W1.heap.size v1.heap.size 2 D1 left cnt ∧ Goes 118 divisionsF f1 f left (v1.heap.size + 1) wr ∧ v1.grownBy wr (some w.heap.size) ∧ v1.heap.size + 1 ≤ wr.heap.size) (fun wr => wr.rangeLeft W1.heap.size v1.heap.size)
   case atStart => exact ⟨f1, _, _, n1, hf1.kept (g1.block _ (by omega) (by simp)), by omega, r1, Goes.start _ _ _ D1 (fun k => (k1 k).1) _ _, g1.but _, by omega⟩
   case round =>
    obtain ⟨f, left, cnt, n, hF, hn, hr, hG, hgw, hlo⟩ := hrel
    rcases fn_next hr k1 0 with ⟨h0, hl, hrun⟩ | ⟨s, v, w', cnt', hsz, hgs, hrun, hrg, hlt, hgr, hsw, hen⟩
    ·have HD1 : Hid (Done w.heap.size 118 divisionsF f1 f wr) := hG.done hl (by omega)
     have HU2 := hidP hF
     have HN2 : Hid (n ≤ 8) := by unfold Hid; omega
     have HG1 : Hid (W1.grownBy wr (some w.heap.size)) := grown_trans ⟨HV1.out.os, HV1.out.tape, HV1.out.output, HV1.out.size, fun k hk _ => HV1.out.block k hk⟩ hgw
     have HB2 : Hid (Below w.heap.size w wr) := HB1.out.grown HG1.out HB1.out.size (fun k hk => by obtain rfl := Option.some.inj hk; exact Nat.le_refl _)
     clear hF hn hr hG hgw hlo hl h0 k1 o1 hc1 hf1 hn1 g1 s1 r1 HM1 HV1 hs1 hB1 HU1
     rename World => W2
     rename (List UInt8 → Option Value) => f2
     rename Nat => n2
     go_wp2_with (first
       | (go_at_call 119; refine (truths_any _).mono ?_; rintro e v2 ⟨rfl, h4, g4⟩; have HM2 := hidP h4; have HV2 : Hid (Below W2.heap.size W2 v2) := g4; clear h4 g4)
       | (at_range; obtain ⟨D2, o2, k2⟩ := HM2.out; refine wpList_range_own _ rfl _ _ rfl 9 _ strKeyed Tryz.underlying202 heldE W2.heap.size 10 D2 rfl o2 ?_; intro x2 r2 g2 s2)
       | fail)
     go_frame
     have hB2 : w.heap.size < W2.heap.size := HU2.out.lt
     have hs2 : W2.heap.size ≤ v2.heap.size := HV2.out.size
     have hc2 : Maps.size D2 ≤ 10 := o2.size_le
     have hf2 : FnAt v2 w.heap.size n2 f2 := HU2.out.kept (HV2.out.block _ hB2)
     have hn2 := HN2.out
     go_loopw [] (fun wr => ∃ f left cnt n, FnAt wr w.heap.size n f ∧ n + cnt ≤ 18 ∧ wr.ranges Tryz.prog 9 heldE W2.heap.size v2.heap.size 10 D2 left cnt ∧ Goes 120 truthsF f2 f left (v2.heap.size + 1) wr ∧ v2.grownBy wr (some w.heap.size) ∧ v2.heap.size + 1 ≤ wr.heap.size) (fun wr => wr.rangeLeft W2.heap.size v2.heap.size)
     case atStart => exact ⟨f2, _, _, n2, hf2.kept (g2.block _ (by omega) (by simp)), by omega, r2, Goes.start _ _ _ D2 (fun k => (k2 k).1) _ _, g2.but _, by omega⟩
     case round =>
      obtain ⟨f, left, cnt, n, hF, hn, hr, hG, hgw, hlo⟩ := hrel
      rcases fn_next hr k2 0 with ⟨h0, hl, hrun⟩ | ⟨s, v, w', cnt', hsz, hgs, hrun, hrg, hlt, hgr, hsw, hen⟩
      ·have HD2 : Hid (Done w.heap.size 120 truthsF f2 f wr) := hG.done hl (by omega)
       have HU3 := hidP hF
       have HN3 : Hid (n ≤ 18) := by unfold Hid; omega
       have HG2 : Hid (W2.grownBy wr (some w.heap.size)) := grown_trans ⟨HV2.out.os, HV2.out.tape, HV2.out.output, HV2.out.size, fun k hk _ => HV2.out.block k hk⟩ hgw
       have HB3 : Hid (Below w.heap.size w wr) := HB2.out.grown HG2.out HB2.out.size (fun k hk => by obtain rfl := Option.some.inj hk; exact Nat.le_refl _)
       clear hF hn hr hG hgw hlo hl h0 k2 o2 hc2 hf2 hn2 g2 s2 r2 HM2 HV2 hs2 hB2 HU2
       rename World => W3
       rename (List UInt8 → Option Value) => f3
       rename Nat => n3
       go_wp2
       go_ret
       exact ⟨rfl, opsAt_of HD0.out HD1.out HD2.out HG1.out HG2.out HU3.out, HB3.out⟩
      ·obtain ⟨fid, rfl⟩ := truths_fn hgs
       obtain ⟨w6, hup, h6⟩ := round_step hF hr hG hgw hlo (by omega) (by omega) rfl hgs hrg hlt hgr hsw hsz (by unfold maxLen; omega) Tryz.underlying130 204
       simp only [clo] at hup
       have H6 : Hid (∃ f left cnt n, FnAt w6 w.heap.size n f ∧ n + cnt ≤ 18 ∧ w6.ranges Tryz.prog 9 heldE W2.heap.size v2.heap.size 10 D2 left cnt ∧ Goes 120 truthsF f2 f left (v2.heap.size + 1) w6 ∧ v2.grownBy w6 (some w.heap.size) ∧ v2.heap.size + 1 ≤ w6.heap.size) := ⟨_, _, cnt', n + 1, h6.1, by omega, h6.2.1, h6.2.2.1, h6.2.2.2.1, h6.2.2.2.2.1⟩
       have H7 : Hid (w6.rangeLeft W2.heap.size v2.heap.size < wr.rangeLeft W2.heap.size v2.heap.size) := h6.2.2.2.2.2
       clear h6 hF hr hG hgw hlo hn hrg hlt hgr hsw hsz hgs
       go_wp2
       exact ⟨H6.out, H7.out⟩
    ·obtain ⟨fid, rfl⟩ := divisions_fn hgs
     obtain ⟨w6, hup, h6⟩ := round_step hF hr hG hgw hlo (by omega) (by omega) rfl hgs hrg hlt hgr hsw hsz (by unfold maxLen; omega) Tryz.underlying130 170
     simp only [clo] at hup
     have H6 : Hid (∃ f left cnt n, FnAt w6 w.heap.size n f ∧ n + cnt ≤ 8 ∧ w6.ranges Tryz.prog 9 heldE W1.heap.size v1.heap.size 2 D1 left cnt ∧ Goes 118 divisionsF f1 f left (v1.heap.size + 1) w6 ∧ v1.grownBy w6 (some w.heap.size) ∧ v1.heap.size + 1 ≤ w6.heap.size) := ⟨_, _, cnt', n + 1, h6.1, by omega, h6.2.1, h6.2.2.1, h6.2.2.2.1, h6.2.2.2.2.1⟩
     have H7 : Hid (w6.rangeLeft W1.heap.size v1.heap.size < wr.rangeLeft W1.heap.size v1.heap.size) := h6.2.2.2.2.2
     clear h6 hF hr hG hgw hlo hn hrg hlt hgr hsw hsz hgs
     go_wp2
     exact ⟨H6.out, H7.out⟩
  ·obtain ⟨fid, rfl⟩ := reckonings_fn hgs
   obtain ⟨w6, hup, h6⟩ := round_step hF hr hG hgw hlo (by omega) (by omega) rfl hgs hrg hlt hgr hsw hsz (by unfold maxLen; omega) Tryz.underlying130 170
   simp only [clo] at hup
   have H6 : Hid (∃ f left cnt n, FnAt w6 w.heap.size n f ∧ n + cnt ≤ 6 ∧ w6.ranges Tryz.prog 9 heldE w3.heap.size v0.heap.size 3 D0 left cnt ∧ Goes 116 reckoningsF lit3F f left (v0.heap.size + 1) w6 ∧ v0.grownBy w6 (some w.heap.size) ∧ v0.heap.size + 1 ≤ w6.heap.size) := ⟨_, _, cnt', n + 1, h6.1, by omega, h6.2.1, h6.2.2.1, h6.2.2.2.1, h6.2.2.2.2.1⟩
   have H7 : Hid (w6.rangeLeft w3.heap.size v0.heap.size < wr.rangeLeft w3.heap.size v0.heap.size) := h6.2.2.2.2.2
   clear h6 hF hr hG hgw hlo hn hrg hlt hgr hsw hsz hgs
   go_wp2
   exact ⟨H6.out, H7.out⟩
end Go.Proofs.YtiejfopholdbnaaGreatDoor
