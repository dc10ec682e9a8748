/-
  package flow: told, state BY CONTRACT; tick of a program without asserts and checks.
-/
import Derived.Test.YtiejfopholdbnaaGreatDoorQ48
namespace Go.Proofs.YtiejfopholdbnaaGreatDoor
open Go.RowKit Go.Maps
set_option maxRecDepth 100000
set_option maxHeartbeats 4000000

def tdV (q : Pln) (g : Nat → Int) (l : List Nat) : List (Int × Int) := l.map fun x => (kindAt q.ps x, g x)
theorem told_any {w0 w : World} {C M : Nat} {dv : Value} {f : List UInt8 → Option Value} {q : Pln} {nb nn : Int} {d : IsD} (hcd : Cd w0 C d.B M dv f q nb nn) (hi : Ist w0 d w) (hn : d.n = q.ps.length) (o : Option Addr) (c m : Nat) (l : List Nat) (hm : m = l.length) (hl : RowAt w (fun _ => True) 1 (.slice o m c) m (inC l)) (hin : ∀ x ∈ l, x < q.ps.length) (hll : l.length ≤ 100000) :
  Calls Tryz.prog 150 #[.pointer (some ⟨d.I, 0, none⟩), .slice o m c] w fun e w' => ∃ so sc, e = .returned (.slice so m sc) ∧ w'.ownsRow w.heap.size 66 2 (.slice so m sc) m (vlC (tdV q d.g l)) ∧ Below w.heap.size w w' := by
 obtain ⟨i0, hi0, hz0, hz1, hz2⟩ := info_parts Tryz.infoValV
 have HC : Hid (Cd w0 C d.B M dv f q nb nn ∧ Ist w0 d w ∧ d.n = q.ps.length) := ⟨hcd, hi, hn⟩
 have HL : Hid (RowAt w (fun _ => True) 1 (.slice o m c) m (inC l) ∧ (∀ x ∈ l, x < q.ps.length) ∧ m ≤ 100000 ∧ m = l.length) := ⟨hl, hin, by omega, hm⟩
 clear hcd hi hn hl hin hll hm
 go_enter Tryz.func150, Tryz.ntmps150
 go_wp2
 go_loopw [5, 10] (fun v t wr => ∃ (j : Nat) (so : Option Addr) (sc : Nat), j ≤ m ∧ t = .int .i64 j ∧ v = .slice so j sc ∧ Hid (wr.ownsRow w.heap.size 66 2 (.slice so j sc) j (vlC (tdV q d.g (l.take j))) ∧ Below w.heap.size w wr)) (fun _ t _ => m - (intOf t).toNat)
 case atStart => exact ⟨0, none, 0, Nat.zero_le _, rfl, rfl, World.ownsRow_nil _ _ _ _, Below.refl _ _⟩
 case round =>
  obtain ⟨j, so, sc, hj, rfl, rfl, HR⟩ := hrel
  by_cases hjl : j < m
  ·obtain ⟨x, hx⟩ : ∃ x, l[j]? = some x := ⟨_, List.getElem?_eq_getElem (by have := HL.out.2.2.2; omega)⟩
   have hxl := HL.out.2.1 x (List.mem_of_getElem? hx)
   obtain ⟨p, hp⟩ : ∃ p, q.ps[x]? = some p := ⟨_, List.getElem?_eq_getElem hxl⟩
   have hir := HC.out.2.1
   have hcr := HC.out.1.keep hir.below
   obtain ⟨pb, off, c', po, pc, pB, hpt, _⟩ := hcr.pln.pt hp
   obtain ⟨b1, of1, c1, ev, _, _, gg⟩ := (HL.out.1.keep (stays_true HR.out.2)).at (by rw [HL.out.1.1]; omega)
   obtain ⟨rfl, rfl⟩ : o = some ⟨b1, of1, none⟩ ∧ c = c1 := by simpa using ev
   have y0 := gg j (.int .i64 (x : Int)) (by unfold inC; rw [List.getElem?_map, cI_at hx]; rfl)
   have c0 := hir.c0
   have c4 := hir.c4
   have p4 := hpt.c4
   have r0 := hir.wt.cell (k := x) (by rw [HC.out.2.2]; exact hxl)
   obtain ⟨kd, hkd⟩ : ∃ kd, kd = p.kind := ⟨_, rfl⟩
   rw [← hkd] at p4
   obtain ⟨gx, hgx⟩ : ∃ gx, gx = d.g x := ⟨_, rfl⟩
   rw [← hgx] at r0
   have i0' : (0 : Int) ≤ (j : Int) := by omega
   have i1' : (j : Int) < (m : Int) := by omega
   have i2' : (0 : Int) ≤ (x : Int) := by omega
   have i3' : (x : Int) < (q.ps.length : Int) := by omega
   have i4' : (x : Int) < (d.n : Int) := by have := HC.out.2.2; omega
   have HJ : Hid (j < m ∧ l[j]? = some x ∧ kindAt q.ps x = kd ∧ gx = d.g x) := ⟨hjl, hx, by rw [kindAt_some hp, hkd], hgx⟩
   have HRR : Hid (wr.ownsRow w.heap.size 66 2 (.slice so j sc) j (vlC (tdV q d.g (l.take j))) ∧ Below w.heap.size w wr) := HR.out
   have HS : Hid (∀ W, Below w.heap.size w W → W.cell? ⟨d.I, 0, none⟩ = some (.pointer (some ⟨d.B, 0, none⟩)) ∧ W.cell? ⟨d.B, 0, none⟩ = some (.slice (some ⟨pb, off, none⟩) q.ps.length c') ∧ W.cell? ⟨pb, off + x * 6 + 4, none⟩ = some (.int .i64 kd) ∧ W.cell? ⟨d.I, 0 + 4, none⟩ = some (.slice (some ⟨d.R, 0, none⟩) d.n d.n) ∧ W.cell? ⟨d.R, x, none⟩ = some (.int .i64 gx)) := fun W hW => ⟨cell_keep hW c0, cell_keep hW pB, cell_keep hW p4, cell_keep hW c4, cell_keep hW r0⟩
   have HMX : Hid (j + 1 ≤ maxLen ∧ (j + 1) * 16 ≤ 140737488355328) := by have := HL.out.2.2.1; have := HJ.out.1; unfold Hid maxLen; omega
   have N4 : Hid (wrap64 ((j : Int) + 1) = (j : Int) + 1) := by have := HL.out.2.2.1; have := HJ.out.1; unfold Hid wrap64; omega
   have hS0 := HS.out wr.drew HRR.out.2.drew
   clear hx hxl hp hir hcr hpt pB ev gg c0 c4 p4 r0 hkd hgx hj hjl HR
   go_upto_region 5 with fail
   clear y0
   refine wp_region_till 22 (fun W => W.cell? ⟨d.I, 0, none⟩ = some (.pointer (some ⟨d.B, 0, none⟩)) ∧ W.cell? ⟨d.B, 0, none⟩ = some (.slice (some ⟨pb, off, none⟩) q.ps.length c') ∧ W.cell? ⟨pb, off + x * 6 + 4, none⟩ = some (.int .i64 kd) ∧ W.cell? ⟨d.I, 0 + 4, none⟩ = some (.slice (some ⟨d.R, 0, none⟩) d.n d.n) ∧ W.cell? ⟨d.R, x, none⟩ = some (.int .i64 gx)) (fun _ => True) (by kernel_rfl) hS0 trivial (fun hHeld => ?_)
   refine tk 0 14 (.slice so j sc) rfl (.inl ⟨by rfl, by rintro w ⟨b0, bb, bk, b4, br⟩; go_simp⟩) hHeld ?_
   try simp only [tp]
   refine tk 1 15 (.pointer (some ⟨d.I, 0, none⟩)) rfl (.inl ⟨by rfl, by rintro w ⟨b0, bb, bk, b4, br⟩; go_simp⟩) hHeld ?_
   try simp only [tp]
   refine tk 2 16 (.pointer (some ⟨d.I, 0, none⟩)) rfl (.inl ⟨by rfl, by rintro w ⟨b0, bb, bk, b4, br⟩; go_simp⟩) hHeld ?_
   try simp only [tp]
   refine tk 3 17 (.pointer (some ⟨d.I, 0, none⟩)) rfl (.inl ⟨by rfl, by rintro w ⟨b0, bb, bk, b4, br⟩; go_simp⟩) hHeld ?_
   try simp only [tp]
   refine tk 4 18 (.pointer (some ⟨d.B, 0, none⟩)) rfl (.inl ⟨by rfl, by rintro w ⟨b0, bb, bk, b4, br⟩; go_simp⟩) hHeld ?_
   try simp only [tp]
   refine tk 5 19 (.pointer (some ⟨d.B, 0, none⟩)) rfl (.inl ⟨by rfl, by rintro w ⟨b0, bb, bk, b4, br⟩; go_simp⟩) hHeld ?_
   try simp only [tp]
   refine tk 6 20 (.pointer (some ⟨d.B, 0, none⟩)) rfl (.inl ⟨by rfl, by rintro w ⟨b0, bb, bk, b4, br⟩; go_simp⟩) hHeld ?_
   try simp only [tp]
   refine tk 7 21 (.slice (some ⟨pb, off, none⟩) q.ps.length c') rfl (.inl ⟨by rfl, by rintro w ⟨b0, bb, bk, b4, br⟩; go_simp⟩) hHeld ?_
   try simp only [tp]
   refine tk 8 22 (.int .i64 (x : Nat)) rfl (.inl ⟨by rfl, by rintro w ⟨b0, bb, bk, b4, br⟩; go_simp⟩) hHeld ?_
   try simp only [tp]
   refine tk 9 23 (.pointer (some ⟨pb, off + x * 6, none⟩)) rfl (.inl ⟨by rfl, by rintro w ⟨b0, bb, bk, b4, br⟩; go_simp⟩) hHeld ?_
   try simp only [tp]
   refine tk 10 24 (.pointer (some ⟨pb, off + x * 6 + 4, none⟩)) rfl (.inl ⟨by rfl, by rintro w ⟨b0, bb, bk, b4, br⟩; go_simp⟩) hHeld ?_
   try simp only [tp]
   refine tk 11 25 (.int .i64 kd) rfl (.inl ⟨by rfl, by rintro w ⟨b0, bb, bk, b4, br⟩; go_simp⟩) hHeld ?_
   try simp only [tp]
   refine tk 12 26 (.pointer (some ⟨d.I, 0, none⟩)) rfl (.inl ⟨by rfl, by rintro w ⟨b0, bb, bk, b4, br⟩; go_simp⟩) hHeld ?_
   try simp only [tp]
   refine tk 13 27 (.pointer (some ⟨d.I, 0, none⟩)) rfl (.inl ⟨by rfl, by rintro w ⟨b0, bb, bk, b4, br⟩; go_simp⟩) hHeld ?_
   try simp only [tp]
   refine tk 14 28 (.pointer (some ⟨d.I, 4, none⟩)) rfl (.inl ⟨by rfl, by rintro w ⟨b0, bb, bk, b4, br⟩; go_simp⟩) hHeld ?_
   try simp only [tp]
   refine tk 15 29 (.slice (some ⟨d.R, 0, none⟩) d.n d.n) rfl (.inl ⟨by rfl, by rintro w ⟨b0, bb, bk, b4, br⟩; go_simp⟩) hHeld ?_
   try simp only [tp]
   refine tk 16 30 (.int .i64 (x : Nat)) rfl (.inl ⟨by rfl, by rintro w ⟨b0, bb, bk, b4, br⟩; go_simp⟩) hHeld ?_
   try simp only [tp]
   refine tk 17 31 (.pointer (some ⟨d.R, x, none⟩)) rfl (.inl ⟨by rfl, by rintro w ⟨b0, bb, bk, b4, br⟩; go_simp⟩) hHeld ?_
   try simp only [tp]
   refine tk 18 32 (.int .i64 gx) rfl (.inl ⟨by rfl, by rintro w ⟨b0, bb, bk, b4, br⟩; go_simp⟩) hHeld ?_
   try simp only [tp]
   refine tk 19 33 (.agg #[.int .i64 kd, .int .i64 gx]) rfl (.inl ⟨by rfl, by rintro w ⟨b0, bb, bk, b4, br⟩; go_simp⟩) hHeld ?_
   try simp only [tp]
   refine wpTill_ready (rs := [20]) (by kernel_rfl) (by simp) ?_
   refine AllTill.cons (o := ⟨some 34, _, _, _, _, _⟩) rfl (fun K hK => ?_) AllTill.nil
   go_simp
   obtain ⟨wA, hwA⟩ : ∃ wA, wA = (wr.alloc (.cells #[.int .i64 kd, .int .i64 gx] 66)).drew := ⟨_, rfl⟩
   obtain ⟨Q, hQ⟩ : ∃ Q, Q = wr.heap.size := ⟨_, rfl⟩
   have hbA : Below wr.heap.size wr wA := by rw [hwA]; exact (bal).drew
   have HBA := hidP hbA
   have HOA : Hid (wA.ownsRow w.heap.size 66 2 (.slice so j sc) j (vlC (tdV q d.g (l.take j))) ∧ Below w.heap.size w wA) := ⟨owns_keepO HRR.out.1 hbA, HRR.out.2.trans (hbA.mono HRR.out.2.size)⟩
   have HNA : Hid (∀ k y, [Value.int .i64 kd, .int .i64 gx][k]? = some y → wA.cell? ((⟨Q, 0, none⟩ : Addr).add k) = some y) := by unfold Hid; rw [hwA, hQ]; exact World.news_of_block (heap_alloc_new wr _)
   rw [← hwA, ← hQ]
   refine hK.out _ _ ⟨HS.out wA HOA.out.2, fun _ => trivial⟩ (fun hHeld => ?_)
   clear hK K hwA hbA hQ hS0
   try simp only [tp]
   refine wpTill_ready (rs := [21]) (by kernel_rfl) (by simp) ?_
   refine AllTill.cons (o := ⟨some 35, _, _, _, _, _⟩) rfl (fun K hK => ?_) AllTill.nil
   refine step_append_lies _ rfl (.tmp 14) (.tmp 34) 64 rfl w.heap.size 66 i0 _ 2 16 Tryz.underlying64 hi0 hz0 hz1 hz2 rfl (by omega) (.slice so j sc) j _ (by simp [Act.eval]) HOA.out.1 ⟨Q, 0, none⟩ 1 1 [.int .i64 kd, .int .i64 gx] (by simp [Act.eval]) rfl HNA.out (by simp [Value.oneCell']) (by omega) HMX.out.1 HMX.out.2 HOA.out.2.size _ rfl ?_
   intro g cap w7 hown7 hgrow hat hlt7
   have hbw7 : Below w.heap.size w w7 := HOA.out.2.grown hgrow HOA.out.2.size (fun k hk => (HOA.out.1.lt k hk).1)
   have HNX : Hid (w7.ownsRow w.heap.size 66 2 (.slice (some ⟨g, 0, none⟩) (j + 1) cap) (j + 1) (vlC (tdV q d.g (l.take (j + 1)))) ∧ Below w.heap.size w w7) := by
    refine ⟨?_, hbw7⟩
    have e : tdV q d.g (l.take (j + 1)) = tdV q d.g (l.take j) ++ [(kd, gx)] := by
     unfold tdV
     rw [List.take_add_one, HJ.out.2.1, List.map_append, HJ.out.2.2.2, ← HJ.out.2.2.1]
     rfl
    rw [e, vlC_snoc]
    exact hown7
   refine hK.out _ _ ⟨HS.out w7 hbw7, fun _ => trivial⟩ (fun hHeld => ?_)
   clear hK K
   try simp only [tp]
   refine wpTill_ready (rs := [22]) (by kernel_rfl) (by simp) ?_
   refine AllTill.cons (o := ⟨some 5, _, _, _, _, _⟩) rfl (fun K hK => ?_) AllTill.nil
   go_simp
   refine hK.out _ _ (Till.last (HS.out w7 HNX.out.2)) (fun hHeld => ?_)
   clear hK K
   try simp only [tp]
   refine wpTill_done (by kernel_rfl) ?_ _
   clear hHeld hown7 hgrow hat hlt7 hbw7 HS HOA HNA HBA
   go_wp2
   exact ⟨⟨j + 1, _, _, HJ.out.1, by (try rw [N4.out]); rfl, rfl, HNX.out⟩, by (try rw [N4.out]); have := HJ.out.1; simp [intOf]; omega⟩
  ·obtain rfl : m = j := by omega
   have HE : Hid (wr.ownsRow w.heap.size 66 2 (.slice so m sc) m (vlC (tdV q d.g l)) ∧ Below w.heap.size w wr) := by
    have h := HR.out
    rw [List.take_of_length_le (by have := HL.out.2.2.2; omega)] at h
    exact h
   clear hj hjl HR
   go_wp2
   go_ret
   exact ⟨so, sc, rfl, HE.out⟩
theorem tdV_length (q : Pln) (g : Nat → Int) (l : List Nat) : (tdV q g l).length = l.length := List.length_map _
theorem append_noV {w : World} {base n : Nat} {v : Value} {xs : List Value} (hown : w.ownsRow base 66 2 v n xs) (p : Option Addr) (c : Nat) (ty : TypeId) :
  (Builtin.append_ #[64, 64] ty #[v, .slice p 0 c]).run Tryz.prog w = .ok v w := by
 obtain ⟨i0, hi0, hz0, hz1, hz2⟩ := info_parts Tryz.infoValV
 have ht := Tryz.underlying64
 rcases hown.2 with ⟨rfl, rfl⟩ | ⟨g, cap, cur, rfl, _, _, hnc, _⟩
 ·cases p <;> simp [Builtin.append_, run_underlying ht, sizeOf, typeInfo, hi0, Builtin.lenOf, Builtin.firstCells, loadCells, loadCellsFrom]
 ·cases p <;> simp [Builtin.append_, run_underlying ht, sizeOf, typeInfo, hi0, Builtin.lenOf, Builtin.firstCells, hnc, loadCells, loadCellsFrom, storeCells]
theorem step_append_run {P : Program} {ops : Array Oper} {w : World} {o : Oper} {a : Act} {K : Act → World → Prop} {Q : Exit → Act → World → Prop} {E : Prop} (hgd : o.guard = none) (s x : Operand) (t tn : TypeId)
  (ho : o.op = .call { callee := .builtin .append, args := #[s, x], argTypes := #[t, tn] }) (vs vx : Value) (hs : a.eval s = vs) (hx : a.eval x = vx)
  (v' : Value) (w' : World) (hr : (Builtin.append_ #[t, tn] o.type #[vs, vx]).run P w = .ok v' w') (h : K (a.put o.dst v') w') : if Region.wanted o (yielded ops a.tmps) = true then Oper.wp P o a w K Q else E := by
 have hw : Region.wanted o (yielded ops a.tmps) = true := by simp [Region.wanted, hgd]
 rw [if_pos hw]
 exact Lib.wp_append_run w s x t tn ho vs vx hs hx v' w' hr h
def tickV (so : Option Addr) (sn sc : Nat) (av tr : Bool) (co : Option Addr) (cn cc : Nat) : Value := .agg #[.slice so sn sc, .bool av, .bool tr, .slice co cn cc]
theorem tick_none {w0 w : World} {C M : Nat} {dv : Value} {f : List UInt8 → Option Value} {q : Pln} {nb nn : Int} {d : IsD} (hcd : Cd w0 C d.B M dv f q nb nn) (hi : Ist w0 d w) (hn : d.n = q.ps.length) (hos : ∀ x ∈ q.os, x < q.ps.length) (hol : q.os.length ≤ 100000) (ha : q.ax = []) (hc : q.cx = []) :
  Calls Tryz.prog 106 #[.pointer (some ⟨d.I, 0, none⟩)] w fun e w' => ∃ so sc, e = .returned (tickV so q.os.length sc true false none 0 0) ∧ VlAt w' (.slice so q.os.length sc) (tdV q d.g q.os) ∧ Below w.heap.size w w' := by
 obtain ⟨w1, hw1⟩ : ∃ w1, w1 = w.alloc (.cells #[.slice none 0 0, .bool false, .bool false, .slice none 0 0] 112) := ⟨_, rfl⟩
 obtain ⟨T, hT⟩ : ∃ T, T = w.heap.size := ⟨_, rfl⟩
 have hb1 : Below w.heap.size w w1 := by rw [hw1]; exact bal
 have hr1 : w1.heap[T]? = some (.cells #[.slice none 0 0, .bool false, .bool false, .slice none 0 0] 112 (0, 0)) := by rw [hw1, hT]; exact heap_alloc_new _ _
 obtain ⟨vi, vt, vk, vo, va, vc, ⟨_, _, _, l4, l5, l6⟩, _, _, _, hvo, hva, hvc⟩ := hcd.pln.list
 obtain ⟨oo, co, eo, _⟩ := hvo.2.2
 obtain ⟨oa, ca, ea, _⟩ := hva.2.2
 obtain ⟨oc, cc, ec, _⟩ := hvc.2.2
 subst eo ea ec
 rw [ha, List.length_nil] at l5
 rw [hc, List.length_nil] at l6
 have hi1 := hi.keep hb1
 have c0 := hi1.c0
 have c4 := cell_keep hi1.below l4
 have HTC : Hid (Calls Tryz.prog 150 #[.pointer (some ⟨d.I, 0, none⟩), .slice oo q.os.length co] w1 fun e w' => ∃ so sc, e = .returned (.slice so q.os.length sc) ∧ w'.ownsRow w1.heap.size 66 2 (.slice so q.os.length sc) q.os.length (vlC (tdV q d.g q.os)) ∧ Below w1.heap.size w1 w') := told_any hcd hi1 hn oo co q.os.length q.os rfl (hvo.keep (stays_true hi1.below)) hos hol
 have HI1 : Hid (Ist w0 d w1 ∧ Below w.heap.size w w1) := ⟨hi1, hb1⟩
 have HR1 : Hid (w1.heap[T]? = some (.cells #[.slice none 0 0, .bool false, .bool false, .slice none 0 0] 112 (0, 0)) ∧ w0.cell? ⟨d.B, 0 + 5, none⟩ = some (.slice oa 0 ca) ∧ w0.cell? ⟨d.B, 0 + 6, none⟩ = some (.slice oc 0 cc)) := ⟨hr1, l5, l6⟩
 have HW1 : Hid (w.alloc (.cells #[.slice none 0 0, .bool false, .bool false, .slice none 0 0] 112) = w1 ∧ w.heap.size = T) := ⟨hw1.symm, hT.symm⟩
 clear hcd hi hn hos hol ha hc hw1 hT hb1 hr1 l4 l5 l6 hi1 hvo hva hvc
 go_enter Tryz.func106, Tryz.ntmps106
 go_upto_region 1 with fail
 rw [HW1.out.1, HW1.out.2]
 go_upto_region 2 with (go_at_call 150; refine HTC.out.mono ?_; rintro e w2 ⟨so, sc, rfl, hown, hb2⟩)
 obtain ⟨w3, hw3⟩ : ∃ w3, w3 = w2.alloc (.cells #[.slice so q.os.length sc, .bool true, .bool false, .slice none 0 0] 112) := ⟨_, rfl⟩
 obtain ⟨U, hU⟩ : ∃ U, U = w2.heap.size := ⟨_, rfl⟩
 have hb3 : Below w2.heap.size w2 w3 := by rw [hw3]; exact bal
 have hr3 : w3.heap[U]? = some (.cells #[.slice so q.os.length sc, .bool true, .bool false, .slice none 0 0] 112 (0, 0)) := by rw [hw3, hU]; exact heap_alloc_new _ _
 have hb13 : Below w1.heap.size w1 w3 := hb2.trans (hb3.mono hb2.size)
 have hi3 := HI1.out.1.keep hb13
 have x0 : w3.cell? ⟨d.I, 0, none⟩ = some (.pointer (some ⟨d.B, 0, none⟩)) := hi3.c0
 have x5 : w3.cell? ⟨d.B, 0 + 5, none⟩ = some (.slice oa 0 ca) := cell_keep hi3.below HR1.out.2.1
 have x6 : w3.cell? ⟨d.B, 0 + 6, none⟩ = some (.slice oc 0 cc) := cell_keep hi3.below HR1.out.2.2
 have u0 : w3.cell? ⟨U, 0, none⟩ = some (.slice so q.os.length sc) := cr hr3 rfl
 have u1 : w3.cell? ⟨U, 0 + 1, none⟩ = some (.bool true) := cr hr3 rfl
 have u2 : w3.cell? ⟨U, 0 + 2, none⟩ = some (.bool false) := cr hr3 rfl
 have u3 : w3.cell? ⟨U, 0 + 3, none⟩ = some (.slice none 0 0) := cr hr3 rfl
 have hr13 := row_keep hb13 HR1.out.1
 have t0 : w3.cell? ⟨T, 0, none⟩ = some (.slice none 0 0) := cr hr13 rfl
 have t1 : w3.cell? ⟨T, 0 + 1, none⟩ = some (.bool false) := cr hr13 rfl
 have t2 : w3.cell? ⟨T, 0 + 2, none⟩ = some (.bool false) := cr hr13 rfl
 have t3 : w3.cell? ⟨T, 0 + 3, none⟩ = some (.slice none 0 0) := cr hr13 rfl
 have HFR : Hid (∀ k, w3.frozen? ⟨T, k, none⟩ = false) := fun k => frozen_row hr13
 have f0 := HFR.out 0
 have f1 := HFR.out (0 + 1)
 have f2 := HFR.out (0 + 2)
 have f3 := HFR.out (0 + 3)
 have HE3 : Hid (w3.ownsRow w1.heap.size 66 2 (.slice so q.os.length sc) q.os.length (vlC (tdV q d.g q.os)) ∧ Below w.heap.size w w3 ∧ w1.heap.size ≤ w3.heap.size ∧ T < w1.heap.size ∧ w3.heap[T]? = some (.cells #[.slice none 0 0, .bool false, .bool false, .slice none 0 0] 112 (0, 0)) ∧ w.heap.size ≤ T) := ⟨owns_keepO hown hb3, HI1.out.2.trans (hb13.mono HI1.out.2.size), hb13.size, (Array.getElem?_eq_some_iff.1 HR1.out.1).1, hr13, by rw [← HW1.out.2]; exact Nat.le_refl _⟩
 have HW3 : Hid (w2.alloc (.cells #[.slice so q.os.length sc, .bool true, .bool false, .slice none 0 0] 112) = w3 ∧ w2.heap.size = U) := ⟨hw3.symm, hU.symm⟩
 rw [HW3.out.1, HW3.out.2]
 clear hw3 hU hb3 hr3 hb13 hi3 hr13 hown hb2 c0 c4
 go_wp2
 refine wp_loop_rounds 1 ?_
 rw [rounds_succ]
 go_wp2
 refine wp_loop_rounds 1 ?_
 rw [rounds_succ]
 go_wp2
 obtain ⟨wE, hwE⟩ : ∃ wE, wE = (((w3.setCell ⟨T, 0, none⟩ (.slice so q.os.length sc)).setCell ⟨T, 1, none⟩ (.bool true)).setCell ⟨T, 2, none⟩ (.bool false)).setCell ⟨T, 3, none⟩ (.slice none 0 0) := ⟨_, rfl⟩
 rw [← hwE]
 have hrE : wE.heap[T]? = some (.cells #[.slice so q.os.length sc, .bool true, .bool false, .slice none 0 0] 112 (0, 0)) := by
  rw [hwE]
  exact heap_setCell_same _ T 3 _ _ _ (heap_setCell_same _ T 2 _ _ _ (heap_setCell_same _ T 1 _ _ _ (heap_setCell_same w3 T 0 _ _ _ HE3.out.2.2.2.2.1)))
 have hg : w3.grownBy wE (some T) := by
  rw [hwE]
  exact grown_trans (grown_trans (grown_trans (grown_set w3 T 0 _) (grown_set _ T 1 _)) (grown_set _ T 2 _)) (grown_set _ T 3 _)
 have e0 : wE.cell? ⟨T, 0, none⟩ = some (.slice so q.os.length sc) := cr hrE rfl
 have e1 : wE.cell? ⟨T, 0 + 1, none⟩ = some (.bool true) := cr hrE rfl
 have e2 : wE.cell? ⟨T, 0 + 2, none⟩ = some (.bool false) := cr hrE rfl
 have e3 : wE.cell? ⟨T, 0 + 3, none⟩ = some (.slice none 0 0) := cr hrE rfl
 have HF : Hid (VlAt wE (.slice so q.os.length sc) (tdV q d.g q.os) ∧ Below w.heap.size w wE) := by
  have h := HE3.out
  refine ⟨?_, h.2.1.grown hg h.2.1.size (fun k hk => by obtain rfl := Option.some.inj hk; exact h.2.2.2.2.2)⟩
  have ho : wE.ownsRow w1.heap.size 66 2 (.slice so q.os.length sc) q.os.length (vlC (tdV q d.g q.os)) := owns_keep h.1 (fun k hk => hg.block k (h.1.lt k hk).2 (fun e => by
   obtain rfl : k = T := Option.some.inj e
   have := (h.1.lt k hk).1
   have := h.2.2.2.1
   omega))
  have hv := (RowAt.of_owns ho).wide
  unfold VlAt
  rw [tdV_length]
  exact hv
 refine bodyPost_ret (v := tickV so q.os.length sc true false none 0 0) ?_ rfl ?_
 ·simp [results, tickV, e0, e1, e2, e3, go_sem]
 ·exact ⟨so, sc, rfl, HF.out⟩
theorem state_any {w0 w : World} {C M : Nat} {dv : Value} {f : List UInt8 → Option Value} {q : Pln} {nb nn : Int} {d : IsD} (hcd : Cd w0 C d.B M dv f q nb nn) (hi : Ist w0 d w) (hn : d.n = q.ps.length) (hks : ∀ x ∈ q.ks, x < q.ps.length) (hkl : q.ks.length ≤ 100000) :
  Calls Tryz.prog 107 #[.pointer (some ⟨d.I, 0, none⟩)] w fun e w' => ∃ so sc, e = .returned (.slice so (q.ks.length + 1) sc) ∧ VlAt w' (.slice so (q.ks.length + 1) sc) ((1, 0) :: tdV q d.g q.ks) ∧ Below w.heap.size w w' := by
 obtain ⟨i0, hi0, hz0, hz1, hz2⟩ := info_parts Tryz.infoValV
 obtain ⟨vi, vt, vk, vo, va, vc, ⟨_, _, l3, _⟩, _, _, hvk, _⟩ := hcd.pln.list
 obtain ⟨ok, ck, ek, _⟩ := hvk.2.2
 subst ek
 obtain ⟨m, hm⟩ : ∃ m, m = q.ks.length := ⟨_, rfl⟩
 rw [← hm] at l3 hvk hkl ⊢
 have HM : Hid (m = q.ks.length ∧ m ≤ 100000) := ⟨hm, hkl⟩
 have HTC : Hid (∀ W, Below w.heap.size w W → Calls Tryz.prog 150 #[.pointer (some ⟨d.I, 0, none⟩), .slice ok m ck] W fun e w' => ∃ so sc, e = .returned (.slice so m sc) ∧ w'.ownsRow W.heap.size 66 2 (.slice so m sc) m (vlC (tdV q d.g q.ks)) ∧ Below W.heap.size W w') := fun W hW => told_any hcd (hi.keep hW) hn ok ck m q.ks hm (hvk.keep (stays_true (hi.below.trans (hW.mono hi.below.size)))) hks (by rw [← hm]; exact hkl)
 have HS : Hid (∀ W, Below w.heap.size w W → W.cell? ⟨d.I, 0, none⟩ = some (.pointer (some ⟨d.B, 0, none⟩)) ∧ W.cell? ⟨d.B, 0 + 3, none⟩ = some (.slice ok m ck)) := fun W hW => ⟨(hi.keep hW).c0, cell_keep hW (cell_keep hi.below l3)⟩
 have HEND : Hid (∀ (W : World) (Q : Nat) (so : Option Addr) (sc : Nat), Below w.heap.size w W → w.heap.size ≤ Q → W.heap[Q]? = some (.cells #[.int .i64 1, .int .i64 (truthI false)] 66 (0, 0)) → RowAt W (fun _ => True) 2 (.slice so m sc) m (vlC (tdV q d.g q.ks)) →
   W.ownsRow w.heap.size 66 2 (.slice (some ⟨Q, 0, none⟩) 1 1) 1 (vlC [(1, 0)])) := fun W Q so sc _ hQ hr _ => ⟨rfl, .inr ⟨Q, 1, _, rfl, hQ, hr, Nat.le_refl _, by unfold maxLen; omega, rfl, rfl⟩⟩
 have hS0 := HS.out w.drew (Below.refl _ _).drew
 clear hcd hi hn hks hkl hvk l3 hm
 go_enter Tryz.func107, Tryz.ntmps107
 go_upto_region 1 with fail
 refine wp_region_till 13 (fun W => W.cell? ⟨d.I, 0, none⟩ = some (.pointer (some ⟨d.B, 0, none⟩)) ∧ W.cell? ⟨d.B, 0 + 3, none⟩ = some (.slice ok m ck)) (fun _ => True) (by kernel_rfl) hS0 trivial (fun hHeld => ?_)
 refine tk 3 6 (.pointer (some ⟨d.I, 0, none⟩)) rfl (.inl ⟨by rfl, by rintro w ⟨b0, b3⟩; go_simp⟩) hHeld ?_
 try simp only [tp]
 refine tk 4 7 (.pointer (some ⟨d.I, 0, none⟩)) rfl (.inl ⟨by rfl, by rintro w ⟨b0, b3⟩; go_simp⟩) hHeld ?_
 try simp only [tp]
 refine tk 5 8 (.pointer (some ⟨d.I, 0, none⟩)) rfl (.inl ⟨by rfl, by rintro w ⟨b0, b3⟩; go_simp⟩) hHeld ?_
 try simp only [tp]
 refine tk 6 9 (.pointer (some ⟨d.I, 0, none⟩)) rfl (.inl ⟨by rfl, by rintro w ⟨b0, b3⟩; go_simp⟩) hHeld ?_
 try simp only [tp]
 refine tk 7 10 (.pointer (some ⟨d.B, 0, none⟩)) rfl (.inl ⟨by rfl, by rintro w ⟨b0, b3⟩; go_simp⟩) hHeld ?_
 try simp only [tp]
 refine tk 8 11 (.pointer (some ⟨d.B, 0, none⟩)) rfl (.inl ⟨by rfl, by rintro w ⟨b0, b3⟩; go_simp⟩) hHeld ?_
 try simp only [tp]
 refine tk 9 12 (.pointer (some ⟨d.B, 3, none⟩)) rfl (.inl ⟨by rfl, by rintro w ⟨b0, b3⟩; go_simp⟩) hHeld ?_
 try simp only [tp]
 refine tk 10 13 (.slice ok m ck) rfl (.inl ⟨by rfl, by rintro w ⟨b0, b3⟩; go_simp⟩) hHeld ?_
 try simp only [tp]
 refine wpTill_ready (rs := [0]) (by kernel_rfl) (by simp) ?_
 refine AllTill.cons (o := ⟨some 3, _, _, _, _, _⟩) rfl (fun K hK => ?_) AllTill.nil
 go_simp
 refine (ftruth_any false _).mono ?_
 rintro e w2 ⟨rfl, hw⟩
 have hw2 := hw.symm
 subst hw2
 go_wp2_with fail
 refine hK.out _ _ ⟨hS0, fun _ => trivial⟩ (fun hHeld => ?_)
 clear hK K hw
 try simp only [tp]
 refine tk 1 4 (.agg #[.int .i64 1, .int .i64 (truthI false)]) rfl (.inl ⟨by rfl, by rintro w ⟨b0, b3⟩; go_simp⟩) hHeld ?_
 try simp only [tp]
 refine wpTill_ready (rs := [2, 11]) (by kernel_rfl) (by simp) ?_
 refine AllTill.cons (o := ⟨some 5, _, _, _, _, _⟩) rfl (fun K hK => ?_) (AllTill.cons (o := ⟨some 14, _, _, _, _, _⟩) rfl (fun K hK => ?_) AllTill.nil)
 ·go_simp
  obtain ⟨wA, hwA⟩ : ∃ wA, wA = (w.alloc (.cells #[.int .i64 1, .int .i64 (truthI false)] 66)).drew := ⟨_, rfl⟩
  obtain ⟨Q, hQ⟩ : ∃ Q, Q = w.heap.size := ⟨_, rfl⟩
  have hbA : Below w.heap.size w wA := by rw [hwA]; exact (bal).drew
  have hrA : wA.heap[Q]? = some (.cells #[.int .i64 1, .int .i64 (truthI false)] 66 (0, 0)) := by rw [hwA, hQ]; exact heap_alloc_new w _
  have HA : Hid (Below w.heap.size w wA ∧ w.heap.size ≤ Q ∧ wA.heap[Q]? = some (.cells #[.int .i64 1, .int .i64 (truthI false)] 66 (0, 0))) := ⟨hbA, by rw [hQ]; exact Nat.le_refl _, hrA⟩
  rw [← hwA, ← hQ]
  refine hK.out _ _ ⟨HS.out wA hbA, fun _ => trivial⟩ (fun hHeld => ?_)
  clear hK K hwA hQ hbA hrA hS0
  try simp only [tp]
  refine wpTill_ready (rs := [11]) (by kernel_rfl) (by simp) ?_
  refine AllTill.cons (o := ⟨some 14, _, _, _, _, _⟩) rfl (fun K hK => ?_) AllTill.nil
  go_simp
  refine (HTC.out wA HA.out.1).mono ?_
  rintro e w3 ⟨so, sc, rfl, hown, hb3⟩
  have HB3 : Hid (Below w.heap.size w w3) := HA.out.1.trans (hb3.mono HA.out.1.size)
  have HTR : Hid (RowAt w3 (fun _ => True) 2 (.slice so m sc) m (vlC (tdV q d.g q.ks))) := (RowAt.of_owns hown).wide
  have HQ : Hid (w.heap.size ≤ Q ∧ w3.heap[Q]? = some (.cells #[.int .i64 1, .int .i64 (truthI false)] 66 (0, 0))) := ⟨HA.out.2.1, row_keep hb3 HA.out.2.2⟩
  clear hown hb3
  go_wp2_with fail
  refine hK.out _ _ ⟨HS.out w3 HB3.out, fun _ => trivial⟩ (fun hHeld => ?_)
  clear hK K
  try simp only [tp]
  have HOW : Hid (w3.ownsRow w.heap.size 66 2 (.slice (some ⟨Q, 0, none⟩) 1 1) 1 (vlC [(1, 0)])) := HEND.out w3 Q so sc HB3.out HQ.out.1 HQ.out.2 HTR.out
  by_cases hm0 : m = 0
  ·have hno := append_noV (v := .slice (some ⟨Q, 0, none⟩) 1 1) HOW.out so sc
   have HF : Hid (VlAt w3 (.slice (some ⟨Q, 0, none⟩) (m + 1) 1) ((1, 0) :: tdV q d.g q.ks)) := by
    have hk : q.ks = [] := List.eq_nil_of_length_eq_zero (by rw [← HM.out.1]; exact hm0)
    rw [hk, hm0]
    exact (RowAt.of_owns HOW.out).wide
   subst hm0
   refine wpTill_ready (rs := [12]) (by kernel_rfl) (by simp) ?_
   refine AllTill.cons (o := ⟨some 15, _, _, _, _, _⟩) rfl (fun K hK => ?_) AllTill.nil
   refine step_append_run rfl (.tmp 5) (.tmp 14) 64 64 rfl _ _ (by simp [Act.eval]) (by simp [Act.eval]) _ _ (hno _) ?_
   refine hK.out _ _ ⟨HS.out w3 HB3.out, fun _ => trivial⟩ (fun hHeld => ?_)
   clear hK K
   try simp only [tp]
   refine wpTill_ready (rs := [13]) (by kernel_rfl) (by simp) ?_
   refine AllTill.cons (o := ⟨some 2, _, _, _, _, _⟩) rfl (fun K hK => ?_) AllTill.nil
   go_simp
   refine hK.out _ _ (Till.last (HS.out w3 HB3.out)) (fun hHeld => ?_)
   clear hK K
   try simp only [tp]
   refine wpTill_done (by kernel_rfl) ?_ _
   clear hHeld hno
   go_wp2
   go_ret
   exact ⟨_, _, rfl, HF.out, HB3.out⟩
  ·have hmp : 0 < m := by omega
   obtain ⟨sb, soff, sc', es, _, _, hsc⟩ := HTR.out.at (by rw [HTR.out.1]; omega)
   obtain ⟨rfl, rfl⟩ : so = some ⟨sb, soff, none⟩ ∧ sc = sc' := by simpa using es
   have HNQ : Hid (∀ j u, (vlC (tdV q d.g q.ks))[j]? = some u → w3.cell? ((⟨sb, soff, none⟩ : Addr).add j) = some u) := fun j u hj => by rw [Addr.add_lit]; exact hsc j u hj
   have HQL : Hid ((vlC (tdV q d.g q.ks)).length = m * 2 ∧ (∀ u ∈ vlC (tdV q d.g q.ks), u.oneCell' = true) ∧ 0 < m) := ⟨HTR.out.1, fun u hu => by unfold vlC at hu; obtain ⟨x, _, hx⟩ := List.mem_flatMap.1 hu; simp at hx; rcases hx with rfl | rfl <;> rfl, hmp⟩
   have HMX : Hid (1 + m ≤ maxLen ∧ (1 + m) * 16 ≤ 140737488355328) := by have := HM.out.2; unfold Hid maxLen; omega
   clear es hsc hmp hm0
   refine wpTill_ready (rs := [12]) (by kernel_rfl) (by simp) ?_
   refine AllTill.cons (o := ⟨some 15, _, _, _, _, _⟩) rfl (fun K hK => ?_) AllTill.nil
   refine step_append_lies _ rfl (.tmp 5) (.tmp 14) 64 rfl w.heap.size 66 i0 _ 2 16 Tryz.underlying64 hi0 hz0 hz1 hz2 rfl (by omega) (.slice (some ⟨Q, 0, none⟩) 1 1) 1 _ (by simp [Act.eval]) HOW.out ⟨sb, soff, none⟩ m _ _ (by simp [Act.eval]; rfl) HQL.out.1 HNQ.out HQL.out.2.1 HQL.out.2.2 HMX.out.1 HMX.out.2 (HB3.out).size _ rfl ?_
   intro g cap w7 hown7 hgrow hat hlt7
   have hbw7 : Below w.heap.size w w7 := (HB3.out).grown hgrow (HB3.out).size (fun k hk => (HOW.out.lt k hk).1)
   have HF : Hid (VlAt w7 (.slice (some ⟨g, 0, none⟩) (m + 1) cap) ((1, 0) :: tdV q d.g q.ks) ∧ Below w.heap.size w w7) := by
    refine ⟨?_, hbw7⟩
    have hr := (RowAt.of_owns hown7).wide
    have e : ((1, 0) :: tdV q d.g q.ks).length = m + 1 := by rw [List.length_cons, tdV_length, HM.out.1]
    unfold VlAt
    rw [e]
    rw [Nat.add_comm 1 m] at hr
    exact hr
   refine hK.out _ _ ⟨HS.out w7 hbw7, fun _ => trivial⟩ (fun hHeld => ?_)
   clear hK K
   try simp only [tp]
   refine wpTill_ready (rs := [13]) (by kernel_rfl) (by simp) ?_
   refine AllTill.cons (o := ⟨some 2, _, _, _, _, _⟩) rfl (fun K hK => ?_) AllTill.nil
   go_simp
   refine hK.out _ _ (Till.last (HS.out w7 HF.out.2)) (fun hHeld => ?_)
   clear hK K
   try simp only [tp]
   refine wpTill_done (by kernel_rfl) ?_ _
   clear hHeld hown7 hgrow hat hlt7 hbw7
   go_wp2
   go_ret
   exact ⟨_, _, by rw [Nat.add_comm 1 m]; rfl, HF.out⟩
 ·go_simp
  refine (HTC.out w.drew (Below.refl _ _).drew).mono ?_
  rintro e w3 ⟨so, sc, rfl, hown, hb3⟩
  have HB3 : Hid (Below w.heap.size w w3) := (Below.refl w.heap.size w).drew.trans hb3
  have HTR3 : Hid (RowAt w3 (fun _ => True) 2 (.slice so m sc) m (vlC (tdV q d.g q.ks))) := (RowAt.of_owns hown).wide
  clear hown hb3
  go_wp2_with fail
  refine hK.out _ _ ⟨HS.out w3 HB3.out, fun _ => trivial⟩ (fun hHeld => ?_)
  clear hK K hS0
  try simp only [tp]
  refine wpTill_ready (rs := [2]) (by kernel_rfl) (by simp) ?_
  refine AllTill.cons (o := ⟨some 5, _, _, _, _, _⟩) rfl (fun K hK => ?_) AllTill.nil
  go_simp
  obtain ⟨wA, hwA⟩ : ∃ wA, wA = w3.alloc (.cells #[.int .i64 1, .int .i64 (truthI false)] 66) := ⟨_, rfl⟩
  obtain ⟨Q, hQQ⟩ : ∃ Q, Q = w3.heap.size := ⟨_, rfl⟩
  have hbA : Below w3.heap.size w3 wA := by rw [hwA]; exact bal
  have HBA : Hid (Below w.heap.size w wA) := HB3.out.trans (hbA.mono HB3.out.size)
  have HQ : Hid (w.heap.size ≤ Q ∧ wA.heap[Q]? = some (.cells #[.int .i64 1, .int .i64 (truthI false)] 66 (0, 0))) := ⟨by rw [hQQ]; exact HB3.out.size, by rw [hwA, hQQ]; exact heap_alloc_new w3 _⟩
  have HTR : Hid (RowAt wA (fun _ => True) 2 (.slice so m sc) m (vlC (tdV q d.g q.ks))) := HTR3.out.keep (stays_true hbA)
  rw [← hwA, ← hQQ]
  clear hwA hQQ hbA
  refine hK.out _ _ ⟨HS.out wA HBA.out, fun _ => trivial⟩ (fun hHeld => ?_)
  clear hK K
  try simp only [tp]
  have HOW : Hid (wA.ownsRow w.heap.size 66 2 (.slice (some ⟨Q, 0, none⟩) 1 1) 1 (vlC [(1, 0)])) := HEND.out wA Q so sc HBA.out HQ.out.1 HQ.out.2 HTR.out
  by_cases hm0 : m = 0
  ·have hno := append_noV (v := .slice (some ⟨Q, 0, none⟩) 1 1) HOW.out so sc
   have HF : Hid (VlAt wA (.slice (some ⟨Q, 0, none⟩) (m + 1) 1) ((1, 0) :: tdV q d.g q.ks)) := by
    have hk : q.ks = [] := List.eq_nil_of_length_eq_zero (by rw [← HM.out.1]; exact hm0)
    rw [hk, hm0]
    exact (RowAt.of_owns HOW.out).wide
   subst hm0
   refine wpTill_ready (rs := [12]) (by kernel_rfl) (by simp) ?_
   refine AllTill.cons (o := ⟨some 15, _, _, _, _, _⟩) rfl (fun K hK => ?_) AllTill.nil
   refine step_append_run rfl (.tmp 5) (.tmp 14) 64 64 rfl _ _ (by simp [Act.eval]) (by simp [Act.eval]) _ _ (hno _) ?_
   refine hK.out _ _ ⟨HS.out wA HBA.out, fun _ => trivial⟩ (fun hHeld => ?_)
   clear hK K
   try simp only [tp]
   refine wpTill_ready (rs := [13]) (by kernel_rfl) (by simp) ?_
   refine AllTill.cons (o := ⟨some 2, _, _, _, _, _⟩) rfl (fun K hK => ?_) AllTill.nil
   go_simp
   refine hK.out _ _ (Till.last (HS.out wA HBA.out)) (fun hHeld => ?_)
   clear hK K
   try simp only [tp]
   refine wpTill_done (by kernel_rfl) ?_ _
   clear hHeld hno
   go_wp2
   go_ret
   exact ⟨_, _, rfl, HF.out, HBA.out⟩
  ·have hmp : 0 < m := by omega
   obtain ⟨sb, soff, sc', es, _, _, hsc⟩ := HTR.out.at (by rw [HTR.out.1]; omega)
   obtain ⟨rfl, rfl⟩ : so = some ⟨sb, soff, none⟩ ∧ sc = sc' := by simpa using es
   have HNQ : Hid (∀ j u, (vlC (tdV q d.g q.ks))[j]? = some u → wA.cell? ((⟨sb, soff, none⟩ : Addr).add j) = some u) := fun j u hj => by rw [Addr.add_lit]; exact hsc j u hj
   have HQL : Hid ((vlC (tdV q d.g q.ks)).length = m * 2 ∧ (∀ u ∈ vlC (tdV q d.g q.ks), u.oneCell' = true) ∧ 0 < m) := ⟨HTR.out.1, fun u hu => by unfold vlC at hu; obtain ⟨x, _, hx⟩ := List.mem_flatMap.1 hu; simp at hx; rcases hx with rfl | rfl <;> rfl, hmp⟩
   have HMX : Hid (1 + m ≤ maxLen ∧ (1 + m) * 16 ≤ 140737488355328) := by have := HM.out.2; unfold Hid maxLen; omega
   clear es hsc hmp hm0
   refine wpTill_ready (rs := [12]) (by kernel_rfl) (by simp) ?_
   refine AllTill.cons (o := ⟨some 15, _, _, _, _, _⟩) rfl (fun K hK => ?_) AllTill.nil
   refine step_append_lies _ rfl (.tmp 5) (.tmp 14) 64 rfl w.heap.size 66 i0 _ 2 16 Tryz.underlying64 hi0 hz0 hz1 hz2 rfl (by omega) (.slice (some ⟨Q, 0, none⟩) 1 1) 1 _ (by simp [Act.eval]) HOW.out ⟨sb, soff, none⟩ m _ _ (by simp [Act.eval]; rfl) HQL.out.1 HNQ.out HQL.out.2.1 HQL.out.2.2 HMX.out.1 HMX.out.2 (HBA.out).size _ rfl ?_
   intro g cap w7 hown7 hgrow hat hlt7
   have hbw7 : Below w.heap.size w w7 := (HBA.out).grown hgrow (HBA.out).size (fun k hk => (HOW.out.lt k hk).1)
   have HF : Hid (VlAt w7 (.slice (some ⟨g, 0, none⟩) (m + 1) cap) ((1, 0) :: tdV q d.g q.ks) ∧ Below w.heap.size w w7) := by
    refine ⟨?_, hbw7⟩
    have hr := (RowAt.of_owns hown7).wide
    have e : ((1, 0) :: tdV q d.g q.ks).length = m + 1 := by rw [List.length_cons, tdV_length, HM.out.1]
    unfold VlAt
    rw [e]
    rw [Nat.add_comm 1 m] at hr
    exact hr
   refine hK.out _ _ ⟨HS.out w7 hbw7, fun _ => trivial⟩ (fun hHeld => ?_)
   clear hK K
   try simp only [tp]
   refine wpTill_ready (rs := [13]) (by kernel_rfl) (by simp) ?_
   refine AllTill.cons (o := ⟨some 2, _, _, _, _, _⟩) rfl (fun K hK => ?_) AllTill.nil
   go_simp
   refine hK.out _ _ (Till.last (HS.out w7 HF.out.2)) (fun hHeld => ?_)
   clear hK K
   try simp only [tp]
   refine wpTill_done (by kernel_rfl) ?_ _
   clear hHeld hown7 hgrow hat hlt7 hbw7
   go_wp2
   go_ret
   exact ⟨_, _, by rw [Nat.add_comm 1 m]; rfl, HF.out⟩
end Go.Proofs.YtiejfopholdbnaaGreatDoor
