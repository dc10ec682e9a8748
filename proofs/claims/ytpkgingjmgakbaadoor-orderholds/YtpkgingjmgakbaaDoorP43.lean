/-
  package order: slices.Index, slices.Contains of texts; Late BY CONTRACT.
-/
import Derived.Test.YtpkgingjmgakbaaDoorP42
namespace Go.Proofs.YtpkgingjmgakbaaDoor
open Go.RowKit Go.Maps

/-- Is this text among these names? -/
def hasS (l : List Ex) (s : ByteArray) : Bool := l.any fun e => s.toList == e.op.toList
theorem hasS_false {l : List Ex} {s : ByteArray} (h : ∀ (i : Nat) (x : Ex), l[i]? = some x → (s.toList == x.op.toList) = false) : hasS l s = false := by
  unfold hasS
  rw [List.any_eq_false]
  intro x hx
  obtain ⟨i, hi⟩ := List.mem_iff_getElem?.1 hx
  rw [h i x hi]
  simp
theorem hasS_true {l : List Ex} {s : ByteArray} {i : Nat} {x : Ex} (hi : l[i]? = some x) (h : (s.toList == x.op.toList) = true) : hasS l s = true := List.any_eq_true.2 ⟨x, List.mem_of_getElem? hi, h⟩
set_option maxRecDepth 100000 in
set_option maxHeartbeats 1000000 in
theorem indexS_any (w : World) (S : Nat → Prop) (l : List Ex) (o : Option Addr) (c : Nat) (s : ByteArray) (h : RowAt w S 1 (.slice o l.length c) l.length (nameCells l)) (hl : l.length ≤ 100000) :
    Calls Tryd.prog 35 #[.slice o l.length c, .string s] w fun e w' => ∃ k : Int, e = .returned (.int .i64 k) ∧ decide (0 ≤ k) = hasS l s ∧ w' = w := by
  have HI : Hid (RowAt w S 1 (.slice o l.length c) l.length (nameCells l)) := h
  have HL : Hid (l.length ≤ 100000) := hl
  clear h hl
  go_enter Tryd.func35, Tryd.ntmps35
  go_wp2
  go_loopw [8] (fun t wr => ∃ (j : Nat), j ≤ l.length ∧ t = .int .i64 j ∧ wr = w ∧ Hid (∀ (i : Nat) (x : Ex), i < j → l[i]? = some x → (s.toList == x.op.toList) = false)) (fun t _ => l.length - (intOf t).toNat)
  case atStart => exact ⟨0, Nat.zero_le _, rfl, rfl, fun i x hi => by omega⟩
  case round =>
    obtain ⟨j, hj, rfl, rfl, HJ⟩ := hrel
    by_cases hjl : j < l.length
    · obtain ⟨x, hx⟩ : ∃ x, l[j]? = some x := ⟨_, List.getElem?_eq_getElem hjl⟩
      obtain ⟨b, off, cp, ev, _, _, g⟩ := HI.out.at (by rw [nameCells_length]; omega)
      obtain ⟨rfl, rfl⟩ : o = some ⟨b, off, none⟩ ∧ c = cp := by simpa using ev
      have y0 := g j (.string x.op) (by rw [nameCells_at hjl]; rw [List.getElem?_eq_getElem hjl] at hx; rw [Option.some.inj hx])
      have i0' : (0 : Int) ≤ (j : Int) := by omega
      have i1' : (j : Int) < (l.length : Int) := by omega
      have HX : Hid (l[j]? = some x ∧ j < l.length) := ⟨hx, hjl⟩
      have N4 : Hid (wrap64 ((j : Int) + 1) = (j : Int) + 1) := by have := HL.out; unfold Hid wrap64; omega
      clear ev g hx hj hjl
      by_cases he : (s.toList == x.op.toList) = true
      · have HE : Hid (hasS l s = true) := hasS_true HX.out.1 he
        go_wp2
        go_ret
        exact ⟨(j : Int), rfl, by rw [HE.out]; simp, rfl⟩
      · have he' : (s.toList == x.op.toList) = false := by simpa using he
        have HN : Hid (∀ (i : Nat) (x : Ex), i < j + 1 → l[i]? = some x → (s.toList == x.op.toList) = false) := fun i y hi hy => by
          by_cases e : i = j
          · subst e
            rw [HX.out.1] at hy
            rw [← Option.some.inj hy]
            exact he'
          · exact HJ.out i y (by omega) hy
        clear he
        go_wp2
        exact ⟨⟨j + 1, HX.out.2, by rw [N4.out]; rfl, trivial, HN.out⟩, by rw [N4.out]; have := HX.out.2; simp [intOf]; omega⟩
    · obtain rfl : j = l.length := by omega
      have HE : Hid (hasS l s = false) := hasS_false fun i x hi => HJ.out i x (List.getElem?_eq_some_iff.1 hi).1 hi
      clear hj hjl HJ
      go_wp2
      go_ret
      exact ⟨-1, rfl, by rw [HE.out]; rfl, rfl⟩
set_option maxRecDepth 100000 in
theorem containsS_any (w : World) (S : Nat → Prop) (l : List Ex) (o : Option Addr) (c : Nat) (s : ByteArray) (h : RowAt w S 1 (.slice o l.length c) l.length (nameCells l)) (hl : l.length ≤ 100000) :
    Calls Tryd.prog 18 #[.slice o l.length c, .string s] w fun e w' => e = .returned (.bool (hasS l s)) ∧ w' = w := by
  have HC : Hid (Calls Tryd.prog 35 #[.slice o l.length c, .string s] w fun e w' => ∃ k : Int, e = .returned (.int .i64 k) ∧ decide (0 ≤ k) = hasS l s ∧ w' = w) := indexS_any w S l o c s h hl
  clear h hl
  go_enter Tryd.func18, Tryd.ntmps18
  go_wp2_with fail
  refine HC.out.mono ?_
  rintro e w' ⟨k, rfl, hk, hw⟩
  subst hw
  have HK : Hid (decide (0 ≤ k) = hasS l s) := hk
  clear hk HC
  go_wp2
  go_ret
  exact ⟨by rw [← HK.out]; rfl, rfl⟩
/-- How late the flows are, by their numbers. -/
def ltRow (p : Pg) (f : List UInt8 → Nat) : Nat → Int := fun k => match p.fs[k]? with
  | some x => (f x.name.data.toList : Nat)
  | none => 0
/-- What Late answers. -/
def LateR (p : Pg) (E : ErV) (base : Nat) (e : Ending) (w' : World) : Prop :=
  (∃ (d : List Nat) (f : List UInt8 → Nat) (nb : Nat), OOk p d ∧ LtIs p.fs f ∧ e = .returned (.tuple #[.slice (some ⟨nb, 0, none⟩) p.fs.length p.fs.length, .nilIface]) ∧ base ≤ nb ∧ WtAt w' nb p.fs.length (ltRow p f)) ∨
  ∃ t x, OErr p E w' t x ∧ e = .returned (.tuple #[.slice none 0 0, .iface t x])
set_option maxRecDepth 100000 in
set_option maxHeartbeats 4000000 in
theorem late_any (w : World) (S : Nat → Prop) (p : Pg) (o1 o2 o3 o4 o5 : Option Addr) (c1 c2 c3 c4 c5 : Nat) (E : ErV) (h : PgG w S p o1 o2 o3 o4 o5 c1 c2 c3 c4 c5 E) :
    Calls Tryd.prog 10 #[.agg #[.slice o1 p.ins.length c1, .slice o2 p.outs.length c2, .slice o3 p.fs.length c3, .slice o4 p.asserts.length c4, .slice o5 p.checks.length c5]] w fun e w' => Below w.heap.size w w' ∧ LateR p E w.heap.size e w' := by
  obtain ⟨w1, hw1⟩ : ∃ w1, w1 = w.alloc (.cells #[.slice o1 p.ins.length c1, .slice o2 p.outs.length c2, .slice o3 p.fs.length c3, .slice o4 p.asserts.length c4, .slice o5 p.checks.length c5] 29) := ⟨_, rfl⟩
  have hb1 : Below w.heap.size w w1 := by rw [hw1]; exact (Below.refl _ _).alloc (Nat.le_refl _) _
  have hr1 : w1.heap[w.heap.size]? = some (.cells #[.slice o1 p.ins.length c1, .slice o2 p.outs.length c2, .slice o3 p.fs.length c3, .slice o4 p.asserts.length c4, .slice o5 p.checks.length c5] 29 (0, 0)) := by rw [hw1]; exact heap_alloc_new _ _
  have HFC : Hid (Calls Tryd.prog 17 #[.agg #[.slice o1 p.ins.length c1, .slice o2 p.outs.length c2, .slice o3 p.fs.length c3, .slice o4 p.asserts.length c4, .slice o5 p.checks.length c5]] w1 fun e w' => Below w1.heap.size w1 w' ∧ LatR p E w1.heap.size e w') := latesOf_any w1 S p o1 o2 o3 o4 o5 c1 c2 c3 c4 c5 E (h.keep hb1)
  have HW1 : Hid (w.alloc (.cells #[.slice o1 p.ins.length c1, .slice o2 p.outs.length c2, .slice o3 p.fs.length c3, .slice o4 p.asserts.length c4, .slice o5 p.checks.length c5] 29) = w1) := hw1.symm
  have HB1 : Hid (Below w.heap.size w w1) := hb1
  obtain ⟨P, hP⟩ : ∃ P, P = w.heap.size := ⟨_, rfl⟩
  have HP : Hid (P = w.heap.size) := hP
  rw [← hP] at hr1
  have HR1 : Hid (w1.heap[P]? = some (.cells #[.slice o1 p.ins.length c1, .slice o2 p.outs.length c2, .slice o3 p.fs.length c3, .slice o4 p.asserts.length c4, .slice o5 p.checks.length c5] 29 (0, 0))) := hr1
  have a1 : w1.cell? ⟨P, 0, none⟩ = some (.slice o1 p.ins.length c1) := by rw [cell_of_row w1 _ _ _ _ (0, 0) hr1]; rfl
  have a2 : w1.cell? ⟨P, 0 + 1, none⟩ = some (.slice o2 p.outs.length c2) := by rw [cell_of_row w1 _ _ _ _ (0, 0) hr1]; rfl
  have a3 : w1.cell? ⟨P, 0 + 2, none⟩ = some (.slice o3 p.fs.length c3) := by rw [cell_of_row w1 _ _ _ _ (0, 0) hr1]; rfl
  have a4 : w1.cell? ⟨P, 0 + 3, none⟩ = some (.slice o4 p.asserts.length c4) := by rw [cell_of_row w1 _ _ _ _ (0, 0) hr1]; rfl
  have a5 : w1.cell? ⟨P, 0 + 4, none⟩ = some (.slice o5 p.checks.length c5) := by rw [cell_of_row w1 _ _ _ _ (0, 0) hr1]; rfl
  have HG : Hid (PgG w S p o1 o2 o3 o4 o5 c1 c2 c3 c4 c5 E) := h
  have hmk := make_row Tryd.underlying22 Tryd.infoInt rfl p.fs.length (by have := h.ok.vars; omega) (by omega)
  have HMK : Hid (∀ w : World, (Instr.makeSlice 22 (.int .i64 p.fs.length) (.int .i64 p.fs.length)).run Tryd.prog w = .ok (.slice (some ⟨w.heap.size, 0, none⟩) p.fs.length p.fs.length) (w.alloc (.cells (Array.replicate p.fs.length (.int .i64 0)) 3))) := hmk
  clear h hw1 hb1 hr1 hP hmk
  go_enter Tryd.func10, Tryd.ntmps10
  go_upto_region 1 with fail
  rw [HW1.out, ← HP.out]
  go_wp2_with fail
  refine HFC.out.mono ?_
  rintro e w2 ⟨hb2, hor⟩
  have HB12 : Hid (Below w1.heap.size w1 w2) := hb2
  have HB2 : Hid (Below w.heap.size w w2) := HB1.out.trans (hb2.mono HB1.out.size)
  clear hb2 a1 a2 a3 a4 a5 HFC
  rcases hor with ⟨d, K, nK, g, hok, rfl, hbK, hfn, hgo, hlt⟩ | ⟨t, x, hte, rfl⟩
  · have a3 : w2.cell? ⟨P, 0 + 2, none⟩ = some (.slice o3 p.fs.length c3) := by rw [cell_of_row w2 _ _ _ _ (0, 0) (row_keep HB12.out HR1.out)]; rfl
    obtain ⟨nb, hnb⟩ : ∃ nb, nb = w2.heap.size := ⟨_, rfl⟩
    obtain ⟨w3, hw3⟩ : ∃ w3, w3 = w2.alloc (.cells (Array.replicate p.fs.length (.int .i64 0)) 3) := ⟨_, rfl⟩
    have hb3 : Below w2.heap.size w2 w3 := by rw [hw3]; exact (Below.refl _ _).alloc (Nat.le_refl _) _
    have HS3 : Hid (Below w2.heap.size w2 w3 ∧ WtAt w3 nb p.fs.length (fun _ => 0)) := ⟨hb3, by rw [hw3, hnb]; exact WtAt.made w2 _⟩
    have b3 : w3.cell? ⟨P, 0 + 2, none⟩ = some (.slice o3 p.fs.length c3) := cell_keep hb3 a3
    have HW3 : Hid (w2.alloc (.cells (Array.replicate p.fs.length (.int .i64 0)) 3) = w3 ∧ w2.heap.size = nb) := ⟨hw3.symm, hnb.symm⟩
    have HFN : Hid (FnAt w2 K nK (kindF g) ∧ GOk g ∧ LtIs p.fs (ltG g) ∧ OOk p d) := ⟨hfn, hgo, hlt, hok⟩
    have HNM : Hid (∀ x ∈ p.fs, x.name.size ≤ maxLen) := fun x hx => HG.out.ok.names (x.name, x.kind) (by unfold varsP varsF; exact List.mem_append_right _ (List.mem_map.2 ⟨_, hx, rfl⟩))
    have HDL : Hid (p.fs.length ≤ 1000) := by have := HG.out.ok.vars; unfold Hid; omega
    have hmk := HMK.out
    clear hok hfn hgo hlt hw3 hb3 hnb hbK
    go_upto_region 5 with fail
    rw [HW3.out.2, HW3.out.1]
    clear hmk a3
    go_wp2
    clear b3
    go_loopw [24] (fun t wr => ∃ (j : Nat), j ≤ p.fs.length ∧ t = .int .i64 j ∧ Hid (Below w2.heap.size w2 wr ∧ WtAt wr nb p.fs.length (fun k => if k < j then ltRow p (ltG g) k else 0))) (fun t _ => p.fs.length - (intOf t).toNat)
    case atStart => exact ⟨0, Nat.zero_le _, rfl, HS3.out.1, HS3.out.2.congr (fun k _ => by simp)⟩
    case round =>
      obtain ⟨j, hj, rfl, HR⟩ := hrel
      by_cases hjl : j < p.fs.length
      · have hbr := HR.out.1
        obtain ⟨_, _, ⟨xs, hfr, hfi⟩, _, _⟩ := (HG.out.keep (HB2.out.trans (hbr.mono HB2.out.size))).pg
        obtain ⟨name, kind, op', n', s', es, oo, cc, zs, e, x0, x1, x2, x3, x4, x5, r1, r2⟩ := hfi.at hjl
        obtain ⟨b, off, cp, ev, _, _, gg2⟩ := hfr.at (by have := hfr.1; omega)
        obtain ⟨rfl, rfl⟩ : o3 = some ⟨b, off, none⟩ ∧ c3 = cp := by simpa using ev
        have y0 := gg2 _ _ x0
        have y1 := gg2 _ _ x1
        have y2 := gg2 _ _ x2
        have y3 := gg2 _ _ x3
        have y4 := gg2 _ _ x4
        have y5 := gg2 _ _ x5
        rw [← Nat.add_assoc] at y1 y2 y3 y4 y5
        have i0' : (0 : Int) ≤ (j : Int) := by omega
        have i1' : (j : Int) < (p.fs.length : Int) := by omega
        have ej : p.fs[j]? = some ⟨name, kind, .mk op' n' s' es⟩ := by rw [List.getElem?_eq_getElem hjl, e]
        have hsn : name.size ≤ maxLen := HNM.out _ (List.mem_of_getElem? ej)
        obtain ⟨w4, hw4⟩ : ∃ w4, w4 = wr.alloc (.cells #[.string name, .int .i64 kind, .string op', .int .i64 n', .string s', .slice oo es.length cc] 34) := ⟨_, rfl⟩
        have hb4 : Below wr.heap.size wr w4 := by rw [hw4]; exact (Below.refl _ _).alloc (Nat.le_refl _) _
        have hr4 : w4.heap[wr.heap.size]? = some (.cells #[.string name, .int .i64 kind, .string op', .int .i64 n', .string s', .slice oo es.length cc] 34 (0, 0)) := by rw [hw4]; exact heap_alloc_new _ _
        obtain ⟨B, hB⟩ : ∃ B, B = wr.heap.size := ⟨_, rfl⟩
        rw [← hB] at hr4
        have z0 : w4.cell? ⟨B, 0, none⟩ = some (.string name) := by rw [cell_of_row w4 _ _ _ _ (0, 0) hr4]; rfl
        have hb24 := hbr.trans (hb4.mono hbr.size)
        have hfn4 : FnAt w4 K nK (kindF g) := HFN.out.1.kept (hb24.block _ HFN.out.1.lt)
        have hlk := hfn4.look1 Tryd.underlying54 (zero_int w4) name hsn
        have e1 : (kindF g name.data.toList).getD (.int .i64 0) = .int .i64 ((g name.data.toList).getD 0) := zero_getD _
        rw [e1, ltG_int HFN.out.2.1] at hlk
        obtain ⟨q, hq⟩ : ∃ q, q = ltG g name.data.toList := ⟨_, rfl⟩
        rw [← hq] at hlk
        have hwt4 : WtAt w4 nb p.fs.length (fun k => if k < j then ltRow p (ltG g) k else 0) := (hb4.block _ HR.out.2.lt).trans HR.out.2
        have t0 := hwt4.cell hjl
        have t1 := hwt4.free j
        have HN : Hid (Below w2.heap.size w2 (w4.setCell ⟨nb, j, none⟩ (.int .i64 q)) ∧ WtAt (w4.setCell ⟨nb, j, none⟩ (.int .i64 q)) nb p.fs.length (fun k => if k < j + 1 then ltRow p (ltG g) k else 0)) := by
          refine ⟨hb24.setCell (by have := HW3.out.2; show w2.heap.size ≤ nb; omega) _, (hwt4.set j q).congr fun k hk => ?_⟩
          by_cases e : k = j
          · subst e
            rw [if_pos rfl, if_pos (by omega), hq]
            unfold ltRow
            rw [ej]
          · rw [if_neg e]
            by_cases e2 : k < j
            · rw [if_pos e2, if_pos (by omega)]
            · rw [if_neg e2, if_neg (by omega)]
        have HJ : Hid (j < p.fs.length) := hjl
        have N4 : Hid (wrap64 ((j : Int) + 1) = (j : Int) + 1) := by have := HDL.out; have := HJ.out; unfold Hid wrap64; omega
        have HW4 : Hid (wr.alloc (.cells #[.string name, .int .i64 kind, .string op', .int .i64 n', .string s', .slice oo es.length cc] 34) = w4 ∧ wr.heap.size = B) := ⟨hw4.symm, hB.symm⟩
        clear hbr hfr hfi e x0 x1 x2 x3 x4 x5 r1 r2 ev gg2 ej hsn hw4 hb4 hr4 hB hb24 hfn4 e1 hq hwt4 hj hjl HR
        go_upto_region 8 with fail
        rw [HW4.out.1, HW4.out.2]
        clear y0 y1 y2 y3 y4 y5
        go_wp2
        exact ⟨⟨j + 1, HJ.out, by rw [N4.out]; rfl, HN.out⟩, by rw [N4.out]; have := HJ.out; simp [intOf]; omega⟩
      · obtain rfl : j = p.fs.length := by omega
        have HE : Hid (Below w.heap.size w wr ∧ w.heap.size ≤ nb ∧ WtAt wr nb p.fs.length (ltRow p (ltG g))) := ⟨HB2.out.trans (HR.out.1.mono HB2.out.size), by have := HW3.out.2; have := HB2.out.size; omega, HR.out.2.congr fun k hk => by rw [if_pos hk]⟩
        clear hj hjl HR
        go_wp2
        refine bodyPost_ret (results_tmp2 rfl _ _ _) rfl ?_
        exact ⟨HE.out.1, .inl ⟨d, ltG g, nb, HFN.out.2.2.2, HFN.out.2.2.1, rfl, HE.out.2.1, HE.out.2.2⟩⟩
  · have HTE : Hid (OErr p E w2 t x) := hte
    clear hte
    go_wp2
    refine bodyPost_ret (results_tmp2 rfl _ _ _) rfl ?_
    exact ⟨HB2.out, .inr ⟨t, x, HTE.out, rfl⟩⟩
end Go.Proofs.YtpkgingjmgakbaaDoor
