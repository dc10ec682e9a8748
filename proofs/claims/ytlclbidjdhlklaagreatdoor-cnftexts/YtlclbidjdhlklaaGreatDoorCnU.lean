/-
  package cnf: written BY CONTRACT.
-/
import Derived.Test.YtlclbidjdhlklaaGreatDoorCnV
namespace Go.Proofs.YtlclbidjdhlklaaGreatDoor
open Go.RowKit Go.Maps

theorem ClsAt.get {w : World} {o : Option Addr} {n c : Nat} {cs : List (List Int)} (h : ClsAt w (.slice o n c) cs) {k : Nat} {l : List Int} (hk : cs[k]? = some l) : ∃ b off o' c', o = some ⟨b, off, none⟩ ∧ w.cell? ⟨b, off + k, none⟩ = some (.slice o' l.length c') ∧ ∀ j x, l[j]? = some x → ∃ b' off', o' = some ⟨b', off', none⟩ ∧ w.cell? ⟨b', off' + j, none⟩ = some (.int .i64 x) := by
  obtain ⟨_, o1, c1, e, h⟩ := h
  obtain ⟨b, off, v', rfl, hc, o', c', rfl, hi⟩ := h k l hk
  obtain ⟨rfl, _, _⟩ : o = some ⟨b, off, none⟩ ∧ n = cs.length ∧ c = c1 := by simpa using e
  refine ⟨b, off, o', c', rfl, hc, fun j x hj => ?_⟩
  obtain ⟨b', off', e', _, hx⟩ := hi j x hj
  exact ⟨b', off', e', hx⟩
/-- The row of the first bytes. -/
def headO : Obj := .cells #[.int .u8 112, .int .u8 32, .int .u8 99, .int .u8 110, .int .u8 102, .int .u8 32] 5 (6, 7)
theorem full_start (w : World) (ob : Obj) : FullAt (((w.alloc ob).alloc headO).alloc (.cells #[.slice (some ⟨w.heap.size + 1, 0, none⟩) 6 6] 60)) (.slice (some ⟨w.heap.size + 1, 0, none⟩) 6 6) headB := by
  refine ⟨⟨w.heap.size + 1, 0, none⟩, rfl, fun j u hj => ?_⟩
  have hadd : ∀ j, (⟨w.heap.size + 1, 0, none⟩ : Addr).add j = ⟨w.heap.size + 1, j, none⟩ := fun j => by unfold Addr.add; split <;> simp_all
  have hr : (((w.alloc ob).alloc headO).alloc (.cells #[.slice (some ⟨w.heap.size + 1, 0, none⟩) 6 6] 60)).heap[w.heap.size + 1]? = some headO := by
    refine alloc_row' _ ?_
    have := heap_alloc_new (w.alloc ob) headO
    rw [World.size_alloc] at this
    exact this
  rw [hadd, cell_of_row _ _ _ _ _ _ hr]
  have e : Lib.byteCells headB = #[Value.int .u8 112, .int .u8 32, .int .u8 99, .int .u8 110, .int .u8 102, .int .u8 32].toList := rfl
  rw [e] at hj
  simpa using hj
theorem flat_take {cs : List (List Int)} {j : Nat} {c : List Int} (h : cs[j]? = some c) : (cs.take (j + 1)).flatMap clauseB = (cs.take j).flatMap clauseB ++ clauseB c := by
  rw [List.take_add_one, h, List.flatMap_append]; simp
theorem nums_take {c : List Int} {j : Nat} {x : Int} (h : c[j]? = some x) : ((c.take (j + 1)).flatMap fun x => numB x 32) = ((c.take j).flatMap fun x => numB x 32) ++ numB x 32 := by
  rw [List.take_add_one, h, List.flatMap_append]; simp
set_option maxRecDepth 100000 in
set_option maxHeartbeats 4000000 in
theorem written_any (w : World) (n : Int) (hn : I64 n) (hn0 : 0 ≤ n) (v : Value) (cs : List (List Int)) (hv : ClsAt w v cs) (hI : ∀ c ∈ cs, ∀ x ∈ c, I64 x) (hs : sizC cs ≤ 100000) (htab : Lib.TabIs Tryz.prog w "internal/strconv.uint64pow10" .u64 Lib.pow10Tab) :
    Calls Tryz.prog 14 #[.agg #[.int .i64 n, v]] w fun e w' => e = .returned (.string ⟨(textC n cs).toArray⟩) ∧ Below w.heap.size w w' := by
  have HV : Hid (ClsAt w v cs) := hv
  obtain ⟨_, o, c, rfl, _⟩ := hv
  obtain ⟨w1, hw1⟩ : ∃ w1, w1 = ((w.alloc (.cells #[.int .i64 n, .slice o cs.length c] 31)).alloc headO).alloc (.cells #[.slice (some ⟨w.heap.size + 1, 0, none⟩) 6 6] 60) := ⟨_, rfl⟩
  have hfu1 : FullAt w1 (.slice (some ⟨w.heap.size + 1, 0, none⟩) 6 6) headB := by rw [hw1]; exact full_start w _
  have hC1 : w1.heap[w.heap.size + 2]? = some (.cells #[.slice (some ⟨w.heap.size + 1, 0, none⟩) 6 6] 60 (0, 0)) := by
    have := heap_alloc_new ((w.alloc (.cells #[.int .i64 n, .slice o cs.length c] 31)).alloc headO) (.cells #[.slice (some ⟨w.heap.size + 1, 0, none⟩) 6 6] 60)
    rw [World.size_alloc, World.size_alloc] at this
    rw [hw1]
    exact this
  have hb1 : Below w.heap.size w w1 := by rw [hw1]; exact (((Below.refl _ _).alloc (Nat.le_refl _) _).alloc (by simp) _).alloc (by simp; omega) _
  have hf1 : w1.heap[w.heap.size]? = some (.cells #[.int .i64 n, .slice o cs.length c] 31 (0, 0)) := by rw [hw1]; exact alloc_row' _ (alloc_row' _ (heap_alloc_new _ _))
  have z0 : w1.cell? ⟨w.heap.size, 0, none⟩ = some (.int .i64 n) := by rw [cell_of_row w1 _ _ _ _ (0, 0) hf1]; rfl
  have hT := Lib.tabBelow_of_tabIs htab
  have HT : Hid (Lib.TabBelow Tryz.prog w.heap.size w "internal/strconv.uint64pow10" .u64 Lib.pow10Tab) := hT
  have hlen := sizC_len cs
  have HW1 : Hid (((w.alloc (.cells #[.int .i64 n, .slice o cs.length c] 31)).alloc headO).alloc (.cells #[.slice (some ⟨w.heap.size + 1, 0, none⟩) 6 6] 60) = w1) := hw1.symm
  have HFU1 : Hid (FullAt w1 (.slice (some ⟨w.heap.size + 1, 0, none⟩) 6 6) headB) := hfu1
  have HC1 : Hid (w1.heap[w.heap.size + 2]? = some (.cells #[.slice (some ⟨w.heap.size + 1, 0, none⟩) 6 6] 60 (0, 0))) := hC1
  have kc : (convert 60 60 (.slice (some ⟨w.heap.size + 1, 0, none⟩) 6 6)).run Tryz.prog ((w.alloc (.cells #[.int .i64 n, .slice o cs.length c] 31)).alloc (.cells #[.int .u8 112, .int .u8 32, .int .u8 99, .int .u8 110, .int .u8 102, .int .u8 32] 5)) = .ok (.slice (some ⟨w.heap.size + 1, 0, none⟩) 6 6) ((w.alloc (.cells #[.int .i64 n, .slice o cs.length c] 31)).alloc headO) := by
    have := Lib.run_convert_bytes_const (P := Tryz.prog) (w.alloc (.cells #[.int .i64 n, .slice o cs.length c] 31)) 60 5 #[.int .u8 112, .int .u8 32, .int .u8 99, .int .u8 110, .int .u8 102, .int .u8 32] 6 6 Tryz.underlying60 Tryz.underlying5
    rw [World.size_alloc] at this
    exact this
  have HB1 : Hid (Below w.heap.size w w1) := hb1
  have HF1 : Hid (w1.heap[w.heap.size]? = some (.cells #[.int .i64 n, .slice o cs.length c] 31 (0, 0))) := hf1
  have HNI : Hid (I64 n) := hn
  have HN0 : Hid (0 ≤ n) := hn0
  have HI : Hid (∀ c ∈ cs, ∀ x ∈ c, I64 x) := hI
  have HS : Hid (sizC cs ≤ 100000) := hs
  have HLN : Hid (cs.length ≤ 100000) := by unfold Hid; omega
  have Z0 : Hid (w1.cell? ⟨w.heap.size, 0, none⟩ = some (.int .i64 n)) := z0
  clear hn hn0 hI hs htab hw1 hfu1 hC1 hb1 hf1 z0 hT hlen
  go_enter Tryz.func14, Tryz.ntmps14
  go_wp2_with fail
  rw [HW1.out]
  refine (wfirst_any w.heap.size _ _ w1 _ (by omega) HC1.out HFU1.out HB1.out.size n HNI.out HN0.out 32 (by decide) (HT.out.on HB1.out).here).mono ?_
  rintro e w2 ⟨rfl, hbt2, hb2, hok2⟩
  have hf2 : w2.heap[w.heap.size]? = some (.cells #[.int .i64 n, .slice o cs.length c] 31 (0, 0)) := hok2 _ _ HF1.out (by simp) (fun c fz h => by cases h)
  have z1 : w2.cell? ⟨w.heap.size, 0 + 1, none⟩ = some (.slice o cs.length c) := by rw [cell_of_row w2 _ _ _ _ (0, 0) hf2]; rfl
  have HBT2 : Hid (BtAt w.heap.size (w.heap.size + 2) (headB ++ numB n 32) w2) := hbt2
  have HB2 : Hid (Below w.heap.size w w2) := HB1.out.trans hb2
  have HF2 : Hid (w2.heap[w.heap.size]? = some (.cells #[.int .i64 n, .slice o cs.length c] 31 (0, 0))) := hf2
  clear hbt2 hb2 hok2 hf2
  go_wp2_with fail
  refine (wsay_any _ _ _ w2 HBT2.out HB2.out.size (cs.length : Int) (by have := HLN.out; unfold I64; omega) 10 (by have := numB_le HNI.out 32; simp [headB]; omega) (HT.out.on HB2.out)).mono ?_
  rintro e w3 ⟨rfl, hbt3, hb3, hok3⟩
  have hf3 : w3.heap[w.heap.size]? = some (.cells #[.int .i64 n, .slice o cs.length c] 31 (0, 0)) := hok3 _ _ HF2.out (by simp) (fun c fz h => by cases h)
  have z2 : w3.cell? ⟨w.heap.size, 0 + 1, none⟩ = some (.slice o cs.length c) := by rw [cell_of_row w3 _ _ _ _ (0, 0) hf3]; rfl
  obtain ⟨pre, hpre⟩ : ∃ pre, pre = headB ++ numB n 32 ++ numB (cs.length : Int) 10 := ⟨_, rfl⟩
  have hpl : pre.length ≤ 100 := by
    have h1 := numB_le HNI.out 32
    have h2 := numB_le (n := (cs.length : Int)) (by have := HLN.out; unfold I64; omega) 10
    rw [hpre, List.length_append, List.length_append]
    simp [headB]; omega
  rw [← hpre] at hbt3
  have HBT3 : Hid (BtAt w.heap.size (w.heap.size + 2) pre w3) := hbt3
  have HB3 : Hid (Below w.heap.size w w3) := HB2.out.trans hb3
  have HPL : Hid (pre.length ≤ 100) := hpl
  have HPRE : Hid (pre = headB ++ numB n 32 ++ numB (cs.length : Int) 10) := hpre
  clear hbt3 hb3 hok3 hf3 z1 hpl hpre
  go_wp2
  go_loopw [24] (fun t wr => ∃ j : Nat, j ≤ cs.length ∧ t = .int .i64 j ∧ BtAt w.heap.size (w.heap.size + 2) (pre ++ (cs.take j).flatMap clauseB) wr ∧ Below w.heap.size w wr) (fun t _ => cs.length - (intOf t).toNat)
  case atStart => exact ⟨0, Nat.zero_le _, rfl, by simpa using HBT3.out, HB3.out⟩
  case round =>
    obtain ⟨j, hj, rfl, hbt, hb⟩ := hrel
    by_cases hjl : j < cs.length
    · obtain ⟨d, hd⟩ : ∃ d, cs[j]? = some d := ⟨_, List.getElem?_eq_getElem hjl⟩
      obtain ⟨b, off, o', c', rfl, hc, hin⟩ := HV.out.get hd
      have q0 := cell_keep hb hc
      have hsz := sizC_get hd
      have hft := flat_take hd
      have hdm : ∀ x ∈ d, I64 x := HI.out d (List.mem_of_getElem? hd)
      have hcl := clauses_le (cs.take j) (fun c hc => HI.out c (List.mem_of_mem_take hc))
      obtain ⟨pj, hpj⟩ : ∃ pj, pj = pre ++ (cs.take j).flatMap clauseB := ⟨_, rfl⟩
      have hpjl : pj.length + 22 * (d.length + 1) ≤ 3000000 := by
        rw [hpj, List.length_append]
        have := HPL.out; have := HS.out
        omega
      rw [← hpj] at hbt
      have HBT : Hid (BtAt w.heap.size (w.heap.size + 2) pj wr) := hbt
      have HB : Hid (Below w.heap.size w wr) := hb
      have HIN : Hid (∀ j x, d[j]? = some x → ∃ b' off', o' = some ⟨b', off', none⟩ ∧ w.cell? ⟨b', off' + j, none⟩ = some (.int .i64 x)) := hin
      have HDM : Hid (∀ x ∈ d, I64 x) := hdm
      have HPJL : Hid (pj.length + 22 * (d.length + 1) ≤ 3000000) := hpjl
      have HEND : Hid (pj ++ clauseB d = pre ++ (cs.take (j + 1)).flatMap clauseB) := by unfold Hid; rw [hft, hpj, List.append_assoc]
      have i0' : (0 : Int) ≤ (j : Int) := by omega
      have i1' : (j : Int) < (cs.length : Int) := by omega
      have N4 : Hid (wrap64 ((j : Int) + 1) = (j : Int) + 1) := by have := HLN.out; unfold Hid wrap64; omega
      have HJ : Hid (j < cs.length) := hjl
      clear hj hjl hd hc hin hsz hft hdm hcl hpj hpjl hbt hb
      go_wp2
      go_loopw [30] (fun t wr => ∃ i : Nat, i ≤ d.length ∧ t = .int .i64 i ∧ BtAt w.heap.size (w.heap.size + 2) (pj ++ (d.take i).flatMap fun x => numB x 32) wr ∧ Below w.heap.size w wr) (fun t _ => d.length - (intOf t).toNat)
      case atStart => exact ⟨0, Nat.zero_le _, rfl, by simpa using HBT.out, HB.out⟩
      case round =>
        obtain ⟨i, hi, rfl, hbti, hbi⟩ := hrel
        have hnl := nums_le (d.take i) (fun x hx => HDM.out x (List.mem_of_mem_take hx))
        have htl : (d.take i).length ≤ i := List.length_take_le _ _
        by_cases hil : i < d.length
        · obtain ⟨x, hx⟩ : ∃ x, d[i]? = some x := ⟨_, List.getElem?_eq_getElem hil⟩
          obtain ⟨b', off', rfl, hcx⟩ := HIN.out i x hx
          have q1 := cell_keep hbi hcx
          have hnt := nums_take hx
          have HNT : Hid (((d.take (i + 1)).flatMap fun x => numB x 32) = ((d.take i).flatMap fun x => numB x 32) ++ numB x 32) := hnt
          have HSAY : Hid (Calls Tryz.prog 27 #[.int .i64 x, .int .u8 32, .pointer (some ⟨w.heap.size + 2, 0, none⟩)] wr fun e w' => e = .returned (.tuple #[]) ∧ BtAt w.heap.size (w.heap.size + 2) (pj ++ ((d.take i).flatMap fun x => numB x 32) ++ numB x 32) w' ∧ Below w.heap.size wr w' ∧ Lib.OthersKept 5 (some (w.heap.size + 2)) wr w') :=
            wsay_any _ _ _ wr hbti hbi.size x (HDM.out x (List.mem_of_getElem? hx)) 32 (by rw [List.length_append]; have := HPJL.out; omega) (HT.out.on hbi)
          have HBI : Hid (Below w.heap.size w wr) := hbi
          have j0' : (0 : Int) ≤ (i : Int) := by omega
          have j1' : (i : Int) < (d.length : Int) := by omega
          have N5 : Hid (wrap64 ((i : Int) + 1) = (i : Int) + 1) := by have := HPJL.out; unfold Hid wrap64; omega
          have HIL : Hid (i < d.length) := hil
          clear hi hbti hbi hnl htl hil hx hcx hnt
          go_wp2_with (go_at_call 27; refine HSAY.out.mono ?_; rintro e w' ⟨rfl, k1, k2, _⟩; have K1 : Hid (BtAt _ _ _ _) := k1; have K2 : Hid (Below _ _ _) := k2; clear k1 k2)
          exact ⟨⟨i + 1, HIL.out, by rw [N5.out]; rfl, by rw [HNT.out, ← List.append_assoc]; exact K1.out, HBI.out.trans K2.out⟩, by rw [N5.out]; have := HIL.out; simp [intOf]; omega⟩
        · obtain rfl : i = d.length := by omega
          rw [List.take_of_length_le (Nat.le_refl _)] at hbti hnl
          have HSAY : Hid (Calls Tryz.prog 27 #[.int .i64 0, .int .u8 10, .pointer (some ⟨w.heap.size + 2, 0, none⟩)] wr fun e w' => e = .returned (.tuple #[]) ∧ BtAt w.heap.size (w.heap.size + 2) (pj ++ (d.flatMap fun x => numB x 32) ++ numB 0 10) w' ∧ Below w.heap.size wr w' ∧ Lib.OthersKept 5 (some (w.heap.size + 2)) wr w') :=
            wsay_any _ _ _ wr hbti hbi.size 0 (by unfold I64; omega) 10 (by rw [List.length_append]; have := HPJL.out; omega) (HT.out.on hbi)
          have HBI : Hid (Below w.heap.size w wr) := hbi
          clear hi hbti hbi hnl htl hil
          go_wp2_with (go_at_call 27; refine HSAY.out.mono ?_; rintro e w' ⟨rfl, k1, k2, _⟩; have K1 : Hid (BtAt _ _ _ _) := k1; have K2 : Hid (Below _ _ _) := k2; clear k1 k2)
          exact ⟨⟨j + 1, HJ.out, by rw [N4.out]; rfl, by rw [← HEND.out]; unfold clauseB; rw [← List.append_assoc]; exact K1.out, HBI.out.trans K2.out⟩, by rw [N4.out]; have := HJ.out; simp [intOf]; omega⟩
    · obtain rfl : j = cs.length := by omega
      rw [List.take_of_length_le (Nat.le_refl _), HPRE.out] at hbt
      obtain ⟨_, sv, hC, hown⟩ := hbt
      have htx : headB ++ numB n 32 ++ numB (cs.length : Int) 10 ++ cs.flatMap clauseB = textC n cs := rfl
      rw [htx] at hown
      obtain ⟨tx, htxe⟩ : ∃ tx, tx = textC n cs := ⟨_, rfl⟩
      have hpos : 0 < (textC n cs).length := by unfold textC headB; simp
      rw [← htxe] at hown hpos
      have HTX : Hid (textC n cs = tx) := htxe.symm
      obtain ⟨g, cap, rfl, _, _⟩ := hown.form hpos
      have hadd : ∀ j, (⟨g, 0, none⟩ : Addr).add j = ⟨g, 0 + j, none⟩ := fun j => by unfold Addr.add; split <;> simp_all
      have hcv := run_convert_bytes_back (P := Tryz.prog) wr 60 9 5 ⟨g, 0, none⟩ cap tx Tryz.underlying60 Tryz.underlying5 Tryz.underlying9 (fun j hj => hown.cells (g := g) rfl j _ (by simp [Lib.byteCells, hj]))
      have q1 : wr.cell? ⟨w.heap.size + 2, 0, none⟩ = some (.slice (some ⟨g, 0, none⟩) tx.length cap) := by rw [cell_of_row wr _ _ _ _ (0, 0) hC]; rfl
      have HB : Hid (Below w.heap.size w wr) := hb
      clear hj hjl hC hown htx hpos hb htxe hadd z2
      go_wp2
      go_ret
      exact ⟨by rw [HTX.out]; rfl, HB.out⟩
end Go.Proofs.YtlclbidjdhlklaaGreatDoor
