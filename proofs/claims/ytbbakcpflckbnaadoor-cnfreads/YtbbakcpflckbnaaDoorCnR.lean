/-
  package cnf: Read BY CONTRACT, and the law CnfReads.
-/
import Derived.Test.YtbbakcpflckbnaaDoorCnP
import Derived.Test.YtbbakcpflckbnaaDoorCnW
namespace Go.Proofs.YtbbakcpflckbnaaDoor
open Go.RowKit Go.Maps

/-- What the law's laid variables give. -/
structure RsEnv (w : World) : Prop where
  rd : RdEnv w
  bnd : ∃ t q, w.cell? ⟨1, 0, none⟩ = some (.iface t q)
  shp : ∃ t q, w.cell? ⟨0, 0, none⟩ = some (.iface t q)
theorem RsEnv.below {w w' : World} (h : RsEnv w) (hb : Below w.heap.size w w') : RsEnv w' := by
  obtain ⟨r, ⟨t1, q1, h1⟩, ⟨t2, q2, h2⟩⟩ := h
  exact ⟨r.below hb, ⟨t1, q1, cell_keep hb h1⟩, ⟨t2, q2, cell_keep hb h2⟩⟩
/-- What Read answers. -/
def ReadsP (s : List UInt8) (e : Ending) (w' : World) : Prop :=
  (∃ n sv cs, e = .returned (.tuple #[.agg #[.int .i64 n, sv], .nilIface]) ∧ ClsAt w' sv cs ∧ I64 n ∧ (∀ c ∈ cs, ∀ x ∈ c, I64 x) ∧ sizC cs ≤ 100000 ∧ textC n cs = Lib.trimSuffix s [10] ++ [10] ∧ bndB n cs = false ∧ firstB n cs = none)
  ∨ ∃ t q, e = .returned (.tuple #[.agg #[.int .i64 0, .slice none 0 0], .iface t q])
theorem cls_more {L : Nat} {w w' : World} {sv : Value} {cs : List (List Int)} (h : ∀ w'', (∀ k, L ≤ k → w''.heap[k]? = w.heap[k]?) → ClsAt w'' sv cs) (hb : ∀ k, L ≤ k → k < w.heap.size → w'.heap[k]? = w.heap[k]?) (hs : w.heap.size ≤ w'.heap.size) : ClsAt w' sv cs := by
  have h1 : ClsAt { w' with heap := w'.heap.extract 0 w.heap.size } sv cs := h _ fun k hk => by
    show (w'.heap.extract 0 w.heap.size)[k]? = _
    by_cases hl : k < w.heap.size
    · rw [← hb k hk hl]; simp [Array.getElem?_extract]; omega
    · rw [Array.getElem?_eq_none (by simp; omega), Array.getElem?_eq_none (by omega)]
  refine h1.below ⟨rfl, rfl, rfl, ?_, fun k hk => ?_⟩
  · simp; omega
  · have hk' : k < (w'.heap.extract 0 w.heap.size).size := hk
    rw [Array.size_extract] at hk'
    show _ = (w'.heap.extract 0 w.heap.size)[k]?
    simp [Array.getElem?_extract]; omega

set_option maxRecDepth 100000 in
set_option maxHeartbeats 4000000 in
theorem reads_any (w : World) (S : RsEnv w) (s : ByteArray) (hs : s.size ≤ 5000) : Calls Tryd.prog 18 #[.string s] w fun e w' => ReadsP s.data.toList e w' ∧ Below w.heap.size w w' := by
  obtain ⟨w0, hw0⟩ : ∃ w0, w0 = w.alloc (.cells #[.int .i64 0, .slice none 0 0] 34) := ⟨_, rfl⟩
  have hb0 : Below w.heap.size w w0 := by rw [hw0]; exact (Below.refl _ _).alloc (Nat.le_refl _) _
  have hR0 : w0.heap[w.heap.size]? = some (.cells #[.int .i64 0, .slice none 0 0] 34 (0, 0)) := by rw [hw0]; exact heap_alloc_new _ _
  have HS : Hid (RsEnv w0) := S.below hb0
  have HB0 : Hid (Below w.heap.size w w0) := hb0
  have HR0 : Hid (w0.heap[w.heap.size]? = some (.cells #[.int .i64 0, .slice none 0 0] 34 (0, 0))) := hR0
  have HW0 : Hid (w.alloc (.cells #[.int .i64 0, .slice none 0 0] 34) = w0) := hw0.symm
  have HSZ : Hid (s.size ≤ 5000) := hs
  have d1 : (200000 < (s.size : Int)) = False := eq_false (by omega)
  clear hw0 hb0 hR0 S hs
  go_enter Tryd.func18, Tryd.ntmps18
  go_wp2_with fail
  rw [HW0.out]
  refine (read_any w0 HS.out.rd s HSZ.out).mono ?_
  rintro e w1 ⟨hr, hb1⟩
  have HB1 : Hid (Below w0.heap.size w0 w1) := hb1
  rcases hr with ⟨n, sv, cs, rfl, hcl, hn, hn0, hI, hsz, htx⟩ | ⟨q, rfl⟩
  · have HKL : Hid (∀ w'', (∀ k, w0.heap.size ≤ k → w''.heap[k]? = w1.heap[k]?) → ClsAt w'' sv cs) := hcl
    have hcc := hcl w1 (fun _ _ => rfl)
    have HCL : Hid (ClsAt w1 sv cs) := hcc
    obtain ⟨_, so, sc, rfl, _⟩ := hcc
    have HN : Hid (I64 n ∧ (∀ c ∈ cs, ∀ x ∈ c, I64 x) ∧ sizC cs ≤ 100000 ∧ textC n cs = Lib.trimSuffix s.data.toList [10] ++ [10]) := ⟨hn, hI, hsz, htx⟩
    obtain ⟨w2, hw2⟩ : ∃ w2, w2 = w1.alloc (.cells #[.int .i64 n, .slice so cs.length sc] 34) := ⟨_, rfl⟩
    have hb2 : Below w1.heap.size w1 w2 := by rw [hw2]; exact (Below.refl _ _).alloc (Nat.le_refl _) _
    have hr2 : w2.heap[w1.heap.size]? = some (.cells #[.int .i64 n, .slice so cs.length sc] 34 (0, 0)) := by rw [hw2]; exact heap_alloc_new w1 _
    have HW2 : Hid (w1.alloc (.cells #[.int .i64 n, .slice so cs.length sc] 34) = w2) := hw2.symm
    have HB2 : Hid (Below w1.heap.size w1 w2) := hb2
    have HR2 : Hid (w2.heap[w1.heap.size]? = some (.cells #[.int .i64 n, .slice so cs.length sc] 34 (0, 0))) := hr2
    clear hn hn0 hI hsz htx hw2 hb2 hr2 hb1 hcl
    go_wp2_with fail
    rw [HW2.out]
    obtain ⟨tb, qb, eb⟩ := ((HS.out.below HB1.out).below HB2.out).bnd
    obtain ⟨ts, qs, es⟩ := ((HS.out.below HB1.out).below HB2.out).shp
    refine (check_any w2 n _ cs (HCL.out.below HB2.out) (by have := HN.out.2.2.1; omega) tb ts qb qs eb es).mono ?_
    rintro e w3 ⟨hc, hb3⟩
    have HB13 : Hid (Below w1.heap.size w1 w3) := HB2.out.trans (hb3.mono HB2.out.size)
    have HB3 : Hid (Below w0.heap.size w0 w3) := HB1.out.trans (HB13.out.mono HB1.out.size)
    have hr3 := row_keep hb3 HR2.out
    have c0 : w3.cell? ⟨w1.heap.size, 0, none⟩ = some (.int .i64 n) := by rw [cell_of_row w3 _ _ _ _ (0, 0) hr3]; rfl
    have c1 : w3.cell? ⟨w1.heap.size, 0 + 1, none⟩ = some (.slice so cs.length sc) := by rw [cell_of_row w3 _ _ _ _ (0, 0) hr3]; rfl
    clear eb es hb3 hr3
    rcases hc with ⟨_, rfl⟩ | ⟨_, j, P, _, rfl, _⟩ | ⟨hg1, hg2, rfl⟩
    · have hrr := row_keep HB3.out HR0.out
      have y0 : w3.cell? ⟨w.heap.size, 0, none⟩ = some (.int .i64 0) := by rw [cell_of_row w3 _ _ _ _ (0, 0) hrr]; rfl
      have y1 : w3.cell? ⟨w.heap.size, 0 + 1, none⟩ = some (.slice none 0 0) := by rw [cell_of_row w3 _ _ _ _ (0, 0) hrr]; rfl
      have f0 : w3.frozen? ⟨w.heap.size, 0, none⟩ = false := frozen_row hrr
      have f1 : w3.frozen? ⟨w.heap.size, 0 + 1, none⟩ = false := frozen_row hrr
      have hz := set_pair hrr (.int .i64 0) (.slice none 0 0)
      have HZ2 : Hid ((((w3.setCell ⟨w.heap.size, 0, none⟩ (.int .i64 0)).setCell ⟨w.heap.size, 1, none⟩ (.slice none 0 0)).cell? ⟨w.heap.size, 0, none⟩ = some (.int .i64 0)) ∧ (((w3.setCell ⟨w.heap.size, 0, none⟩ (.int .i64 0)).setCell ⟨w.heap.size, 1, none⟩ (.slice none 0 0)).cell? ⟨w.heap.size, 1, none⟩ = some (.slice none 0 0))) := hz
      have HBE : Hid (Below w.heap.size w ((w3.setCell ⟨w.heap.size, 0, none⟩ (.int .i64 0)).setCell ⟨w.heap.size, 1, none⟩ (.slice none 0 0))) := ((HB0.out.trans (HB3.out.mono HB0.out.size)).setCell (Nat.le_refl _) _).setCell (Nat.le_refl _) _
      clear hrr hz
      go_wp2
      have g0 := HZ2.out.1
      have g1 := HZ2.out.2
      refine bodyPost_ret (v := .tuple #[.agg #[.int .i64 0, .slice none 0 0], .iface tb qb]) (by simp [results, Tryd.results18, go_sem, g0, g1]) rfl ?_
      exact ⟨.inr ⟨_, _, rfl⟩, HBE.out⟩
    · have hrr := row_keep HB3.out HR0.out
      have y0 : w3.cell? ⟨w.heap.size, 0, none⟩ = some (.int .i64 0) := by rw [cell_of_row w3 _ _ _ _ (0, 0) hrr]; rfl
      have y1 : w3.cell? ⟨w.heap.size, 0 + 1, none⟩ = some (.slice none 0 0) := by rw [cell_of_row w3 _ _ _ _ (0, 0) hrr]; rfl
      have f0 : w3.frozen? ⟨w.heap.size, 0, none⟩ = false := frozen_row hrr
      have f1 : w3.frozen? ⟨w.heap.size, 0 + 1, none⟩ = false := frozen_row hrr
      have hz := set_pair hrr (.int .i64 0) (.slice none 0 0)
      have HZ2 : Hid ((((w3.setCell ⟨w.heap.size, 0, none⟩ (.int .i64 0)).setCell ⟨w.heap.size, 1, none⟩ (.slice none 0 0)).cell? ⟨w.heap.size, 0, none⟩ = some (.int .i64 0)) ∧ (((w3.setCell ⟨w.heap.size, 0, none⟩ (.int .i64 0)).setCell ⟨w.heap.size, 1, none⟩ (.slice none 0 0)).cell? ⟨w.heap.size, 1, none⟩ = some (.slice none 0 0))) := hz
      have HBE : Hid (Below w.heap.size w ((w3.setCell ⟨w.heap.size, 0, none⟩ (.int .i64 0)).setCell ⟨w.heap.size, 1, none⟩ (.slice none 0 0))) := ((HB0.out.trans (HB3.out.mono HB0.out.size)).setCell (Nat.le_refl _) _).setCell (Nat.le_refl _) _
      clear hrr hz
      go_wp2
      have g0 := HZ2.out.1
      have g1 := HZ2.out.2
      refine bodyPost_ret (v := .tuple #[.agg #[.int .i64 0, .slice none 0 0], .iface 101 (.pointer (some ⟨P, 0, none⟩))]) (by simp [results, Tryd.results18, go_sem, g0, g1]) rfl ?_
      exact ⟨.inr ⟨_, _, rfl⟩, HBE.out⟩
    · have HG : Hid (bndB n cs = false ∧ firstB n cs = none) := ⟨hg1, hg2⟩
      clear hg1 hg2
      have hrr := row_keep HB3.out HR0.out
      have y0 : w3.cell? ⟨w.heap.size, 0, none⟩ = some (.int .i64 0) := by rw [cell_of_row w3 _ _ _ _ (0, 0) hrr]; rfl
      have y1 : w3.cell? ⟨w.heap.size, 0 + 1, none⟩ = some (.slice none 0 0) := by rw [cell_of_row w3 _ _ _ _ (0, 0) hrr]; rfl
      have f0 : w3.frozen? ⟨w.heap.size, 0, none⟩ = false := frozen_row hrr
      have f1 : w3.frozen? ⟨w.heap.size, 0 + 1, none⟩ = false := frozen_row hrr
      have hz := set_pair hrr (.int .i64 n) (.slice so cs.length sc)
      have HZ2 : Hid ((((w3.setCell ⟨w.heap.size, 0, none⟩ (.int .i64 n)).setCell ⟨w.heap.size, 1, none⟩ (.slice so cs.length sc)).cell? ⟨w.heap.size, 0, none⟩ = some (.int .i64 n)) ∧ (((w3.setCell ⟨w.heap.size, 0, none⟩ (.int .i64 n)).setCell ⟨w.heap.size, 1, none⟩ (.slice so cs.length sc)).cell? ⟨w.heap.size, 1, none⟩ = some (.slice so cs.length sc))) := hz
      have HBE : Hid (Below w.heap.size w ((w3.setCell ⟨w.heap.size, 0, none⟩ (.int .i64 n)).setCell ⟨w.heap.size, 1, none⟩ (.slice so cs.length sc))) := ((HB0.out.trans (HB3.out.mono HB0.out.size)).setCell (Nat.le_refl _) _).setCell (Nat.le_refl _) _
      clear hrr hz
      go_wp2
      have g0 := HZ2.out.1
      have g1 := HZ2.out.2
      refine bodyPost_ret (v := .tuple #[.agg #[.int .i64 n, .slice so cs.length sc], .nilIface]) (by simp [results, Tryd.results18, go_sem, g0, g1]) rfl ?_
      refine ⟨.inl ⟨n, _, cs, rfl, cls_more HKL.out (fun k hk hk2 => ?_) (by rw [size_setCell, size_setCell]; exact HB13.out.size), HN.out.1, HN.out.2.1, HN.out.2.2.1, HN.out.2.2.2, HG.out.1, HG.out.2⟩, HBE.out⟩
      have hR := (Array.getElem?_eq_some_iff.1 HR0.out).1
      rw [Below.heap_setCell _ _ _ _ (show k ≠ w.heap.size by omega), Below.heap_setCell _ _ _ _ (show k ≠ w.heap.size by omega)]
      exact HB13.out.block k hk2
  · have HB3 : Hid (Below w0.heap.size w0 (w1.alloc (.cells #[.int .i64 0, .slice none 0 0] 34))) := hb1.alloc hb1.size _
    clear hb1
    have hrr := row_keep HB3.out HR0.out
    have y0 : (w1.alloc (.cells #[.int .i64 0, .slice none 0 0] 34)).cell? ⟨w.heap.size, 0, none⟩ = some (.int .i64 0) := by rw [cell_of_row (w1.alloc (.cells #[.int .i64 0, .slice none 0 0] 34)) _ _ _ _ (0, 0) hrr]; rfl
    have y1 : (w1.alloc (.cells #[.int .i64 0, .slice none 0 0] 34)).cell? ⟨w.heap.size, 0 + 1, none⟩ = some (.slice none 0 0) := by rw [cell_of_row (w1.alloc (.cells #[.int .i64 0, .slice none 0 0] 34)) _ _ _ _ (0, 0) hrr]; rfl
    have f0 : (w1.alloc (.cells #[.int .i64 0, .slice none 0 0] 34)).frozen? ⟨w.heap.size, 0, none⟩ = false := frozen_row hrr
    have f1 : (w1.alloc (.cells #[.int .i64 0, .slice none 0 0] 34)).frozen? ⟨w.heap.size, 0 + 1, none⟩ = false := frozen_row hrr
    have hz := set_pair hrr (.int .i64 0) (.slice none 0 0)
    have HZ2 : Hid (((((w1.alloc (.cells #[.int .i64 0, .slice none 0 0] 34)).setCell ⟨w.heap.size, 0, none⟩ (.int .i64 0)).setCell ⟨w.heap.size, 1, none⟩ (.slice none 0 0)).cell? ⟨w.heap.size, 0, none⟩ = some (.int .i64 0)) ∧ ((((w1.alloc (.cells #[.int .i64 0, .slice none 0 0] 34)).setCell ⟨w.heap.size, 0, none⟩ (.int .i64 0)).setCell ⟨w.heap.size, 1, none⟩ (.slice none 0 0)).cell? ⟨w.heap.size, 1, none⟩ = some (.slice none 0 0))) := hz
    have HBE : Hid (Below w.heap.size w (((w1.alloc (.cells #[.int .i64 0, .slice none 0 0] 34)).setCell ⟨w.heap.size, 0, none⟩ (.int .i64 0)).setCell ⟨w.heap.size, 1, none⟩ (.slice none 0 0))) := ((HB0.out.trans (HB3.out.mono HB0.out.size)).setCell (Nat.le_refl _) _).setCell (Nat.le_refl _) _
    clear hrr hz
    go_wp2
    have g0 := HZ2.out.1
    have g1 := HZ2.out.2
    refine bodyPost_ret (v := .tuple #[.agg #[.int .i64 0, .slice none 0 0], .iface 101 q]) (by simp [results, Tryd.results18, go_sem, g0, g1]) rfl ?_
    exact ⟨.inr ⟨_, _, rfl⟩, HBE.out⟩
set_option maxRecDepth 100000 in
set_option maxHeartbeats 4000000 in
theorem cnfreads_walk (w : World) (S : RsEnv w) (s : ByteArray) : Calls Tryd.prog 5 #[.string s] w fun e w' => e = .returned (.bool true) ∧ Below w.heap.size w w' := by
  have HS : Hid (RsEnv w) := S
  obtain ⟨tb, qb, eb⟩ := S.bnd
  obtain ⟨ts, qs, es⟩ := S.shp
  have HT : Hid (Calls Tryd.prog 7 #[] w fun e w' => e = .returned (.bool true) ∧ Below w.heap.size w w') := texted_any w S.rd.tab tb ts qb qs eb es
  clear S eb es
  by_cases h1 : 2000 < (s.size : Int)
  · have d1 : (2000 < (s.size : Int)) = True := eq_true h1
    clear h1
    go_enter Tryd.func5, Tryd.ntmps5
    go_wp2_with (go_at_call 7; refine HT.out.mono ?_; rintro e w1 ⟨rfl, hb1⟩)
    go_ret
    exact ⟨rfl, hb1⟩
  · have d1 : (2000 < (s.size : Int)) = False := eq_false h1
    have HSZ : Hid (s.size ≤ 5000) := by unfold Hid; omega
    clear h1
    go_enter Tryd.func5, Tryd.ntmps5
    go_wp2_with fail
    refine HT.out.mono ?_
    rintro e w1 ⟨rfl, hb1⟩
    have HB1 : Hid (Below w.heap.size w w1) := hb1
    clear hb1
    go_wp2_with fail
    refine (reads_any w1 (HS.out.below HB1.out) s HSZ.out).mono ?_
    rintro e w2 ⟨hr, hb2⟩
    have HB2 : Hid (Below w.heap.size w w2) := HB1.out.trans (hb2.mono HB1.out.size)
    clear hb2
    rcases hr with ⟨n, sv, cs, rfl, hcl, hn, hI, hsz, htx, hg1, hg2⟩ | ⟨t, q, rfl⟩
    · have HCL : Hid (ClsAt w2 sv cs) := hcl
      obtain ⟨_, so, sc, rfl, _⟩ := hcl
      obtain ⟨w3, hw3⟩ : ∃ w3, w3 = w2.alloc (.cells #[.int .i64 n, .slice so cs.length sc] 34) := ⟨_, rfl⟩
      have hb3 : Below w2.heap.size w2 w3 := by rw [hw3]; exact (Below.refl _ _).alloc (Nat.le_refl _) _
      have HB3 : Hid (Below w.heap.size w w3) := HB2.out.trans (hb3.mono HB2.out.size)
      have HB23 : Hid (Below w2.heap.size w2 w3) := hb3
      have HW3 : Hid (w2.alloc (.cells #[.int .i64 n, .slice so cs.length sc] 34) = w3) := hw3.symm
      have HN : Hid (I64 n ∧ (∀ c ∈ cs, ∀ x ∈ c, I64 x) ∧ sizC cs ≤ 100000 ∧ bndB n cs = false ∧ firstB n cs = none) := ⟨hn, hI, hsz, hg1, hg2⟩
      have hcase : (⟨(textC n cs).toArray⟩ : ByteArray) = s ∨ (⟨(textC n cs).toArray⟩ : ByteArray) = s ++ ⟨#[10]⟩ := by
        rw [htx]
        rcases trim_cases s.data.toList 10 with h | h
        · right
          rw [← h]
          apply ByteArray.ext
          apply Array.toList_inj.1
          simp [ByteArray.data_append]
        · left
          rw [← h]
      have HCA : Hid ((⟨(textC n cs).toArray⟩ : ByteArray) = s ∨ (⟨(textC n cs).toArray⟩ : ByteArray) = s ++ ⟨#[10]⟩) := hcase
      clear hn hI hsz hg1 hg2 htx hw3 hb3 hcase
      go_wp2_with fail
      rw [HW3.out]
      obtain ⟨tb, qb, eb⟩ := (HS.out.below HB3.out).bnd
      obtain ⟨ts, qs, es⟩ := (HS.out.below HB3.out).shp
      refine (text_any w3 n HN.out.1 _ cs (HCL.out.below HB23.out) HN.out.2.1 HN.out.2.2.1 (HS.out.below HB3.out).rd.tab tb ts qb qs eb es HN.out.2.2.2).mono ?_
      rintro e w4 ⟨rfl, hb4⟩
      have HB4 : Hid (Below w.heap.size w w4) := HB3.out.trans (hb4.mono HB3.out.size)
      clear eb es hb4
      rcases HCA.out with h | h
      · rw [h]
        go_wp2
        go_ret
        exact ⟨rfl, HB4.out⟩
      · rw [h]
        have d2 : ((s ++ (⟨#[10]⟩ : ByteArray)).toList = s.toList) = False := eq_false fun he => by
          have h2 := congrArg List.length he
          rw [ByteArray.toList_eq, ByteArray.toList_eq] at h2
          simp [ByteArray.data_append] at h2
        have d3 : (9223372036854775807 < s.size + 1) = False := eq_false (by have := HSZ.out; omega)
        go_wp2
        go_ret
        exact ⟨rfl, HB4.out⟩
    · have HB3 : Hid (Below w.heap.size w (w2.alloc (.cells #[.int .i64 0, .slice none 0 0] 34))) := HB2.out.alloc HB2.out.size _
      go_wp2
      go_ret
      exact ⟨rfl, HB3.out⟩
end Go.Proofs.YtbbakcpflckbnaaDoor
