/-
  package cnf: Read BY CONTRACT, and the law CnfReads.
-/
import Derived.Test.YtlclbidjdhlklaaGreatDoorCnP
import Derived.Test.YtlclbidjdhlklaaGreatDoorCnW
namespace Go.Proofs.YtlclbidjdhlklaaGreatDoor
open Go.RowKit Go.Maps

/-- What the law's laid variables give. -/
structure RsEnv (w : World) : Prop where
  rd : RdEnv w
  bnd : ∃ t q, w.cell? ⟨0, 0, none⟩ = some (.iface t q)
  shp : ∃ t q, w.cell? ⟨1, 0, none⟩ = some (.iface t q)
theorem RsEnv.below {w w' : World} (h : RsEnv w) (hb : Below w.heap.size w w') : RsEnv w' := by
  obtain ⟨r, ⟨t1, q1, h1⟩, ⟨t2, q2, h2⟩⟩ := h
  exact ⟨r.below hb, ⟨t1, q1, cell_keep hb h1⟩, ⟨t2, q2, cell_keep hb h2⟩⟩
/-- What Read answers. -/
def ReadsP (s : List UInt8) (e : Ending) (w' : World) : Prop :=
  (∃ n sv cs, e = .returned (.tuple #[.agg #[.int .i64 n, sv], .nilIface]) ∧ ClsAt w' sv cs ∧ I64 n ∧ (∀ c ∈ cs, ∀ x ∈ c, I64 x) ∧ sizC cs ≤ 100000 ∧ textC n cs = Lib.trimSuffix s [10] ++ [10] ∧ bndB n cs = false ∧ firstB n cs = none)
  ∨ ∃ t q, e = .returned (.tuple #[.agg #[.int .i64 0, .slice none 0 0], .iface t q]) ∧ ∀ n cs, RightN n cs → bndB n cs = false → firstB n cs = none → Lib.trimSuffix s [10] ++ [10] ≠ textC n cs
theorem cls_more {L : Nat} {w w' : World} {sv : Value} {cs : List (List Int)} (h : ∀ w'', (∀ k, L ≤ k → w''.heap[k]? = w.heap[k]?) → ClsAt w'' sv cs) (hb : ∀ k, L ≤ k → k < w.heap.size → w'.heap[k]? = w.heap[k]?) (hs : w.heap.size ≤ w'.heap.size) : ClsAt w' sv cs := by
  have h1 : ClsAt { w' with heap := w'.heap.extract 0 w.heap.size } sv cs := h _ fun k hk => by
    show (w'.heap.extract 0 w.heap.size)[k]? = _
    by_cases hl : k < w.heap.size
    · rw [← hb k hk hl]; simp [Array.getElem?_extract]; omega
    · rw [Array.getElem?_eq_none (by simp; omega), Array.getElem?_eq_none (by omega)]
  refine h1.below ⟨rfl, rfl, rfl, ?_, fun k hk => ?_⟩
  · simp; omega
  · have hk' : k < (w'.heap.extract 0 w.heap.size).size := hk
    rw [Array.size_extract] at hk'
    show _ = (w'.heap.extract 0 w.heap.size)[k]?
    simp [Array.getElem?_extract]; omega

set_option maxRecDepth 100000 in
set_option maxHeartbeats 4000000 in
theorem reads_any (w : World) (S : RsEnv w) (s : ByteArray) (hs : s.size ≤ 5000) : Calls Tryz.prog 12 #[.string s] w fun e w' => ReadsP s.data.toList e w' ∧ Below w.heap.size w w' := by
  obtain ⟨w0, hw0⟩ : ∃ w0, w0 = w.alloc (.cells #[.int .i64 0, .slice none 0 0] 31) := ⟨_, rfl⟩
  have hb0 : Below w.heap.size w w0 := by rw [hw0]; exact (Below.refl _ _).alloc (Nat.le_refl _) _
  have hR0 : w0.heap[w.heap.size]? = some (.cells #[.int .i64 0, .slice none 0 0] 31 (0, 0)) := by rw [hw0]; exact heap_alloc_new _ _
  have HS : Hid (RsEnv w0) := S.below hb0
  have HB0 : Hid (Below w.heap.size w w0) := hb0
  have HR0 : Hid (w0.heap[w.heap.size]? = some (.cells #[.int .i64 0, .slice none 0 0] 31 (0, 0))) := hR0
  have HW0 : Hid (w.alloc (.cells #[.int .i64 0, .slice none 0 0] 31) = w0) := hw0.symm
  have HSZ : Hid (s.size ≤ 5000) := hs
  have d1 : (200000 < (s.size : Int)) = False := eq_false (by omega)
  clear hw0 hb0 hR0 S hs
  go_enter Tryz.func12, Tryz.ntmps12
  go_wp2_with fail
  rw [HW0.out]
  refine (read_any w0 HS.out.rd s HSZ.out).mono ?_
  rintro e w1 ⟨hr, hb1⟩
  have HB1 : Hid (Below w0.heap.size w0 w1) := hb1
  rcases hr with ⟨n, sv, cs, rfl, hcl, hn, hn0, hI, hsz, htx⟩ | ⟨q, rfl, hno⟩
  · have HKL : Hid (∀ w'', (∀ k, w0.heap.size ≤ k → w''.heap[k]? = w1.heap[k]?) → ClsAt w'' sv cs) := hcl
    have hcc := hcl w1 (fun _ _ => rfl)
    have HCL : Hid (ClsAt w1 sv cs) := hcc
    obtain ⟨_, so, sc, rfl, _⟩ := hcc
    have HN : Hid (I64 n ∧ (∀ c ∈ cs, ∀ x ∈ c, I64 x) ∧ sizC cs ≤ 100000 ∧ textC n cs = Lib.trimSuffix s.data.toList [10] ++ [10]) := ⟨hn, hI, hsz, htx⟩
    obtain ⟨w2, hw2⟩ : ∃ w2, w2 = w1.alloc (.cells #[.int .i64 n, .slice so cs.length sc] 31) := ⟨_, rfl⟩
    have hb2 : Below w1.heap.size w1 w2 := by rw [hw2]; exact (Below.refl _ _).alloc (Nat.le_refl _) _
    have hr2 : w2.heap[w1.heap.size]? = some (.cells #[.int .i64 n, .slice so cs.length sc] 31 (0, 0)) := by rw [hw2]; exact heap_alloc_new w1 _
    have HW2 : Hid (w1.alloc (.cells #[.int .i64 n, .slice so cs.length sc] 31) = w2) := hw2.symm
    have HB2 : Hid (Below w1.heap.size w1 w2) := hb2
    have HR2 : Hid (w2.heap[w1.heap.size]? = some (.cells #[.int .i64 n, .slice so cs.length sc] 31 (0, 0))) := hr2
    clear hn hn0 hI hsz htx hw2 hb2 hr2 hb1 hcl
    go_wp2_with fail
    rw [HW2.out]
    obtain ⟨tb, qb, eb⟩ := ((HS.out.below HB1.out).below HB2.out).bnd
    obtain ⟨ts, qs, es⟩ := ((HS.out.below HB1.out).below HB2.out).shp
    refine (check_any w2 n _ cs (HCL.out.below HB2.out) (by have := HN.out.2.2.1; omega) tb ts qb qs eb es).mono ?_
    rintro e w3 ⟨hc, hb3⟩
    have HB13 : Hid (Below w1.heap.size w1 w3) := HB2.out.trans (hb3.mono HB2.out.size)
    have HB3 : Hid (Below w0.heap.size w0 w3) := HB1.out.trans (HB13.out.mono HB1.out.size)
    have hr3 := row_keep hb3 HR2.out
    have c0 : w3.cell? ⟨w1.heap.size, 0, none⟩ = some (.int .i64 n) := by rw [cell_of_row w3 _ _ _ _ (0, 0) hr3]; rfl
    have c1 : w3.cell? ⟨w1.heap.size, 0 + 1, none⟩ = some (.slice so cs.length sc) := by rw [cell_of_row w3 _ _ _ _ (0, 0) hr3]; rfl
    clear eb es hb3 hr3
    rcases hc with ⟨hg1, rfl⟩ | ⟨_, j, P, hg1, rfl, _⟩ | ⟨hg1, hg2, rfl⟩
    · have HNO : Hid (∀ n' cs', RightN n' cs' → bndB n' cs' = false → firstB n' cs' = none → Lib.trimSuffix s.data.toList [10] ++ [10] ≠ textC n' cs') := fun n' cs' hr hb hf h => by
        obtain ⟨rfl, rfl⟩ := text_inj HN.out.1 hr.1 HN.out.2.1 (fun c hc x hx => (hr.2.2.2 c hc x hx).1) (HN.out.2.2.2.trans h)
        rw [hg1] at hb; cases hb
      clear hg1
      have hrr := row_keep HB3.out HR0.out
      have y0 : w3.cell? ⟨w.heap.size, 0, none⟩ = some (.int .i64 0) := by rw [cell_of_row w3 _ _ _ _ (0, 0) hrr]; rfl
      have y1 : w3.cell? ⟨w.heap.size, 0 + 1, none⟩ = some (.slice none 0 0) := by rw [cell_of_row w3 _ _ _ _ (0, 0) hrr]; rfl
      have f0 : w3.frozen? ⟨w.heap.size, 0, none⟩ = false := frozen_row hrr
      have f1 : w3.frozen? ⟨w.heap.size, 0 + 1, none⟩ = false := frozen_row hrr
      have hz := set_pair hrr (.int .i64 0) (.slice none 0 0)
      have HZ2 : Hid ((((w3.setCell ⟨w.heap.size, 0, none⟩ (.int .i64 0)).setCell ⟨w.heap.size, 1, none⟩ (.slice none 0 0)).cell? ⟨w.heap.size, 0, none⟩ = some (.int .i64 0)) ∧ (((w3.setCell ⟨w.heap.size, 0, none⟩ (.int .i64 0)).setCell ⟨w.heap.size, 1, none⟩ (.slice none 0 0)).cell? ⟨w.heap.size, 1, none⟩ = some (.slice none 0 0))) := hz
      have HBE : Hid (Below w.heap.size w ((w3.setCell ⟨w.heap.size, 0, none⟩ (.int .i64 0)).setCell ⟨w.heap.size, 1, none⟩ (.slice none 0 0))) := ((HB0.out.trans (HB3.out.mono HB0.out.size)).setCell (Nat.le_refl _) _).setCell (Nat.le_refl _) _
      clear hrr hz
      go_wp2
      have g0 := HZ2.out.1
      have g1 := HZ2.out.2
      refine bodyPost_ret (v := .tuple #[.agg #[.int .i64 0, .slice none 0 0], .iface tb qb]) (by simp [results, Tryz.results12, go_sem, g0, g1]) rfl ?_
      exact ⟨.inr ⟨_, _, rfl, HNO.out⟩, HBE.out⟩
    · have HNO : Hid (∀ n' cs', RightN n' cs' → bndB n' cs' = false → firstB n' cs' = none → Lib.trimSuffix s.data.toList [10] ++ [10] ≠ textC n' cs') := fun n' cs' hr hb hf h => by
        obtain ⟨rfl, rfl⟩ := text_inj HN.out.1 hr.1 HN.out.2.1 (fun c hc x hx => (hr.2.2.2 c hc x hx).1) (HN.out.2.2.2.trans h)
        rw [hg1] at hf; cases hf
      clear hg1
      have hrr := row_keep HB3.out HR0.out
      have y0 : w3.cell? ⟨w.heap.size, 0, none⟩ = some (.int .i64 0) := by rw [cell_of_row w3 _ _ _ _ (0, 0) hrr]; rfl
      have y1 : w3.cell? ⟨w.heap.size, 0 + 1, none⟩ = some (.slice none 0 0) := by rw [cell_of_row w3 _ _ _ _ (0, 0) hrr]; rfl
      have f0 : w3.frozen? ⟨w.heap.size, 0, none⟩ = false := frozen_row hrr
      have f1 : w3.frozen? ⟨w.heap.size, 0 + 1, none⟩ = false := frozen_row hrr
      have hz := set_pair hrr (.int .i64 0) (.slice none 0 0)
      have HZ2 : Hid ((((w3.setCell ⟨w.heap.size, 0, none⟩ (.int .i64 0)).setCell ⟨w.heap.size, 1, none⟩ (.slice none 0 0)).cell? ⟨w.heap.size, 0, none⟩ = some (.int .i64 0)) ∧ (((w3.setCell ⟨w.heap.size, 0, none⟩ (.int .i64 0)).setCell ⟨w.heap.size, 1, none⟩ (.slice none 0 0)).cell? ⟨w.heap.size, 1, none⟩ = some (.slice none 0 0))) := hz
      have HBE : Hid (Below w.heap.size w ((w3.setCell ⟨w.heap.size, 0, none⟩ (.int .i64 0)).setCell ⟨w.heap.size, 1, none⟩ (.slice none 0 0))) := ((HB0.out.trans (HB3.out.mono HB0.out.size)).setCell (Nat.le_refl _) _).setCell (Nat.le_refl _) _
      clear hrr hz
      go_wp2
      have g0 := HZ2.out.1
      have g1 := HZ2.out.2
      refine bodyPost_ret (v := .tuple #[.agg #[.int .i64 0, .slice none 0 0], .iface 55 (.pointer (some ⟨P, 0, none⟩))]) (by simp [results, Tryz.results12, go_sem, g0, g1]) rfl ?_
      exact ⟨.inr ⟨_, _, rfl, HNO.out⟩, HBE.out⟩
    · have HG : Hid (bndB n cs = false ∧ firstB n cs = none) := ⟨hg1, hg2⟩
      clear hg1 hg2
      have hrr := row_keep HB3.out HR0.out
      have y0 : w3.cell? ⟨w.heap.size, 0, none⟩ = some (.int .i64 0) := by rw [cell_of_row w3 _ _ _ _ (0, 0) hrr]; rfl
      have y1 : w3.cell? ⟨w.heap.size, 0 + 1, none⟩ = some (.slice none 0 0) := by rw [cell_of_row w3 _ _ _ _ (0, 0) hrr]; rfl
      have f0 : w3.frozen? ⟨w.heap.size, 0, none⟩ = false := frozen_row hrr
      have f1 : w3.frozen? ⟨w.heap.size, 0 + 1, none⟩ = false := frozen_row hrr
      have hz := set_pair hrr (.int .i64 n) (.slice so cs.length sc)
      have HZ2 : Hid ((((w3.setCell ⟨w.heap.size, 0, none⟩ (.int .i64 n)).setCell ⟨w.heap.size, 1, none⟩ (.slice so cs.length sc)).cell? ⟨w.heap.size, 0, none⟩ = some (.int .i64 n)) ∧ (((w3.setCell ⟨w.heap.size, 0, none⟩ (.int .i64 n)).setCell ⟨w.heap.size, 1, none⟩ (.slice so cs.length sc)).cell? ⟨w.heap.size, 1, none⟩ = some (.slice so cs.length sc))) := hz
      have HBE : Hid (Below w.heap.size w ((w3.setCell ⟨w.heap.size, 0, none⟩ (.int .i64 n)).setCell ⟨w.heap.size, 1, none⟩ (.slice so cs.length sc))) := ((HB0.out.trans (HB3.out.mono HB0.out.size)).setCell (Nat.le_refl _) _).setCell (Nat.le_refl _) _
      clear hrr hz
      go_wp2
      have g0 := HZ2.out.1
      have g1 := HZ2.out.2
      refine bodyPost_ret (v := .tuple #[.agg #[.int .i64 n, .slice so cs.length sc], .nilIface]) (by simp [results, Tryz.results12, go_sem, g0, g1]) rfl ?_
      refine ⟨.inl ⟨n, _, cs, rfl, cls_more HKL.out (fun k hk hk2 => ?_) (by rw [size_setCell, size_setCell]; exact HB13.out.size), HN.out.1, HN.out.2.1, HN.out.2.2.1, HN.out.2.2.2, HG.out.1, HG.out.2⟩, HBE.out⟩
      have hR := (Array.getElem?_eq_some_iff.1 HR0.out).1
      rw [Below.heap_setCell _ _ _ _ (show k ≠ w.heap.size by omega), Below.heap_setCell _ _ _ _ (show k ≠ w.heap.size by omega)]
      exact HB13.out.block k hk2
  · have HB3 : Hid (Below w0.heap.size w0 (w1.alloc (.cells #[.int .i64 0, .slice none 0 0] 31))) := hb1.alloc hb1.size _
    have HNO : Hid (∀ n' cs', RightN n' cs' → bndB n' cs' = false → firstB n' cs' = none → Lib.trimSuffix s.data.toList [10] ++ [10] ≠ textC n' cs') := fun n' cs' hr _ _ => hno n' cs' hr
    clear hb1 hno
    have hrr := row_keep HB3.out HR0.out
    have y0 : (w1.alloc (.cells #[.int .i64 0, .slice none 0 0] 31)).cell? ⟨w.heap.size, 0, none⟩ = some (.int .i64 0) := by rw [cell_of_row (w1.alloc (.cells #[.int .i64 0, .slice none 0 0] 31)) _ _ _ _ (0, 0) hrr]; rfl
    have y1 : (w1.alloc (.cells #[.int .i64 0, .slice none 0 0] 31)).cell? ⟨w.heap.size, 0 + 1, none⟩ = some (.slice none 0 0) := by rw [cell_of_row (w1.alloc (.cells #[.int .i64 0, .slice none 0 0] 31)) _ _ _ _ (0, 0) hrr]; rfl
    have f0 : (w1.alloc (.cells #[.int .i64 0, .slice none 0 0] 31)).frozen? ⟨w.heap.size, 0, none⟩ = false := frozen_row hrr
    have f1 : (w1.alloc (.cells #[.int .i64 0, .slice none 0 0] 31)).frozen? ⟨w.heap.size, 0 + 1, none⟩ = false := frozen_row hrr
    have hz := set_pair hrr (.int .i64 0) (.slice none 0 0)
    have HZ2 : Hid (((((w1.alloc (.cells #[.int .i64 0, .slice none 0 0] 31)).setCell ⟨w.heap.size, 0, none⟩ (.int .i64 0)).setCell ⟨w.heap.size, 1, none⟩ (.slice none 0 0)).cell? ⟨w.heap.size, 0, none⟩ = some (.int .i64 0)) ∧ ((((w1.alloc (.cells #[.int .i64 0, .slice none 0 0] 31)).setCell ⟨w.heap.size, 0, none⟩ (.int .i64 0)).setCell ⟨w.heap.size, 1, none⟩ (.slice none 0 0)).cell? ⟨w.heap.size, 1, none⟩ = some (.slice none 0 0))) := hz
    have HBE : Hid (Below w.heap.size w (((w1.alloc (.cells #[.int .i64 0, .slice none 0 0] 31)).setCell ⟨w.heap.size, 0, none⟩ (.int .i64 0)).setCell ⟨w.heap.size, 1, none⟩ (.slice none 0 0))) := ((HB0.out.trans (HB3.out.mono HB0.out.size)).setCell (Nat.le_refl _) _).setCell (Nat.le_refl _) _
    clear hrr hz
    go_wp2
    have g0 := HZ2.out.1
    have g1 := HZ2.out.2
    refine bodyPost_ret (v := .tuple #[.agg #[.int .i64 0, .slice none 0 0], .iface 55 q]) (by simp [results, Tryz.results12, go_sem, g0, g1]) rfl ?_
    exact ⟨.inr ⟨_, _, rfl, HNO.out⟩, HBE.out⟩
end Go.Proofs.YtlclbidjdhlklaaGreatDoor
