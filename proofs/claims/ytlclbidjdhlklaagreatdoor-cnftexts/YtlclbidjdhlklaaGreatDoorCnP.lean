/-
  package cnf: read BY CONTRACT: an error, or a formula whose text it was.
-/
import Derived.Test.YtlclbidjdhlklaaGreatDoorCnO
namespace Go.Proofs.YtlclbidjdhlklaaGreatDoor
open Go.RowKit Go.Maps

set_option maxRecDepth 100000 in
theorem wrong_any (w : World) (S : RdEnv w) (n : Int) : Calls Tryz.prog 33 #[.int .i64 n] w fun e w' => ∃ q, e = .returned (.tuple #[.agg #[.int .i64 0, .slice none 0 0], .iface 55 q]) ∧ Below w.heap.size w w' := by
  obtain ⟨t, q, he⟩ := S.txt
  have hA : Below w.heap.size w (w.alloc (.cells #[.int .i64 0, .slice none 0 0] 31)) := (Below.refl _ _).alloc (Nat.le_refl _) _
  have c0 := cell_keep hA he
  have HA : Hid (Below w.heap.size w (w.alloc (.cells #[.int .i64 0, .slice none 0 0] 31))) := hA
  clear S he hA
  go_enter Tryz.func33, Tryz.ntmps33
  go_wp2
  go_region
  all_goals go_wp2
  all_goals refine bodyPost_ret (v := .tuple #[.agg #[.int .i64 0, .slice none 0 0], .iface 55 (.pointer (some ⟨w.heap.size + 1, 0, none⟩))]) (by simp [results, Tryz.results33, go_sem]) rfl ?_
  all_goals exact ⟨_, rfl, (HA.out.alloc (by simp) _).drew⟩
theorem sizC_text : ∀ cs : List (List Int), sizC cs ≤ (cs.flatMap clauseB).length
  | [] => by simp [sizC]
  | c :: r => by
    have h1 := sizC_text r
    have h2 : ∀ c : List Int, c.length ≤ (c.flatMap fun x => numB x 32).length := fun c => by
      induction c with
      | nil => simp
      | cons x r ih =>
        rw [List.flatMap_cons, List.length_append, List.length_cons]
        have : 1 ≤ (numB x 32).length := by unfold numB; simp
        omega
    have h3 : c.length + 1 ≤ (clauseB c).length := by
      have := h2 c
      unfold clauseB numB
      unfold numB at this
      rw [List.length_append, List.length_append]
      simp
      simp at this
      omega
    rw [List.flatMap_cons, List.length_append]
    unfold sizC at h1 ⊢
    rw [List.map_cons, List.sum_cons]
    omega
theorem set_pair {w : World} {R : Nat} {a b : Value} {t : TypeId} (h : w.heap[R]? = some (.cells #[a, b] t (0, 0))) (u v : Value) : (((w.setCell ⟨R, 0, none⟩ u).setCell ⟨R, 1, none⟩ v).cell? ⟨R, 0, none⟩ = some u) ∧ (((w.setCell ⟨R, 0, none⟩ u).setCell ⟨R, 1, none⟩ v).cell? ⟨R, 1, none⟩ = some v) := by
  have h2 := heap_setCell_at (i := 1) (heap_setCell_at (i := 0) h u) v
  exact ⟨by rw [cell_of_row _ _ _ _ _ (0, 0) h2]; rfl, by rw [cell_of_row _ _ _ _ _ (0, 0) h2]; rfl⟩
/-- A formula whose text is read. -/
def RightN (n : Int) (cs : List (List Int)) : Prop := I64 n ∧ 0 ≤ n ∧ I64 (cs.length : Int) ∧ ∀ c ∈ cs, ∀ x ∈ c, I64 x ∧ x ≠ 0
theorem lines_head {ws : List ByteArray} {x0 : ByteArray} {a : List UInt8} {r : List (List UInt8)} (h : ws.map (·.data.toList) = a :: r) (hx : ws[0]? = some x0) : x0.data.toList = a := by
  have h2 : (ws.map (·.data.toList))[0]? = some x0.data.toList := by rw [List.getElem?_map, hx]; rfl
  rw [h] at h2
  exact (Option.some.inj h2).symm
theorem lines_rest {ws : List ByteArray} {a : List UInt8} {r : List (List UInt8)} (h : ws.map (·.data.toList) = a :: r) : (ws.drop 1).map (·.data.toList) = r := by
  rw [List.map_drop, h]; rfl
theorem not_count {ws : List ByteArray} {x0 : ByteArray} {n nc n' : Int} {cs cs' : List (List Int)} (h : ws.map (·.data.toList) = lineH n' (cs'.length : Int) :: cs'.map lineC) (hx : ws[0]? = some x0) (hh : x0.data.toList = headB ++ numB n 32 ++ Lib.itoa nc ∧ I64 n ∧ I64 nc ∧ 0 ≤ n ∧ 0 ≤ nc) (hr : RightN n' cs') (hcs : (ws.drop 1).map (·.data.toList) = cs.map lineC) : nc = (cs.length : Int) := by
  have h1 := lines_head h hx
  have h2 := lines_rest h
  rw [hcs] at h2
  have h3 : cs.length = cs'.length := by have := congrArg List.length h2; simpa using this
  rw [h3]
  refine itoa_inj hh.2.2.1 hr.2.2.1 (head_inj (n := n) (n' := n') ?_).2
  rw [← h1, hh.1]; rfl
theorem not_line {ws : List ByteArray} {x : ByteArray} {n' : Int} {cs' : List (List Int)} {j : Nat} (h : ws.map (·.data.toList) = lineH n' (cs'.length : Int) :: cs'.map lineC) (hx : (ws.drop 1)[j]? = some x) : ∃ c ∈ cs', x.data.toList = lineC c := by
  have h2 : ((ws.drop 1).map (·.data.toList))[j]? = some x.data.toList := by rw [List.getElem?_map, hx]; rfl
  rw [lines_rest h, List.getElem?_map] at h2
  obtain ⟨c, hc, e⟩ := Option.map_eq_some_iff.1 h2
  exact ⟨c, List.mem_of_getElem? hc, e.symm⟩
/-- What read answers. -/
def ReadP (s : List UInt8) (L : Nat) (e : Ending) (w' : World) : Prop :=
  (∃ n sv cs, e = .returned (.tuple #[.agg #[.int .i64 n, sv], .nilIface]) ∧ (∀ w'', (∀ k, L ≤ k → w''.heap[k]? = w'.heap[k]?) → ClsAt w'' sv cs) ∧ I64 n ∧ 0 ≤ n ∧ (∀ c ∈ cs, ∀ x ∈ c, I64 x) ∧ sizC cs ≤ 100000 ∧ textC n cs = Lib.trimSuffix s [10] ++ [10])
  ∨ ∃ q, e = .returned (.tuple #[.agg #[.int .i64 0, .slice none 0 0], .iface 55 q]) ∧ ∀ n cs, RightN n cs → Lib.trimSuffix s [10] ++ [10] ≠ textC n cs
theorem read_end {w' : World} {L : Nat} {sv : Value} {s tr : List UInt8} {k : Nat} {ws : List ByteArray} {x0 : ByteArray} {n nc : Int} {cs : List (List Int)} (hmap : ws.map (·.data.toList) = Lib.splitK [10] 0 k tr) (hx0 : ws[0]? = some x0) (hh : x0.data.toList = headB ++ numB n 32 ++ Lib.itoa nc ∧ I64 n ∧ I64 nc ∧ 0 ≤ n ∧ 0 ≤ nc) (hnc : nc = (cs.length : Int))
    (hcs : (ws.drop 1).map (·.data.toList) = cs.map lineC ∧ ∀ c ∈ cs, ∀ x ∈ c, I64 x) (htl : tr.length ≤ 5000) (htr : tr = Lib.trimSuffix s [10]) (hc : ∀ w'', (∀ k, L ≤ k → w''.heap[k]? = w'.heap[k]?) → ClsAt w'' sv cs) :
    ∃ n' sv' cs', (Ending.returned (.tuple #[.agg #[.int .i64 n, sv], .nilIface])) = .returned (.tuple #[.agg #[.int .i64 n', sv'], .nilIface]) ∧ (∀ w'', (∀ k, L ≤ k → w''.heap[k]? = w'.heap[k]?) → ClsAt w'' sv' cs') ∧ I64 n' ∧ 0 ≤ n' ∧ (∀ c ∈ cs', ∀ x ∈ c, I64 x) ∧ sizC cs' ≤ 100000 ∧ textC n' cs' = Lib.trimSuffix s [10] ++ [10] := by
  have ht : textC n cs = tr ++ [10] := by
    refine lines_text (k := k) (hd := x0.data.toList) ?_ (by rw [hh.1, hnc])
    cases ws with
    | nil => simp at hx0
    | cons a r =>
      have ea : a = x0 := by simpa using hx0
      rw [← hmap, List.map_cons, ea]
      rw [List.drop_one, List.tail_cons] at hcs
      rw [hcs.1]
  refine ⟨n, sv, cs, rfl, hc, hh.2.1, hh.2.2.2.1, hcs.2, ?_, by rw [ht, htr]⟩
  have h1 := sizC_text cs
  have h2 := congrArg List.length ht
  unfold textC at h2
  simp only [List.length_append, List.length_singleton] at h2
  omega
theorem trim_len (s : List UInt8) (b : UInt8) : (Lib.trimSuffix s [b]).length ≤ s.length := by
  rcases trim_cases s b with h | h
  · rw [← h]; exact Nat.le_refl _
  · have := congrArg List.length h
    rw [List.length_append, List.length_singleton] at this
    omega
theorem end_app (b : UInt8) (x y : List (List UInt8)) : endB b (x ++ y) = endB b x ++ endB b y := by simp [endB]
set_option maxRecDepth 100000 in
set_option maxHeartbeats 8000000 in
theorem read_any (w : World) (S : RdEnv w) (s : ByteArray) (hs : s.size ≤ 5000) : Calls Tryz.prog 25 #[.string s] w fun e w' => ReadP s.data.toList w.heap.size e w' ∧ Below w.heap.size w w' := by
  obtain ⟨tr, htr⟩ : ∃ tr : List UInt8, tr = Lib.trimSuffix s.data.toList [10] := ⟨_, rfl⟩
  have htl : tr.length ≤ 5000 := by
    have := trim_len s.data.toList 10
    rw [← htr] at this
    rw [Lib.size_eq] at hs
    omega
  have htz : (⟨tr.toArray⟩ : ByteArray).size ≤ 10000 := by rw [Lib.size_eq]; simpa using Nat.le_trans htl (by omega)
  obtain ⟨k, ws, hk, hws, hlen, hkl, hmap, hwsz⟩ := pieces 10 ⟨tr.toArray⟩ htz
  obtain ⟨w0, hw0⟩ : ∃ w0, w0 = w.alloc (.cells #[.int .i64 0, .slice none 0 0] 31) := ⟨_, rfl⟩
  have hb0 : Below w.heap.size w w0 := by rw [hw0]; exact (Below.refl _ _).alloc (Nat.le_refl _) _
  have hR0 : w0.heap[w.heap.size]? = some (.cells #[.int .i64 0, .slice none 0 0] 31 (0, 0)) := by rw [hw0]; exact heap_alloc_new _ _
  have HTM : Hid (Calls Tryz.prog 35 #[.string s, .string ⟨#[10]⟩] w0 fun e w' => e = .returned (.string ⟨tr.toArray⟩) ∧ w' = w0) := by
    have := Tryz.strings_TrimSuffix s ⟨#[10]⟩ w0 (by omega)
    unfold Hid
    rw [htr]; exact this
  obtain ⟨mx, hmx⟩ := (S.below hb0).max
  have hsp := Tryz.strings_Split ⟨tr.toArray⟩ ⟨#[10]⟩ mx w0 (by omega) hmx (by decide)
  rw [hk, hws] at hsp
  obtain ⟨w1, hw1⟩ : ∃ w1, w1 = w0.alloc (.cells (ws.map Value.string).toArray 9) := ⟨_, rfl⟩
  rw [← hw1] at hsp
  have hb1 : Below w0.heap.size w0 w1 := by rw [hw1]; exact (Below.refl _ _).alloc (Nat.le_refl _) _
  have hpc : ∀ (j : Nat) x, ws[j]? = some x → w1.cell? ⟨w0.heap.size, j, none⟩ = some (.string x) := fun j x h => by rw [hw1]; exact Lib.pieces_cell_at w0 ws _ j x h
  have HSP : Hid (Calls Tryz.prog 34 #[.string ⟨tr.toArray⟩, .string ⟨#[10]⟩] w0 fun e w' => e = .returned (.slice (some ⟨w0.heap.size, 0, none⟩) (k + 1) (k + 1)) ∧ w' = w1) := hsp
  have HPC : Hid (∀ (j : Nat) x, ws[j]? = some x → w1.cell? ⟨w0.heap.size, j, none⟩ = some (.string x)) := hpc
  have HB1 : Hid (Below w.heap.size w w1) := hb0.trans (hb1.mono hb0.size)
  have HS : Hid (RdEnv w1) := (S.below hb0).below hb1
  have HLEN : Hid (ws.length = k + 1) := hlen
  have HKL : Hid (k ≤ 10000) := hkl
  have HMAP : Hid (ws.map (·.data.toList) = Lib.splitK [10] 0 k tr) := by unfold Hid; simpa using hmap
  have HWSZ : Hid (∀ w ∈ ws, w.size ≤ 10000) := hwsz
  have HTL : Hid (tr.length ≤ 5000) := htl
  have HLW : Hid (∀ n cs, Lib.trimSuffix s.data.toList [10] ++ [10] = textC n cs → ws.map (·.data.toList) = lineH n (cs.length : Int) :: cs.map lineC) := fun n cs h => by
    have h1 := pieces_eq 10 ⟨tr.toArray⟩ (lineH n (cs.length : Int) :: cs.map lineC) (lines_free n cs) (by rw [← text_lines, ← h, ← htr])
    rw [hk, hws] at h1
    exact h1
  have HTR : Hid (tr = Lib.trimSuffix s.data.toList [10]) := htr
  have HR1 : Hid (w1.heap[w.heap.size]? = some (.cells #[.int .i64 0, .slice none 0 0] 31 (0, 0))) := row_keep hb1 hR0
  have HW0 : Hid (w.alloc (.cells #[.int .i64 0, .slice none 0 0] 31) = w0) := hw0.symm
  obtain ⟨x0, hx0⟩ : ∃ x, ws[0]? = some x := ⟨_, List.getElem?_eq_getElem (by omega)⟩
  have q0 := hpc 0 x0 hx0
  have HX0 : Hid (ws[0]? = some x0) := hx0
  have HX0S : Hid (x0.size ≤ 10000) := hwsz x0 (List.mem_of_getElem? hx0)
  have l0 : (0 : Int) < (k : Int) + 1 := by omega
  have l1 : ((1 : Int) ≤ (k : Int) + 1) = True := eq_true (by omega)
  obtain ⟨i2, hk0, hz0, hz1, hz2⟩ := info_parts Tryz.infoClause
  clear S hs htz hk hws hlen hkl hmap hwsz hw0 hb0 hR0 hmx hsp hw1 hb1 hpc htl htr hx0
  go_enter Tryz.func25, Tryz.ntmps25
  go_wp2_with fail
  rw [HW0.out]
  refine HTM.out.mono ?_
  rintro e w' ⟨rfl, hw⟩
  have hw2 := hw.symm
  subst hw2
  go_wp2_with fail
  refine HSP.out.mono ?_
  rintro e w' ⟨rfl, hw⟩
  have hw2 := hw.symm
  subst hw2
  go_wp2_with fail
  refine (head_any w1 HS.out x0 HX0S.out).mono ?_
  rintro e w2 ⟨n, nc, b, rfl, hh, hb2, hhf⟩
  have HHF : Hid (b = false → ∀ n m, I64 n → I64 m → 0 ≤ n → 0 ≤ m → x0.data.toList ≠ lineH n m) := hhf
  clear hhf
  have HB2 : Hid (Below w1.heap.size w1 w2) := hb2
  have HHD : Hid (b = true → x0.data.toList = headB ++ numB n 32 ++ Lib.itoa nc ∧ I64 n ∧ I64 nc ∧ 0 ≤ n ∧ 0 ≤ nc) := hh
  clear hh hb2 q0 HTM HSP
  cases b
  · go_wp2_with fail
    refine (wrong_any w2 (HS.out.below HB2.out) 0).mono ?_
    rintro e w3 ⟨q, rfl, hb3⟩
    have HB3 : Hid (Below w1.heap.size w1 w3) := HB2.out.trans (hb3.mono HB2.out.size)
    clear hb3
    have hrr := row_keep HB3.out HR1.out
    have y0 : w3.cell? ⟨w.heap.size, 0, none⟩ = some (.int .i64 0) := by rw [cell_of_row w3 _ _ _ _ (0, 0) hrr]; rfl
    have y1 : w3.cell? ⟨w.heap.size, 0 + 1, none⟩ = some (.slice none 0 0) := by rw [cell_of_row w3 _ _ _ _ (0, 0) hrr]; rfl
    have f0 : w3.frozen? ⟨w.heap.size, 0, none⟩ = false := frozen_row hrr
    have f1 : w3.frozen? ⟨w.heap.size, 0 + 1, none⟩ = false := frozen_row hrr
    have hz := set_pair hrr (.int .i64 0) (.slice none 0 0)
    have HZ2 : Hid ((((w3.setCell ⟨w.heap.size, 0, none⟩ (.int .i64 0)).setCell ⟨w.heap.size, 1, none⟩ (.slice none 0 0)).cell? ⟨w.heap.size, 0, none⟩ = some (.int .i64 0)) ∧ (((w3.setCell ⟨w.heap.size, 0, none⟩ (.int .i64 0)).setCell ⟨w.heap.size, 1, none⟩ (.slice none 0 0)).cell? ⟨w.heap.size, 1, none⟩ = some (.slice none 0 0))) := hz
    have HBE : Hid (Below w.heap.size w ((w3.setCell ⟨w.heap.size, 0, none⟩ (.int .i64 0)).setCell ⟨w.heap.size, 1, none⟩ (.slice none 0 0))) := ((HB1.out.trans (HB3.out.mono HB1.out.size)).setCell (Nat.le_refl _) _).setCell (Nat.le_refl _) _
    clear hrr hz
    go_wp2
    have g0 := HZ2.out.1
    have g1 := HZ2.out.2
    refine bodyPost_ret (v := .tuple #[.agg #[.int .i64 0, .slice none 0 0], .iface 55 q]) (by simp [results, Tryz.results25, go_sem, g0, g1]) rfl ?_
    exact ⟨.inr ⟨q, rfl, fun n' cs' hr h => HHF.out (by first | rfl | trivial) n' (cs'.length : Int) hr.1 hr.2.2.1 hr.2.1 (by omega) (lines_head (HLW.out n' cs' h) HX0.out)⟩, HBE.out⟩
  · obtain ⟨hd0, hd1, hd2, hd3, hd4⟩ := HHD.out rfl
    have HH : Hid (x0.data.toList = headB ++ numB n 32 ++ Lib.itoa nc ∧ I64 n ∧ I64 nc ∧ 0 ≤ n ∧ 0 ≤ nc) := HHD.out rfl
    obtain ⟨w3, hw3⟩ : ∃ w3, w3 = w2.alloc (.cells #[.int .i64 n, .slice none 0 0] 31) := ⟨_, rfl⟩
    have hb3 : Below w1.heap.size w1 w3 := by rw [hw3]; exact HB2.out.alloc HB2.out.size _
    have hfr : w3.heap[w2.heap.size]? = some (.cells #[.int .i64 n, .slice none 0 0] 31 (0, 0)) := by rw [hw3]; exact heap_alloc_new _ _
    have hfm : FmAt w2.heap.size n [] (fun k => k = w2.heap.size) w3 := ⟨rfl, fun k hk => by rw [hk]; exact (Array.getElem?_eq_some_iff.1 hfr).1, _, _, [], hfr, World.ownsRow_nil _ _ _ _, fun k hk => by simp [Value.ownBlock] at hk, rfl, fun k l hk => by simp at hk⟩
    obtain ⟨B, hB⟩ : ∃ B, B = w2.heap.size := ⟨_, rfl⟩
    rw [← hB] at hfm
    have HBB : Hid (w1.heap.size ≤ B) := by unfold Hid; rw [hB]; exact HB2.out.size
    have HFM : Hid (FmAt B n [] (fun k => k = B) w3) := hfm
    have HB3 : Hid (Below w1.heap.size w1 w3) := hb3
    have HW3 : Hid (w2.alloc (.cells #[.int .i64 n, .slice none 0 0] 31) = w3 ∧ w2.heap.size = B) := ⟨hw3.symm, hB.symm⟩
    clear hd0 hd1 hd2 hd3 hd4 HHD hw3 hb3 hfr hfm hB
    go_wp2
    · rw [HW3.out.1, HW3.out.2]
      go_loopw [36] (fun t wr => t = .int .i64 0 ∧ wr = w3) (fun t _ => 0)
      case atStart => exact ⟨rfl, rfl⟩
      case round =>
        obtain ⟨rfl, hw⟩ := hrel
        have hw2 := hw.symm
        subst hw2
        obtain ⟨cs, hcs0⟩ : ∃ cs : List (List Int), cs = [] := ⟨_, rfl⟩
        have HFM1 : Hid (FmAt B n cs (fun k => k = B) w3) := by rw [hcs0]; exact HFM.out
        have HFB : Hid (∀ k, (fun k => k = B) k → B ≤ k) := fun k hk => Nat.le_of_eq hk.symm
        have HB : Hid (Below w1.heap.size w1 w3) := HB3.out
        have HCS : Hid ((ws.drop 1).map (·.data.toList) = cs.map lineC ∧ ∀ c ∈ cs, ∀ x ∈ c, I64 x) := by
          have := HLEN.out
          rw [hcs0]
          refine ⟨?_, fun c hc => by simp at hc⟩
          rw [List.drop_eq_nil_of_le (by omega)]; rfl
        clear hcs0
        obtain ⟨t, sv, hrow, hone, hkeep⟩ := HFM1.out.cells HFB.out
        obtain ⟨hml, so, sc, rfl, _⟩ := hkeep w3 (fun _ _ => rfl)
        have HKEEP : Hid (∀ w', (∀ k, B ≤ k → w'.heap[k]? = w3.heap[k]?) → ClsAt w' (.slice so cs.length sc) cs) := hkeep
        have c0 : w3.cell? ⟨B, 0, none⟩ = some (.int .i64 n) := by rw [cell_of_row w3 _ _ _ _ (0, 0) hrow]; rfl
        have c1 : w3.cell? ⟨B, 0 + 1, none⟩ = some (.slice so cs.length sc) := by rw [cell_of_row w3 _ _ _ _ (0, 0) hrow]; rfl
        clear hone hkeep hml hrow
        by_cases hnc : nc = (cs.length : Int)
        · have d1 : (nc == (cs.length : Int)) = true := by simp [hnc]
          have HNC : Hid (nc = (cs.length : Int)) := hnc
          clear hnc
          have hrr := row_keep HB.out HR1.out
          have y0 : w3.cell? ⟨w.heap.size, 0, none⟩ = some (.int .i64 0) := by rw [cell_of_row w3 _ _ _ _ (0, 0) hrr]; rfl
          have y1 : w3.cell? ⟨w.heap.size, 0 + 1, none⟩ = some (.slice none 0 0) := by rw [cell_of_row w3 _ _ _ _ (0, 0) hrr]; rfl
          have f0 : w3.frozen? ⟨w.heap.size, 0, none⟩ = false := frozen_row hrr
          have f1 : w3.frozen? ⟨w.heap.size, 0 + 1, none⟩ = false := frozen_row hrr
          have hz := set_pair hrr (.int .i64 n) (.slice so cs.length sc)
          have HZ2 : Hid ((((w3.setCell ⟨w.heap.size, 0, none⟩ (.int .i64 n)).setCell ⟨w.heap.size, 1, none⟩ (.slice so cs.length sc)).cell? ⟨w.heap.size, 0, none⟩ = some (.int .i64 n)) ∧ (((w3.setCell ⟨w.heap.size, 0, none⟩ (.int .i64 n)).setCell ⟨w.heap.size, 1, none⟩ (.slice so cs.length sc)).cell? ⟨w.heap.size, 1, none⟩ = some (.slice so cs.length sc))) := hz
          have HBE : Hid (Below w.heap.size w ((w3.setCell ⟨w.heap.size, 0, none⟩ (.int .i64 n)).setCell ⟨w.heap.size, 1, none⟩ (.slice so cs.length sc))) := ((HB1.out.trans (HB.out.mono HB1.out.size)).setCell (Nat.le_refl _) _).setCell (Nat.le_refl _) _
          clear hrr hz
          go_wp2
          have g0 := HZ2.out.1
          have g1 := HZ2.out.2
          refine bodyPost_ret (v := .tuple #[.agg #[.int .i64 n, .slice so cs.length sc], .nilIface]) (by simp [results, Tryz.results25, go_sem, g0, g1]) rfl ?_
          exact ⟨.inl (read_end HMAP.out HX0.out HH.out HNC.out HCS.out HTL.out HTR.out (fun w'' hw'' => HKEEP.out _ (fun k hk => by
            have hR := (Array.getElem?_eq_some_iff.1 HR1.out).1
            have := HBB.out
            rw [hw'' k (by omega), Below.heap_setCell _ _ _ _ (show k ≠ w.heap.size by omega), Below.heap_setCell _ _ _ _ (show k ≠ w.heap.size by omega)]))), HBE.out⟩
        · have d1 : (nc == (cs.length : Int)) = false := by simp [hnc]
          have HNCF : Hid (nc ≠ (cs.length : Int)) := hnc
          clear hnc
          go_wp2_with fail
          refine (wrong_any w3 (HS.out.below HB.out) 0).mono ?_
          rintro e w5 ⟨q, rfl, hb5⟩
          have HB5 : Hid (Below w1.heap.size w1 w5) := HB.out.trans (hb5.mono HB.out.size)
          clear hb5
          have hrr := row_keep HB5.out HR1.out
          have y0 : w5.cell? ⟨w.heap.size, 0, none⟩ = some (.int .i64 0) := by rw [cell_of_row w5 _ _ _ _ (0, 0) hrr]; rfl
          have y1 : w5.cell? ⟨w.heap.size, 0 + 1, none⟩ = some (.slice none 0 0) := by rw [cell_of_row w5 _ _ _ _ (0, 0) hrr]; rfl
          have f0 : w5.frozen? ⟨w.heap.size, 0, none⟩ = false := frozen_row hrr
          have f1 : w5.frozen? ⟨w.heap.size, 0 + 1, none⟩ = false := frozen_row hrr
          have hz := set_pair hrr (.int .i64 0) (.slice none 0 0)
          have HZ2 : Hid ((((w5.setCell ⟨w.heap.size, 0, none⟩ (.int .i64 0)).setCell ⟨w.heap.size, 1, none⟩ (.slice none 0 0)).cell? ⟨w.heap.size, 0, none⟩ = some (.int .i64 0)) ∧ (((w5.setCell ⟨w.heap.size, 0, none⟩ (.int .i64 0)).setCell ⟨w.heap.size, 1, none⟩ (.slice none 0 0)).cell? ⟨w.heap.size, 1, none⟩ = some (.slice none 0 0))) := hz
          have HBE : Hid (Below w.heap.size w ((w5.setCell ⟨w.heap.size, 0, none⟩ (.int .i64 0)).setCell ⟨w.heap.size, 1, none⟩ (.slice none 0 0))) := ((HB1.out.trans (HB5.out.mono HB1.out.size)).setCell (Nat.le_refl _) _).setCell (Nat.le_refl _) _
          clear hrr hz
          go_wp2
          have g0 := HZ2.out.1
          have g1 := HZ2.out.2
          refine bodyPost_ret (v := .tuple #[.agg #[.int .i64 0, .slice none 0 0], .iface 55 q]) (by simp [results, Tryz.results25, go_sem, g0, g1]) rfl ?_
          exact ⟨.inr ⟨q, rfl, fun n' cs' hr h => HNCF.out (not_count (HLW.out n' cs' h) HX0.out HH.out hr HCS.out.1)⟩, HBE.out⟩
    · rw [HW3.out.1, HW3.out.2]
      go_loopw [36] (fun t wr => ∃ (j : Nat) (cs : List (List Int)) (F : Nat → Prop), j ≤ k ∧ t = .int .i64 j ∧ cs.length = j ∧ FmAt B n cs F wr ∧ (∀ k, F k → B ≤ k) ∧ Hid (((ws.drop 1).take j).map (·.data.toList) = cs.map lineC ∧ ∀ c ∈ cs, ∀ x ∈ c, I64 x) ∧ Below w1.heap.size w1 wr) (fun t _ => k - (intOf t).toNat)
      case atStart => exact ⟨0, [], _, Nat.zero_le _, rfl, rfl, HFM.out, fun k hk => by omega, ⟨rfl, fun c hc => by simp at hc⟩, HB3.out⟩
      case round =>
        obtain ⟨j, cs, F, hj, rfl, hcl, hfm, hFB, HCS, hb⟩ := hrel
        have HFM1 : Hid (FmAt B n cs F wr) := hfm
        have HFB : Hid (∀ k, F k → B ≤ k) := hFB
        have HB : Hid (Below w1.heap.size w1 wr) := hb
        have HCL : Hid (cs.length = j) := hcl
        by_cases hjl : j < k
        · obtain ⟨x, hx⟩ : ∃ x, ws[1 + j]? = some x := ⟨_, List.getElem?_eq_getElem (by have := HLEN.out; omega)⟩
          have q0 := cell_keep hb (HPC.out (1 + j) x hx)
          have HX : Hid ((ws.drop 1)[j]? = some x) := by unfold Hid; rw [List.getElem?_drop]; exact hx
          have HXS : Hid (x.size ≤ 10000) := HWSZ.out x (List.mem_of_getElem? hx)
          have i0' : (0 : Int) ≤ (j : Int) := by omega
          have i1' : (j : Int) < (k : Int) := by omega
          have HJ : Hid (j < k) := hjl
          have N4 : Hid (wrap64 ((j : Int) + 1) = (j : Int) + 1) := by have := HKL.out; unfold Hid wrap64; omega
          clear hj hjl hx hcl hfm hFB hb
          go_wp2_with fail
          refine (clause_any wr (HS.out.below HB.out) x HXS.out).mono ?_
          rintro e w4 ⟨v, b, rfl, hv, hb4, hvf⟩
          have HVF : Hid (b = false → ∀ c : List Int, (∀ x ∈ c, I64 x ∧ x ≠ 0) → x.data.toList ≠ lineC c) := hvf
          clear hvf
          have HB4 : Hid (Below w1.heap.size w1 w4) := HB.out.trans (hb4.mono HB.out.size)
          have HBR : Hid (Below wr.heap.size wr w4) := hb4
          have HVV : Hid (b = true → ∃ c V, v = .slice (some ⟨V, 0, none⟩) c.length c.length ∧ w4.heap[V]? = some (.cells (rowI c) 3 (0, 0)) ∧ wr.heap.size ≤ V ∧ x.data.toList = lineC c ∧ (∀ x ∈ c, I64 x) ∧ c.length ≤ 10000) := hv
          clear hv hb4 q0
          cases b
          · go_wp2_with fail
            refine (wrong_any w4 (HS.out.below HB4.out) _).mono ?_
            rintro e w5 ⟨q, rfl, hb5⟩
            have HB5 : Hid (Below w1.heap.size w1 w5) := HB4.out.trans (hb5.mono HB4.out.size)
            clear hb5
            have hrr := row_keep HB5.out HR1.out
            have y0 : w5.cell? ⟨w.heap.size, 0, none⟩ = some (.int .i64 0) := by rw [cell_of_row w5 _ _ _ _ (0, 0) hrr]; rfl
            have y1 : w5.cell? ⟨w.heap.size, 0 + 1, none⟩ = some (.slice none 0 0) := by rw [cell_of_row w5 _ _ _ _ (0, 0) hrr]; rfl
            have f0 : w5.frozen? ⟨w.heap.size, 0, none⟩ = false := frozen_row hrr
            have f1 : w5.frozen? ⟨w.heap.size, 0 + 1, none⟩ = false := frozen_row hrr
            have hz := set_pair hrr (.int .i64 0) (.slice none 0 0)
            have HZ2 : Hid ((((w5.setCell ⟨w.heap.size, 0, none⟩ (.int .i64 0)).setCell ⟨w.heap.size, 1, none⟩ (.slice none 0 0)).cell? ⟨w.heap.size, 0, none⟩ = some (.int .i64 0)) ∧ (((w5.setCell ⟨w.heap.size, 0, none⟩ (.int .i64 0)).setCell ⟨w.heap.size, 1, none⟩ (.slice none 0 0)).cell? ⟨w.heap.size, 1, none⟩ = some (.slice none 0 0))) := hz
            have HBE : Hid (Below w.heap.size w ((w5.setCell ⟨w.heap.size, 0, none⟩ (.int .i64 0)).setCell ⟨w.heap.size, 1, none⟩ (.slice none 0 0))) := ((HB1.out.trans (HB5.out.mono HB1.out.size)).setCell (Nat.le_refl _) _).setCell (Nat.le_refl _) _
            clear hrr hz
            go_wp2
            have g0 := HZ2.out.1
            have g1 := HZ2.out.2
            refine bodyPost_ret (v := .tuple #[.agg #[.int .i64 0, .slice none 0 0], .iface 55 q]) (by simp [results, Tryz.results25, go_sem, g0, g1]) rfl ?_
            exact ⟨.inr ⟨q, rfl, fun n' cs' hr h => by obtain ⟨c, hc, e⟩ := not_line (HLW.out n' cs' h) HX.out; exact HVF.out (by first | rfl | trivial) c (hr.2.2.2 c hc) e⟩, HBE.out⟩
          · obtain ⟨c, V, rfl, hV, hVl, hxl, hci, hcn⟩ := HVV.out rfl
            have hv : ClIn (fun k => F k ∨ k < B) w4 (.slice (some ⟨V, 0, none⟩) c.length c.length) c := ⟨_, _, rfl, fun i x hi => ⟨_, _, rfl, fun hf => by
              have a1 := HFM1.out.2.1 B HFM1.out.1
              rcases hf with hf | hf
              · have := HFM1.out.2.1 V hf; omega
              · omega, by rw [cell_of_row _ _ _ _ _ (0, 0) hV, Nat.zero_add]; exact rowI_get hi⟩⟩
            obtain ⟨h1, h2, t, sv, vs, h3, h4, h5, h6, h7⟩ := HFM1.out.below HBR.out
            obtain ⟨o, cp, rfl, hnm⟩ := owns_form h4
            have HXC : Hid (x.data.toList = lineC c ∧ ∀ x ∈ c, I64 x) := ⟨hxl, hci⟩
            have HV : Hid (ClIn (fun k => F k ∨ k < B) w4 (.slice (some ⟨V, 0, none⟩) c.length c.length) c) := hv
            have c0 : w4.cell? ⟨B, 0 + 1, none⟩ = some (.slice o cs.length cp) := by rw [cell_of_row w4 B (0 + 1) _ t (0, 0) h3]; rfl
            have hM : B < w4.heap.size := h2 B h1
            have HBY : Hid ((cs.length + 1) * 24 ≤ 140737488355328) := by have := HCL.out; have := HJ.out; have := HKL.out; unfold Hid; omega
            have HM : Hid (cs.length + 1 ≤ maxLen) := by have := HCL.out; have := HJ.out; have := HKL.out; unfold Hid maxLen; omega
            have HO : Hid (∀ o', (w4.alloc o').ownsRow 0 43 1 (.slice o cs.length cp) cs.length vs) := fun o' => h4.alloc o'
            have HN' : Hid _ := World.news_of_block (heap_alloc_new w4 (.cells #[.slice (some ⟨V, 0, none⟩) c.length c.length] 43))
            have H1 : Hid (F B) := h1
            have H2 : Hid (∀ k, F k → k < w4.heap.size) := h2
            have H3 : Hid (w4.heap[B]? = _) := h3
            have H5 : Hid (∀ k, _) := h5
            have H6 : Hid (vs.length = cs.length) := h6
            have H7 : Hid (∀ (k : Nat) l, cs[k]? = some l → ∃ v, vs[k]? = some v ∧ ClIn (fun k => F k ∨ k < B) w4 v l) := h7
            have HR : Hid ((Value.slice o cs.length cp).ownBlock ≠ some B) := fun hk => (h5 B hk).2 rfl
            clear h1 h2 h3 h4 h5 h6 h7 hnm hv hV hVl hxl hci hcn HVV
            go_wp2_with (first
              | (at_builtin; refine wpList_append_lies _ rfl _ _ 22 rfl 0 43 i2 _ 1 24 Tryz.underlying22 hk0 hz0 hz1 hz2 rfl (by omega) (.slice o cs.length cp) cs.length vs rfl (HO.out _) ⟨w4.heap.size, 0, none⟩ 1 1 [.slice (some ⟨V, 0, none⟩) c.length c.length] rfl rfl HN'.out (by simp [Value.oneCell']) (by omega) HM.out HBY.out (Nat.zero_le _) _ rfl ?_; intro g cap w6 hown3 hgrow hat hlt3; have HG3 : Hid (w6.heap[B]? = _) := heap_grown hgrow HR.out (alloc_row _ H3.out); have d1 := cell_of_row w6 B (0 + 1) _ _ (0, 0) HG3.out; have f1 := frozen_row (i := 0 + 1) HG3.out)
              | go_in)
            obtain ⟨m1, m2, _⟩ := FmAt.grown H1.out H2.out H3.out H5.out H6.out H7.out HV.out ((Below.refl _ _).alloc (Nat.le_refl _) _) hgrow hat hlt3 hown3
            refine ⟨⟨j + 1, cs ++ [c], _, HJ.out, by rw [N4.out]; rfl, by rw [List.length_append, HCL.out]; rfl, m1, fun k hk => ?_, ⟨?_, ?_⟩, m2.below HB4.out HB4.out.size (fun k hk => Nat.le_trans HBB.out (HFB.out k hk))⟩, by rw [N4.out]; have := HJ.out; simp [intOf]; omega⟩
            · rcases hk with hk | hk
              · exact HFB.out k hk
              · omega
            · rw [List.take_add_one, HX.out, List.map_append, List.map_append, HCS.out.1]
              simp [HXC.out.1]
            · intro c' hc'
              rcases List.mem_append.1 hc' with h | h
              · exact HCS.out.2 c' h
              · rw [List.mem_singleton.1 h]; exact HXC.out.2
        · have HCS2 : Hid ((ws.drop 1).map (·.data.toList) = cs.map lineC ∧ ∀ c ∈ cs, ∀ x ∈ c, I64 x) := by
            refine ⟨?_, HCS.out.2⟩
            rw [← HCS.out.1, List.take_of_length_le (by rw [List.length_drop, HLEN.out]; omega)]
          have d3 : ¬ ((j : Int) < (k : Int)) := by omega
          clear HCS hj hcl hfm hFB hb
          have HCS := HCS2
          clear HCS2
          obtain ⟨t, sv, hrow, hone, hkeep⟩ := HFM1.out.cells HFB.out
          obtain ⟨hml, so, sc, rfl, _⟩ := hkeep wr (fun _ _ => rfl)
          have HKEEP : Hid (∀ w', (∀ k, B ≤ k → w'.heap[k]? = wr.heap[k]?) → ClsAt w' (.slice so cs.length sc) cs) := hkeep
          have c0 : wr.cell? ⟨B, 0, none⟩ = some (.int .i64 n) := by rw [cell_of_row wr _ _ _ _ (0, 0) hrow]; rfl
          have c1 : wr.cell? ⟨B, 0 + 1, none⟩ = some (.slice so cs.length sc) := by rw [cell_of_row wr _ _ _ _ (0, 0) hrow]; rfl
          clear hone hkeep hml hrow
          by_cases hnc : nc = (cs.length : Int)
          · have d1 : (nc == (cs.length : Int)) = true := by simp [hnc]
            have HNC : Hid (nc = (cs.length : Int)) := hnc
            clear hnc
            have hrr := row_keep HB.out HR1.out
            have y0 : wr.cell? ⟨w.heap.size, 0, none⟩ = some (.int .i64 0) := by rw [cell_of_row wr _ _ _ _ (0, 0) hrr]; rfl
            have y1 : wr.cell? ⟨w.heap.size, 0 + 1, none⟩ = some (.slice none 0 0) := by rw [cell_of_row wr _ _ _ _ (0, 0) hrr]; rfl
            have f0 : wr.frozen? ⟨w.heap.size, 0, none⟩ = false := frozen_row hrr
            have f1 : wr.frozen? ⟨w.heap.size, 0 + 1, none⟩ = false := frozen_row hrr
            have hz := set_pair hrr (.int .i64 n) (.slice so cs.length sc)
            have HZ2 : Hid ((((wr.setCell ⟨w.heap.size, 0, none⟩ (.int .i64 n)).setCell ⟨w.heap.size, 1, none⟩ (.slice so cs.length sc)).cell? ⟨w.heap.size, 0, none⟩ = some (.int .i64 n)) ∧ (((wr.setCell ⟨w.heap.size, 0, none⟩ (.int .i64 n)).setCell ⟨w.heap.size, 1, none⟩ (.slice so cs.length sc)).cell? ⟨w.heap.size, 1, none⟩ = some (.slice so cs.length sc))) := hz
            have HBE : Hid (Below w.heap.size w ((wr.setCell ⟨w.heap.size, 0, none⟩ (.int .i64 n)).setCell ⟨w.heap.size, 1, none⟩ (.slice so cs.length sc))) := ((HB1.out.trans (HB.out.mono HB1.out.size)).setCell (Nat.le_refl _) _).setCell (Nat.le_refl _) _
            clear hrr hz
            go_wp2
            have g0 := HZ2.out.1
            have g1 := HZ2.out.2
            refine bodyPost_ret (v := .tuple #[.agg #[.int .i64 n, .slice so cs.length sc], .nilIface]) (by simp [results, Tryz.results25, go_sem, g0, g1]) rfl ?_
            exact ⟨.inl (read_end HMAP.out HX0.out HH.out HNC.out HCS.out HTL.out HTR.out (fun w'' hw'' => HKEEP.out _ (fun k hk => by
              have hR := (Array.getElem?_eq_some_iff.1 HR1.out).1
              have := HBB.out
              rw [hw'' k (by omega), Below.heap_setCell _ _ _ _ (show k ≠ w.heap.size by omega), Below.heap_setCell _ _ _ _ (show k ≠ w.heap.size by omega)]))), HBE.out⟩
          · have d1 : (nc == (cs.length : Int)) = false := by simp [hnc]
            have HNCF : Hid (nc ≠ (cs.length : Int)) := hnc
            clear hnc
            go_wp2_with fail
            refine (wrong_any wr (HS.out.below HB.out) 0).mono ?_
            rintro e w5 ⟨q, rfl, hb5⟩
            have HB5 : Hid (Below w1.heap.size w1 w5) := HB.out.trans (hb5.mono HB.out.size)
            clear hb5
            have hrr := row_keep HB5.out HR1.out
            have y0 : w5.cell? ⟨w.heap.size, 0, none⟩ = some (.int .i64 0) := by rw [cell_of_row w5 _ _ _ _ (0, 0) hrr]; rfl
            have y1 : w5.cell? ⟨w.heap.size, 0 + 1, none⟩ = some (.slice none 0 0) := by rw [cell_of_row w5 _ _ _ _ (0, 0) hrr]; rfl
            have f0 : w5.frozen? ⟨w.heap.size, 0, none⟩ = false := frozen_row hrr
            have f1 : w5.frozen? ⟨w.heap.size, 0 + 1, none⟩ = false := frozen_row hrr
            have hz := set_pair hrr (.int .i64 0) (.slice none 0 0)
            have HZ2 : Hid ((((w5.setCell ⟨w.heap.size, 0, none⟩ (.int .i64 0)).setCell ⟨w.heap.size, 1, none⟩ (.slice none 0 0)).cell? ⟨w.heap.size, 0, none⟩ = some (.int .i64 0)) ∧ (((w5.setCell ⟨w.heap.size, 0, none⟩ (.int .i64 0)).setCell ⟨w.heap.size, 1, none⟩ (.slice none 0 0)).cell? ⟨w.heap.size, 1, none⟩ = some (.slice none 0 0))) := hz
            have HBE : Hid (Below w.heap.size w ((w5.setCell ⟨w.heap.size, 0, none⟩ (.int .i64 0)).setCell ⟨w.heap.size, 1, none⟩ (.slice none 0 0))) := ((HB1.out.trans (HB5.out.mono HB1.out.size)).setCell (Nat.le_refl _) _).setCell (Nat.le_refl _) _
            clear hrr hz
            go_wp2
            have g0 := HZ2.out.1
            have g1 := HZ2.out.2
            refine bodyPost_ret (v := .tuple #[.agg #[.int .i64 0, .slice none 0 0], .iface 55 q]) (by simp [results, Tryz.results25, go_sem, g0, g1]) rfl ?_
            exact ⟨.inr ⟨q, rfl, fun n' cs' hr h => HNCF.out (not_count (HLW.out n' cs' h) HX0.out HH.out hr HCS.out.1)⟩, HBE.out⟩
end Go.Proofs.YtlclbidjdhlklaaGreatDoor
