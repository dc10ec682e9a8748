/-
  package cnf: number, head BY CONTRACT: what is read is written as it was.
-/
import Derived.Test.YtbbakcpflckbnaaDoorCnL
import Derived.Test.YtbbakcpflckbnaaDoorShelfB
import Derived.Lib.BufferKept
namespace Go.Proofs.YtbbakcpflckbnaaDoor
open Go.RowKit Go.Maps

/-- What a reader's world has: strconv's table and errors, bytealg's bound. -/
structure RdEnv (w : World) : Prop where
  tab : Lib.TabIs Tryd.prog w "internal/strconv.uint64pow10" .u64 Lib.pow10Tab
  syn : ∃ t q, w.cell? ⟨14, 0, none⟩ = some (.iface t q)
  rng : ∃ t q, w.cell? ⟨15, 0, none⟩ = some (.iface t q)
  max : ∃ m, w.cell? ⟨10, 0, none⟩ = some (.int .i64 m)
  txt : ∃ t q, w.cell? ⟨2, 0, none⟩ = some (.iface t q)
theorem RdEnv.below {w w' : World} (h : RdEnv w) (hb : Below w.heap.size w w') : RdEnv w' := by
  obtain ⟨t, ⟨t1, q1, h1⟩, ⟨t2, q2, h2⟩, ⟨m, h3⟩, ⟨t4, q4, h4⟩⟩ := h
  exact ⟨(Lib.tabBelow_of_tabIs t) w' hb, ⟨t1, q1, cell_keep hb h1⟩, ⟨t2, q2, cell_keep hb h2⟩, ⟨m, cell_keep hb h3⟩, ⟨t4, q4, cell_keep hb h4⟩⟩
/-- What number answers. -/
def NumP (s : ByteArray) (w : World) (e : Ending) (w' : World) : Prop := ∃ n b, e = .returned (.tuple #[.int .i64 n, .bool b]) ∧ (b = true → s.data.toList = Lib.itoa n ∧ I64 n) ∧ Below w.heap.size w w'
set_option maxRecDepth 100000 in
set_option maxHeartbeats 1000000 in
theorem number_any (w : World) (S : RdEnv w) (s : ByteArray) (hs : s.size ≤ 10000) : Calls Tryd.prog 78 #[.string s] w (NumP s w) := by
  cases hA : Lib.atoiAll s.data.toList with
  | ok v =>
    have hv := Lib.atoiAll_bounds hA
    have HVI : Hid (I64 v) := hv
    have HC : Hid (Calls Tryd.prog 90 #[.string s] w fun e w' => e = .returned (.tuple #[.int .i64 v, .nilIface]) ∧ (w' = w ∨ ∃ t, w' = Lib.bytesWorld w 5 t)) := Tryd.strconv_Atoi_ok s (by omega) v hA w
    have HI : Hid (∀ w1, Below w.heap.size w w1 → Calls Tryd.prog 91 #[.int .i64 v] w1 fun e w' => e = .returned (.string ⟨(Lib.itoa v).toArray⟩) ∧ Below w1.heap.size w1 w') := fun w1 hb => (Tryd.strconv_Itoa v hv.1 hv.2 w1 ((Lib.tabBelow_of_tabIs S.tab) w1 hb)).mono fun e w' ⟨he, k, os, hw⟩ => ⟨he, by rw [hw]; exact Lib.below_grow w1.heap.size w1 (Nat.le_refl _) k os⟩
    clear hA S hs hv
    go_enter Tryd.func78, Tryd.ntmps78
    go_wp2_with fail
    refine HC.out.mono ?_
    rintro e w1 ⟨rfl, hw⟩
    have hb1 : Below w.heap.size w w1 := by
      rcases hw with rfl | ⟨t, rfl⟩
      · exact Below.refl _ _
      · exact Lib.bytesWorld_below w _ t
    have HB : Hid (Below w.heap.size w w1) := hb1
    clear hw hb1
    go_wp2_with fail
    refine (HI.out w1 HB.out).mono ?_
    rintro e w2 ⟨rfl, hb2⟩
    have HB2 : Hid (Below w.heap.size w w2) := HB.out.trans (hb2.mono HB.out.size)
    clear hb2
    go_wp2
    go_ret2
    refine ⟨_, _, rfl, (fun h => ⟨?_, HVI.out⟩), HB2.out⟩
    have h2 : Lib.itoa v = s.toList := eq_of_beq h
    rw [h2, ByteArray.toList_eq]
  | «syntax» =>
    obtain ⟨t, q, he⟩ := S.syn
    have HC : Hid (Calls Tryd.prog 90 #[.string s] w fun e w' => ∃ N, e = .returned (.tuple #[.int .i64 (0), .iface 185 (.pointer (some ⟨N, 0, none⟩))]) ∧ w.heap.size ≤ N ∧ w'.heap[N]? = some (.cells #[.string ⟨#[65, 116, 111, 105]⟩, .string s, .iface t q] 204 (0, 0)) ∧ Below w.heap.size w w') := Tryd.strconv_Atoi_syntax s (by omega) hA _ w he (.inr ⟨_, _, rfl⟩)
    clear hA he S hs
    go_enter Tryd.func78, Tryd.ntmps78
    go_wp2_with fail
    refine HC.out.mono ?_
    rintro e w1 ⟨N, rfl, _, _, hb⟩
    have HB : Hid (Below w.heap.size w w1) := hb
    clear hb
    go_wp2
    go_ret2
    exact ⟨_, _, rfl, (fun h => by cases h), HB.out⟩
  | range =>
    obtain ⟨t, q, he⟩ := S.rng
    have HC : Hid (Calls Tryd.prog 90 #[.string s] w fun e w' => ∃ N, e = .returned (.tuple #[.int .i64 (Lib.atoiSat s.data.toList), .iface 185 (.pointer (some ⟨N, 0, none⟩))]) ∧ w.heap.size ≤ N ∧ w'.heap[N]? = some (.cells #[.string ⟨#[65, 116, 111, 105]⟩, .string s, .iface t q] 204 (0, 0)) ∧ Below w.heap.size w w') := Tryd.strconv_Atoi_range s (by omega) hA _ w he (.inr ⟨_, _, rfl⟩)
    clear hA he S hs
    go_enter Tryd.func78, Tryd.ntmps78
    go_wp2_with fail
    refine HC.out.mono ?_
    rintro e w1 ⟨N, rfl, _, _, hb⟩
    have HB : Hid (Below w.heap.size w w1) := hb
    clear hb
    go_wp2
    go_ret2
    exact ⟨_, _, rfl, (fun h => by cases h), HB.out⟩
set_option maxRecDepth 100000 in
theorem cutp_any (w : World) (s : ByteArray) (hs : s.size ≤ 10000) : Calls Tryd.prog 76 #[.string s, .string ⟨#[112, 32, 99, 110, 102, 32]⟩] w fun e w' => ∃ r b, e = .returned (.tuple #[.string r, .bool b]) ∧ r.size ≤ s.size ∧ (b = true → s.data.toList = headB ++ r.data.toList) ∧ w' = w := by
  by_cases h6 : 6 ≤ s.size
  · have d6 : ((6 : Int) ≤ (s.size : Int)) = True := eq_true (by omega)
    have hx : (s.extract 0 6).data.toList = s.data.toList.take 6 := by simp [ByteArray.data_extract]
    have hy := Lib.extract_to_end s 6
    have HEQ : Hid ((s.extract 0 6).toList = [112, 32, 99, 110, 102, 32] → s.data.toList = headB ++ (s.extract 6 s.size).data.toList) := fun h => by
      rw [ByteArray.toList_eq, hx] at h
      rw [hy]
      have := List.take_append_drop 6 s.data.toList
      rw [h] at this
      exact this.symm
    have HSZ : Hid ((s.extract 6 s.size).size ≤ s.size) := by
      unfold Hid
      rw [Lib.size_eq, hy, Lib.size_eq s, List.length_drop]; omega
    clear h6 hs hx hy
    go_enter Tryd.func76, Tryd.ntmps76
    go_wp2_with (go_in)
    · go_ret2
      exact ⟨_, _, rfl, Nat.le_refl _, (fun h => by cases h), rfl⟩
    · rename_i hh
      have h2 : (s.extract 0 6).toList = [112, 32, 99, 110, 102, 32] := by simpa using hh
      go_ret2
      exact ⟨_, _, rfl, HSZ.out, (fun _ => HEQ.out h2), rfl⟩
  · have d6 : ((6 : Int) ≤ (s.size : Int)) = False := eq_false (by omega)
    clear h6 hs
    go_enter Tryd.func76, Tryd.ntmps76
    go_wp2_with (go_in)
    go_ret2
    exact ⟨_, _, rfl, Nat.le_refl _, (fun h => by cases h), rfl⟩
set_option maxRecDepth 100000 in
set_option maxHeartbeats 2000000 in
theorem head_any (w : World) (S : RdEnv w) (s : ByteArray) (hs : s.size ≤ 10000) : Calls Tryd.prog 59 #[.string s] w fun e w' => ∃ n m b, e = .returned (.tuple #[.int .i64 n, .int .i64 m, .bool b]) ∧ (b = true → s.data.toList = headB ++ numB n 32 ++ Lib.itoa m ∧ I64 n ∧ I64 m ∧ 0 ≤ n ∧ 0 ≤ m) ∧ Below w.heap.size w w' := by
  have HS : Hid (RdEnv w) := S
  have HZ : Hid (s.size ≤ 10000) := hs
  clear S hs
  go_enter Tryd.func59, Tryd.ntmps59
  go_wp2_with fail
  refine (cutp_any w s HZ.out).mono ?_
  rintro e w' ⟨r, bp, rfl, hrs, hbp, hw⟩
  have hw2 := hw.symm
  subst hw2
  have HRS : Hid (r.size ≤ 10000) := Nat.le_trans hrs HZ.out
  have HBP : Hid (bp = true → s.data.toList = headB ++ r.data.toList) := hbp
  obtain ⟨mx, hmx⟩ := HS.out.max
  have HCT : Hid (Calls Tryd.prog 77 #[.string r, .string ⟨#[32]⟩] w fun e w' => e = .returned (.tuple #[.string ⟨(Lib.cut r.data.toList [32]).1.toArray⟩, .string ⟨(Lib.cut r.data.toList [32]).2.1.toArray⟩, .bool (Lib.cut r.data.toList [32]).2.2]) ∧ ∃ n, w' = w.drewN n) := Tryd.strings_Cut r ⟨#[32]⟩ mx w (by have := HRS.out; omega) hmx
  clear hrs hbp hmx
  go_wp2_with fail
  refine HCT.out.mono ?_
  clear HCT
  obtain ⟨ct, hct⟩ : ∃ ct, ct = Lib.cut r.data.toList [32] := ⟨_, rfl⟩
  rw [← hct]
  obtain ⟨x1, x2, bc⟩ := ct
  rintro e w1 ⟨rfl, n1, hw1⟩
  have hb1 : Below w.heap.size w w1 := by rw [hw1]; exact below_drewM (Below.refl _ _) n1
  have hlen : x1.length ≤ 10000 ∧ x2.length ≤ 10000 := by
    have hr := HRS.out
    rw [Lib.size_eq] at hr
    unfold Lib.cut at hct
    split at hct
    · have e1 := congrArg Prod.fst hct
      have e2 := congrArg (fun x => x.2.1) hct
      simp only at e1 e2
      rw [e1, e2]
      refine ⟨Nat.le_trans (List.length_take_le' _ _) hr, ?_⟩
      rw [List.length_drop]; omega
    · have e1 := congrArg Prod.fst hct
      have e2 := congrArg (fun x => x.2.1) hct
      simp only at e1 e2
      rw [e1, e2]
      simp
      exact hr
  have HCB : Hid (bc = true → r.data.toList = x1 ++ 32 :: x2) := fun h => cut_one (by rw [← hct, h])
  have HB1 : Hid (Below w.heap.size w w1) := hb1
  have HLN : Hid (x1.length ≤ 10000 ∧ x2.length ≤ 10000) := hlen
  clear hw1 hb1 hct hlen
  go_wp2_with fail
  refine (number_any w1 (HS.out.below HB1.out) ⟨x1.toArray⟩ (by rw [Lib.size_eq]; simpa using HLN.out.1)).mono ?_
  rintro e w2 ⟨n, bn, rfl, hn, hb2⟩
  have HN : Hid (bn = true → x1 = Lib.itoa n ∧ I64 n) := fun h => by have := hn h; simpa using this
  have HB2 : Hid (Below w.heap.size w w2) := HB1.out.trans (hb2.mono HB1.out.size)
  clear hn hb2
  go_wp2_with fail
  refine (number_any w2 (HS.out.below HB2.out) ⟨x2.toArray⟩ (by rw [Lib.size_eq]; simpa using HLN.out.2)).mono ?_
  rintro e w3 ⟨m, bm, rfl, hm, hb3⟩
  have HM : Hid (bm = true → x2 = Lib.itoa m ∧ I64 m) := fun h => by have := hm h; simpa using this
  have HB3 : Hid (Below w.heap.size w w3) := HB2.out.trans (hb3.mono HB2.out.size)
  clear hm hb3
  cases bp
  · go_wp2
    go_ret3
    exact ⟨_, _, _, rfl, (fun h => by cases h), HB3.out⟩
  · cases bc
    · go_wp2
      go_ret3
      exact ⟨_, _, _, rfl, (fun h => by cases h), HB3.out⟩
    · cases bn
      · go_wp2
        go_ret3
        exact ⟨_, _, _, rfl, (fun h => by cases h), HB3.out⟩
      · cases bm
        · go_wp2
          go_ret3
          exact ⟨_, _, _, rfl, (fun h => by cases h), HB3.out⟩
        · by_cases h0 : 0 ≤ n
          · have d0 : (0 ≤ n) = True := eq_true h0
            by_cases h1 : 0 ≤ m
            · have d1 : (0 ≤ m) = True := eq_true h1
              have HEQ : Hid (s.data.toList = headB ++ numB n 32 ++ Lib.itoa m ∧ I64 n ∧ I64 m ∧ 0 ≤ n ∧ 0 ≤ m) := by
                refine ⟨?_, (HN.out rfl).2, (HM.out rfl).2, h0, h1⟩
                rw [HBP.out rfl, HCB.out rfl, (HN.out rfl).1, (HM.out rfl).1]
                unfold numB
                simp
              clear h0 h1
              go_wp2
              go_ret3
              exact ⟨_, _, _, rfl, (fun _ => HEQ.out), HB3.out⟩
            · have d1 : (0 ≤ m) = False := eq_false h1
              clear h0 h1
              go_wp2
              go_ret3
              exact ⟨_, _, _, rfl, (fun h => by cases h), HB3.out⟩
          · have d0 : (0 ≤ n) = False := eq_false h0
            clear h0
            go_wp2
            go_ret3
            exact ⟨_, _, _, rfl, (fun h => by cases h), HB3.out⟩
end Go.Proofs.YtbbakcpflckbnaaDoor
