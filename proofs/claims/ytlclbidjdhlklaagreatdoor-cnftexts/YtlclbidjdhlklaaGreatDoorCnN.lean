/-
  package cnf: number, head BY CONTRACT: what is read is written as it was.
-/
import Derived.Test.YtlclbidjdhlklaaGreatDoorCtS
import Derived.Test.YtlclbidjdhlklaaGreatDoorShelfB
import Derived.Lib.BufferKept
namespace Go.Proofs.YtlclbidjdhlklaaGreatDoor
open Go.RowKit Go.Maps

/-- What a reader's world has: strconv's table and errors, bytealg's bound. -/
structure RdEnv (w : World) : Prop where
  tab : Lib.TabIs Tryz.prog w "internal/strconv.uint64pow10" .u64 Lib.pow10Tab
  syn : ∃ t q, w.cell? ⟨14, 0, none⟩ = some (.iface t q)
  rng : ∃ t q, w.cell? ⟨15, 0, none⟩ = some (.iface t q)
  max : ∃ m, w.cell? ⟨11, 0, none⟩ = some (.int .i64 m)
  txt : ∃ t q, w.cell? ⟨2, 0, none⟩ = some (.iface t q)
theorem RdEnv.below {w w' : World} (h : RdEnv w) (hb : Below w.heap.size w w') : RdEnv w' := by
  obtain ⟨t, ⟨t1, q1, h1⟩, ⟨t2, q2, h2⟩, ⟨m, h3⟩, ⟨t4, q4, h4⟩⟩ := h
  exact ⟨(Lib.tabBelow_of_tabIs t) w' hb, ⟨t1, q1, cell_keep hb h1⟩, ⟨t2, q2, cell_keep hb h2⟩, ⟨m, cell_keep hb h3⟩, ⟨t4, q4, cell_keep hb h4⟩⟩
/-- What number answers. -/
def NumP (s : ByteArray) (w : World) (e : Ending) (w' : World) : Prop := ∃ n b, e = .returned (.tuple #[.int .i64 n, .bool b]) ∧ (b = true → s.data.toList = Lib.itoa n ∧ I64 n) ∧ Below w.heap.size w w' ∧ (b = false → ∀ m, I64 m → s.data.toList ≠ Lib.itoa m)
set_option maxRecDepth 100000 in
set_option maxHeartbeats 1000000 in
theorem number_any (w : World) (S : RdEnv w) (s : ByteArray) (hs : s.size ≤ 10000) : Calls Tryz.prog 50 #[.string s] w (NumP s w) := by
  cases hA : Lib.atoiAll s.data.toList with
  | ok v =>
    have hv := Lib.atoiAll_bounds hA
    have HVI : Hid (I64 v) := hv
    have HAA : Hid (Lib.atoiAll s.data.toList = .ok v) := hA
    have HC : Hid (Calls Tryz.prog 60 #[.string s] w fun e w' => e = .returned (.tuple #[.int .i64 v, .nilIface]) ∧ (w' = w ∨ ∃ t, w' = Lib.bytesWorld w 5 t)) := Tryz.strconv_Atoi_ok s (by omega) v hA w
    have HI : Hid (∀ w1, Below w.heap.size w w1 → Calls Tryz.prog 61 #[.int .i64 v] w1 fun e w' => e = .returned (.string ⟨(Lib.itoa v).toArray⟩) ∧ Below w1.heap.size w1 w') := fun w1 hb => (Tryz.strconv_Itoa v hv.1 hv.2 w1 ((Lib.tabBelow_of_tabIs S.tab) w1 hb)).mono fun e w' ⟨he, k, os, hw⟩ => ⟨he, by rw [hw]; exact Lib.below_grow w1.heap.size w1 (Nat.le_refl _) k os⟩
    clear hA S hs hv
    go_enter Tryz.func50, Tryz.ntmps50
    go_wp2_with fail
    refine HC.out.mono ?_
    rintro e w1 ⟨rfl, hw⟩
    have hb1 : Below w.heap.size w w1 := by
      rcases hw with rfl | ⟨t, rfl⟩
      · exact Below.refl _ _
      · exact Lib.bytesWorld_below w _ t
    have HB : Hid (Below w.heap.size w w1) := hb1
    clear hw hb1
    go_wp2_with fail
    refine (HI.out w1 HB.out).mono ?_
    rintro e w2 ⟨rfl, hb2⟩
    have HB2 : Hid (Below w.heap.size w w2) := HB.out.trans (hb2.mono HB.out.size)
    clear hb2
    go_wp2
    go_ret2
    refine ⟨_, _, rfl, (fun h => ⟨?_, HVI.out⟩), HB2.out, fun h m hm he => ?_⟩
    · have h2 : Lib.itoa v = s.toList := eq_of_beq h
      rw [h2, ByteArray.toList_eq]
    · have h1 := HAA.out
      rw [he, atoi_itoa hm] at h1
      injection h1 with h1
      have h2 : (Lib.itoa v == s.toList) = true := by rw [ByteArray.toList_eq, he, h1]; simp
      rw [h2] at h; cases h
  | «syntax» =>
    obtain ⟨t, q, he⟩ := S.syn
    have HC : Hid (Calls Tryz.prog 60 #[.string s] w fun e w' => ∃ N, e = .returned (.tuple #[.int .i64 (0), .iface 139 (.pointer (some ⟨N, 0, none⟩))]) ∧ w.heap.size ≤ N ∧ w'.heap[N]? = some (.cells #[.string ⟨#[65, 116, 111, 105]⟩, .string s, .iface t q] 154 (0, 0)) ∧ Below w.heap.size w w') := Tryz.strconv_Atoi_syntax s (by omega) hA _ w he (.inr ⟨_, _, rfl⟩)
    have HAA : Hid (Lib.atoiAll s.data.toList = .«syntax») := hA
    clear hA he S hs
    go_enter Tryz.func50, Tryz.ntmps50
    go_wp2_with fail
    refine HC.out.mono ?_
    rintro e w1 ⟨N, rfl, _, _, hb⟩
    have HB : Hid (Below w.heap.size w w1) := hb
    clear hb
    go_wp2
    go_ret2
    exact ⟨_, _, rfl, (fun h => by cases h), HB.out, fun _ m hm he => by have h1 := HAA.out; rw [he, atoi_itoa hm] at h1; cases h1⟩
  | range =>
    obtain ⟨t, q, he⟩ := S.rng
    have HC : Hid (Calls Tryz.prog 60 #[.string s] w fun e w' => ∃ N, e = .returned (.tuple #[.int .i64 (Lib.atoiSat s.data.toList), .iface 139 (.pointer (some ⟨N, 0, none⟩))]) ∧ w.heap.size ≤ N ∧ w'.heap[N]? = some (.cells #[.string ⟨#[65, 116, 111, 105]⟩, .string s, .iface t q] 154 (0, 0)) ∧ Below w.heap.size w w') := Tryz.strconv_Atoi_range s (by omega) hA _ w he (.inr ⟨_, _, rfl⟩)
    have HAA : Hid (Lib.atoiAll s.data.toList = .range) := hA
    clear hA he S hs
    go_enter Tryz.func50, Tryz.ntmps50
    go_wp2_with fail
    refine HC.out.mono ?_
    rintro e w1 ⟨N, rfl, _, _, hb⟩
    have HB : Hid (Below w.heap.size w w1) := hb
    clear hb
    go_wp2
    go_ret2
    exact ⟨_, _, rfl, (fun h => by cases h), HB.out, fun _ m hm he => by have h1 := HAA.out; rw [he, atoi_itoa hm] at h1; cases h1⟩
set_option maxRecDepth 100000 in
theorem cutp_any (w : World) (s : ByteArray) (hs : s.size ≤ 10000) : Calls Tryz.prog 48 #[.string s, .string ⟨#[112, 32, 99, 110, 102, 32]⟩] w fun e w' => ∃ r b, e = .returned (.tuple #[.string r, .bool b]) ∧ r.size ≤ s.size ∧ (b = true → s.data.toList = headB ++ r.data.toList) ∧ w' = w ∧ (b = false → ∀ t, s.data.toList ≠ headB ++ t) := by
  by_cases h6 : 6 ≤ s.size
  · have d6 : ((6 : Int) ≤ (s.size : Int)) = True := eq_true (by omega)
    have hx : (s.extract 0 6).data.toList = s.data.toList.take 6 := by simp [ByteArray.data_extract]
    have hy := Lib.extract_to_end s 6
    have HEQ : Hid ((s.extract 0 6).toList = [112, 32, 99, 110, 102, 32] → s.data.toList = headB ++ (s.extract 6 s.size).data.toList) := fun h => by
      rw [ByteArray.toList_eq, hx] at h
      rw [hy]
      have := List.take_append_drop 6 s.data.toList
      rw [h] at this
      exact this.symm
    have HNE : Hid (∀ t, s.data.toList = headB ++ t → (s.extract 0 6).toList = [112, 32, 99, 110, 102, 32]) := fun t h => by
      rw [ByteArray.toList_eq, hx, h]; simp [headB]
    have HSZ : Hid ((s.extract 6 s.size).size ≤ s.size) := by
      unfold Hid
      rw [Lib.size_eq, hy, Lib.size_eq s, List.length_drop]; omega
    clear h6 hs hx hy
    go_enter Tryz.func48, Tryz.ntmps48
    go_wp2_with (go_in)
    · rename_i hh
      have h2 : ¬ (s.extract 0 6).toList = [112, 32, 99, 110, 102, 32] := by simpa using hh
      go_ret2
      exact ⟨_, _, rfl, Nat.le_refl _, (fun h => by cases h), rfl, fun _ t ht => h2 (HNE.out t ht)⟩
    · rename_i hh
      have h2 : (s.extract 0 6).toList = [112, 32, 99, 110, 102, 32] := by simpa using hh
      go_ret2
      exact ⟨_, _, rfl, HSZ.out, (fun _ => HEQ.out h2), rfl, fun h => by cases h⟩
  · have d6 : ((6 : Int) ≤ (s.size : Int)) = False := eq_false (by omega)
    have HNE : Hid (∀ t, s.data.toList ≠ headB ++ t) := fun t h => by
      have h1 := congrArg List.length h
      rw [← Lib.size_eq, List.length_append] at h1
      simp [headB] at h1
      omega
    clear h6 hs
    go_enter Tryz.func48, Tryz.ntmps48
    go_wp2_with (go_in)
    go_ret2
    exact ⟨_, _, rfl, Nat.le_refl _, (fun h => by cases h), rfl, fun _ => HNE.out⟩
set_option maxRecDepth 100000 in
set_option maxHeartbeats 2000000 in
theorem head_any (w : World) (S : RdEnv w) (s : ByteArray) (hs : s.size ≤ 10000) : Calls Tryz.prog 36 #[.string s] w fun e w' => ∃ n m b, e = .returned (.tuple #[.int .i64 n, .int .i64 m, .bool b]) ∧ (b = true → s.data.toList = headB ++ numB n 32 ++ Lib.itoa m ∧ I64 n ∧ I64 m ∧ 0 ≤ n ∧ 0 ≤ m) ∧ Below w.heap.size w w' ∧ (b = false → ∀ n m, I64 n → I64 m → 0 ≤ n → 0 ≤ m → s.data.toList ≠ lineH n m) := by
  have HS : Hid (RdEnv w) := S
  have HZ : Hid (s.size ≤ 10000) := hs
  clear S hs
  go_enter Tryz.func36, Tryz.ntmps36
  go_wp2_with fail
  refine (cutp_any w s HZ.out).mono ?_
  rintro e w' ⟨r, bp, rfl, hrs, hbp, hw, hbf⟩
  have hw2 := hw.symm
  subst hw2
  have HRS : Hid (r.size ≤ 10000) := Nat.le_trans hrs HZ.out
  have HBP : Hid (bp = true → s.data.toList = headB ++ r.data.toList) := hbp
  obtain ⟨mx, hmx⟩ := HS.out.max
  have HCT : Hid (Calls Tryz.prog 49 #[.string r, .string ⟨#[32]⟩] w fun e w' => e = .returned (.tuple #[.string ⟨(Lib.cut r.data.toList [32]).1.toArray⟩, .string ⟨(Lib.cut r.data.toList [32]).2.1.toArray⟩, .bool (Lib.cut r.data.toList [32]).2.2]) ∧ ∃ n, w' = w.drewN n) := Tryz.strings_Cut r ⟨#[32]⟩ mx w (by have := HRS.out; omega) hmx
  have HBF : Hid (bp = false → ∀ t, s.data.toList ≠ headB ++ t) := hbf
  clear hrs hbp hmx hbf
  go_wp2_with fail
  refine HCT.out.mono ?_
  clear HCT
  obtain ⟨ct, hct⟩ : ∃ ct, ct = Lib.cut r.data.toList [32] := ⟨_, rfl⟩
  rw [← hct]
  obtain ⟨x1, x2, bc⟩ := ct
  rintro e w1 ⟨rfl, n1, hw1⟩
  have hb1 : Below w.heap.size w w1 := by rw [hw1]; exact below_drewM (Below.refl _ _) n1
  have hlen : x1.length ≤ 10000 ∧ x2.length ≤ 10000 := by
    have hr := HRS.out
    rw [Lib.size_eq] at hr
    unfold Lib.cut at hct
    split at hct
    · have e1 := congrArg Prod.fst hct
      have e2 := congrArg (fun x => x.2.1) hct
      simp only at e1 e2
      rw [e1, e2]
      refine ⟨Nat.le_trans (List.length_take_le' _ _) hr, ?_⟩
      rw [List.length_drop]; omega
    · have e1 := congrArg Prod.fst hct
      have e2 := congrArg (fun x => x.2.1) hct
      simp only at e1 e2
      rw [e1, e2]
      simp
      exact hr
  have HCB : Hid (bc = true → r.data.toList = x1 ++ 32 :: x2) := fun h => cut_one (by rw [← hct, h])
  have HALL : Hid (∀ n m, s.data.toList = lineH n m → bp = true ∧ bc = true ∧ x1 = Lib.itoa n ∧ x2 = Lib.itoa m) := fun n m h => by
    have hbp : bp = true := by
      cases hb : bp
      · exact absurd (by rw [h]; unfold lineH; rw [List.append_assoc]) (HBF.out hb (numB n 32 ++ Lib.itoa m))
      · rfl
    have hr := HBP.out hbp
    rw [h] at hr
    unfold lineH numB at hr
    simp only [List.append_assoc, List.singleton_append] at hr
    have hr2 := List.append_cancel_left hr
    rw [← hr2, cut_eq (itoa_free n (by decide))] at hct
    simp only [Prod.mk.injEq] at hct
    exact ⟨hbp, hct.2.2, hct.1, hct.2.1⟩
  have HB1 : Hid (Below w.heap.size w w1) := hb1
  have HLN : Hid (x1.length ≤ 10000 ∧ x2.length ≤ 10000) := hlen
  clear hw1 hb1 hct hlen
  go_wp2_with fail
  refine (number_any w1 (HS.out.below HB1.out) ⟨x1.toArray⟩ (by rw [Lib.size_eq]; simpa using HLN.out.1)).mono ?_
  rintro e w2 ⟨n, bn, rfl, hn, hb2, hnf⟩
  have HNF : Hid (bn = false → ∀ m, I64 m → x1 ≠ Lib.itoa m) := fun h m hm => by have := hnf h m hm; simpa using this
  have HN : Hid (bn = true → x1 = Lib.itoa n ∧ I64 n) := fun h => by have := hn h; simpa using this
  have HB2 : Hid (Below w.heap.size w w2) := HB1.out.trans (hb2.mono HB1.out.size)
  clear hn hb2 hnf
  go_wp2_with fail
  refine (number_any w2 (HS.out.below HB2.out) ⟨x2.toArray⟩ (by rw [Lib.size_eq]; simpa using HLN.out.2)).mono ?_
  rintro e w3 ⟨m, bm, rfl, hm, hb3, hmf⟩
  have HMF : Hid (bm = false → ∀ n, I64 n → x2 ≠ Lib.itoa n) := fun h n hn => by have := hmf h n hn; simpa using this
  have HM : Hid (bm = true → x2 = Lib.itoa m ∧ I64 m) := fun h => by have := hm h; simpa using this
  have HB3 : Hid (Below w.heap.size w w3) := HB2.out.trans (hb3.mono HB2.out.size)
  clear hm hb3 hmf
  cases bp
  · go_wp2
    go_ret3
    exact ⟨_, _, _, rfl, (fun h => by cases h), HB3.out, fun _ n m _ _ _ _ h => by have := (HALL.out n m h).1; cases this⟩
  · cases bc
    · go_wp2
      go_ret3
      exact ⟨_, _, _, rfl, (fun h => by cases h), HB3.out, fun _ n m _ _ _ _ h => by have := (HALL.out n m h).2.1; cases this⟩
    · cases bn
      · go_wp2
        go_ret3
        exact ⟨_, _, _, rfl, (fun h => by cases h), HB3.out, fun _ n m hn _ _ _ h => HNF.out (by first | rfl | trivial) n hn (HALL.out n m h).2.2.1⟩
      · cases bm
        · go_wp2
          go_ret3
          exact ⟨_, _, _, rfl, (fun h => by cases h), HB3.out, fun _ n m _ hm _ _ h => HMF.out (by first | rfl | trivial) m hm (HALL.out n m h).2.2.2⟩
        · by_cases h0 : 0 ≤ n
          · have d0 : (0 ≤ n) = True := eq_true h0
            by_cases h1 : 0 ≤ m
            · have d1 : (0 ≤ m) = True := eq_true h1
              have HEQ : Hid (s.data.toList = headB ++ numB n 32 ++ Lib.itoa m ∧ I64 n ∧ I64 m ∧ 0 ≤ n ∧ 0 ≤ m) := by
                refine ⟨?_, (HN.out rfl).2, (HM.out rfl).2, h0, h1⟩
                rw [HBP.out rfl, HCB.out rfl, (HN.out rfl).1, (HM.out rfl).1]
                unfold numB
                simp
              clear h0 h1
              go_wp2
              go_ret3
              exact ⟨_, _, _, rfl, (fun _ => HEQ.out), HB3.out, fun h => by cases h⟩
            · have d1 : (0 ≤ m) = False := eq_false h1
              have H1 : Hid (¬ 0 ≤ m) := h1
              clear h0 h1
              go_wp2
              go_ret3
              exact ⟨_, _, _, rfl, (fun h => by cases h), HB3.out, fun _ n' m' _ hm _ h0 h => by have e := itoa_inj (HM.out (by first | rfl | trivial)).2 hm ((HM.out (by first | rfl | trivial)).1.symm.trans (HALL.out n' m' h).2.2.2); have h1 := H1.out; omega⟩
          · have d0 : (0 ≤ n) = False := eq_false h0
            have H0 : Hid (¬ 0 ≤ n) := h0
            clear h0
            go_wp2
            go_ret3
            exact ⟨_, _, _, rfl, (fun h => by cases h), HB3.out, fun _ n' m' hn _ h0 _ h => by have e := itoa_inj (HN.out (by first | rfl | trivial)).2 hn ((HN.out (by first | rfl | trivial)).1.symm.trans (HALL.out n' m' h).2.2.1); have h1 := H0.out; omega⟩
end Go.Proofs.YtlclbidjdhlklaaGreatDoor
