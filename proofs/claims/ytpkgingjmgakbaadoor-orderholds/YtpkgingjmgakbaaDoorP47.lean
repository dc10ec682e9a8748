/-
  lustrumlaw2.OrderHolds WALKED: whatever the list.
-/
import Derived.Test.YtpkgingjmgakbaaDoorP46
import Derived.Deep.DeepCutAuto
namespace Go.Proofs.YtpkgingjmgakbaaDoor
open Go.RowKit Go.Maps

/-- Which flow a flow needs. -/
def nxI (l : List Int) (i : Nat) : Nat := (l[i]?.getD 0 % (l.length : Int)).toNat
theorem nxI_lt (l : List Int) (i : Nat) (h : i < l.length) : nxI l i < l.length := by
  unfold nxI
  have h1 := Int.emod_lt_of_pos (l[i]?.getD 0) (show (0 : Int) < (l.length : Int) by omega)
  have h2 := Int.emod_nonneg (l[i]?.getD 0) (show (l.length : Int) ≠ 0 by omega)
  omega
theorem nxI_tmod {l : List Int} {i : Nat} {x : Int} (hx : l[i]? = some x) : (x.tmod (l.length : Int) < 0 ∧ x.tmod (l.length : Int) + (l.length : Int) = (nxI l i : Int)) ∨ (¬ x.tmod (l.length : Int) < 0 ∧ x.tmod (l.length : Int) = (nxI l i : Int)) := by
  have hi := (List.getElem?_eq_some_iff.1 hx).1
  have h2 := Int.emod_nonneg x (show (l.length : Int) ≠ 0 by omega)
  have e : ((nxI l i : Nat) : Int) = x % (l.length : Int) := by
    unfold nxI
    rw [hx]
    show (((x % (l.length : Int)).toNat : Nat) : Int) = _
    omega
  rw [e]
  by_cases h0 : 0 ≤ x
  · right
    rw [Int.tmod_eq_emod_of_nonneg h0]
    exact ⟨by omega, rfl⟩
  · have hx' : x = -((x.natAbs : Nat) : Int) := by omega
    have h3 : x.tmod (l.length : Int) = -(((x.natAbs : Nat) : Int) % (l.length : Int)) := by
      rw [hx', Int.neg_tmod, Int.tmod_eq_emod_of_nonneg (by omega)]
      simp
    have h4 := Int.emod_lt_of_pos ((x.natAbs : Nat) : Int) (show (0 : Int) < (l.length : Int) by omega)
    have h5 := Int.emod_nonneg ((x.natAbs : Nat) : Int) (show (l.length : Int) ≠ 0 by omega)
    by_cases h6 : ((x.natAbs : Nat) : Int) % (l.length : Int) = 0
    · right
      have h7 : x % (l.length : Int) = 0 := by
        rw [hx', Int.neg_emod, h6]
        simp
        exact fun hd => absurd (by simpa using Int.dvd_of_emod_eq_zero h6) hd
      rw [h3, h7, h6]
      exact ⟨by omega, rfl⟩
    · left
      have h7 : x % (l.length : Int) = (l.length : Int) - ((x.natAbs : Nat) : Int) % (l.length : Int) := by
        have h8 : ¬ (l.length : Int) ∣ ((x.natAbs : Nat) : Int) := fun hd => h6 (Int.emod_eq_zero_of_dvd hd)
        rw [hx', Int.neg_emod, if_neg (by simpa using h8)]
        simp
      rw [h3, h7]
      exact ⟨by omega, by omega⟩
theorem nmA_app (i : Nat) : (⟨#[102]⟩ : ByteArray) ++ (⟨(Lib.itoa (i : Int)).toArray⟩ : ByteArray) = nmA i := by
  apply ByteArray.ext
  rw [ByteArray.data_append, Lib.itoa_nonneg]
  simp [nmA, nmL]
/-- What Order answers, by its two values. -/
def OrdV (p : Pg) (E : ErV) (w' : World) (v7 v8 : Value) : Prop :=
  (∃ (d : List Nat) (o : Option Addr) (c : Nat), OOk p d ∧ v7 = .slice o d.length c ∧ v8 = .nilIface) ∨ ∃ t x, OErr p E w' t x ∧ v7 = .slice none 0 0 ∧ v8 = .iface t x
theorem OrdR.val {p : Pg} {E : ErV} {base : Nat} {e : Ending} {w' : World} (h : OrdR p E base e w') : ∃ v7 v8, e = .returned (.tuple #[v7, v8]) ∧ OrdV p E w' v7 v8 := by
  rcases h with ⟨d, o, c, h1, rfl, _⟩ | ⟨t, x, h1, rfl⟩
  · exact ⟨_, _, rfl, .inl ⟨d, o, c, h1, rfl, rfl⟩⟩
  · exact ⟨_, _, rfl, .inr ⟨t, x, h1, rfl, rfl⟩⟩
/-- What was found by going on from the first i. -/
def BkR (nx : Nat → Nat) (n i : Nat) (q : Int) : Prop := (q = -1 ∧ ∀ s, s < i → ¬ ohBack nx n s) ∨ ∃ m : Nat, q = (m : Int) ∧ m < n ∧ ohBack nx n m ∧ ∀ s, s < m → ¬ ohBack nx n s
theorem ord_none {nx : Nat → Nat} {n : Nat} (hn : n ≤ 40) (hx : ∀ i, i < n → nx i < n) (hb : ∀ s, s < n → ¬ ohBack nx n s) {E : ErV} {w : World} {v7 v8 : Value} (h : OrdV (ohP nx n) E w v7 v8) : ∃ o c, v7 = .slice o n c ∧ v8 = .nilIface := by
  rcases h with ⟨d, o, c, hd, rfl, rfl⟩ | ⟨t, x, he, _⟩
  · have : d.length = n := by have := hd.2.2; rw [this]; simp [ohP]
    exact ⟨o, c, by rw [this], rfl⟩
  · rcases he with ⟨h0, _⟩ | ⟨_, m, b, _, _, h1, h2, _⟩
    · exact absurd (oh_flat hn hx) h0
    · rw [oh_need hn hx] at h2
      obtain ⟨h3, h4⟩ := (oh_cycle hx).1 h2
      exact absurd h4 (hb m h3)
theorem ord_some {nx : Nat → Nat} {n m : Nat} (hn : n ≤ 40) (hx : ∀ i, i < n → nx i < n) (hm : m < n) (hb : ohBack nx n m) (hl : ∀ s, s < m → ¬ ohBack nx n s) {E : ErV} {w : World} {v7 v8 : Value} (h : OrdV (ohP nx n) E w v7 v8) : ∃ b, v7 = .slice none 0 0 ∧ v8 = .iface 48 (.pointer (some ⟨b, 0, none⟩)) ∧ w.cell? ⟨b, 0, none⟩ = some (.int .i64 (m : Int)) ∧ w.cell? ⟨b, 0 + 1, none⟩ = some (.iface E.ct E.cq) := by
  have hr : Rch (ndF (ohP nx n).fs) m m := by rw [oh_need hn hx]; exact (oh_cycle hx).2 ⟨hm, hb⟩
  rcases h with ⟨d, o, c, hd, _⟩ | ⟨t, x, he, rfl, rfl⟩
  · exact absurd hr (hd.2.1.acyclic (by rw [ndF_length]; exact hd.2.2) m)
  · rcases he with ⟨h0, _⟩ | ⟨_, k, b, rfl, rfl, _, h2, h3, h4, h5⟩
    · exact absurd (oh_flat hn hx) h0
    · have h6 := h2
      rw [oh_need hn hx] at h6
      obtain ⟨h7, h8⟩ := (oh_cycle hx).1 h6
      have e : k = m := by
        rcases Nat.lt_trichotomy k m with h | h | h
        · exact absurd h8 (hl k h)
        · exact h
        · exact absurd hr (h3 m h)
      subst e
      exact ⟨b, rfl, rfl, h4, h5⟩
set_option maxRecDepth 100000 in
set_option maxHeartbeats 8000000 in
theorem orderHolds_walk (a : Nat → Addr) (w : World) (S : Sents a w) (va : Value) (ask : List Int) (hva : IntsAt w va ask) (hI : ∀ x ∈ ask, I64 x) :
    Calls Tryd.prog 3 #[va] w fun e w' => e = .returned (.bool true) ∧ Below w.heap.size w w' := by
  obtain ⟨i0, hi0, hz0, hz1, hz2⟩ := info_parts Tryd.infoFlowH
  obtain ⟨k0, hk0, ky0, ky1, ky2⟩ := info_parts Tryd.infoStrH
  obtain ⟨hml, o, c, rfl, hcs⟩ := hva
  unfold maxLen at hml
  obtain ⟨E, hE⟩ : ∃ E : ErV, E = ⟨148, 148, 148, 148, 148, .pointer (some (a 2)), .pointer (some (a 1)), .pointer (some (a 4)), .pointer (some (a 5)), .pointer (some (a 6))⟩ := ⟨_, rfl⟩
  have HEE : Hid (ErrsAt w E) := by rw [hE]; exact ⟨⟨S.g2, S.g1, S.g4⟩, S.g5, S.g6⟩
  have HEC : Hid (Value.iface E.ct E.cq = .iface 148 (.pointer (some (a 5)))) := by unfold Hid; rw [hE]
  have HSE : Hid (Sents a w) := S
  have HFI : Hid (Calls Tryd.prog 4 #[] w fun e w' => e = .returned (.bool true) ∧ Below w.heap.size w w') := first_any w E HEE.out
  have HCS : Hid (∀ (k : Nat) (x : Int), ask[k]? = some x → ∃ b off, o = some ⟨b, off, none⟩ ∧ w.cell? ⟨b, off + k, none⟩ = some (.int .i64 x)) := hcs
  obtain ⟨n, hn⟩ : ∃ n, n = ask.length := ⟨_, rfl⟩
  have HNE : Hid (n = ask.length) := hn
  have HNM : Hid (n ≤ 9223372036854775807) := by unfold Hid; omega
  have HI64 : Hid (∀ x ∈ ask, I64 x) := hI
  rw [← hn]
  clear hml hcs hn S hE hI
  go_enter Tryd.func3, Tryd.ntmps3
  go_wp2_with fail
  refine HFI.out.mono ?_
  rintro e w1 ⟨rfl, hb1⟩
  have HB1 : Hid (Below w.heap.size w w1) := hb1
  clear hb1 HFI
  by_cases hn40 : 40 < n
  · have d1 : (40 < n) = True := eq_true hn40
    have d2 : ((40 : Int) < (n : Int)) = True := eq_true (by omega)
    clear hn40
    go_wp2
    go_ret
    exact ⟨rfl, HB1.out⟩
  have d1 : (40 < n) = False := eq_false hn40
  have d2 : ((40 : Int) < (n : Int)) = False := eq_false (by omega)
  have HN40 : Hid (n ≤ 40) := by unfold Hid; omega
  clear hn40
  obtain ⟨nx, hnx⟩ : ∃ nx, nx = nxI ask := ⟨_, rfl⟩
  have HNX : Hid (∀ i, i < n → nx i < n) := by intro i hi; rw [hnx, HNE.out]; exact nxI_lt ask i (by rw [← HNE.out]; exact hi)
  have HTM : Hid (∀ (i : Nat) (x : Int), ask[i]? = some x → (x.tmod (n : Int) < 0 ∧ x.tmod (n : Int) + (n : Int) = (nx i : Int)) ∨ (¬ x.tmod (n : Int) < 0 ∧ x.tmod (n : Int) = (nx i : Int))) := fun i x hx => by rw [HNE.out, hnx]; exact nxI_tmod hx
  clear hnx
  obtain ⟨P, hP⟩ : ∃ P, P = w1.heap.size := ⟨_, rfl⟩
  obtain ⟨w2, hw2⟩ : ∃ w2, w2 = w1.alloc (.cells #[.slice none 0 0, .slice none 0 0, .slice none 0 0, .slice none 0 0, .slice none 0 0] 29) := ⟨_, rfl⟩
  have HS2 : Hid (OhS w P nx 0 0 (.slice none 0 0) (.slice none 0 0) w2) := by
    have hb2 : Below w1.heap.size w1 w2 := by rw [hw2]; exact (Below.refl _ _).alloc (Nat.le_refl _) _
    exact ⟨by rw [hw2, hP]; exact heap_alloc_new _ _, World.ownsRow_nil _ _ _ _, World.ownsRow_nil _ _ _ _, fun q hq => by simp [Value.ownBlock] at hq, by rw [hP]; exact HB1.out.size, HB1.out.trans (hb2.mono HB1.out.size)⟩
  have HW2 : Hid (w1.alloc (.cells #[.slice none 0 0, .slice none 0 0, .slice none 0 0, .slice none 0 0, .slice none 0 0] 29) = w2 ∧ w1.heap.size = P) := ⟨hw2.symm, hP.symm⟩
  clear hw2 hP
  go_upto_region 5 with fail
  rw [HW2.out.1, HW2.out.2]
  clear d1 d2
  go_wp2
  go_loopw [5] (fun t wr => ∃ (j : Nat) (o3 : Option Addr) (c3 : Nat) (o2 : Option Addr) (c2 : Nat), j ≤ n ∧ t = .int .i64 j ∧ Hid (OhS w P nx j j (.slice o3 j c3) (.slice o2 j c2) wr)) (fun t _ => n - (intOf t).toNat)
  case atStart => exact ⟨0, none, 0, none, 0, Nat.zero_le _, rfl, HS2.out⟩
  case round =>
    obtain ⟨j, o3, c3, o2, c2, hj, rfl, HR⟩ := hrel
    by_cases hjl : j < n
    · obtain ⟨x, hx⟩ : ∃ x, ask[j]? = some x := ⟨_, List.getElem?_eq_getElem (by rw [← HNE.out]; exact hjl)⟩
      obtain ⟨b, off, rfl, hcx⟩ := HCS.out j x hx
      have y0 := cell_keep HR.out.below hcx
      have hkj := HTM.out j x hx
      have i0' : (0 : Int) ≤ (j : Int) := by omega
      have i1' : (j : Int) < (n : Int) := by omega
      have nz : ((n : Int) == 0) = false := beq_eq_false_iff_ne.2 (by omega)
      have nz2 : ¬ ((n : Int) = 0) := by omega
      have HJ : Hid (j < n) := hjl
      have HNJ : Hid (nx j < n) := HNX.out j hjl
      have N4 : Hid (wrap64 ((j : Int) + 1) = (j : Int) + 1) := by have := HN40.out; have := HJ.out; unfold Hid wrap64; omega
      have HXI : Hid (I64 x) := HI64.out x (List.mem_of_getElem? hx)
      clear hx hcx hj hjl
      obtain ⟨y, hy⟩ : ∃ y, x.tmod (n : Int) = y := ⟨_, rfl⟩
      rw [hy] at hkj
      obtain ⟨tj, htj⟩ : ∃ tj : ByteArray, tj = ⟨(Lib.itoa (j : Int)).toArray⟩ := ⟨_, rfl⟩
      obtain ⟨tk, htk⟩ : ∃ tk : ByteArray, tk = ⟨(Lib.itoa (nx j : Int)).toArray⟩ := ⟨_, rfl⟩
      have HDJ : Hid (∀ W, Calls Tryd.prog 5 #[.int .i64 (j : Int)] W fun e w' => e = .returned (.string tj) ∧ Below W.heap.size W w') := fun W => by
        rw [htj]
        exact decimal_any (j : Int) (by omega) (by have := HN40.out; omega) W
      have HDK : Hid (∀ W, Calls Tryd.prog 5 #[.int .i64 (nx j : Int)] W fun e w' => e = .returned (.string tk) ∧ Below W.heap.size W w') := fun W => by
        rw [htk]
        exact decimal_any (nx j : Int) (by omega) (by have := HN40.out; have := HNJ.out; omega) W
      have HTJ : Hid ((⟨#[102]⟩ : ByteArray) ++ tj = nmA j) := by unfold Hid; rw [htj]; exact nmA_app j
      have HTK : Hid ((⟨#[102]⟩ : ByteArray) ++ tk = nmA (nx j)) := by unfold Hid; rw [htk]; exact nmA_app (nx j)
      have hsj : tj.size ≤ 21 := by rw [htj]; have := Lib.itoa_length_le (j : Int) (by omega) (by have := HN40.out; omega); simpa [ByteArray.size] using this
      have hsk : tk.size ≤ 21 := by rw [htk]; have := Lib.itoa_length_le (nx j : Int) (by omega) (by have := HN40.out; have := HNJ.out; omega); simpa [ByteArray.size] using this
      have ezj : ¬ 9223372036854775807 < 1 + tj.size := by omega
      have ezk : ¬ 9223372036854775807 < 1 + tk.size := by omega
      have HMX : Hid (j + 1 ≤ maxLen ∧ (j + 1) * 88 ≤ 140737488355328 ∧ (j + 1) * 16 ≤ 140737488355328) := by have := HN40.out; have := HJ.out; unfold Hid maxLen; omega
      clear htj htk hsj hsk
      go_upto_if 37 with fail
      rename World => wq
      go_cut [6] (fun s wc => s = .int .i64 (nx j : Nat) ∧ wc = wq)
      case first =>
        rcases hkj with ⟨h1, h2⟩ | ⟨h1, h2⟩
        · have d1 : (y < 0) = True := eq_true h1
          have H2 : Hid (wrap64 (y + (n : Int)) = (nx j : Int)) := by have := HN40.out; have := HNJ.out; unfold Hid; rw [h2]; unfold wrap64; omega
          clear h1 h2
          simp only [d1, decide_true]
          go_wp2
          go_meet
          case rel => exact ⟨by rw [H2.out], rfl⟩
        · have d1 : (y < 0) = False := eq_false (by omega)
          have H2 : Hid (y = (nx j : Int)) := h2
          clear h1 h2
          simp only [d1, decide_false]
          go_wp2
          go_meet
          case rel => exact ⟨by rw [H2.out], rfl⟩
      case rest =>
        obtain ⟨rfl, hwc⟩ := hcut
        have hwc2 := hwc.symm
        subst hwc2
        have hq0 : wq.drew.cell? ⟨P, 0 + 2, none⟩ = some (.slice o3 j c3) := by rw [cell_of_row wq.drew _ _ _ _ (0, 0) (show wq.drew.heap[P]? = _ from HR.out.box)]; rfl
        have HSwd : Hid (OhS w P nx j j (.slice o3 j c3) (.slice o2 j c2) wq.drew) := HR.out.keep (Below.refl _ _).drew
        clear hkj hy y0
        go_upto_region 11 with fail
        go_cut [] (fun wc => ∃ (o4 : Option Addr) (c4 : Nat), Hid (OhS w P nx (j + 1) j (.slice o4 (j + 1) c4) (.slice o2 j c2) wc))
        case first =>
          refine wp_region_till 13 (fun _ => True) (fun w' => w'.cell? ⟨P, 0 + 2, none⟩ = some (.slice o3 j c3)) (by kernel_rfl) trivial hq0 (fun hHeld => ?_)
          refine wpTill_take (i := 0) (oi := ⟨some 42, _, _, _, _, _⟩) (v := .pointer (some ⟨P, 2, none⟩)) rfl rfl (by kernel_rfl) (by kernel_rfl) (by kernel_rfl) (fun _ _ _ h => h) (Or.inl ⟨by rfl, ?_⟩) hHeld ?_
          · intro w hSw; (try dsimp only at hSw); go_simp
          try simp only [Act.put, List.setIfInBounds_toArray, List.set_cons_zero, List.set_cons_succ]
          refine wpTill_load 11 (i := 1) (oi := ⟨some 43, _, _, _, _, _⟩) (v := .slice o3 j c3) rfl rfl (by kernel_rfl) (by kernel_rfl) (by kernel_rfl) (by kernel_rfl) (by kernel_rfl) (by kernel_rfl) (by kernel_rfl) (fun _ _ _ h => h) (Or.inl ⟨by rfl, ?_⟩) hHeld ?_
          · intro w hSw; (try dsimp only at hSw); go_simp
          try simp only [Act.put, List.setIfInBounds_toArray, List.set_cons_zero, List.set_cons_succ]
          refine wpTill_take (i := 2) (oi := ⟨some 44, _, _, _, _, _⟩) (v := .int .i64 (j : Nat)) rfl rfl (by kernel_rfl) (by kernel_rfl) (by kernel_rfl) (fun _ _ _ h => h) (Or.inl ⟨by rfl, ?_⟩) hHeld ?_
          · intro w hSw; (try dsimp only at hSw); go_simp
          try simp only [Act.put, List.setIfInBounds_toArray, List.set_cons_zero, List.set_cons_succ]
          refine wpTill_take (i := 5) (oi := ⟨some 47, _, _, _, _, _⟩) (v := .int .i64 (nx j : Nat)) rfl rfl (by kernel_rfl) (by kernel_rfl) (by kernel_rfl) (fun _ _ _ h => h) (Or.inl ⟨by rfl, ?_⟩) hHeld ?_
          · intro w hSw; (try dsimp only at hSw); go_simp
          try simp only [Act.put, List.setIfInBounds_toArray, List.set_cons_zero, List.set_cons_succ]
          refine wpTill_ready (rs := [3]) (by kernel_rfl) (by simp) ?_
          refine AllTill.cons (o := ⟨some 45, _, _, _, _, _⟩) rfl (fun K hK => ?_) AllTill.nil
          go_simp
          refine (HDJ.out wq.drew).mono ?_
          rintro e w5 ⟨rfl, hb⟩
          have HSw5 : Hid (OhS w P nx j j (.slice o3 j c3) (.slice o2 j c2) w5) := HSwd.out.keep hb
          have hqw5 : w5.cell? ⟨P, 0 + 2, none⟩ = some (.slice o3 j c3) := by rw [cell_of_row w5 _ _ _ _ (0, 0) HSw5.out.box]; rfl
          clear hb
          go_wp2_with fail
          refine hK.out _ _ ⟨trivial, fun _ => hqw5⟩ (fun hHeld => ?_)
          clear hK K
          try simp only [Act.put, List.setIfInBounds_toArray, List.set_cons_zero, List.set_cons_succ]
          refine wpTill_take (i := 4) (oi := ⟨some 46, _, _, _, _, _⟩) (v := .string (⟨#[102]⟩ ++ tj)) rfl rfl (by kernel_rfl) (by kernel_rfl) (by kernel_rfl) (fun _ _ _ h => h) (Or.inl ⟨by rfl, ?_⟩) hHeld ?_
          · intro w hSw; (try dsimp only at hSw); go_simp
          try simp only [Act.put, List.setIfInBounds_toArray, List.set_cons_zero, List.set_cons_succ]
          refine wpTill_ready (rs := [6]) (by kernel_rfl) (by simp) ?_
          refine AllTill.cons (o := ⟨some 48, _, _, _, _, _⟩) rfl (fun K hK => ?_) AllTill.nil
          go_simp
          refine (HDK.out w5).mono ?_
          rintro e w6 ⟨rfl, hb⟩
          have HSw6 : Hid (OhS w P nx j j (.slice o3 j c3) (.slice o2 j c2) w6) := HSw5.out.keep hb
          have hqw6 : w6.cell? ⟨P, 0 + 2, none⟩ = some (.slice o3 j c3) := by rw [cell_of_row w6 _ _ _ _ (0, 0) HSw6.out.box]; rfl
          clear hb
          go_wp2_with fail
          refine hK.out _ _ ⟨trivial, fun _ => hqw6⟩ (fun hHeld => ?_)
          clear hK K
          try simp only [Act.put, List.setIfInBounds_toArray, List.set_cons_zero, List.set_cons_succ]
          refine wpTill_take (i := 7) (oi := ⟨some 49, _, _, _, _, _⟩) (v := .string (⟨#[102]⟩ ++ tk)) rfl rfl (by kernel_rfl) (by kernel_rfl) (by kernel_rfl) (fun _ _ _ h => h) (Or.inl ⟨by rfl, ?_⟩) hHeld ?_
          · intro w hSw; (try dsimp only at hSw); go_simp
          try simp only [Act.put, List.setIfInBounds_toArray, List.set_cons_zero, List.set_cons_succ]
          refine wpTill_take (i := 8) (oi := ⟨some 50, _, _, _, _, _⟩) (v := .agg #[.string ⟨#[110, 97, 109, 101]⟩, .int .i64 0, .string (⟨#[102]⟩ ++ tk), .slice none 0 0]) rfl rfl (by kernel_rfl) (by kernel_rfl) (by kernel_rfl) (fun _ _ _ h => h) (Or.inl ⟨by rfl, ?_⟩) hHeld ?_
          · intro w hSw; (try dsimp only at hSw); go_simp
          try simp only [Act.put, List.setIfInBounds_toArray, List.set_cons_zero, List.set_cons_succ]
          refine wpTill_take (i := 9) (oi := ⟨some 51, _, _, _, _, _⟩) (v := .agg #[.string (⟨#[102]⟩ ++ tj), .int .i64 1, .string ⟨#[110, 97, 109, 101]⟩, .int .i64 0, .string (⟨#[102]⟩ ++ tk), .slice none 0 0]) rfl rfl (by kernel_rfl) (by kernel_rfl) (by kernel_rfl) (fun _ _ _ h => h) (Or.inl ⟨by rfl, ?_⟩) hHeld ?_
          · intro w hSw; (try dsimp only at hSw); go_simp
          try simp only [Act.put, List.setIfInBounds_toArray, List.set_cons_zero, List.set_cons_succ]
          refine wpTill_ready (rs := [10]) (by kernel_rfl) (by simp) ?_
          refine AllTill.cons (o := ⟨some 52, _, _, _, _, _⟩) rfl (fun K hK => ?_) AllTill.nil
          go_simp
          have HSA : Hid (OhS w P nx j j (.slice o3 j c3) (.slice o2 j c2) (w6.alloc (.cells #[.string (⟨#[102]⟩ ++ tj), .int .i64 1, .string ⟨#[110, 97, 109, 101]⟩, .int .i64 0, .string (⟨#[102]⟩ ++ tk), .slice none 0 0] 34))) := HSw6.out.keep ((Below.refl _ _).alloc (Nat.le_refl _) _)
          have hqA : (w6.alloc (.cells #[.string (⟨#[102]⟩ ++ tj), .int .i64 1, .string ⟨#[110, 97, 109, 101]⟩, .int .i64 0, .string (⟨#[102]⟩ ++ tk), .slice none 0 0] 34)).cell? ⟨P, 0 + 2, none⟩ = some (.slice o3 j c3) := by rw [cell_of_row _ _ _ _ _ (0, 0) HSA.out.box]; rfl
          refine hK.out _ _ ⟨trivial, fun _ => hqA⟩ (fun hHeld => ?_)
          clear hK K
          try simp only [Act.put, List.setIfInBounds_toArray, List.set_cons_zero, List.set_cons_succ]
          refine wpTill_ready (rs := [11]) (by kernel_rfl) (by simp) ?_
          refine AllTill.cons (o := ⟨some 53, _, _, _, _, _⟩) rfl (fun K hK => ?_) AllTill.nil
          refine step_append_lies _ rfl (.tmp 43) (.tmp 52) 26 rfl (P + 1) 34 i0 _ 6 88 Tryd.underlying26 hi0 hz0 hz1 hz2 rfl (by omega) (.slice o3 j c3) j _ (by simp [Act.eval]) HSA.out.fl ⟨w6.heap.size, 0, none⟩ 1 1 [.string (⟨#[102]⟩ ++ tj), .int .i64 1, .string ⟨#[110, 97, 109, 101]⟩, .int .i64 0, .string (⟨#[102]⟩ ++ tk), .slice none 0 0] (by simp [Act.eval]) rfl (World.news_of_block (heap_alloc_new w6 (.cells #[.string (⟨#[102]⟩ ++ tj), .int .i64 1, .string ⟨#[110, 97, 109, 101]⟩, .int .i64 0, .string (⟨#[102]⟩ ++ tk), .slice none 0 0] 34))) (by simp [Value.oneCell']) (by omega) HMX.out.1 HMX.out.2.1 HSA.out.lt _ rfl ?_
          intro g cap w7 hown7 hgrow hat hlt7
          have hvP : (Value.slice o3 j c3).ownBlock ≠ some P := fun e => by have := (HSA.out.fl.lt P e).1; omega
          have hbx := heap_grown' hgrow hvP HSA.out.box
          have hq7 : w7.cell? ⟨P, 0 + 2, none⟩ = some (.slice o3 j c3) := by rw [cell_of_row w7 _ _ _ _ (0, 0) hbx]; rfl
          have hf7 : w7.frozen? ⟨P, 0 + 2, none⟩ = false := frozen_row hbx
          rw [HTJ.out, HTK.out] at hown7
          have HFIN : Hid (OhS w P nx (j + 1) j (.slice (some ⟨g, 0, none⟩) (j + 1) cap) (.slice o2 j c2) (w7.setCell ⟨P, 2, none⟩ (.slice (some ⟨g, 0, none⟩) (j + 1) cap))) := HSA.out.flow hown7 hgrow hat
          refine hK.out _ _ ⟨trivial, fun _ => hq7⟩ (fun hHeld => ?_)
          clear hK K
          try simp only [Act.put, List.setIfInBounds_toArray, List.set_cons_zero, List.set_cons_succ]
          refine wpTill_take (i := 12) (oi := ⟨some 54, _, _, _, _, _⟩) (v := .pointer (some ⟨P, 2, none⟩)) rfl rfl (by kernel_rfl) (by kernel_rfl) (by kernel_rfl) (fun _ _ _ h => h) (Or.inl ⟨by rfl, ?_⟩) hHeld ?_
          · intro w hSw; (try dsimp only at hSw); go_simp
          try simp only [Act.put, List.setIfInBounds_toArray, List.set_cons_zero, List.set_cons_succ]
          refine wpTill_ready (rs := [13]) (by kernel_rfl) (by simp) ?_
          refine AllTill.cons (o := ⟨none, _, _, _, _, _⟩) rfl (fun K hK => ?_) AllTill.nil
          go_simp
          refine hK.out _ _ (Till.last trivial) (fun hHeld => ?_)
          clear hK K
          try simp only [Act.put, List.setIfInBounds_toArray, List.set_cons_zero, List.set_cons_succ]
          refine wpTill_done (by kernel_rfl) ?_ _
          clear hown7 hgrow hat hlt7 hvP hbx hq7 hf7 hqA hHeld
          go_wp2_with fail
          go_meet
          case rel => exact ⟨some ⟨g, 0, none⟩, cap, HFIN.out⟩
        case rest =>
          obtain ⟨o4, c4, HS4⟩ := hcut
          rename World => wz
          have hq1 : wz.drew.cell? ⟨P, 0 + 1, none⟩ = some (.slice o2 j c2) := by rw [cell_of_row wz.drew _ _ _ _ (0, 0) (show wz.drew.heap[P]? = _ from HS4.out.box)]; rfl
          have HSwe : Hid (OhS w P nx (j + 1) j (.slice o4 (j + 1) c4) (.slice o2 j c2) wz.drew) := HS4.out.keep (Below.refl _ _).drew
          clear hq0 HSwd
          go_upto_region 12 with fail
          refine wp_region_till 8 (fun _ => True) (fun w' => w'.cell? ⟨P, 0 + 1, none⟩ = some (.slice o2 j c2)) (by kernel_rfl) trivial hq1 (fun hHeld => ?_)
          refine wpTill_take (i := 0) (oi := ⟨some 55, _, _, _, _, _⟩) (v := .pointer (some ⟨P, 1, none⟩)) rfl rfl (by kernel_rfl) (by kernel_rfl) (by kernel_rfl) (fun _ _ _ h => h) (Or.inl ⟨by rfl, ?_⟩) hHeld ?_
          · intro w hSw; (try dsimp only at hSw); go_simp
          try simp only [Act.put, List.setIfInBounds_toArray, List.set_cons_zero, List.set_cons_succ]
          refine wpTill_load 6 (i := 1) (oi := ⟨some 56, _, _, _, _, _⟩) (v := .slice o2 j c2) rfl rfl (by kernel_rfl) (by kernel_rfl) (by kernel_rfl) (by kernel_rfl) (by kernel_rfl) (by kernel_rfl) (by kernel_rfl) (fun _ _ _ h => h) (Or.inl ⟨by rfl, ?_⟩) hHeld ?_
          · intro w hSw; (try dsimp only at hSw); go_simp
          try simp only [Act.put, List.setIfInBounds_toArray, List.set_cons_zero, List.set_cons_succ]
          refine wpTill_take (i := 2) (oi := ⟨some 57, _, _, _, _, _⟩) (v := .int .i64 (j : Nat)) rfl rfl (by kernel_rfl) (by kernel_rfl) (by kernel_rfl) (fun _ _ _ h => h) (Or.inl ⟨by rfl, ?_⟩) hHeld ?_
          · intro w hSw; (try dsimp only at hSw); go_simp
          try simp only [Act.put, List.setIfInBounds_toArray, List.set_cons_zero, List.set_cons_succ]
          refine wpTill_ready (rs := [3]) (by kernel_rfl) (by simp) ?_
          refine AllTill.cons (o := ⟨some 58, _, _, _, _, _⟩) rfl (fun K hK => ?_) AllTill.nil
          go_simp
          refine (HDJ.out wz.drew).mono ?_
          rintro e w5 ⟨rfl, hb⟩
          have HSw5 : Hid (OhS w P nx (j + 1) j (.slice o4 (j + 1) c4) (.slice o2 j c2) w5) := HSwe.out.keep hb
          have hqw5 : w5.cell? ⟨P, 0 + 1, none⟩ = some (.slice o2 j c2) := by rw [cell_of_row w5 _ _ _ _ (0, 0) HSw5.out.box]; rfl
          clear hb
          go_wp2_with fail
          refine hK.out _ _ ⟨trivial, fun _ => hqw5⟩ (fun hHeld => ?_)
          clear hK K
          try simp only [Act.put, List.setIfInBounds_toArray, List.set_cons_zero, List.set_cons_succ]
          refine wpTill_take (i := 4) (oi := ⟨some 59, _, _, _, _, _⟩) (v := .string (⟨#[102]⟩ ++ tj)) rfl rfl (by kernel_rfl) (by kernel_rfl) (by kernel_rfl) (fun _ _ _ h => h) (Or.inl ⟨by rfl, ?_⟩) hHeld ?_
          · intro w hSw; (try dsimp only at hSw); go_simp
          try simp only [Act.put, List.setIfInBounds_toArray, List.set_cons_zero, List.set_cons_succ]
          refine wpTill_ready (rs := [5]) (by kernel_rfl) (by simp) ?_
          refine AllTill.cons (o := ⟨some 60, _, _, _, _, _⟩) rfl (fun K hK => ?_) AllTill.nil
          go_simp
          have HSA : Hid (OhS w P nx (j + 1) j (.slice o4 (j + 1) c4) (.slice o2 j c2) (w5.alloc (.cells #[.string (⟨#[102]⟩ ++ tj)] 9))) := HSw5.out.keep ((Below.refl _ _).alloc (Nat.le_refl _) _)
          have hqA : (w5.alloc (.cells #[.string (⟨#[102]⟩ ++ tj)] 9)).cell? ⟨P, 0 + 1, none⟩ = some (.slice o2 j c2) := by rw [cell_of_row _ _ _ _ _ (0, 0) HSA.out.box]; rfl
          refine hK.out _ _ ⟨trivial, fun _ => hqA⟩ (fun hHeld => ?_)
          clear hK K
          try simp only [Act.put, List.setIfInBounds_toArray, List.set_cons_zero, List.set_cons_succ]
          refine wpTill_ready (rs := [6]) (by kernel_rfl) (by simp) ?_
          refine AllTill.cons (o := ⟨some 61, _, _, _, _, _⟩) rfl (fun K hK => ?_) AllTill.nil
          refine step_append_lies _ rfl (.tmp 56) (.tmp 60) 25 rfl (P + 1) 9 k0 _ 1 16 Tryd.underlying25 hk0 ky0 ky1 ky2 rfl (by omega) (.slice o2 j c2) j _ (by simp [Act.eval]) HSA.out.ou ⟨w5.heap.size, 0, none⟩ 1 1 [.string (⟨#[102]⟩ ++ tj)] (by simp [Act.eval]) rfl (World.news_of_block (heap_alloc_new w5 (.cells #[.string (⟨#[102]⟩ ++ tj)] 9))) (by simp [Value.oneCell']) (by omega) HMX.out.1 HMX.out.2.2 HSA.out.lt _ rfl ?_
          intro g cap w7 hown7 hgrow hat hlt7
          have hvP : (Value.slice o2 j c2).ownBlock ≠ some P := fun e => by have := (HSA.out.ou.lt P e).1; omega
          have hbx := heap_grown' hgrow hvP HSA.out.box
          have hq7 : w7.cell? ⟨P, 0 + 1, none⟩ = some (.slice o2 j c2) := by rw [cell_of_row w7 _ _ _ _ (0, 0) hbx]; rfl
          have hf7 : w7.frozen? ⟨P, 0 + 1, none⟩ = false := frozen_row hbx
          rw [HTJ.out] at hown7
          have HFIN : Hid (OhS w P nx (j + 1) (j + 1) (.slice o4 (j + 1) c4) (.slice (some ⟨g, 0, none⟩) (j + 1) cap) (w7.setCell ⟨P, 1, none⟩ (.slice (some ⟨g, 0, none⟩) (j + 1) cap))) := HSA.out.out hown7 hgrow hat
          refine hK.out _ _ ⟨trivial, fun _ => hq7⟩ (fun hHeld => ?_)
          clear hK K
          try simp only [Act.put, List.setIfInBounds_toArray, List.set_cons_zero, List.set_cons_succ]
          refine wpTill_take (i := 7) (oi := ⟨some 62, _, _, _, _, _⟩) (v := .pointer (some ⟨P, 1, none⟩)) rfl rfl (by kernel_rfl) (by kernel_rfl) (by kernel_rfl) (fun _ _ _ h => h) (Or.inl ⟨by rfl, ?_⟩) hHeld ?_
          · intro w hSw; (try dsimp only at hSw); go_simp
          try simp only [Act.put, List.setIfInBounds_toArray, List.set_cons_zero, List.set_cons_succ]
          refine wpTill_ready (rs := [8]) (by kernel_rfl) (by simp) ?_
          refine AllTill.cons (o := ⟨none, _, _, _, _, _⟩) rfl (fun K hK => ?_) AllTill.nil
          go_simp
          refine hK.out _ _ (Till.last trivial) (fun hHeld => ?_)
          clear hK K
          try simp only [Act.put, List.setIfInBounds_toArray, List.set_cons_zero, List.set_cons_succ]
          refine wpTill_done (by kernel_rfl) ?_ _
          clear hown7 hgrow hat hlt7 hvP hbx hq7 hf7 hqA hHeld hqw5
          go_wp2
          exact ⟨⟨j + 1, o4, c4, some ⟨g, 0, none⟩, cap, HJ.out, by rw [N4.out]; rfl, HFIN.out⟩, by rw [N4.out]; have := HJ.out; simp [intOf]; omega⟩
    · obtain rfl : n = j := by omega
      have hpg := HR.out.pg (HEE.out.keep HR.out.below) HN40.out HNX.out
      have hor := order_all wr _ (ohP nx n) none o2 o3 none none 0 c2 c3 0 0 E hpg
      rw [show (ohP nx n).outs.length = n from by simp [ohP], show (ohP nx n).fs.length = n from by simp [ohP]] at hor
      have HO : Hid (Calls Tryd.prog 6 #[.agg #[.slice none 0 0, .slice o2 n c2, .slice o3 n c3, .slice none 0 0, .slice none 0 0]] wr fun e w' => Below wr.heap.size wr w' ∧ OrdR (ohP nx n) E wr.heap.size e w') := hor
      have a1 : wr.cell? ⟨P, 0, none⟩ = some (.slice none 0 0) := by rw [cell_of_row wr _ _ _ _ (0, 0) HR.out.box]; rfl
      have a2 : wr.cell? ⟨P, 0 + 1, none⟩ = some (.slice o2 n c2) := by rw [cell_of_row wr _ _ _ _ (0, 0) HR.out.box]; rfl
      have a3 : wr.cell? ⟨P, 0 + 2, none⟩ = some (.slice o3 n c3) := by rw [cell_of_row wr _ _ _ _ (0, 0) HR.out.box]; rfl
      have a4 : wr.cell? ⟨P, 0 + 3, none⟩ = some (.slice none 0 0) := by rw [cell_of_row wr _ _ _ _ (0, 0) HR.out.box]; rfl
      have a5 : wr.cell? ⟨P, 0 + 4, none⟩ = some (.slice none 0 0) := by rw [cell_of_row wr _ _ _ _ (0, 0) HR.out.box]; rfl
      have HBR : Hid (Below w.heap.size w wr) := HR.out.below
      clear hj hjl HR hpg hor
      go_wp2_with fail
      refine HO.out.mono ?_
      rintro e w6 ⟨hb6, hor⟩
      obtain ⟨v7, v8, rfl, hv⟩ := hor.val
      have HV : Hid (OrdV (ohP nx n) E w6 v7 v8) := hv
      have HB6 : Hid (Below w.heap.size w w6) := HBR.out.trans (hb6.mono HBR.out.size)
      clear hb6 hor hv a1 a2 a3 a4 a5 HO
      go_wp2
      go_loopw [9, 10] (fun b t wr => ∃ (i : Nat) (q : Int), i ≤ n ∧ t = .int .i64 i ∧ b = .int .i64 q ∧ Hid (Below w6.heap.size w6 wr ∧ BkR nx n i q)) (fun _ t _ => n - (intOf t).toNat)
      case atStart => exact ⟨0, -1, Nat.zero_le _, rfl, rfl, Below.refl _ _, .inl ⟨rfl, fun s hs => by omega⟩⟩
      case round =>
        obtain ⟨i, q, hi, rfl, rfl, HQ⟩ := hrel
        have HW6 : Hid (Below w6.heap.size w6 wr) := HQ.out.1
        rcases HQ.out.2 with ⟨rfl, hno⟩ | ⟨m, rfl, hm, hbk, hls⟩
        · by_cases hil : i < n
          · have i1' : (i : Int) < (n : Int) := by omega
            have d0 : (i < n) = True := eq_true hil
            have HNO : Hid (∀ s, s < i → ¬ ohBack nx n s) := hno
            have HIL : Hid (i < n) := hil
            have N4 : Hid (wrap64 ((i : Int) + 1) = (i : Int) + 1) := by have := HN40.out; have := HIL.out; unfold Hid wrap64; omega
            clear hi hil hno HQ
            go_wp2
            go_loopw [9, 11, 12] (fun b at' t wr => ∃ (s : Nat) (q : Int), s ≤ n ∧ t = .int .i64 s ∧ at' = .int .i64 (iter nx s i : Nat) ∧ b = .int .i64 q ∧ Hid (Below w6.heap.size w6 wr ∧ ((q = -1 ∧ ∀ r, r < s → iter nx (r + 1) i ≠ i) ∨ (q = (i : Int) ∧ ohBack nx n i)))) (fun _ _ t _ => n - (intOf t).toNat)
            case atStart => exact ⟨0, -1, Nat.zero_le _, rfl, rfl, rfl, HW6.out, .inl ⟨rfl, fun r hr => by omega⟩⟩
            case round =>
              obtain ⟨s, q, hs, rfl, rfl, rfl, HQ⟩ := hrel
              have HWr : Hid (Below w6.heap.size w6 wr) := HQ.out.1
              rcases HQ.out.2 with ⟨rfl, hno⟩ | ⟨rfl, hbk⟩
              · by_cases hsl : s < n
                · obtain ⟨p, hp⟩ : ∃ p, p = iter nx s i := ⟨_, rfl⟩
                  have hpn : p < n := by rw [hp]; exact iter_lt HNX.out HIL.out s
                  have HPS : Hid (nx p = iter nx (s + 1) i) := by unfold Hid; rw [hp]; rfl
                  rw [← hp]
                  obtain ⟨x, hx⟩ : ∃ x, ask[p]? = some x := ⟨_, List.getElem?_eq_getElem (by rw [← HNE.out]; exact hpn)⟩
                  obtain ⟨b, off, rfl, hcx⟩ := HCS.out p x hx
                  have y0 := cell_keep HWr.out (cell_keep HB6.out hcx)
                  have hkj := HTM.out p x hx
                  have j0' : (0 : Int) ≤ (p : Int) := by omega
                  have j1' : (p : Int) < (n : Int) := by omega
                  have s1' : (s : Int) < (n : Int) := by omega
                  have d0 : (s < n) = True := eq_true hsl
                  have nz : ((n : Int) == 0) = false := beq_eq_false_iff_ne.2 (by omega)
                  have nz2 : ¬ ((n : Int) = 0) := by omega
                  have HSL : Hid (s < n ∧ ∀ r, r < s → iter nx (r + 1) i ≠ i) := ⟨hsl, hno⟩
                  have HNP : Hid (nx p < n) := HNX.out p hpn
                  have M4 : Hid (wrap64 ((s : Int) + 1) = (s : Int) + 1) := by have := HN40.out; have := HSL.out.1; unfold Hid wrap64; omega
                  obtain ⟨y, hy⟩ : ∃ y, x.tmod (n : Int) = y := ⟨_, rfl⟩
                  rw [hy] at hkj
                  clear hs hsl hno HQ hp hpn hx hcx
                  go_upto_if 97 with fail
                  rename World => wq
                  go_cut [11] (fun s wc => s = .int .i64 (nx p : Nat) ∧ wc = wq)
                  case first =>
                    rcases hkj with ⟨h1, h2⟩ | ⟨h1, h2⟩
                    · have d1 : (y < 0) = True := eq_true h1
                      have H2 : Hid (wrap64 (y + (n : Int)) = (nx p : Int)) := by have := HN40.out; have := HNP.out; unfold Hid; rw [h2]; unfold wrap64; omega
                      clear h1 h2
                      simp only [d1, decide_true]
                      go_wp2
                      go_meet
                      case rel => exact ⟨by rw [H2.out], rfl⟩
                    · have d1 : (y < 0) = False := eq_false (by omega)
                      have H2 : Hid (y = (nx p : Int)) := h2
                      clear h1 h2
                      simp only [d1, decide_false]
                      go_wp2
                      go_meet
                      case rel => exact ⟨by rw [H2.out], rfl⟩
                  case rest =>
                    obtain ⟨rfl, hwc⟩ := hcut
                    have hwc2 := hwc.symm
                    subst hwc2
                    clear hkj hy y0
                    by_cases hpi : nx p = i
                    · have HE : Hid (ohBack nx n i) := ⟨s, HSL.out.1, by rw [← HPS.out]; exact hpi⟩
                      have e1 : ((nx p : Int) == (i : Int)) = true := by rw [hpi]; exact beq_self_eq_true _
                      have e2 : (nx p == i) = true := by rw [hpi]; exact beq_self_eq_true _
                      have e3 : (nx p = i) = True := eq_true hpi
                      clear hpi
                      go_wp2
                      exact ⟨⟨s + 1, (i : Int), HSL.out.1, by rw [M4.out]; rfl, by rw [← HPS.out], rfl, HWr.out, .inr ⟨rfl, HE.out⟩⟩, by rw [M4.out]; have := HSL.out.1; simp [intOf]; omega⟩
                    · have e1 : ((nx p : Int) == (i : Int)) = false := beq_eq_false_iff_ne.2 (by omega)
                      have e2 : (nx p == i) = false := beq_eq_false_iff_ne.2 hpi
                      have e3 : (nx p = i) = False := eq_false hpi
                      have HNI : Hid (∀ r, r < s + 1 → iter nx (r + 1) i ≠ i) := fun r hr => by
                        by_cases e : r = s
                        · rw [e, ← HPS.out]; exact hpi
                        · exact HSL.out.2 r (by omega)
                      clear hpi
                      go_wp2
                      exact ⟨⟨s + 1, -1, HSL.out.1, by rw [M4.out]; rfl, by rw [← HPS.out], rfl, HWr.out, .inl ⟨rfl, HNI.out⟩⟩, by rw [M4.out]; have := HSL.out.1; simp [intOf]; omega⟩
                · obtain rfl : n = s := by omega
                  have HNI : Hid (BkR nx n (i + 1) (-1)) := .inl ⟨rfl, fun r hr hbk => by
                    by_cases e : r = i
                    · subst e
                      obtain ⟨t, ht, hte⟩ := hbk
                      exact hno t ht hte
                    · exact HNO.out r (by omega) hbk⟩
                  clear hs hsl hno HQ
                  go_wp2
                  exact ⟨⟨i + 1, -1, HIL.out, by rw [N4.out]; rfl, rfl, HWr.out, HNI.out⟩, by rw [N4.out]; have := HIL.out; simp [intOf]; omega⟩
              · have HNI : Hid (BkR nx n (i + 1) (i : Int)) := .inr ⟨i, rfl, HIL.out, hbk, HNO.out⟩
                have dm : ((i : Int) < 0) = False := eq_false (by omega)
                clear hbk HQ
                by_cases hsl : s < n
                · have s1' : (s : Int) < (n : Int) := by omega
                  have d0 : (s < n) = True := eq_true hsl
                  clear hs hsl
                  go_wp2
                  exact ⟨⟨i + 1, (i : Int), HIL.out, by rw [N4.out]; rfl, rfl, HWr.out, HNI.out⟩, by rw [N4.out]; have := HIL.out; simp [intOf]; omega⟩
                · have d0 : (s < n) = False := eq_false hsl
                  clear hs hsl
                  go_wp2
                  exact ⟨⟨i + 1, (i : Int), HIL.out, by rw [N4.out]; rfl, rfl, HWr.out, HNI.out⟩, by rw [N4.out]; have := HIL.out; simp [intOf]; omega⟩
          · obtain rfl : n = i := by omega
            obtain ⟨o7, c7, rfl, rfl⟩ := ord_none HN40.out HNX.out hno HV.out
            have HEB : Hid (Below w.heap.size w wr) := HB6.out.trans (HW6.out.mono HB6.out.size)
            clear hi hil hno HQ HV
            go_wp2
            go_ret
            exact ⟨rfl, HEB.out⟩
        · obtain ⟨b, rfl, rfl, h4, h5⟩ := ord_some HN40.out HNX.out hm hbk hls HV.out
          have dm : ((m : Int) < 0) = False := eq_false (by omega)
          have dp : ((0 : Int) ≤ (m : Int)) = True := eq_true (by omega)
          have HFA : Hid (Calls Tryd.prog 7 #[.iface 48 (.pointer (some ⟨b, 0, none⟩)), .agg #[.int .i64 6, .int .i64 (m : Int)]] wr fun e w' => e = .returned (.bool true) ∧ Below wr.heap.size wr w') := by
            have hbw := HB6.out.trans (HW6.out.mono HB6.out.size)
            have hS := HSE.out.below hbw
            obtain ⟨cb, tb, hrow⟩ := hS.row 5 (by omega)
            rw [HEC.out] at h5
            exact faulted2_fault a (a 5) 5 b 6 (m : Int) cb tb wr hS (cell_keep HW6.out h4) (cell_keep HW6.out h5) hrow (by omega) (fun j hj => hS.inj 5 j (by omega) (by omega) (by omega)) (fun _ => rfl) rfl
          have HEB : Hid (Below w.heap.size w wr) := HB6.out.trans (HW6.out.mono HB6.out.size)
          clear hm hbk hls HQ HV h4 h5
          by_cases hil : i < n
          · have i1' : (i : Int) < (n : Int) := by omega
            have d0 : (i < n) = True := eq_true hil
            clear hi hil
            go_wp2_with fail
            refine HFA.out.mono ?_
            rintro e w9 ⟨rfl, hb9⟩
            have HB9 : Hid (Below w.heap.size w w9) := HEB.out.trans (hb9.mono HEB.out.size)
            clear hb9
            go_wp2
            go_ret
            exact ⟨rfl, HB9.out⟩
          · have d0 : (i < n) = False := eq_false hil
            clear hi hil
            go_wp2_with fail
            refine HFA.out.mono ?_
            rintro e w9 ⟨rfl, hb9⟩
            have HB9 : Hid (Below w.heap.size w w9) := HEB.out.trans (hb9.mono HEB.out.size)
            clear hb9
            go_wp2
            go_ret
            exact ⟨rfl, HB9.out⟩
end Go.Proofs.YtpkgingjmgakbaaDoor
