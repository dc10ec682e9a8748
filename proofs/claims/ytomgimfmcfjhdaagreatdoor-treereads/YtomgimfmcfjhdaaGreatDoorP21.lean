/-
  lustrumref1's READER OF TERMS: term BY ITS CONTRACT, all of it.
-/
import Derived.Test.YtomgimfmcfjhdaaGreatDoorP20
import Derived.Test.YtomgimfmcfjhdaaGreatDoorP07
import Derived.Test.YtomgimfmcfjhdaaGreatDoorP16
import Derived.Deep.AppendLies
namespace Go.Proofs.YtomgimfmcfjhdaaGreatDoor
open Go.RowKit
attribute [local go_sem ↓] Go.wp_at_zero Go.wp_at_succ

set_option maxRecDepth 100000 in
set_option maxHeartbeats 1000000 in
theorem rterm_fits (n : Nat) (hT : ∀ m, m < n → QFits 83 .term m) (hO : QFits 116 (.left .or) n) : QFits 83 .term n := by
  intro C st d w T R hn
  cases ht : st.tx C.l tIf with
  | true =>
    cases st with
    | bad j bd => cases ht
    | here i => exact rterm_if n hT C i d w T R (hn rfl) ht
  | false =>
    have HT : Hid (∀ m, m < n → QFits 83 .term m) := hT
    have HO : Hid (QFits 116 (.left .or) n) := hO
    have HN : Hid (st.isAt = true → C.l.length - st.k ≤ n) := hn
    clear hT hO hn
    have hbl := R.blt
    have hbA : Below w.heap.size w (w.alloc rTerm) := (Below.refl _ _).alloc (Nat.le_refl _) _
    have HZ : Hid _ := heap_alloc_new w rTerm
    have RA := R.below hbA
    have HB : Hid _ := isB_tx RA T (k := kWord) (xb := ⟨#[105, 102]⟩) (x := tIf) (Or.inl ⟨by decide, rfl⟩) (by rw [ByteArray.toList_eq]; rfl)
    have h0 : ∀ i, st = .here i → tx C.l i tIf = false := fun i h => by subst h; exact ht
    have H0 : Hid _ := h0
    clear h0
    go_enter Tryz.func83, Tryz.ntmps83
    go_wp2_with fail
    refine (ris_any C _ d _ RA kWord _).mono ?_
    rintro e w1 ⟨rfl, n1, rfl⟩
    simp only [HB.out, ht]
    have hbD : Below (w.alloc rTerm).heap.size (w.alloc rTerm) ((w.alloc rTerm).drewN n1) := below_drewN (Below.refl _ _) n1
    go_wp2_with fail
    refine (HO.out C st d _ T (RA.drewN n1) HN.out).mono ?_
    rintro e w2 ⟨hm2, st2, v2, rfl, R2, hq2⟩
    have hs2 : w.heap.size + 1 ≤ w2.heap.size := by have := hm2.size; simpa using this
    have hM2 : Mv C.b w w2 := ((Mv.of_below hbA).trans (Mv.of_below hbD)).trans hm2
    obtain ⟨op, x, s, so, m, sc, rfl⟩ := hq2.shape
    have HQ2 : Hid _ := hq2
    clear hq2
    have hsz : ((w.alloc rTerm).drewN n1).heap.size = w.heap.size + 1 := by simp
    rw [hsz] at HQ2
    have hbB : Below w2.heap.size w2 (w2.alloc (.cells #[.string op, .int .i64 x, .string s, .slice so m sc] 94)) := (Below.refl _ _).alloc (Nat.le_refl _) _
    have HX2 : Hid _ := heap_alloc_new w2 (.cells #[.string op, .int .i64 x, .string s, .slice so m sc] 94)
    have HZ2 : Hid _ := row_keep hbB (hm2.row (k := w.heap.size) (by omega) (row_keep hbD HZ.out))
    have RB := R2.below hbB
    go_wp2_with fail
    refine (rsome_new C st2 d _ RB T [tArrow, tFby] _ 2 (by simp) rfl (by decide) (by decide)).mono ?_
    rintro e w3 ⟨rfl, hb3⟩
    have hs3 : w2.heap.size + 1 ≤ w3.heap.size := by have := hb3.size; simpa using this
    have R3 := RB.below hb3
    have hM3 : Mv C.b w w3 := (hM2.trans (Mv.of_below hbB)).trans (Mv.of_below hb3)
    have St2 : Stays (From (w.heap.size + 1)) (fun k => w.heap.size < k) w2 w3 := (Stays.below (S' := From (w.heap.size + 1)) hbB (fun k hk => hk)).trans (Stays.below hb3 (fun k hk => by unfold From at hk; omega)) (by simp)
    by_cases hc : ∃ j, st2 = .here j ∧ txs C.l j [tArrow, tFby] = true
    · obtain ⟨j, rfl, hc⟩ := hc
      have hj : j < C.l.length := R2.lt
      have hj1 : j + 1 < C.l.length := T.next_txs hj (by decide) hc
      have e1 : (St.here j).some C.l [tArrow, tFby] = tkx C.l j := by simp only [St.some, hc, if_true]
      have hne : (tkx C.l j).toList.isEmpty = false := by
        simp only [txs, List.any_eq_true] at hc
        obtain ⟨y, hy, hyx⟩ := hc
        have e : (tkx C.l j).toList = y := by simpa [tx] using hyx
        rw [e]
        simp only [List.mem_cons, List.not_mem_nil, or_false] at hy
        rcases hy with rfl | rfl <;> rfl
      simp only [e1]
      go_wp2_with fail
      refine (rdown_any C j d _ R3 hj1).mono ?_
      rintro e w4 ⟨rfl, R4, hm4⟩
      have hs4 := hm4.size
      have hleft : C.l.length - j ≤ n := by have := HQ2.out.left HN.out; obtain ⟨i, rfl, hij⟩ := HQ2.out.adv; have := HN.out rfl; simp only [St.k] at this; omega
      go_wp2_with fail
      refine (HT.out (n - 1) (by omega) C _ (d + 1) _ T R4 (down_left hleft hj)).mono ?_
      rintro e w5 ⟨hm5, st5, v5, rfl, R5, hq5⟩
      have hs5 := hm5.size
      obtain ⟨op', x', s', so', m', sc', rfl⟩ := hq5.shape
      have HQ5 : Hid _ := hq5
      clear hq5
      have hmA : Mv C.b w3 w5 := hm4.trans hm5
      have hM5 : Mv C.b w w5 := hM3.trans hmA
      obtain ⟨z0, z1, z2, z3, zf⟩ := blk4 (hmA.row (k := w.heap.size) (by omega) (row_keep hb3 HZ2.out))
      obtain ⟨a0, a1, a2, a3, _⟩ := blk4 (hmA.row (k := w2.heap.size) (by omega) (row_keep hb3 HX2.out))
      have c2 := R5.c2
      have f2 := R5.fz 2
      have hdp := R5.dp
      have hbl5 : C.b < w5.heap.size := by omega
      have l0 : w.heap.size < w5.heap.size := by omega
      have l2 : w2.heap.size < w5.heap.size := by omega
      have n0 : w.heap.size ≠ w5.heap.size := by omega
      have n2 : w2.heap.size ≠ w5.heap.size := by omega
      have nb : C.b ≠ w5.heap.size := by omega
      have nb0 : C.b ≠ w.heap.size := by omega
      have nb2 : C.b ≠ w2.heap.size := by omega
      go_wp2
      have R8 : QS C st5 d (w5.setCell ⟨C.b, 2, none⟩ (.int .i64 d)) := R5.set2 rfl (by omega) (fun h => by have := R5.da h; omega)
      have hM8 : Mv C.b w (w5.setCell ⟨C.b, 2, none⟩ (.int .i64 d)) := hM5.trans (Mv.setAt _ _ _ _)
      have hl8 : w.heap.size < (w5.setCell ⟨C.b, 2, none⟩ (.int .i64 d)).heap.size := by rw [set2_size]; exact l0
      have hB : Below w.heap.size (w5.setCell ⟨C.b, 2, none⟩ (.int .i64 d)) (((set4 (w5.setCell ⟨C.b, 2, none⟩ (.int .i64 d)) w.heap.size (.string (tkx C.l j)) (.int .i64 0) (.string ⟨#[]⟩) (.slice (some ⟨w5.heap.size + 1, 0, none⟩) 2 2)).alloc (.cells #[.string op', .int .i64 x', .string s', .slice so' m' sc'] 94)).alloc (.cells #[.string op, .int .i64 x, .string s, .slice so m sc, .string op', .int .i64 x', .string s', .slice so' m' sc'] 94)) := build4b_below hl8
      refine bodyPost_ret (v := .agg #[.string (tkx C.l j), .int .i64 0, .string ⟨#[]⟩, .slice (some ⟨w5.heap.size + 1, 0, none⟩) 2 2]) (by simp [results, Tryz.results83, go_sem, z0, z1, z2, z3, l0]) rfl ⟨hM8.upon hB, st5, _, rfl, R.upon R8 hB, ?_⟩
      obtain ⟨i, rfl, hij⟩ := HQ2.out.adv
      have hi0 := H0.out i rfl
      have q2 := HQ2.out
      have q5 := HQ5.out
      obtain ⟨es1, ys1, e1, hp1, _, hrow1, hin1⟩ := q2.inv
      by_cases hd : d = 20
      · subst hd
        rw [show (St.here j).down 20 = .bad j true from rfl] at q5
        obtain rfl := q5.stays
        exact .fail i j true _ (Run.ifF hi0 (Run.then hp1 (Run.ifT hc (Run.deep rfl)))) ⟨_, _, _, _, _, _, rfl⟩
      · rw [show (St.here j).down d = .here (j + 1) from by simp only [St.down, if_neg hd]] at q5
        cases st5 with
        | bad k bd => exact .fail i k bd _ (Run.ifF hi0 (Run.then hp1 (Run.ifT hc (Run.down hd (Run.stop q5.badOf))))) ⟨_, _, _, _, _, _, rfl⟩
        | here k =>
          obtain ⟨es2, ys2, e2, hp2, hij2, hrow2, hin2⟩ := q5.inv
          subst e1 e2
          have St1 : Stays (From (w.heap.size + 1)) (fun k => w.heap.size < k) w2 (w5.setCell ⟨C.b, 2, none⟩ (.int .i64 d)) := (St2.trans (Stays.mv (S' := fun k => w.heap.size < k) hmA (fun k hk => ⟨by omega, hk⟩)) (by omega)).trans (Stays.set (p := ⟨C.b, 2, none⟩) _ (fun k hk => ⟨by show k ≠ C.b; omega, hk⟩)) (by omega)
          have St3 : Stays (From w4.heap.size) (fun k => w.heap.size < k) w5 (w5.setCell ⟨C.b, 2, none⟩ (.int .i64 d)) := Stays.set (p := ⟨C.b, 2, none⟩) _ (fun k hk => by unfold From at hk; exact ⟨by show k ≠ C.b; omega, by omega⟩)
          have hE := build4b (t := 94) (a := .string (tkx C.l j)) (b := .int .i64 0) (c := .string ⟨#[]⟩) (.cells #[.string op', .int .i64 x', .string s', .slice so' es2.length sc'] 94) (ExIn.cons op x s es1 _ _ ys1 _ (hrow1.keep St1) (hin1.keep St1) (.cons op' x' s' es2 _ _ ys2 _ (hrow2.keep St3) (hin2.keep St3) .nil)) (fun k hk => hk) hl8 2 rfl (by simp [maxLen]) #[.string op, .int .i64 x, .string s, .slice so es1.length sc, .string op', .int .i64 x', .string s', .slice so' es2.length sc'] rfl (w5.heap.size + 1) (by rw [set2_size])
          have hP : Parse C.l .term i d (.ok [.mk (tkx C.l j) 0 b0 ([.mk op x s es1] ++ [.mk op' x' s' es2])] k) := Run.ifF hi0 (Run.then hp1 (Run.ifT hc (Run.down hd (Run.then hp2 Run.done))))
          exact .ok i k _ _ _ _ _ _ _ hP (by omega) hE.1 hE.2
    · have hst : ∀ j, st2 = .here j → txs C.l j [tArrow, tFby] = false := fun j h => by
        cases h' : txs C.l j [tArrow, tFby] with
        | false => rfl
        | true => exact absurd ⟨j, h, h'⟩ hc
      have e0 : st2.some C.l [tArrow, tFby] = b0 := by
        cases st2 with
        | bad j bd => rfl
        | here j => simp only [St.some, hst j rfl, Bool.false_eq_true, if_false]
      clear hc
      simp only [e0]
      obtain ⟨z0, z1, z2, z3, zf⟩ := blk4 (row_keep hb3 HZ2.out)
      obtain ⟨c0, c1, c2, c3, _⟩ := blk4 (row_keep hb3 HX2.out)
      have hB3 : Below w.heap.size w3 (set4 w3 w.heap.size (.string op) (.int .i64 x) (.string s) (.slice so m sc)) := set4_below (Nat.le_refl _)
      have Stz : Stays (From (w.heap.size + 1)) (From w.heap.size) w2 (set4 w3 w.heap.size (.string op) (.int .i64 x) (.string s) (.slice so m sc)) := St2.trans (set4_stays (fun k hk => ⟨by omega, by unfold From; omega⟩)) (by omega)
      go_wp2
      exact bodyPost_ret (v := .agg #[.string op, .int .i64 x, .string s, .slice so m sc]) (by simp [results, Tryz.results83, go_sem, z0, z1, z2, z3]) rfl ⟨hM3.upon hB3, _, _, rfl, R.upon R3 hB3, HQ2.out.move Stz (fun i j e h1 h2 hp => Run.ifF (H0.out i h1) (Run.then hp (Run.ifF (hst j h2) Run.done))) (fun i j bd h1 hp => Run.ifF (H0.out i h1) (Run.stop hp))⟩
end Go.Proofs.YtomgimfmcfjhdaaGreatDoor

/-
  lustrumref1's READER OF TERMS: atom BY ITS CONTRACTS, but for calls.
-/
namespace Go.Proofs.YtomgimfmcfjhdaaGreatDoor
open Go.RowKit
attribute [local go_sem ↓] Go.wp_at_zero Go.wp_at_succ

set_option maxRecDepth 100000 in
set_option maxHeartbeats 1000000 in
theorem ratom_bad (C : Qc) (j : Nat) (bd : Bool) (d : Nat) (w : World) (R : QS C (.bad j bd) d w) :
    Calls Tryz.prog 189 #[.pointer (some ⟨C.b, 0, none⟩)] w (QRet C .atom (.bad j bd) d w) := by
  have hbA : Below w.heap.size w (w.alloc rTerm) := (Below.refl _ _).alloc (Nat.le_refl _) _
  go_enter Tryz.func189, Tryz.ntmps189
  go_wp2_with fail
  refine (rok_bad C j bd d _ (R.below hbA)).mono ?_
  rintro e w1 ⟨rfl, rfl⟩
  go_wp2
  exact bodyPost_ret (v := .agg #[.string ⟨#[]⟩, .int .i64 0, .string ⟨#[]⟩, .slice none 0 0]) (by simp [results, Tryz.results189, go_sem]) rfl ⟨Mv.of_below hbA, _, _, rfl, R.below hbA, .stay j bd _ ⟨_, _, _, _, _, _, rfl⟩⟩

set_option maxRecDepth 100000 in
set_option maxHeartbeats 1000000 in
theorem intOf_val (t : ByteArray) (w : World) (ht : 0 < t.size) (hd : ∀ k, k < t.size → digI (byteI t k) = true) (hB : intB t = true) :
    Calls Tryz.prog 97 #[.string t] w fun e w' => e = .returned (.int .i64 (valL t.data.toList : Int)) ∧ w' = w := by
  have hlen : t.data.toList.length = t.size := Array.length_toList
  have h3 : t.size ≤ 3 := by
    rcases Nat.lt_or_ge 3 t.size with h | h
    · rw [long_int t h hd] at hB; cases hB
    · exact h
  have hz : (t.size : Int) ≤ 1 ∨ ((t[0].toNat : Int) == 48) = false := by
    rcases Nat.lt_or_ge 1 t.size with h | h
    · right
      cases h' : ((t[0].toNat : Int) == 48) with
      | false => rfl
      | true => rw [intB_zero t ht (by omega) h'] at hB; cases hB
    · left; omega
  have hv : (valL t.data.toList : Int) ≤ 127 := by
    rcases Int.lt_or_le 127 (valL t.data.toList : Int) with h | h
    · rw [intB_big t h] at hB; cases hB
    · exact h
  clear hB
  go_enter Tryz.func97, Tryz.ntmps97
  go_wp2
  go_loop [3, 4] (fun n i => ∃ (k v : Nat), k ≤ t.size ∧ k ≤ 4 ∧ v ≤ 10000 ∧ i = .int .i64 k ∧ n = .int .i64 v ∧ Hid (v = valL (t.data.toList.take k) ∧ v < 10 ^ k)) (fun _ i => 4 - (intOf i).toNat)
  case atStart => exact ⟨0, 0, Nat.zero_le _, by omega, by omega, rfl, rfl, rfl, by decide⟩
  case round =>
    obtain ⟨k, v, hk, hk4, hv4, rfl, rfl, hval⟩ := hrel
    by_cases hl1 : k < t.size
    · have hl2 : k < 4 := by omega
      have hdk := hd k hl1
      rw [byteI_lt hl1] at hdk
      simp only [digI, Bool.and_eq_true, decide_eq_true_eq] at hdk
      obtain ⟨q1, q2⟩ := hdk
      go_wp2
      obtain ⟨hv1, hv2⟩ := hval.out
      have hp : 10 ^ (k + 1) ≤ 10 ^ 4 := Nat.pow_le_pow_right (by omega) (by omega)
      have hlt' : 10 * v + (t[k].toNat - 48) < 10 ^ (k + 1) := by rw [Nat.pow_succ]; omega
      refine ⟨⟨k + 1, 10 * v + (t[k].toNat - 48), by omega, by omega, by omega, by go_num, ?_, ?_, hlt'⟩, by simp [intOf]; omega⟩
      · have e : (10 * (v : Int) + ((t[k].toNat : Int) - 48)) = ((10 * v + (t[k].toNat - 48) : Nat) : Int) := by omega
        rw [e]
      · rw [take_snoc t k hl1, valL_snoc, ← hv1]
    · obtain rfl : k = t.size := by omega
      have e1 := hval.out.1
      rw [List.take_of_length_le (by omega)] at e1
      subst e1
      clear hd
      rcases hz with hz | hz
      · go_wp2
        go_ret
        exact ⟨rfl, rfl⟩
      · go_wp2
        all_goals go_ret
        all_goals exact ⟨rfl, rfl⟩

set_option maxRecDepth 100000 in
set_option maxHeartbeats 1000000 in
theorem ratom_int (C : Qc) (i d : Nat) (w : World) (T : Tkl C.l) (R : QS C (.here i) d w) (g1 : isInt C.l i = true) :
    Calls Tryz.prog 189 #[.pointer (some ⟨C.b, 0, none⟩)] w (QRet C .atom (.here i) d w) := by
  have hbl := R.blt
  have hlt : i < C.l.length := R.lt
  have hlen := R.len
  have hi : i + 1 < C.l.length := T.next_int hlt g1
  have hbA : Below w.heap.size w (w.alloc rTerm) := (Below.refl _ _).alloc (Nat.le_refl _) _
  have RA := R.below hbA
  have g1' : ((tkk C.l i).toList == [105, 110, 116]) = true := g1
  obtain ⟨e0, e1, e2⟩ := T.int hlt g1
  rw [← tkx_lt hlt] at e0 e1 e2
  have hsz := T.tsz i hlt
  rw [← tkx_lt hlt] at hsz
  have hdec : decOf (tkx C.l i).toList = (valL (tkx C.l i).data.toList : Int) := by
    rw [toList_data]
    exact decOf_val _ (fun c hc => (dig_mem e1 c hc).1)
  have HDEC : Hid _ := hdec
  have HE1 : Hid _ := e1
  have HE2 : Hid _ := e2
  clear hdec e1 e2
  have c0 := R.c0
  have c1 := R.c1
  have f1 := R.fz 1
  obtain ⟨r0, r1, r2⟩ := R.row i hlt
  have hgl : C.g < w.heap.size := lt_of_cell r0
  have hgl1 : C.g < w.heap.size + 1 := by omega
  have hbl1 : C.b < w.heap.size + 1 := by omega
  have i0 : (0 : Int) ≤ (i : Int) := by omega
  have i1 : (i : Int) < (C.l.length : Int) := by omega
  simp only [St.k] at c1
  go_enter Tryz.func189, Tryz.ntmps189
  go_wp2_with fail
  refine (rok_at C i d _ RA).mono ?_
  rintro e w1 ⟨rfl, rfl⟩
  go_wp2_with fail
  go_region
  go_wp2_with fail
  refine (intOf_val _ _ e0 HE1.out HE2.out).mono ?_
  rintro e w2 ⟨rfl, rfl⟩
  go_wp2
  have R1 := R.set1 (j := i + 1) (x := (i : Int) + 1) (by omega) hi
  have hB : ∀ (o1 o2 : Obj), Below (w.setCell ⟨C.b, 1, none⟩ (.int .i64 ((i : Int) + 1))).heap.size (w.setCell ⟨C.b, 1, none⟩ (.int .i64 ((i : Int) + 1))) (((w.setCell ⟨C.b, 1, none⟩ (.int .i64 ((i : Int) + 1))).alloc o1).alloc o2).drew := fun o1 o2 => (((Below.refl _ _).alloc (Nat.le_refl _) _).alloc (by simp) _).drew
  have hpp : Parse C.l .atom i d (.ok [.mk sInt (decOf (tkx C.l i).toList) b0 []] (i + 1)) := Run.ifT g1 Run.done
  rw [HDEC.out] at hpp
  exact bodyPost_ret (v := .agg #[.string ⟨#[105, 110, 116]⟩, .int .i64 (valL (tkx C.l i).data.toList : Int), .string ⟨#[]⟩, .slice none 0 0]) (by simp [results, Tryz.results189, go_sem]) rfl ⟨(Mv.setAt _ _ _ _).trans (Mv.of_below (hB _ _)), _, _, rfl, R1.below (hB _ _), .ok i (i + 1) _ _ _ [] none 0 [] hpp (by omega) RowAt.none .nil⟩

set_option maxRecDepth 100000 in
set_option maxHeartbeats 1000000 in
theorem ratom_bool (C : Qc) (i d : Nat) (w : World) (T : Tkl C.l) (R : QS C (.here i) d w) (g1 : isInt C.l i = false) (g2 : txs C.l i [tTrue, tFalse] = true) :
    Calls Tryz.prog 189 #[.pointer (some ⟨C.b, 0, none⟩)] w (QRet C .atom (.here i) d w) := by
  have hbl := R.blt
  have hlt : i < C.l.length := R.lt
  have hlen := R.len
  have hbA : Below w.heap.size w (w.alloc rTerm) := (Below.refl _ _).alloc (Nat.le_refl _) _
  have RA := R.below hbA
  have g1' : ((tkk C.l i).toList == [105, 110, 116]) = false := g1
  have c0 := R.c0
  have c1 := R.c1
  have f1 := R.fz 1
  obtain ⟨r0, r1, r2⟩ := R.row i hlt
  have hgl : C.g < w.heap.size := lt_of_cell r0
  have hgl1 : C.g < w.heap.size + 1 := by omega
  have hbl1 : C.b < w.heap.size + 1 := by omega
  have i0 : (0 : Int) ≤ (i : Int) := by omega
  have i1 : (i : Int) < (C.l.length : Int) := by omega
  simp only [St.k] at c1
  have hi : i + 1 < C.l.length := T.next_txs hlt (by decide) g2
  have hx : (tkx C.l i).toList = tTrue ∨ (tkx C.l i).toList = tFalse := by simpa [txs, tx] using g2
  have hk : ((tkk C.l i).toList == [119, 111, 114, 100]) = true := by
    rcases hx with h | h
    · rw [tkk_lt hlt, T.word hlt (x := tTrue) (by decide) (by simp [tx, h]), kindLists.1]; rfl
    · rw [tkk_lt hlt, T.word hlt (x := tFalse) (by decide) (by simp [tx, h]), kindLists.1]; rfl
  have R1 := R.set1 (j := i + 1) (x := (i : Int) + 1) (by omega) hi
  have hB : ∀ (o1 o2 : Obj), Below (w.setCell ⟨C.b, 1, none⟩ (.int .i64 ((i : Int) + 1))).heap.size (w.setCell ⟨C.b, 1, none⟩ (.int .i64 ((i : Int) + 1))) (((w.setCell ⟨C.b, 1, none⟩ (.int .i64 ((i : Int) + 1))).alloc o1).alloc o2).drew := fun o1 o2 => (((Below.refl _ _).alloc (Nat.le_refl _) _).alloc (by simp) _).drew
  have HR1 : Hid _ := R1
  clear R1
  cases ht : ((tkx C.l i).toList == [116, 114, 117, 101]) with
  | true =>
    go_enter Tryz.func189, Tryz.ntmps189
    go_wp2_with fail
    refine (rok_at C i d _ RA).mono ?_
    rintro e w1 ⟨rfl, rfl⟩
    go_wp2_with fail
    go_region
    go_wp2
    exact bodyPost_ret (v := .agg #[.string (tkx C.l i), .int .i64 0, .string ⟨#[]⟩, .slice none 0 0]) (by simp [results, Tryz.results189, go_sem]) rfl ⟨(Mv.setAt _ _ _ _).trans (Mv.of_below (hB _ _)), _, _, rfl, HR1.out.below (hB _ _), .ok i (i + 1) _ _ _ [] none 0 [] (Run.ifF g1 (Run.ifT g2 Run.done)) (by omega) RowAt.none .nil⟩
  | false =>
    have ht2 : ((tkx C.l i).toList == [102, 97, 108, 115, 101]) = true := by
      rcases hx with h | h
      · rw [h] at ht; cases ht
      · rw [h]; rfl
    go_enter Tryz.func189, Tryz.ntmps189
    go_wp2_with fail
    refine (rok_at C i d _ RA).mono ?_
    rintro e w1 ⟨rfl, rfl⟩
    go_wp2_with fail
    go_region
    go_wp2
    exact bodyPost_ret (v := .agg #[.string (tkx C.l i), .int .i64 0, .string ⟨#[]⟩, .slice none 0 0]) (by simp [results, Tryz.results189, go_sem]) rfl ⟨(Mv.setAt _ _ _ _).trans (Mv.of_below (hB _ _)), _, _, rfl, HR1.out.below (hB _ _), .ok i (i + 1) _ _ _ [] none 0 [] (Run.ifF g1 (Run.ifT g2 Run.done)) (by omega) RowAt.none .nil⟩

set_option maxRecDepth 100000 in
set_option maxHeartbeats 1000000 in
theorem ratom_name (C : Qc) (i d : Nat) (w : World) (T : Tkl C.l) (R : QS C (.here i) d w) (g1 : isInt C.l i = false) (g2 : txs C.l i [tTrue, tFalse] = false) (g3 : isName C.l i = true) (g4 : tx C.l (i + 1) tOpen = false) :
    Calls Tryz.prog 189 #[.pointer (some ⟨C.b, 0, none⟩)] w (QRet C .atom (.here i) d w) := by
  have hbl := R.blt
  have hlt : i < C.l.length := R.lt
  have hlen := R.len
  have hbA : Below w.heap.size w (w.alloc rTerm) := (Below.refl _ _).alloc (Nat.le_refl _) _
  have RA := R.below hbA
  have g1' : ((tkk C.l i).toList == [105, 110, 116]) = false := g1
  have c0 := R.c0
  have c1 := R.c1
  have f1 := R.fz 1
  obtain ⟨r0, r1, r2⟩ := R.row i hlt
  have hgl : C.g < w.heap.size := lt_of_cell r0
  have hgl1 : C.g < w.heap.size + 1 := by omega
  have hbl1 : C.b < w.heap.size + 1 := by omega
  have i0 : (0 : Int) ≤ (i : Int) := by omega
  have i1 : (i : Int) < (C.l.length : Int) := by omega
  simp only [St.k] at c1
  have hi : i + 1 < C.l.length := T.next_name hlt g3
  have hk3 : ((tkk C.l i).toList == [110, 97, 109, 101]) = true := g3
  have hk2 : ((tkk C.l i).toList == [119, 111, 114, 100]) = false := by
    have e : (tkk C.l i).toList = [110, 97, 109, 101] := by simpa using hk3
    rw [e]; rfl
  have R1 := R.set1 (j := i + 1) (x := (i : Int) + 1) (by omega) hi
  have HR1 : Hid _ := R1
  clear R1
  go_enter Tryz.func189, Tryz.ntmps189
  go_wp2_with fail
  refine (rok_at C i d _ RA).mono ?_
  rintro e w1 ⟨rfl, rfl⟩
  go_wp2_with fail
  go_region
  go_wp2_with fail
  have hB : Below (w.setCell ⟨C.b, 1, none⟩ (.int .i64 ((i : Int) + 1))).heap.size (w.setCell ⟨C.b, 1, none⟩ (.int .i64 ((i : Int) + 1))) (((w.setCell ⟨C.b, 1, none⟩ (.int .i64 ((i : Int) + 1))).alloc rTerm).alloc (.cells #[.string (tkk C.l i), .string (tkx C.l i), .int .i64 (tkp C.l i)] 25)).drew := (((Below.refl _ _).alloc (Nat.le_refl _) _).alloc (by simp) _).drew
  have R2 := HR1.out.below hB
  have HB : Hid _ := isB_tx R2 T (k := kOp) (xb := ⟨#[40]⟩) (x := tOpen) (Or.inr ⟨by decide, rfl⟩) (by rw [ByteArray.toList_eq]; rfl)
  refine (ris_any C _ d _ R2 kOp _).mono ?_
  rintro e w3 ⟨rfl, n3, rfl⟩
  have g4' : (St.here (i + 1)).tx C.l tOpen = false := g4
  simp only [HB.out, g4']
  go_wp2
  have hB3 : Below (w.setCell ⟨C.b, 1, none⟩ (.int .i64 ((i : Int) + 1))).heap.size (w.setCell ⟨C.b, 1, none⟩ (.int .i64 ((i : Int) + 1))) ((((w.setCell ⟨C.b, 1, none⟩ (.int .i64 ((i : Int) + 1))).alloc rTerm).alloc (.cells #[.string (tkk C.l i), .string (tkx C.l i), .int .i64 (tkp C.l i)] 25)).drewN (1 + n3)) := below_drewN (((Below.refl _ _).alloc (Nat.le_refl _) _).alloc (by simp) _) (1 + n3)
  have hB4 : Below w.heap.size ((((w.setCell ⟨C.b, 1, none⟩ (.int .i64 ((i : Int) + 1))).alloc rTerm).alloc (.cells #[.string (tkk C.l i), .string (tkx C.l i), .int .i64 (tkp C.l i)] 25)).drewN (1 + n3)) (set4 ((((w.setCell ⟨C.b, 1, none⟩ (.int .i64 ((i : Int) + 1))).alloc rTerm).alloc (.cells #[.string (tkk C.l i), .string (tkx C.l i), .int .i64 (tkp C.l i)] 25)).drewN (1 + n3)) w.heap.size (.string ⟨#[110, 97, 109, 101]⟩) (.int .i64 0) (.string (tkx C.l i)) (.slice none 0 0)) := set4_below (Nat.le_refl _)
  exact bodyPost_ret (v := .agg #[.string ⟨#[110, 97, 109, 101]⟩, .int .i64 0, .string (tkx C.l i), .slice none 0 0]) (by simp [results, Tryz.results189, go_sem]) rfl ⟨((Mv.setAt _ _ _ _).trans (Mv.of_below hB3)).upon hB4, _, _, rfl, R.upon (HR1.out.below hB3) hB4, .ok i (i + 1) _ _ _ [] none 0 [] (Run.ifF g1 (Run.ifF g2 (Run.ifT g3 (Run.ifF g4 Run.done)))) (by omega) RowAt.none .nil⟩

set_option maxRecDepth 100000 in
set_option maxHeartbeats 1000000 in
theorem ratom_brk (C : Qc) (i d : Nat) (w : World) (T : Tkl C.l) (R : QS C (.here i) d w) (g1 : isInt C.l i = false) (g2 : txs C.l i [tTrue, tFalse] = false) (n : Nat) (hT : ∀ m, m < n → QFits 83 .term m) (hn : C.l.length - i ≤ n) (g3 : isName C.l i = false) (g4 : tx C.l i tOpen = true) :
    Calls Tryz.prog 189 #[.pointer (some ⟨C.b, 0, none⟩)] w (QRet C .atom (.here i) d w) := by
  have HT : Hid (∀ m, m < n → QFits 83 .term m) := hT
  clear hT
  have hbl := R.blt
  have hlt : i < C.l.length := R.lt
  have hlen := R.len
  have hbA : Below w.heap.size w (w.alloc rTerm) := (Below.refl _ _).alloc (Nat.le_refl _) _
  have RA := R.below hbA
  have g1' : ((tkk C.l i).toList == [105, 110, 116]) = false := g1
  have c0 := R.c0
  have c1 := R.c1
  have f1 := R.fz 1
  obtain ⟨r0, r1, r2⟩ := R.row i hlt
  have hgl : C.g < w.heap.size := lt_of_cell r0
  have hgl1 : C.g < w.heap.size + 1 := by omega
  have hbl1 : C.b < w.heap.size + 1 := by omega
  have i0 : (0 : Int) ≤ (i : Int) := by omega
  have i1 : (i : Int) < (C.l.length : Int) := by omega
  simp only [St.k] at c1
  have hi : i + 1 < C.l.length := T.next_tx hlt g4
  have hk0 : (tkk C.l i).toList = [111, 112] := by rw [tkk_lt hlt, T.oper hlt (x := tOpen) (by decide) g4]; exact kindLists.2.2.2
  have hk2 : ((tkk C.l i).toList == [119, 111, 114, 100]) = false := by rw [hk0]; rfl
  have hk3 : ((tkk C.l i).toList == [110, 97, 109, 101]) = false := g3
  clear hk0
  have hbT : Below w.heap.size w ((w.alloc rTerm).alloc (.cells #[.string (tkk C.l i), .string (tkx C.l i), .int .i64 (tkp C.l i)] 25)).drew := (((Below.refl _ _).alloc (Nat.le_refl _) _).alloc (by simp) _).drew
  have RT := R.below hbT
  have HRT : Hid _ := RT
  have HB : Hid _ := isB_tx RT T (k := kOp) (xb := ⟨#[40]⟩) (x := tOpen) (Or.inr ⟨by decide, rfl⟩) (by rw [ByteArray.toList_eq]; rfl)
  clear RT
  go_enter Tryz.func189, Tryz.ntmps189
  go_wp2_with fail
  refine (rok_at C i d _ RA).mono ?_
  rintro e w1 ⟨rfl, rfl⟩
  go_wp2_with fail
  go_region
  go_wp2_with fail
  refine (ris_any C _ d _ HRT.out kOp _).mono ?_
  rintro e w3 ⟨rfl, n3, rfl⟩
  have g4' : (St.here i).tx C.l tOpen = true := g4
  simp only [HB.out, g4']
  have hbU : Below w.heap.size w (((w.alloc rTerm).alloc (.cells #[.string (tkk C.l i), .string (tkx C.l i), .int .i64 (tkp C.l i)] 25)).drewN (1 + n3)) := below_drewN (((Below.refl _ _).alloc (Nat.le_refl _) _).alloc (by simp) _) (1 + n3)
  have HZ : Hid ((((w.alloc rTerm).alloc (.cells #[.string (tkk C.l i), .string (tkx C.l i), .int .i64 (tkp C.l i)] 25)).drewN (1 + n3)).heap[w.heap.size]? = some rTerm) := drewN_row _ (alloc_row _ (heap_alloc_new w rTerm))
  go_wp2_with fail
  refine (rdown_any C i d _ (R.below hbU) hi).mono ?_
  rintro e w4 ⟨rfl, R4, hm4⟩
  have hs4 : w.heap.size + 1 + 1 ≤ w4.heap.size := by have := hm4.size; simpa using this
  have hM4 : Mv C.b w w4 := (Mv.of_below hbU).trans hm4
  go_wp2_with fail
  refine (HT.out (n - 1) (by omega) C _ (d + 1) _ T R4 (down_left hn hlt)).mono ?_
  rintro e w5 ⟨hm5, st5, v5, rfl, R5, hq5⟩
  have hs5 := hm5.size
  obtain ⟨op, x, s, so, m, sc, rfl⟩ := hq5.shape
  have HQ5 : Hid _ := hq5
  clear hq5
  have hb5 : Below w5.heap.size w5 (w5.alloc (.cells #[.string op, .int .i64 x, .string s, .slice so m sc] 94)) := (Below.refl _ _).alloc (Nat.le_refl _) _
  have HX5 : Hid _ := heap_alloc_new w5 (.cells #[.string op, .int .i64 x, .string s, .slice so m sc] 94)
  go_wp2_with fail
  refine (rwant_any C st5 (d + 1) _ (R5.below hb5) T kOp _ tShut (Or.inr ⟨by decide, rfl⟩) (by rw [ByteArray.toList_eq]; rfl) (by decide)).mono ?_
  rintro e w6 ⟨rfl, R6, hm6⟩
  have hs6 : w5.heap.size + 1 ≤ w6.heap.size := by have := hm6.size; simpa using this
  have hM6 : Mv C.b w w6 := ((hM4.trans hm5).trans (Mv.of_below hb5)).trans hm6
  obtain ⟨z0, z1, z2, z3, zf⟩ := blk4 (hm6.row (k := w.heap.size) (by omega) (row_keep hb5 (hm5.row (by omega) (hm4.row (by omega) HZ.out))))
  obtain ⟨a0, a1, a2, a3, _⟩ := blk4 (hm6.row (k := w5.heap.size) (by omega) HX5.out)
  have q2 := R6.c2
  have f2 := R6.fz 2
  have hdp := R6.dp
  have nb0 : C.b ≠ w.heap.size := by omega
  have nb5 : C.b ≠ w5.heap.size := by omega
  clear c0 c1 r0 r1 r2 f1
  go_wp2
  have R8 : QS C (st5.want C.l tShut) d (w6.setCell ⟨C.b, 2, none⟩ (.int .i64 d)) := R6.set2 rfl (by omega) (fun h => by have := R6.da h; omega)
  have hM8 : Mv C.b w (w6.setCell ⟨C.b, 2, none⟩ (.int .i64 d)) := hM6.trans (Mv.setAt _ _ _ _)
  have hB : Below w.heap.size (w6.setCell ⟨C.b, 2, none⟩ (.int .i64 d)) (set4 (w6.setCell ⟨C.b, 2, none⟩ (.int .i64 d)) w.heap.size (.string op) (.int .i64 x) (.string s) (.slice so m sc)) := set4_below (Nat.le_refl _)
  refine bodyPost_ret (v := .agg #[.string op, .int .i64 x, .string s, .slice so m sc]) (by simp [results, Tryz.results189, go_sem, z0, z1, z2, z3]) rfl ⟨hM8.upon hB, _, _, rfl, R.upon R8 hB, ?_⟩
  have q5 := HQ5.out
  by_cases hd : d = 20
  · subst hd
    rw [show (St.here i).down 20 = .bad i true from rfl] at q5
    obtain rfl := q5.stays
    exact .fail i i true _ (Run.ifF g1 (Run.ifF g2 (Run.ifF g3 (Run.ifT g4 (Run.deep rfl))))) ⟨_, _, _, _, _, _, rfl⟩
  · rw [show (St.here i).down d = .here (i + 1) from by simp only [St.down, if_neg hd]] at q5
    cases st5 with
    | bad k bd => exact .fail i k bd _ (Run.ifF g1 (Run.ifF g2 (Run.ifF g3 (Run.ifT g4 (Run.down hd (Run.stop q5.badOf)))))) ⟨_, _, _, _, _, _, rfl⟩
    | here k =>
      obtain ⟨es, ys, e1, hp, hij, hrow, hin⟩ := q5.inv
      cases hx : tx C.l k tShut with
      | false =>
        rw [show (St.here k).want C.l tShut = .bad k false from by simp only [St.want, hx, Bool.false_eq_true, if_false]]
        exact .fail i k false _ (Run.ifF g1 (Run.ifF g2 (Run.ifF g3 (Run.ifT g4 (Run.down hd (Run.then hp (Run.unexp hx))))))) ⟨_, _, _, _, _, _, rfl⟩
      | true =>
        rw [show (St.here k).want C.l tShut = .here (k + 1) from by simp only [St.want, hx, if_true]]
        subst e1
        have St5 : Stays (From w4.heap.size) (fun k => w.heap.size < k) w5 (w6.setCell ⟨C.b, 2, none⟩ (.int .i64 d)) := ((Stays.below (S' := fun k => w.heap.size < k) hb5 (fun k hk => by unfold From at hk; omega)).trans (Stays.mv (S' := fun k => w.heap.size < k) hm6 (fun k hk => ⟨by omega, hk⟩)) (by simp)).trans (Stays.set (p := ⟨C.b, 2, none⟩) _ (fun k hk => ⟨by show k ≠ C.b; omega, hk⟩)) (by omega)
        have hE := put4 (H := w.heap.size) (a := .string op) (b := .int .i64 x) (c := .string s) (hrow.keep St5) (hin.keep St5) (fun k hk => hk)
        exact .ok i (k + 1) _ _ _ es _ _ ys (Run.ifF g1 (Run.ifF g2 (Run.ifF g3 (Run.ifT g4 (Run.down hd (Run.then hp (Run.exp hx Run.done))))))) (by omega) hE.1 hE.2

end Go.Proofs.YtomgimfmcfjhdaaGreatDoor

/-
  lustrumref1's READER OF TERMS: atom BY ITS CONTRACT: what is none; calls; all of it.
-/
namespace Go.Proofs.YtomgimfmcfjhdaaGreatDoor
open Go.RowKit
attribute [local go_sem ↓] Go.wp_at_zero Go.wp_at_succ

set_option maxRecDepth 100000 in
set_option maxHeartbeats 1000000 in
theorem ratom_none (C : Qc) (i d : Nat) (w : World) (T : Tkl C.l) (R : QS C (.here i) d w) (g1 : isInt C.l i = false) (g2 : txs C.l i [tTrue, tFalse] = false) (g3 : isName C.l i = false) (g4 : tx C.l i tOpen = false) :
    Calls Tryz.prog 189 #[.pointer (some ⟨C.b, 0, none⟩)] w (QRet C .atom (.here i) d w) := by
  have hbl := R.blt
  have hlt : i < C.l.length := R.lt
  have hlen := R.len
  have hbA : Below w.heap.size w (w.alloc rTerm) := (Below.refl _ _).alloc (Nat.le_refl _) _
  have RA := R.below hbA
  have g1' : ((tkk C.l i).toList == [105, 110, 116]) = false := g1
  have c0 := R.c0
  have c1 := R.c1
  have f1 := R.fz 1
  obtain ⟨r0, r1, r2⟩ := R.row i hlt
  have hgl : C.g < w.heap.size := lt_of_cell r0
  have hgl1 : C.g < w.heap.size + 1 := by omega
  have hbl1 : C.b < w.heap.size + 1 := by omega
  have i0 : (0 : Int) ≤ (i : Int) := by omega
  have i1 : (i : Int) < (C.l.length : Int) := by omega
  simp only [St.k] at c1
  have hk3 : ((tkk C.l i).toList == [110, 97, 109, 101]) = false := g3
  have hx : ((tkx C.l i).toList == [116, 114, 117, 101]) = false ∧ ((tkx C.l i).toList == [102, 97, 108, 115, 101]) = false := by
    simp only [txs, List.any_cons, List.any_nil, Bool.or_false, Bool.or_eq_false_iff] at g2
    exact g2
  obtain ⟨hx1, hx2⟩ := hx
  have hbT : Below w.heap.size w ((w.alloc rTerm).alloc (.cells #[.string (tkk C.l i), .string (tkx C.l i), .int .i64 (tkp C.l i)] 25)).drew := (((Below.refl _ _).alloc (Nat.le_refl _) _).alloc (by simp) _).drew
  have RT := R.below hbT
  have HRT : Hid _ := RT
  have HB : Hid _ := isB_tx RT T (k := kOp) (xb := ⟨#[40]⟩) (x := tOpen) (Or.inr ⟨by decide, rfl⟩) (by rw [ByteArray.toList_eq]; rfl)
  clear RT
  cases hk2 : ((tkk C.l i).toList == [119, 111, 114, 100]) with
  | true =>
    go_enter Tryz.func189, Tryz.ntmps189
    go_wp2_with fail
    refine (rok_at C i d _ RA).mono ?_
    rintro e w1 ⟨rfl, rfl⟩
    go_wp2_with fail
    go_region
    go_wp2_with fail
    refine (ris_any C _ d _ HRT.out kOp _).mono ?_
    rintro e w3 ⟨rfl, n3, rfl⟩
    have g4' : (St.here i).tx C.l tOpen = false := g4
    simp only [HB.out, g4']
    have hbU : Below w.heap.size w (((w.alloc rTerm).alloc (.cells #[.string (tkk C.l i), .string (tkx C.l i), .int .i64 (tkp C.l i)] 25)).drewN (1 + n3)) := below_drewN (((Below.refl _ _).alloc (Nat.le_refl _) _).alloc (by simp) _) (1 + n3)
    have HZ : Hid ((((w.alloc rTerm).alloc (.cells #[.string (tkk C.l i), .string (tkx C.l i), .int .i64 (tkp C.l i)] 25)).drewN (1 + n3)).heap[w.heap.size]? = some rTerm) := drewN_row _ (alloc_row _ (heap_alloc_new w rTerm))
    go_wp2_with fail
    refine (rfail_any C _ d _ (R.below hbU) false 1 rfl).mono ?_
    rintro e w4 ⟨rfl, R4, hm4⟩
    obtain ⟨z0, z1, z2, z3, zf⟩ := blk4 (hm4.row (k := w.heap.size) (by omega) HZ.out)
    have hB : Below w.heap.size w4 (set4 w4 w.heap.size (.string ⟨#[]⟩) (.int .i64 0) (.string ⟨#[]⟩) (.slice none 0 0)) := set4_below (Nat.le_refl _)
    clear c0 c1 r0 r1 r2 f1
    go_wp2
    exact bodyPost_ret (v := .agg #[.string ⟨#[]⟩, .int .i64 0, .string ⟨#[]⟩, .slice none 0 0]) (by simp [results, Tryz.results189, go_sem, z0, z1, z2, z3]) rfl ⟨((Mv.of_below hbU).trans hm4).upon hB, _, _, rfl, R.upon R4 hB, .fail i i false _ (Run.ifF g1 (Run.ifF g2 (Run.ifF g3 (Run.ifF g4 (.ret _))))) ⟨_, _, _, _, _, _, rfl⟩⟩
  | false =>
    go_enter Tryz.func189, Tryz.ntmps189
    go_wp2_with fail
    refine (rok_at C i d _ RA).mono ?_
    rintro e w1 ⟨rfl, rfl⟩
    go_wp2_with fail
    go_region
    go_wp2_with fail
    refine (ris_any C _ d _ HRT.out kOp _).mono ?_
    rintro e w3 ⟨rfl, n3, rfl⟩
    have g4' : (St.here i).tx C.l tOpen = false := g4
    simp only [HB.out, g4']
    have hbU : Below w.heap.size w (((w.alloc rTerm).alloc (.cells #[.string (tkk C.l i), .string (tkx C.l i), .int .i64 (tkp C.l i)] 25)).drewN (1 + n3)) := below_drewN (((Below.refl _ _).alloc (Nat.le_refl _) _).alloc (by simp) _) (1 + n3)
    have HZ : Hid ((((w.alloc rTerm).alloc (.cells #[.string (tkk C.l i), .string (tkx C.l i), .int .i64 (tkp C.l i)] 25)).drewN (1 + n3)).heap[w.heap.size]? = some rTerm) := drewN_row _ (alloc_row _ (heap_alloc_new w rTerm))
    go_wp2_with fail
    refine (rfail_any C _ d _ (R.below hbU) false 1 rfl).mono ?_
    rintro e w4 ⟨rfl, R4, hm4⟩
    obtain ⟨z0, z1, z2, z3, zf⟩ := blk4 (hm4.row (k := w.heap.size) (by omega) HZ.out)
    have hB : Below w.heap.size w4 (set4 w4 w.heap.size (.string ⟨#[]⟩) (.int .i64 0) (.string ⟨#[]⟩) (.slice none 0 0)) := set4_below (Nat.le_refl _)
    clear c0 c1 r0 r1 r2 f1
    go_wp2
    exact bodyPost_ret (v := .agg #[.string ⟨#[]⟩, .int .i64 0, .string ⟨#[]⟩, .slice none 0 0]) (by simp [results, Tryz.results189, go_sem, z0, z1, z2, z3]) rfl ⟨((Mv.of_below hbU).trans hm4).upon hB, _, _, rfl, R.upon R4 hB, .fail i i false _ (Run.ifF g1 (Run.ifF g2 (Run.ifF g3 (Run.ifF g4 (.ret _))))) ⟨_, _, _, _, _, _, rfl⟩⟩

end Go.Proofs.YtomgimfmcfjhdaaGreatDoor
