/-
  lustrumref1's READER OF TERMS: and, unary BY THEIR CONTRACTS.
-/
import Derived.Test.YtomgimfmcfjhdaaGreatDoorP19
namespace Go.Proofs.YtomgimfmcfjhdaaGreatDoor
open Go.RowKit
attribute [local go_sem ↓] Go.wp_at_zero Go.wp_at_succ

theorem tx_eq {l : List Tk} {i : Nat} {x : List UInt8} (h : tx l i x = true) : tkx l i = ⟨x.toArray⟩ := by
  have e : (tkx l i).toList = x := by simpa [tx] using h
  rw [toList_data] at e
  apply ByteArray.ext
  apply Array.ext'
  rw [e]
set_option maxRecDepth 100000 in
set_option maxHeartbeats 1000000 in
theorem rand_fits (n : Nat) (hK : QFits 160 .not n) : QFits 139 (.left .and) n := by
  intro C st d w T R hn
  have HK : Hid (QFits 160 .not n) := hK
  have HN : Hid (st.isAt = true → C.l.length - st.k ≤ n) := hn
  clear hK hn
  have hbl := R.blt
  have hbA : Below w.heap.size w (w.alloc rTerm) := (Below.refl _ _).alloc (Nat.le_refl _) _
  have HZ : Hid _ := heap_alloc_new w rTerm
  have RA := R.below hbA
  go_enter Tryz.func139, Tryz.ntmps139
  go_wp2_with fail
  refine (HK.out C st d _ T RA HN.out).mono ?_
  rintro e w1 ⟨hm1, st1, v1, rfl, R1, hq1⟩
  have hs1 : w.heap.size + 1 ≤ w1.heap.size := by have := hm1.size; simpa using this
  obtain ⟨op, x, s, so, m, sc, rfl⟩ := hq1.shape
  have hbB : Below w1.heap.size w1 (w1.alloc (.cells #[.string op, .int .i64 x, .string s, .slice so m sc] 94)) := (Below.refl _ _).alloc (Nat.le_refl _) _
  have HX1 : Hid ((w1.alloc (.cells #[.string op, .int .i64 x, .string s, .slice so m sc] 94)).heap[w1.heap.size]? = some (.cells #[.string op, .int .i64 x, .string s, .slice so m sc] 94 (0, 0))) := heap_alloc_new w1 _
  have HZ1 : Hid ((w1.alloc (.cells #[.string op, .int .i64 x, .string s, .slice so m sc] 94)).heap[w.heap.size]? = some rTerm) := row_keep hbB (hm1.row (k := w.heap.size) (by omega) HZ.out)
  have hM1 : Mv C.b w (w1.alloc (.cells #[.string op, .int .i64 x, .string s, .slice so m sc] 94)) := ((Mv.of_below hbA).trans hm1).trans (Mv.of_below hbB)
  have HL1 : Hid (LRel C.l .and d (fun k => w.heap.size < k ∧ k ≠ w1.heap.size) (w1.alloc (.cells #[.string op, .int .i64 x, .string s, .slice so m sc] 94)) st st1 (.agg #[.string op, .int .i64 x, .string s, .slice so m sc])) := QRel.loop (v := .and) hq1 (fun k hk hl => by
    unfold From at hk
    simp only [World.size_alloc] at hk
    exact ⟨⟨by omega, by omega⟩, hbB.block k hl⟩)
  have RB := R1.below hbB
  clear hq1
  go_wp2
  go_loopw [] (fun wr => ∃ (st' : St) (op : ByteArray) (x : Int) (s : ByteArray) (so : Option Addr) (m sc : Nat), QS C st' d wr ∧ Hid (wr.heap[w1.heap.size]? = some (.cells #[.string op, .int .i64 x, .string s, .slice so m sc] 94 (0, 0))) ∧ Hid (wr.heap[w.heap.size]? = some rTerm) ∧ Mv C.b w wr ∧ w1.heap.size < wr.heap.size ∧ Hid (LRel C.l .and d (fun k => w.heap.size < k ∧ k ≠ w1.heap.size) wr st st' (.agg #[.string op, .int .i64 x, .string s, .slice so m sc]))) (fun wr => qleft C.l wr C.b)
  case atStart => exact ⟨st1, op, x, s, so, m, sc, RB, HX1, HZ1, hM1, by simp, HL1⟩
  case round =>
    clear HL1 HX1 HZ1 RB hM1
    obtain ⟨st', op, x, s, so, m, sc, Rr, HX, HZr, hmr, hszr, HL⟩ := hrel
    cases hc : st'.tx C.l tAnd with
    | true =>
      cases st' with
      | bad j bd => cases hc
      | here j =>
        have hc' : tx C.l j tAnd = true := hc
        have e1 : (St.here j).pass C.l tAnd = .here (j + 1) := by simp only [St.pass, hc', if_true]
        go_wp2_with fail
        refine (rpass_any C _ d _ Rr T kWord _ tAnd (Or.inl ⟨by decide, rfl⟩) (by rw [ByteArray.toList_eq]; rfl) (by decide)).mono ?_
        rintro e w3 ⟨rfl, R3, hm3⟩
        rw [e1] at R3
        have hs3 := hm3.size
        simp only [hc]
        go_wp2_with fail
        refine (HK.out C (.here (j + 1)) d _ T R3 (fun _ => HL.out.left HN.out)).mono ?_
        rintro e w4 ⟨hm4, st4, v4, rfl, R4, hq4⟩
        have hs4 := hm4.size
        obtain ⟨op', x', s', so', m', sc', rfl⟩ := hq4.shape
        have HQ4 : Hid _ := hq4
        clear hq4
        have hmm : Mv C.b wr w4 := hm3.trans hm4
        have hbC : Below w4.heap.size w4 (w4.alloc (.cells #[.string op', .int .i64 x', .string s', .slice so' m' sc'] 94)) := (Below.refl _ _).alloc (Nat.le_refl _) _
        obtain ⟨d0, d1, d2, d3, _⟩ := blk4 (hmm.row (k := w1.heap.size) (by omega) HX.out)
        have HX4 : Hid _ := row_keep hbC (hmm.row (k := w1.heap.size) (by omega) HX.out)
        have HZ4 : Hid _ := row_keep hbC (hmm.row (k := w.heap.size) (by omega) HZr.out)
        have hl4 : w1.heap.size < w4.heap.size := by omega
        have hn4 : w1.heap.size ≠ w4.heap.size := by omega
        go_wp2_with fail
        refine (pair_any _ _ _ _ _ _ _ _ _ _ _ _ _ _).mono ?_
        rintro e w5 ⟨g, rfl, hg, hgc, hb5⟩
        have hs5 : w4.heap.size + 1 ≤ w5.heap.size := by have := hb5.size; simpa using this
        simp only [World.size_alloc] at hg
        have hx5 := row_keep hb5 HX4.out
        obtain ⟨z0, z1, z2, z3, zf⟩ := blk4 hx5
        have HX5 : Hid ((set4 w5 w1.heap.size (.string ⟨#[97, 110, 100]⟩) (.int .i64 0) (.string ⟨#[]⟩) (.slice (some ⟨g, 0, none⟩) 2 2)).heap[w1.heap.size]? = some (.cells #[.string ⟨#[97, 110, 100]⟩, .int .i64 0, .string ⟨#[]⟩, .slice (some ⟨g, 0, none⟩) 2 2] 94 (0, 0))) := set4_row hx5
        have HZ5 : Hid ((set4 w5 w1.heap.size (.string ⟨#[97, 110, 100]⟩) (.int .i64 0) (.string ⟨#[]⟩) (.slice (some ⟨g, 0, none⟩) 2 2)).heap[w.heap.size]? = some rTerm) := (set4_block (by omega)).trans (row_keep hb5 HZ4.out)
        have hB5 : Below w.heap.size w5 (set4 w5 w1.heap.size (.string ⟨#[97, 110, 100]⟩) (.int .i64 0) (.string ⟨#[]⟩) (.slice (some ⟨g, 0, none⟩) 2 2)) := set4_below (by omega)
        have R5 := R.upon ((R4.below hbC).below hb5) hB5
        have hM5 : Mv C.b w _ := (((hmr.trans hmm).trans (Mv.of_below hbC)).trans (Mv.of_below hb5)).upon hB5
        have StA : Stays (fun k => w.heap.size < k ∧ k ≠ w1.heap.size) (fun k => w.heap.size < k ∧ k ≠ w1.heap.size) wr (set4 w5 w1.heap.size (.string ⟨#[97, 110, 100]⟩) (.int .i64 0) (.string ⟨#[]⟩) (.slice (some ⟨g, 0, none⟩) 2 2)) := (((Stays.mv (S' := fun k => w.heap.size < k ∧ k ≠ w1.heap.size) hmm (fun k hk => ⟨by omega, hk⟩)).trans (Stays.below hbC (fun k hk => hk)) (by omega)).trans (Stays.below hb5 (fun k hk => hk)) (by simp; omega)).trans (set4_stays (fun k hk => ⟨hk.2, hk⟩)) (by omega)
        have StB : Stays (From w3.heap.size) (fun k => w.heap.size < k ∧ k ≠ w1.heap.size) w4 (set4 w5 w1.heap.size (.string ⟨#[97, 110, 100]⟩) (.int .i64 0) (.string ⟨#[]⟩) (.slice (some ⟨g, 0, none⟩) 2 2)) := ((Stays.below (S' := fun k => w.heap.size < k ∧ k ≠ w1.heap.size) hbC (fun k hk => by unfold From at hk; omega)).trans (Stays.below hb5 (fun k hk => hk)) (by simp)).trans (set4_stays (fun k hk => ⟨hk.2, hk⟩)) (by omega)
        have HL5 := LRel.more (v := .and) HL.out HQ4.out (by rw [show Lv.ops .and = [tAnd] from rfl, txs_one]; exact hc') StA StB ((set4_block (by omega)).trans hgc) ⟨by omega, by omega⟩
        rw [tx_eq hc'] at HL5
        have HL5' : Hid _ := HL5
        clear hx5 StA StB HL5
        go_wp2
        have hless := HQ4.out.less Rr R5
        refine ⟨⟨st4, ⟨#[97, 110, 100]⟩, 0, ⟨#[]⟩, some ⟨g, 0, none⟩, 2, 2, R5, HX5, HZ5, hM5, ?_, HL5'⟩, hless⟩
        have := set4_size (w := w5) (N := w1.heap.size) (a := .string ⟨#[97, 110, 100]⟩) (b := .int .i64 0) (c := .string ⟨#[]⟩) (e := .slice (some ⟨g, 0, none⟩) 2 2)
        exact Nat.lt_of_lt_of_eq (show w1.heap.size < w5.heap.size by omega) this.symm
    | false =>
      have e1 : st'.pass C.l tAnd = st' := by
        cases st' with
        | bad j bd => rfl
        | here j => have hc' : tx C.l j tAnd = false := hc; simp only [St.pass, hc', Bool.false_eq_true, if_false]
      have hst : ∀ j, st' = .here j → txs C.l j (Lv.ops .and) = false := fun j h => by
        subst h
        rw [show Lv.ops .and = [tAnd] from rfl, txs_one]; exact hc
      go_wp2_with fail
      refine (rpass_any C _ d _ Rr T kWord _ tAnd (Or.inl ⟨by decide, rfl⟩) (by rw [ByteArray.toList_eq]; rfl) (by decide)).mono ?_
      rintro e w3 ⟨rfl, R3, hm3⟩
      rw [e1] at R3
      have hs3 := hm3.size
      simp only [hc]
      obtain ⟨c0, c1, c2, c3, _⟩ := blk4 (hm3.row (k := w1.heap.size) (by omega) HX.out)
      obtain ⟨z0, z1, z2, z3, zf⟩ := blk4 (hm3.row (k := w.heap.size) (by omega) HZr.out)
      have hB : Below w.heap.size w3 (set4 w3 w.heap.size (.string op) (.int .i64 x) (.string s) (.slice so m sc)) := set4_below (Nat.le_refl _)
      go_wp2
      exact bodyPost_ret (v := .agg #[.string op, .int .i64 x, .string s, .slice so m sc]) (by simp [results, Tryz.results139, go_sem, z0, z1, z2, z3]) rfl ⟨(hmr.trans hm3).upon hB, _, _, rfl, R.upon R3 hB, HL.out.done ((Stays.mv (S' := fun k => w.heap.size < k) hm3 (fun k hk => ⟨by omega, hk.1⟩)).trans (set4_stays (fun k hk => ⟨by omega, by unfold From; omega⟩)) hs3) hst⟩
end Go.Proofs.YtomgimfmcfjhdaaGreatDoor

/-
  lustrumref1's READER OF TERMS: unary BY ITS CONTRACT.
-/
namespace Go.Proofs.YtomgimfmcfjhdaaGreatDoor
open Go.RowKit
attribute [local go_sem ↓] Go.wp_at_zero Go.wp_at_succ

/-- A term behind what opens. -/
theorem QRel.pre {l : List Tk} {c c' : Cd} {d base base1 g i : Nat} {w3 w' : World} {st3 : St} {o op : ByteArray} {x : Int} {s : ByteArray} {so : Option Addr} {m sc : Nat} {t : TypeId} (h : QRel l c (d + 1) base1 w3 ((St.here i).down d) st3 (.agg #[.string op, .int .i64 x, .string s, .slice so m sc])) (k1 : Stays (From base1) (From base) w3 w') (hg : w'.heap[g]? = some (.cells #[.string op, .int .i64 x, .string s, .slice so m sc] t (0, 0))) (hgb : base ≤ g)
    (hok : ∀ e j, d ≠ 20 → Parse l c (i + 1) (d + 1) (.ok [e] j) → Parse l c' i d (.ok [.mk o 0 b0 [e]] j)) (hbad : ∀ j bd, d ≠ 20 → Parse l c (i + 1) (d + 1) (.bad j bd) → Parse l c' i d (.bad j bd)) (hdeep : d = 20 → Parse l c' i d (.bad i true)) :
    QRel l c' d base w' (.here i) st3 (.agg #[.string o, .int .i64 0, .string ⟨#[]⟩, .slice (some ⟨g, 0, none⟩) 1 1]) := by
  by_cases hd : d = 20
  · subst hd
    rw [show (St.here i).down 20 = .bad i true from rfl] at h
    cases h
    exact .fail i i true _ (hdeep rfl) ⟨_, _, _, _, _, _, rfl⟩
  · rw [show (St.here i).down d = .here (i + 1) from by simp only [St.down, if_neg hd]] at h
    generalize hv : Value.agg #[.string op, .int .i64 x, .string s, .slice so m sc] = v at h
    cases h with
    | ok _ j op' x' s' es so' sc' ys hp hij hrow hin =>
      injection hv with hv
      simp only [Array.mk.injEq, List.cons.injEq, Value.string.injEq, Value.int.injEq, Value.slice.injEq, true_and, and_true] at hv
      obtain ⟨rfl, rfl, rfl, rfl, rfl, rfl⟩ := hv
      exact .ok i j _ _ _ [_] _ _ _ (hok _ j hd hp) (by omega) (RowAt.blk hg rfl rfl (by simp [maxLen]) hgb) (.cons _ _ _ _ _ _ _ _ (hrow.keep k1) (hin.keep k1) .nil)
    | fail _ j bd _ hp _ => exact .fail i j bd _ (hbad j bd hd hp) ⟨_, _, _, _, _, _, rfl⟩
/-- Where what stands there may open. -/
theorem down_left {C : Qc} {i d n : Nat} (hn : C.l.length - i ≤ n) (hi : i < C.l.length) : ((St.here i).down d).isAt = true → C.l.length - ((St.here i).down d).k ≤ n - 1 := fun h => by
  by_cases hd : d = 20
  · subst hd; cases h
  · simp only [St.down, if_neg hd, St.k]; omega

set_option maxRecDepth 100000 in
set_option maxHeartbeats 1000000 in
theorem runary_fits (n : Nat) (hU : ∀ m, m < n → QFits 183 .un m) (hA : QFits 189 .atom n) : QFits 183 .un n := by
  intro C st d w T R hn
  have HU : Hid (∀ m, m < n → QFits 183 .un m) := hU
  have HA : Hid (QFits 189 .atom n) := hA
  have HN : Hid (st.isAt = true → C.l.length - st.k ≤ n) := hn
  clear hU hA hn
  have hlt := R.lt
  have hbl := R.blt
  have hbA : Below w.heap.size w (w.alloc rTerm) := (Below.refl _ _).alloc (Nat.le_refl _) _
  have HZ : Hid _ := heap_alloc_new w rTerm
  have RA := R.below hbA
  have HM : Hid _ := isB_tx RA T (k := kOp) (xb := ⟨#[45]⟩) (x := tMinus) (Or.inr ⟨by decide, rfl⟩) (by rw [ByteArray.toList_eq]; rfl)
  have HP : Hid _ := isB_tx RA T (k := kWord) (xb := ⟨#[112, 114, 101]⟩) (x := tPre) (Or.inl ⟨by decide, rfl⟩) (by rw [ByteArray.toList_eq]; rfl)
  cases hm : st.tx C.l tMinus with
  | true =>
    cases st with
    | bad j bd => cases hm
    | here i =>
      have ht' : tx C.l i tMinus = true := hm
      have hi : i + 1 < C.l.length := T.next_tx R.lt ht'
      have hlt' : i < C.l.length := hlt
      have hn' : C.l.length - i ≤ n := HN.out rfl
      have hp : (St.here i).tx C.l tPre = false := by
          show Proofs.YtomgimfmcfjhdaaGreatDoor.tx C.l i tPre = false
          have e : (tkx C.l i).toList = tMinus := by simpa [tx] using ht'
          rw [tx, e]; rfl
      go_enter Tryz.func183, Tryz.ntmps183
      go_wp2_with fail
      refine (ris_any C _ d _ RA kOp _).mono ?_
      rintro e w1 ⟨rfl, n1, rfl⟩
      simp only [HM.out, hm]
      go_wp2_with fail
      refine (ris_any C _ d _ (RA.drewN n1) kWord _).mono ?_
      rintro e w1 ⟨rfl, n2, rfl⟩
      simp only [HP.out, hp]
      have hbD : Below (w.alloc rTerm).heap.size (w.alloc rTerm) ((w.alloc rTerm).drewN (n1 + n2)) := below_drewN (Below.refl _ _) (n1 + n2)
      go_wp2_with fail
      refine (rdown_any C i d _ (RA.below hbD) hi).mono ?_
      rintro e w2 ⟨rfl, R2, hm2⟩
      have hs2 : w.heap.size + 1 ≤ w2.heap.size := by have := hm2.size; simpa using this
      have hM2 : Mv C.b w w2 := ((Mv.of_below hbA).trans (Mv.of_below hbD)).trans hm2
      go_wp2_with fail
      refine (HU.out (n - 1) (by omega) C _ (d + 1) _ T R2 (down_left hn' hlt')).mono ?_
      rintro e w3 ⟨hm3, st3, v3, rfl, R3, hq3⟩
      obtain ⟨op, x, s, so, m, sc, rfl⟩ := hq3.shape
      have HQ3 : Hid _ := hq3
      clear hq3
      have hs3 := hm3.size
      have hM3 := hM2.trans hm3
      have hlt3 : w.heap.size < w3.heap.size := by omega
      have hne3 : w.heap.size ≠ w3.heap.size := by omega
      obtain ⟨z0, z1, z2, z3, zf⟩ := blk4 (hm3.row (by omega) (hm2.row (by omega) (row_keep hbD HZ.out)))
      have c2 := R3.c2
      have f2 := R3.fz 2
      have hdp := R3.dp
      have hbn : C.b ≠ w.heap.size := by omega
      have hbl3 : C.b < w3.heap.size := by omega
      have hbn3 : C.b ≠ w3.heap.size := by omega
      go_wp2
      have R4 : QS C st3 d (w3.setCell ⟨C.b, 2, none⟩ (.int .i64 d)) := R3.set2 rfl (by omega) (fun h => by have := R3.da h; omega)
      have hM4 : Mv C.b w (w3.setCell ⟨C.b, 2, none⟩ (.int .i64 d)) := hM3.trans (Mv.setAt _ _ _ _)
      have hl4 : w.heap.size < (w3.setCell ⟨C.b, 2, none⟩ (.int .i64 d)).heap.size := by rw [set2_size]; exact hlt3
      have hB : Below w.heap.size (w3.setCell ⟨C.b, 2, none⟩ (.int .i64 d)) (((set4 (w3.setCell ⟨C.b, 2, none⟩ (.int .i64 d)) w.heap.size (.string ⟨#[110, 101, 103]⟩) (.int .i64 0) (.string ⟨#[]⟩) (.slice (some ⟨w3.heap.size + 1, 0, none⟩) 1 1)).alloc (.cells #[.string op, .int .i64 x, .string s, .slice so m sc] 94)).alloc (.cells #[.string op, .int .i64 x, .string s, .slice so m sc] 94)) := build4b_below hl4
      refine bodyPost_ret (v := .agg #[.string ⟨#[110, 101, 103]⟩, .int .i64 0, .string ⟨#[]⟩, .slice (some ⟨w3.heap.size + 1, 0, none⟩) 1 1]) (by simp [results, Tryz.results183, go_sem, z0, z1, z2, z3, hlt3]) rfl ⟨hM4.upon hB, st3, _, rfl, R.upon R4 hB, ?_⟩
      have hg := two_new (set4 (w3.setCell ⟨C.b, 2, none⟩ (.int .i64 d)) w.heap.size (.string ⟨#[110, 101, 103]⟩) (.int .i64 0) (.string ⟨#[]⟩) (.slice (some ⟨w3.heap.size + 1, 0, none⟩) 1 1)) (.cells #[.string op, .int .i64 x, .string s, .slice so m sc] 94) (.cells #[.string op, .int .i64 x, .string s, .slice so m sc] 94)
      rw [set4_size, set2_size] at hg
      have St : Stays (From w2.heap.size) (From w.heap.size) w3 (((set4 (w3.setCell ⟨C.b, 2, none⟩ (.int .i64 d)) w.heap.size (.string ⟨#[110, 101, 103]⟩) (.int .i64 0) (.string ⟨#[]⟩) (.slice (some ⟨w3.heap.size + 1, 0, none⟩) 1 1)).alloc (.cells #[.string op, .int .i64 x, .string s, .slice so m sc] 94)).alloc (.cells #[.string op, .int .i64 x, .string s, .slice so m sc] 94)) := (((Stays.set (S' := fun k => w.heap.size < k) (p := ⟨C.b, 2, none⟩) (.int .i64 d) (fun k hk => by unfold From at hk; exact ⟨by show k ≠ C.b; omega, by omega⟩)).trans (set4_stays (S' := From w.heap.size) (fun k hk => ⟨by omega, by unfold From; omega⟩)) (by simp)).trans (Stays.alloc _ (fun k hk => hk)) (by rw [set4_size]; simp)).trans (Stays.alloc _ (fun k hk => hk)) (by simp [set4_size])
      exact HQ3.out.pre St hg (by omega) (fun e j hd hp => Run.ifT ht' (Run.down hd (Run.then hp Run.done))) (fun j bd hd hp => Run.ifT ht' (Run.down hd (Run.stop hp))) (fun hd => Run.ifT ht' (Run.deep hd))
  | false =>
    cases hp : st.tx C.l tPre with
    | true =>
      cases st with
      | bad j bd => cases hp
      | here i =>
        have ht' : tx C.l i tPre = true := hp
        have hi : i + 1 < C.l.length := T.next_tx R.lt ht'
        have hlt' : i < C.l.length := hlt
        have hn' : C.l.length - i ≤ n := HN.out rfl
        have hm' : tx C.l i tMinus = false := hm
        go_enter Tryz.func183, Tryz.ntmps183
        go_wp2_with fail
        refine (ris_any C _ d _ RA kOp _).mono ?_
        rintro e w1 ⟨rfl, n1, rfl⟩
        simp only [HM.out, hm]
        go_wp2_with fail
        refine (ris_any C _ d _ (RA.drewN n1) kWord _).mono ?_
        rintro e w1 ⟨rfl, n2, rfl⟩
        simp only [HP.out, hp]
        have hbD : Below (w.alloc rTerm).heap.size (w.alloc rTerm) ((w.alloc rTerm).drewN (n1 + n2)) := below_drewN (Below.refl _ _) (n1 + n2)
        go_wp2_with fail
        refine (rdown_any C i d _ (RA.below hbD) hi).mono ?_
        rintro e w2 ⟨rfl, R2, hm2⟩
        have hs2 : w.heap.size + 1 ≤ w2.heap.size := by have := hm2.size; simpa using this
        have hM2 : Mv C.b w w2 := ((Mv.of_below hbA).trans (Mv.of_below hbD)).trans hm2
        go_wp2_with fail
        refine (HU.out (n - 1) (by omega) C _ (d + 1) _ T R2 (down_left hn' hlt')).mono ?_
        rintro e w3 ⟨hm3, st3, v3, rfl, R3, hq3⟩
        obtain ⟨op, x, s, so, m, sc, rfl⟩ := hq3.shape
        have HQ3 : Hid _ := hq3
        clear hq3
        have hs3 := hm3.size
        have hM3 := hM2.trans hm3
        have hlt3 : w.heap.size < w3.heap.size := by omega
        have hne3 : w.heap.size ≠ w3.heap.size := by omega
        obtain ⟨z0, z1, z2, z3, zf⟩ := blk4 (hm3.row (by omega) (hm2.row (by omega) (row_keep hbD HZ.out)))
        have c2 := R3.c2
        have f2 := R3.fz 2
        have hdp := R3.dp
        have hbn : C.b ≠ w.heap.size := by omega
        have hbl3 : C.b < w3.heap.size := by omega
        have hbn3 : C.b ≠ w3.heap.size := by omega
        go_wp2
        have R4 : QS C st3 d (w3.setCell ⟨C.b, 2, none⟩ (.int .i64 d)) := R3.set2 rfl (by omega) (fun h => by have := R3.da h; omega)
        have hM4 : Mv C.b w (w3.setCell ⟨C.b, 2, none⟩ (.int .i64 d)) := hM3.trans (Mv.setAt _ _ _ _)
        have hl4 : w.heap.size < (w3.setCell ⟨C.b, 2, none⟩ (.int .i64 d)).heap.size := by rw [set2_size]; exact hlt3
        have hB : Below w.heap.size (w3.setCell ⟨C.b, 2, none⟩ (.int .i64 d)) (((set4 (w3.setCell ⟨C.b, 2, none⟩ (.int .i64 d)) w.heap.size (.string ⟨#[112, 114, 101]⟩) (.int .i64 0) (.string ⟨#[]⟩) (.slice (some ⟨w3.heap.size + 1, 0, none⟩) 1 1)).alloc (.cells #[.string op, .int .i64 x, .string s, .slice so m sc] 94)).alloc (.cells #[.string op, .int .i64 x, .string s, .slice so m sc] 94)) := build4b_below hl4
        refine bodyPost_ret (v := .agg #[.string ⟨#[112, 114, 101]⟩, .int .i64 0, .string ⟨#[]⟩, .slice (some ⟨w3.heap.size + 1, 0, none⟩) 1 1]) (by simp [results, Tryz.results183, go_sem, z0, z1, z2, z3, hlt3]) rfl ⟨hM4.upon hB, st3, _, rfl, R.upon R4 hB, ?_⟩
        have hg := two_new (set4 (w3.setCell ⟨C.b, 2, none⟩ (.int .i64 d)) w.heap.size (.string ⟨#[112, 114, 101]⟩) (.int .i64 0) (.string ⟨#[]⟩) (.slice (some ⟨w3.heap.size + 1, 0, none⟩) 1 1)) (.cells #[.string op, .int .i64 x, .string s, .slice so m sc] 94) (.cells #[.string op, .int .i64 x, .string s, .slice so m sc] 94)
        rw [set4_size, set2_size] at hg
        have St : Stays (From w2.heap.size) (From w.heap.size) w3 (((set4 (w3.setCell ⟨C.b, 2, none⟩ (.int .i64 d)) w.heap.size (.string ⟨#[112, 114, 101]⟩) (.int .i64 0) (.string ⟨#[]⟩) (.slice (some ⟨w3.heap.size + 1, 0, none⟩) 1 1)).alloc (.cells #[.string op, .int .i64 x, .string s, .slice so m sc] 94)).alloc (.cells #[.string op, .int .i64 x, .string s, .slice so m sc] 94)) := (((Stays.set (S' := fun k => w.heap.size < k) (p := ⟨C.b, 2, none⟩) (.int .i64 d) (fun k hk => by unfold From at hk; exact ⟨by show k ≠ C.b; omega, by omega⟩)).trans (set4_stays (S' := From w.heap.size) (fun k hk => ⟨by omega, by unfold From; omega⟩)) (by simp)).trans (Stays.alloc _ (fun k hk => hk)) (by rw [set4_size]; simp)).trans (Stays.alloc _ (fun k hk => hk)) (by simp [set4_size])
        exact HQ3.out.pre St hg (by omega) (fun e j hd hp => Run.ifF hm' (Run.ifT ht' (Run.down hd (Run.then hp Run.done)))) (fun j bd hd hp => Run.ifF hm' (Run.ifT ht' (Run.down hd (Run.stop hp)))) (fun hd => Run.ifF hm' (Run.ifT ht' (Run.deep hd)))
    | false =>
      go_enter Tryz.func183, Tryz.ntmps183
      go_wp2_with fail
      refine (ris_any C _ d _ RA kOp _).mono ?_
      rintro e w1 ⟨rfl, n1, rfl⟩
      simp only [HM.out, hm]
      go_wp2_with fail
      refine (ris_any C _ d _ (RA.drewN n1) kWord _).mono ?_
      rintro e w1 ⟨rfl, n2, rfl⟩
      simp only [HP.out, hp]
      have hbD : Below (w.alloc rTerm).heap.size (w.alloc rTerm) ((w.alloc rTerm).drewN (n1 + n2)) := below_drewN (Below.refl _ _) (n1 + n2)
      go_wp2_with fail
      refine (HA.out C st d _ T (RA.below hbD) HN.out).mono ?_
      rintro e w2 ⟨hm2, st2, v2, rfl, R2, hq2⟩
      have hs2 : w.heap.size + 1 ≤ w2.heap.size := by have := hm2.size; simpa using this
      have hM2 : Mv C.b w w2 := ((Mv.of_below hbA).trans (Mv.of_below hbD)).trans hm2
      obtain ⟨op, x, s, so, m, sc, rfl⟩ := hq2.shape
      have HQ2 : Hid _ := hq2
      clear hq2
      obtain ⟨z0, z1, z2, z3, zf⟩ := blk4 (hm2.row (by omega) (row_keep hbD HZ.out))
      have hB : Below w.heap.size w2 (set4 w2 w.heap.size (.string op) (.int .i64 x) (.string s) (.slice so m sc)) := set4_below (Nat.le_refl _)
      have hsz : ((w.alloc rTerm).drewN (n1 + n2)).heap.size = w.heap.size + 1 := by simp
      rw [hsz] at HQ2
      have h0 : ∀ i, st = .here i → tx C.l i tMinus = false ∧ tx C.l i tPre = false := fun i h => by subst h; exact ⟨hm, hp⟩
      go_wp2
      exact bodyPost_ret (v := .agg #[.string op, .int .i64 x, .string s, .slice so m sc]) (by simp [results, Tryz.results183, go_sem, z0, z1, z2, z3]) rfl ⟨hM2.upon hB, _, _, rfl, R.upon R2 hB, HQ2.out.move (set4_stays (fun k hk => by unfold From at *; omega)) (fun i j e h1 h2 hq => Run.ifF (h0 i h1).1 (Run.ifF (h0 i h1).2 (Run.tail hq))) (fun i j bd h1 hq => Run.ifF (h0 i h1).1 (Run.ifF (h0 i h1).2 (Run.tail hq)))⟩
end Go.Proofs.YtomgimfmcfjhdaaGreatDoor

/-
  lustrumref1's READER OF TERMS: term BY ITS CONTRACT.
-/
namespace Go.Proofs.YtomgimfmcfjhdaaGreatDoor
open Go.RowKit
attribute [local go_sem ↓] Go.wp_at_zero Go.wp_at_succ

theorem agg_inj {op op' : ByteArray} {x x' : Int} {s s' : ByteArray} {so so' : Option Addr} {m m' sc sc' : Nat} (h : Value.agg #[.string op, .int .i64 x, .string s, .slice so m sc] = .agg #[.string op', .int .i64 x', .string s', .slice so' m' sc']) : op = op' ∧ x = x' ∧ s = s' ∧ so = so' ∧ m = m' ∧ sc = sc' := by
  injection h with h
  simp only [Array.mk.injEq, List.cons.injEq, Value.string.injEq, Value.int.injEq, Value.slice.injEq, true_and, and_true] at h
  exact h
/-- What a value is where a term was read. -/
theorem QRel.inv {l : List Tk} {c : Cd} {d base : Nat} {w' : World} {i j : Nat} {op : ByteArray} {x : Int} {s : ByteArray} {so : Option Addr} {m sc : Nat} (h : QRel l c d base w' (.here i) (.here j) (.agg #[.string op, .int .i64 x, .string s, .slice so m sc])) : ∃ es ys, m = es.length ∧ Parse l c i d (.ok [.mk op x s es] j) ∧ i < j ∧ RowAt w' (From base) 4 (.slice so m sc) m ys ∧ ExIn w' (From base) es ys := by
  generalize hv : Value.agg #[.string op, .int .i64 x, .string s, .slice so m sc] = v at h
  cases h with
  | ok _ _ op' x' s' es so' sc' ys hp hij hrow hin =>
    obtain ⟨rfl, rfl, rfl, rfl, rfl, rfl⟩ := agg_inj hv
    exact ⟨es, ys, rfl, hp, hij, hrow, hin⟩
theorem QRel.badOf {l : List Tk} {c : Cd} {d base : Nat} {w' : World} {i j : Nat} {bd : Bool} {v : Value} (h : QRel l c d base w' (.here i) (.bad j bd) v) : Parse l c i d (.bad j bd) := by
  cases h with
  | fail _ _ _ _ hp _ => exact hp
theorem QRel.stays {l : List Tk} {c : Cd} {d base : Nat} {w' : World} {j : Nat} {bd : Bool} {st : St} {v : Value} (h : QRel l c d base w' (.bad j bd) st v) : st = .bad j bd := by
  cases h with
  | stay _ _ _ _ => rfl
theorem want_left {C : Qc} {c : Cd} {d base n : Nat} {w' : World} {st st' : St} {v : Value} {x : List UInt8} (h : QRel C.l c d base w' st st' v) (hn : st.isAt = true → C.l.length - st.k ≤ n) : (st'.want C.l x).isAt = true → C.l.length - (st'.want C.l x).k ≤ n := fun hw => by
  cases h with
  | ok i j op y s es so sc ys hp hij =>
    simp only [St.want] at hw ⊢
    split at hw
    · rename_i h'
      have := hn rfl
      simp only [St.k] at this
      simp only [h', if_true, St.k]; omega
    · cases hw
  | fail => cases hw
  | stay => cases hw

set_option maxRecDepth 100000 in
set_option maxHeartbeats 1000000 in
theorem rterm_if (n : Nat) (hT : ∀ m, m < n → QFits 83 .term m) (C : Qc) (i d : Nat) (w : World) (T : Tkl C.l) (R : QS C (.here i) d w) (hn : C.l.length - i ≤ n) (ht : tx C.l i tIf = true) :
    Calls Tryz.prog 83 #[.pointer (some ⟨C.b, 0, none⟩)] w (QRet C .term (.here i) d w) := by
  have HT : Hid (∀ m, m < n → QFits 83 .term m) := hT
  clear hT
  have hlt : i < C.l.length := R.lt
  have hbl := R.blt
  have hi : i + 1 < C.l.length := T.next_tx R.lt ht
  have hbA : Below w.heap.size w (w.alloc rTerm) := (Below.refl _ _).alloc (Nat.le_refl _) _
  have HZ : Hid _ := heap_alloc_new w rTerm
  have RA := R.below hbA
  have HB : Hid _ := isB_tx RA T (k := kWord) (xb := ⟨#[105, 102]⟩) (x := tIf) (Or.inl ⟨by decide, rfl⟩) (by rw [ByteArray.toList_eq]; rfl)
  have ht1 : (St.here i).tx C.l tIf = true := ht
  go_enter Tryz.func83, Tryz.ntmps83
  go_wp2_with fail
  refine (ris_any C _ d _ RA kWord _).mono ?_
  rintro e w1 ⟨rfl, n1, rfl⟩
  simp only [HB.out, ht1]
  have hbD : Below (w.alloc rTerm).heap.size (w.alloc rTerm) ((w.alloc rTerm).drewN n1) := below_drewN (Below.refl _ _) n1
  go_wp2_with fail
  refine (rdown_any C i d _ (RA.drewN n1) hi).mono ?_
  rintro e w2 ⟨rfl, R2, hm2⟩
  have hs2 : w.heap.size + 1 ≤ w2.heap.size := by have := hm2.size; simpa using this
  have hM2 : Mv C.b w w2 := ((Mv.of_below hbA).trans (Mv.of_below hbD)).trans hm2
  have HZ2 : Hid _ := hm2.row (k := w.heap.size) (by omega) (row_keep hbD HZ.out)
  go_wp2_with fail
  refine (HT.out (n - 1) (by omega) C _ (d + 1) _ T R2 (down_left hn hlt)).mono ?_
  rintro e w3 ⟨hm3, st3, v3, rfl, R3, hq3⟩
  have hs3 := hm3.size
  obtain ⟨op1, x1, s1, so1, m1, sc1, rfl⟩ := hq3.shape
  have HQ3 : Hid _ := hq3
  clear hq3
  have hb3 : Below w3.heap.size w3 (w3.alloc (.cells #[.string op1, .int .i64 x1, .string s1, .slice so1 m1 sc1] 94)) := (Below.refl _ _).alloc (Nat.le_refl _) _
  have HX3 : Hid _ := heap_alloc_new w3 (.cells #[.string op1, .int .i64 x1, .string s1, .slice so1 m1 sc1] 94)
  go_wp2_with fail
  refine (rwant_any C st3 (d + 1) _ (R3.below hb3) T kWord _ tThen (Or.inl ⟨by decide, rfl⟩) (by rw [ByteArray.toList_eq]; rfl) (by decide)).mono ?_
  rintro e w4 ⟨rfl, R4, hm4⟩
  have hs4 : w3.heap.size + 1 ≤ w4.heap.size := by have := hm4.size; simpa using this
  go_wp2_with fail
  refine (HT.out (n - 1) (by omega) C _ (d + 1) _ T R4 (want_left HQ3.out (down_left hn hlt))).mono ?_
  rintro e w5 ⟨hm5, st5, v5, rfl, R5, hq5⟩
  have hs5 := hm5.size
  obtain ⟨op2, x2, s2, so2, m2, sc2, rfl⟩ := hq5.shape
  have HQ5 : Hid _ := hq5
  clear hq5
  have hb5 : Below w5.heap.size w5 (w5.alloc (.cells #[.string op2, .int .i64 x2, .string s2, .slice so2 m2 sc2] 94)) := (Below.refl _ _).alloc (Nat.le_refl _) _
  have HX5 : Hid _ := heap_alloc_new w5 (.cells #[.string op2, .int .i64 x2, .string s2, .slice so2 m2 sc2] 94)
  go_wp2_with fail
  refine (rwant_any C st5 (d + 1) _ (R5.below hb5) T kWord _ tElse (Or.inl ⟨by decide, rfl⟩) (by rw [ByteArray.toList_eq]; rfl) (by decide)).mono ?_
  rintro e w6 ⟨rfl, R6, hm6⟩
  have hs6 : w5.heap.size + 1 ≤ w6.heap.size := by have := hm6.size; simpa using this
  go_wp2_with fail
  refine (HT.out (n - 1) (by omega) C _ (d + 1) _ T R6 (want_left HQ5.out (want_left HQ3.out (down_left hn hlt)))).mono ?_
  rintro e w7 ⟨hm7, st7, v7, rfl, R7, hq7⟩
  have hs7 := hm7.size
  obtain ⟨op3, x3, s3, so3, m3, sc3, rfl⟩ := hq7.shape
  have HQ7 : Hid _ := hq7
  clear hq7
  have hmA : Mv C.b (w3.alloc (.cells #[.string op1, .int .i64 x1, .string s1, .slice so1 m1 sc1] 94)) w7 := ((hm4.trans hm5).trans (Mv.of_below hb5)).trans (hm6.trans hm7)
  have hmB : Mv C.b (w5.alloc (.cells #[.string op2, .int .i64 x2, .string s2, .slice so2 m2 sc2] 94)) w7 := hm6.trans hm7
  have hM7 : Mv C.b w w7 := ((hM2.trans hm3).trans (Mv.of_below hb3)).trans hmA
  obtain ⟨z0, z1, z2, z3, zf⟩ := blk4 (hmA.row (k := w.heap.size) (by omega) (row_keep hb3 (hm3.row (by omega) HZ2.out)))
  obtain ⟨a0, a1, a2, a3, _⟩ := blk4 (hmA.row (k := w3.heap.size) (by omega) HX3.out)
  obtain ⟨p0, p1, p2, p3, _⟩ := blk4 (hmB.row (k := w5.heap.size) (by omega) HX5.out)
  have c2 := R7.c2
  have f2 := R7.fz 2
  have hdp := R7.dp
  have hbl7 : C.b < w7.heap.size := by omega
  have l0 : w.heap.size < w7.heap.size := by omega
  have l3 : w3.heap.size < w7.heap.size := by omega
  have l5 : w5.heap.size < w7.heap.size := by omega
  have n0 : w.heap.size ≠ w7.heap.size := by omega
  have n3 : w3.heap.size ≠ w7.heap.size := by omega
  have n5 : w5.heap.size ≠ w7.heap.size := by omega
  have nb : C.b ≠ w7.heap.size := by omega
  have nb0 : C.b ≠ w.heap.size := by omega
  have nb3 : C.b ≠ w3.heap.size := by omega
  have nb5 : C.b ≠ w5.heap.size := by omega
  go_wp2
  have R8 : QS C st7 d (w7.setCell ⟨C.b, 2, none⟩ (.int .i64 d)) := R7.set2 rfl (by omega) (fun h => by have := R7.da h; omega)
  have hM8 : Mv C.b w (w7.setCell ⟨C.b, 2, none⟩ (.int .i64 d)) := hM7.trans (Mv.setAt _ _ _ _)
  have hl8 : w.heap.size < (w7.setCell ⟨C.b, 2, none⟩ (.int .i64 d)).heap.size := by rw [set2_size]; exact l0
  have hB : Below w.heap.size (w7.setCell ⟨C.b, 2, none⟩ (.int .i64 d)) (((set4 (w7.setCell ⟨C.b, 2, none⟩ (.int .i64 d)) w.heap.size (.string ⟨#[105, 102]⟩) (.int .i64 0) (.string ⟨#[]⟩) (.slice (some ⟨w7.heap.size + 1, 0, none⟩) 3 3)).alloc (.cells #[.string op3, .int .i64 x3, .string s3, .slice so3 m3 sc3] 94)).alloc (.cells #[.string op1, .int .i64 x1, .string s1, .slice so1 m1 sc1, .string op2, .int .i64 x2, .string s2, .slice so2 m2 sc2, .string op3, .int .i64 x3, .string s3, .slice so3 m3 sc3] 94)) := build4b_below hl8
  refine bodyPost_ret (v := .agg #[.string ⟨#[105, 102]⟩, .int .i64 0, .string ⟨#[]⟩, .slice (some ⟨w7.heap.size + 1, 0, none⟩) 3 3]) (by simp [results, Tryz.results83, go_sem, z0, z1, z2, z3, l0]) rfl ⟨hM8.upon hB, st7, _, rfl, R.upon R8 hB, ?_⟩
  have fin : ∀ j bd, st7 = .bad j bd → Parse C.l .term i d (.bad j bd) → QRel C.l .term d w.heap.size (((set4 (w7.setCell ⟨C.b, 2, none⟩ (.int .i64 d)) w.heap.size (.string ⟨#[105, 102]⟩) (.int .i64 0) (.string ⟨#[]⟩) (.slice (some ⟨w7.heap.size + 1, 0, none⟩) 3 3)).alloc (.cells #[.string op3, .int .i64 x3, .string s3, .slice so3 m3 sc3] 94)).alloc (.cells #[.string op1, .int .i64 x1, .string s1, .slice so1 m1 sc1, .string op2, .int .i64 x2, .string s2, .slice so2 m2 sc2, .string op3, .int .i64 x3, .string s3, .slice so3 m3 sc3] 94)) (.here i) st7 (.agg #[.string ⟨#[105, 102]⟩, .int .i64 0, .string ⟨#[]⟩, .slice (some ⟨w7.heap.size + 1, 0, none⟩) 3 3]) := fun j bd h hp => by
    subst h; exact .fail i j bd _ hp ⟨_, _, _, _, _, _, rfl⟩
  have q3 := HQ3.out
  have q5 := HQ5.out
  have q7 := HQ7.out
  by_cases hd : d = 20
  · subst hd
    rw [show (St.here i).down 20 = .bad i true from rfl] at q3
    obtain rfl := q3.stays
    obtain rfl := q5.stays
    exact fin i true q7.stays (Run.ifT ht (Run.deep rfl))
  · rw [show (St.here i).down d = .here (i + 1) from by simp only [St.down, if_neg hd]] at q3
    cases st3 with
    | bad j bd =>
      obtain rfl := q5.stays
      exact fin j bd q7.stays (Run.ifT ht (Run.down hd (Run.stop q3.badOf)))
    | here j =>
      obtain ⟨es1, ys1, e1, hp1, hij1, hrow1, hin1⟩ := q3.inv
      cases hx1 : tx C.l j tThen with
      | false =>
        rw [show (St.here j).want C.l tThen = .bad j false from by simp only [St.want, hx1, Bool.false_eq_true, if_false]] at q5
        obtain rfl := q5.stays
        exact fin j false q7.stays (Run.ifT ht (Run.down hd (Run.then hp1 (Run.unexp hx1))))
      | true =>
        rw [show (St.here j).want C.l tThen = .here (j + 1) from by simp only [St.want, hx1, if_true]] at q5
        cases st5 with
        | bad k bd => exact fin k bd q7.stays (Run.ifT ht (Run.down hd (Run.then hp1 (Run.exp hx1 (Run.stop q5.badOf)))))
        | here k =>
          obtain ⟨es2, ys2, e2, hp2, hij2, hrow2, hin2⟩ := q5.inv
          cases hx2 : tx C.l k tElse with
          | false =>
            rw [show (St.here k).want C.l tElse = .bad k false from by simp only [St.want, hx2, Bool.false_eq_true, if_false]] at q7
            exact fin k false q7.stays (Run.ifT ht (Run.down hd (Run.then hp1 (Run.exp hx1 (Run.then hp2 (Run.unexp hx2))))))
          | true =>
            rw [show (St.here k).want C.l tElse = .here (k + 1) from by simp only [St.want, hx2, if_true]] at q7
            cases st7 with
            | bad o bd => exact fin o bd rfl (Run.ifT ht (Run.down hd (Run.then hp1 (Run.exp hx1 (Run.then hp2 (Run.exp hx2 (Run.stop q7.badOf)))))))
            | here o =>
              obtain ⟨es3, ys3, e3, hp3, hij3, hrow3, hin3⟩ := q7.inv
              subst e1 e2 e3
              have St1 : Stays (From w2.heap.size) (fun k => w.heap.size < k) w3 (w7.setCell ⟨C.b, 2, none⟩ (.int .i64 d)) := ((Stays.below (S' := fun k => w.heap.size < k) hb3 (fun k hk => by unfold From at hk; omega)).trans (Stays.mv (S' := fun k => w.heap.size < k) hmA (fun k hk => ⟨by omega, hk⟩)) (by simp)).trans (Stays.set (p := ⟨C.b, 2, none⟩) _ (fun k hk => ⟨by show k ≠ C.b; omega, hk⟩)) (by omega)
              have St2 : Stays (From w4.heap.size) (fun k => w.heap.size < k) w5 (w7.setCell ⟨C.b, 2, none⟩ (.int .i64 d)) := ((Stays.below (S' := fun k => w.heap.size < k) hb5 (fun k hk => by unfold From at hk; omega)).trans (Stays.mv (S' := fun k => w.heap.size < k) hmB (fun k hk => ⟨by omega, hk⟩)) (by simp)).trans (Stays.set (p := ⟨C.b, 2, none⟩) _ (fun k hk => ⟨by show k ≠ C.b; omega, hk⟩)) (by omega)
              have St3 : Stays (From w6.heap.size) (fun k => w.heap.size < k) w7 (w7.setCell ⟨C.b, 2, none⟩ (.int .i64 d)) := Stays.set (p := ⟨C.b, 2, none⟩) _ (fun k hk => by unfold From at hk; exact ⟨by show k ≠ C.b; omega, by omega⟩)
              have hE := build4b (t := 94) (a := .string ⟨#[105, 102]⟩) (b := .int .i64 0) (c := .string ⟨#[]⟩) (.cells #[.string op3, .int .i64 x3, .string s3, .slice so3 es3.length sc3] 94) (ExIn.cons op1 x1 s1 es1 _ _ ys1 _ (hrow1.keep St1) (hin1.keep St1) (.cons op2 x2 s2 es2 _ _ ys2 _ (hrow2.keep St2) (hin2.keep St2) (.cons op3 x3 s3 es3 _ _ ys3 _ (hrow3.keep St3) (hin3.keep St3) .nil))) (fun k hk => hk) hl8 3 rfl (by simp [maxLen]) #[.string op1, .int .i64 x1, .string s1, .slice so1 es1.length sc1, .string op2, .int .i64 x2, .string s2, .slice so2 es2.length sc2, .string op3, .int .i64 x3, .string s3, .slice so3 es3.length sc3] rfl (w7.heap.size + 1) (by rw [set2_size])
              have hP := Parse.ifMore ht hd hp1 hx1 hp2 hx2 hp3
              rw [tx_eq ht] at hP
              exact .ok i o _ _ _ _ _ _ _ hP (by omega) hE.1 hE.2
end Go.Proofs.YtomgimfmcfjhdaaGreatDoor
