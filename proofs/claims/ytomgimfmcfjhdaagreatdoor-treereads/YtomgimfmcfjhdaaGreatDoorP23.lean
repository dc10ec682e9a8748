/-
  lustrumref1's READER OF NODES: one, vars BY THEIR CONTRACTS.
-/
import Derived.Test.YtomgimfmcfjhdaaGreatDoorP22
namespace Go.Proofs.YtomgimfmcfjhdaaGreatDoor
open Go.RowKit
attribute [local go_sem ↓] Go.wp_at_zero Go.wp_at_succ

/-- From where it stood to where it stands: a variable was read; or it failed; or it had failed. -/
inductive VRel (l : List Tk) (d : Nat) : St → St → ByteArray → Int → Prop
  | ok (i j : Nat) (s : ByteArray) (x : Int) : Parse l .one i d (.ok [.mk s x b0 []] j) → i < j → VRel l d (.here i) (.here j) s x
  | fail (i j : Nat) (bd : Bool) (s : ByteArray) (x : Int) : Parse l .one i d (.bad j bd) → VRel l d (.here i) (.bad j bd) s x
  | stay (j : Nat) (bd : Bool) (s : ByteArray) (x : Int) : VRel l d (.bad j bd) (.bad j bd) s x
theorem VRel.int {l : List Tk} {d : Nat} {st : St} (h : ((st.name l).want l tColon).tx l tInt = true) : VRel l d st (((st.name l).want l tColon).pass l tInt) (st.nm l) 2 := by
  cases st with
  | bad j bd => cases h
  | here i =>
    cases h1 : isName l i with
    | false => simp [St.name, h1, St.want, St.tx] at h
    | true =>
      cases h2 : tx l (i + 1) tColon with
      | false => simp [St.name, h1, h2, St.want, St.tx] at h
      | true =>
        have h3 : tx l (i + 1 + 1) tInt = true := by simpa [St.name, h1, h2, St.want, St.tx] using h
        have e1 : (((St.here i).name l).want l tColon).pass l tInt = .here (i + 1 + 1 + 1) := by simp [St.name, h1, h2, h3, St.want, St.pass]
        have e2 : (St.here i).nm l = tkx l i := by simp [St.nm, h1]
        rw [e1, e2]
        exact .ok i _ _ _ (Run.ifT h1 (Run.exp h2 (Run.ifF (not_both h3 (by decide)) (Run.exp h3 Run.done)))) (by omega)
theorem VRel.bool {l : List Tk} {d : Nat} {st : St} (h : ((st.name l).want l tColon).tx l tInt = false) : VRel l d st ((((st.name l).want l tColon).pass l tInt).want l tBool) (st.nm l) 1 := by
  cases st with
  | bad j bd => exact .stay j bd _ _
  | here i =>
    cases h1 : isName l i with
    | false =>
      have e1 : ((((St.here i).name l).want l tColon).pass l tInt).want l tBool = .bad i false := by simp [St.name, h1, St.want, St.pass]
      rw [e1]
      exact .fail i i false _ _ (Run.ifF h1 (.ret _))
    | true =>
      have e2 : (St.here i).nm l = tkx l i := by simp [St.nm, h1]
      rw [e2]
      cases h2 : tx l (i + 1) tColon with
      | false =>
        have e1 : ((((St.here i).name l).want l tColon).pass l tInt).want l tBool = .bad (i + 1) false := by simp [St.name, h1, h2, St.want, St.pass]
        rw [e1]
        exact .fail i _ false _ _ (Run.ifT h1 (Run.unexp h2))
      | true =>
        have h3 : tx l (i + 1 + 1) tInt = false := by simpa [St.name, h1, h2, St.want, St.tx] using h
        cases h4 : tx l (i + 1 + 1) tBool with
        | true =>
          have e1 : ((((St.here i).name l).want l tColon).pass l tInt).want l tBool = .here (i + 1 + 1 + 1) := by simp [St.name, h1, h2, h3, h4, St.want, St.pass]
          rw [e1]
          exact .ok i _ _ _ (Run.ifT h1 (Run.exp h2 (Run.ifT h4 Run.done))) (by omega)
        | false =>
          have e1 : ((((St.here i).name l).want l tColon).pass l tInt).want l tBool = .bad (i + 1 + 1) false := by simp [St.name, h1, h2, h3, h4, St.want, St.pass]
          rw [e1]
          exact .fail i _ false _ _ (Run.ifT h1 (Run.exp h2 (Run.ifF h4 (Run.unexp h3))))

abbrev rVar : Obj := .cells #[.string ⟨#[]⟩, .int .i64 0] 89
set_option maxRecDepth 100000 in
set_option maxHeartbeats 1000000 in
theorem rone_any (C : Qc) (st : St) (d : Nat) (w : World) (T : Tkl C.l) (R : QS C st d w) :
    Calls Tryz.prog 37 #[.pointer (some ⟨C.b, 0, none⟩)] w fun e w' => Mv C.b w w' ∧ ∃ st' s x, e = .returned (.agg #[.string s, .int .i64 x]) ∧ QS C st' d w' ∧ VRel C.l d st st' s x := by
  have hbl := R.blt
  have hbA : Below w.heap.size w (w.alloc rVar) := (Below.refl _ _).alloc (Nat.le_refl _) _
  have HZ : Hid _ := heap_alloc_new w rVar
  cases hx : ((st.name C.l).want C.l tColon).tx C.l tInt with
  | true =>
    go_enter Tryz.func37, Tryz.ntmps37
    go_wp2_with fail
    refine (rname_any C st d _ (R.below hbA) T).mono ?_
    rintro e w1 ⟨rfl, R1, hm1⟩
    have hs1 : w.heap.size + 1 ≤ w1.heap.size := by have := hm1.size; simpa using this
    have hb2 : Below w1.heap.size w1 (w1.alloc (.cells #[.string (st.nm C.l), .int .i64 1] 89)) := (Below.refl _ _).alloc (Nat.le_refl _) _
    have HV : Hid _ := heap_alloc_new w1 (.cells #[.string (st.nm C.l), .int .i64 1] 89)
    have HZ2 : Hid _ := row_keep hb2 (hm1.row (k := w.heap.size) (by omega) HZ.out)
    go_wp2_with fail
    refine (rwant_any C _ d _ (R1.below hb2) T kOp _ tColon (Or.inr ⟨by decide, rfl⟩) (by rw [ByteArray.toList_eq]; rfl) (by decide)).mono ?_
    rintro e w3 ⟨rfl, R3, hm3⟩
    have hM3 : Mv C.b w w3 := (((Mv.of_below hbA).trans hm1).trans (Mv.of_below hb2)).trans hm3
    have HV3 : Hid _ := hm3.row (k := w1.heap.size) (by omega) HV.out
    have HZ3 : Hid _ := hm3.row (k := w.heap.size) (by omega) HZ2.out
    go_wp2_with fail
    refine (rpass_any C _ d _ R3 T kWord _ tInt (Or.inl ⟨by decide, rfl⟩) (by rw [ByteArray.toList_eq]; rfl) (by decide)).mono ?_
    rintro e w4 ⟨rfl, R4, hm4⟩
    simp only [hx]
    have hs4 : w1.heap.size + 1 ≤ w4.heap.size := by have h1 := hm3.size; have h2 := hm4.size; simp only [World.size_alloc] at h1; omega
    have HV4 : Hid _ := hm4.row (k := w1.heap.size) (by omega) HV3.out
    have HZ4 : Hid _ := hm4.row (k := w.heap.size) (by omega) HZ3.out
    obtain ⟨a0, a1, af⟩ := blk2 HV4.out
    obtain ⟨z0, z1, zf⟩ := blk2 HZ4.out
    have af1 := af 1
    have zf0 := zf 0
    have zf1 := zf 1
    have nz : w.heap.size ≠ w1.heap.size := by omega
    go_wp2
    have hB : Below w.heap.size w4 (setL (w4.setCell ⟨w1.heap.size, 1, none⟩ (.int .i64 2)) w.heap.size 0 [.string (st.nm C.l), .int .i64 2]) := (setL_below (N := w1.heap.size) (by omega) [.int .i64 2] 1 w4).trans (setL_below (Nat.le_refl _) _ _ _)
    exact bodyPost_ret (v := .agg #[.string (st.nm C.l), .int .i64 2]) (by simp [results, Tryz.results37, go_sem, z0, z1]) rfl ⟨(hM3.trans hm4).upon hB, _, _, _, rfl, R.upon R4 hB, VRel.int hx⟩
  | false =>
    go_enter Tryz.func37, Tryz.ntmps37
    go_wp2_with fail
    refine (rname_any C st d _ (R.below hbA) T).mono ?_
    rintro e w1 ⟨rfl, R1, hm1⟩
    have hs1 : w.heap.size + 1 ≤ w1.heap.size := by have := hm1.size; simpa using this
    have hb2 : Below w1.heap.size w1 (w1.alloc (.cells #[.string (st.nm C.l), .int .i64 1] 89)) := (Below.refl _ _).alloc (Nat.le_refl _) _
    have HV : Hid _ := heap_alloc_new w1 (.cells #[.string (st.nm C.l), .int .i64 1] 89)
    have HZ2 : Hid _ := row_keep hb2 (hm1.row (k := w.heap.size) (by omega) HZ.out)
    go_wp2_with fail
    refine (rwant_any C _ d _ (R1.below hb2) T kOp _ tColon (Or.inr ⟨by decide, rfl⟩) (by rw [ByteArray.toList_eq]; rfl) (by decide)).mono ?_
    rintro e w3 ⟨rfl, R3, hm3⟩
    have hM3 : Mv C.b w w3 := (((Mv.of_below hbA).trans hm1).trans (Mv.of_below hb2)).trans hm3
    have HV3 : Hid _ := hm3.row (k := w1.heap.size) (by omega) HV.out
    have HZ3 : Hid _ := hm3.row (k := w.heap.size) (by omega) HZ2.out
    go_wp2_with fail
    refine (rpass_any C _ d _ R3 T kWord _ tInt (Or.inl ⟨by decide, rfl⟩) (by rw [ByteArray.toList_eq]; rfl) (by decide)).mono ?_
    rintro e w4 ⟨rfl, R4, hm4⟩
    simp only [hx]
    have hs4 : w1.heap.size + 1 ≤ w4.heap.size := by have h1 := hm3.size; have h2 := hm4.size; simp only [World.size_alloc] at h1; omega
    go_wp2_with fail
    refine (rwant_any C _ d _ R4 T kWord _ tBool (Or.inl ⟨by decide, rfl⟩) (by rw [ByteArray.toList_eq]; rfl) (by decide)).mono ?_
    rintro e w5 ⟨rfl, R5, hm5⟩
    have hs5 := hm5.size
    have HV5 : Hid _ := hm5.row (k := w1.heap.size) (by omega) (hm4.row (k := w1.heap.size) (by omega) HV3.out)
    have HZ5 : Hid _ := hm5.row (k := w.heap.size) (by omega) (hm4.row (k := w.heap.size) (by omega) HZ3.out)
    obtain ⟨a0, a1, af⟩ := blk2 HV5.out
    obtain ⟨z0, z1, zf⟩ := blk2 HZ5.out
    have zf0 := zf 0
    have zf1 := zf 1
    have nz : w.heap.size ≠ w1.heap.size := by omega
    go_wp2
    have hB : Below w.heap.size w5 (setL w5 w.heap.size 0 [.string (st.nm C.l), .int .i64 1]) := setL_below (Nat.le_refl _) _ _ _
    exact bodyPost_ret (v := .agg #[.string (st.nm C.l), .int .i64 1]) (by simp [results, Tryz.results37, go_sem, z0, z1]) rfl ⟨((hM3.trans hm4).trans hm5).upon hB, _, _, _, rfl, R.upon R5 hB, VRel.bool hx⟩
end Go.Proofs.YtomgimfmcfjhdaaGreatDoor

/-
  lustrumref1's READER OF NODES: vars BY ITS CONTRACT.
-/
namespace Go.Proofs.YtomgimfmcfjhdaaGreatDoor
open Go.RowKit
attribute [local go_sem ↓] Go.wp_at_zero Go.wp_at_succ

def varsN (l : List Tk) (no : Bool) (i d : Nat) (k : List Ex → Nat → Act) : Act := if no && tx l i tShut then k [] i else varsA i d k
/-- Variables so far. -/
inductive WRel (l : List Tk) (d : Nat) : St → St → List Ex → Prop
  | here (i j : Nat) (es : List Ex) : (∀ k r, Run l (.call (.vars es) j d k) r → Run l (varsA i d k) r) → i < j → es.length ≤ j → WRel l d (.here i) (.here j) es
  | bad (i j : Nat) (bd : Bool) (es : List Ex) : (∀ k, Run l (varsA i d k) (.bad j bd)) → WRel l d (.here i) (.bad j bd) es
  | stay (j : Nat) (bd : Bool) (es : List Ex) : WRel l d (.bad j bd) (.bad j bd) es
/-- From where it stood to where it stands: variables were read; or it failed; or it had failed. -/
inductive VsRel (l : List Tk) (no : Bool) (d : Nat) (base : Nat) (w' : World) : St → St → Option Addr → Nat → Nat → Prop
  | ok (i j : Nat) (es : List Ex) (so : Option Addr) (sc : Nat) : (∀ k r, Run l (k es j) r → Run l (varsN l no i d k) r) → i ≤ j → es.length ≤ j → RowAt w' (From base) 2 (.slice so es.length sc) es.length (varCells es) → VsRel l no d base w' (.here i) (.here j) so es.length sc
  | fail (i j : Nat) (bd : Bool) (so : Option Addr) (m sc : Nat) : (∀ k, Run l (varsN l no i d k) (.bad j bd)) → VsRel l no d base w' (.here i) (.bad j bd) so m sc
  | stay (j : Nat) (bd : Bool) (so : Option Addr) (m sc : Nat) : VsRel l no d base w' (.bad j bd) (.bad j bd) so m sc
theorem WRel.first {l : List Tk} {d : Nat} {st st1 : St} {s : ByteArray} {x : Int} (q : VRel l d st st1 s x) : WRel l d st st1 [.mk s x b0 []] := by
  cases q with
  | ok i j s x hp hij => exact .here i j _ (fun k r h => Run.then hp h) hij (by simp; omega)
  | fail i j bd s x hp => exact .bad i j bd _ (fun k => Run.stop hp)
  | stay j bd s x => exact .stay j bd _
theorem WRel.num {l : List Tk} {d j : Nat} {st : St} {es : List Ex} (h : WRel l d st (.here j) es) : es.length ≤ j := by
  cases h with
  | here i _ _ _ _ hl => exact hl
theorem WRel.next {l : List Tk} {d j : Nat} {st st5 : St} {es : List Ex} {s : ByteArray} {x : Int} (h : WRel l d st (.here j) es) (hc : tx l j tSemi = true) (q : VRel l d (.here (j + 1)) st5 s x) : ∃ es', WRel l d st st5 es' ∧ ∀ k, st5 = .here k → j < k ∧ es' = es ++ [.mk s x b0 []] := by
  cases h with
  | here i _ _ HP hij hl =>
    cases q with
    | ok _ k s x hp hjk =>
      refine ⟨es ++ [.mk s x b0 []], .here i k _ (fun k r hr => HP k r ?_) (by omega) (by simp; omega), fun k' hk => by cases hk; exact ⟨by omega, rfl⟩⟩
      cases hr with
      | ok _ _ _ _ e j _ h1 h2 => exact Run.then (Run.ifT hc (Run.then hp (Run.tail h1))) h2
      | bad _ _ _ _ j b h1 => exact Run.stop (Run.ifT hc (Run.then hp (Run.tail h1)))
    | fail _ k bd s x hp => exact ⟨[], .bad i k bd _ (fun k => HP k _ (Run.stop (Run.ifT hc (Run.stop hp)))), fun k' hk => by cases hk⟩
theorem WRel.done {l : List Tk} {no : Bool} {d base : Nat} {w' : World} {st st' : St} {es : List Ex} {so : Option Addr} {m sc : Nat} (h : WRel l d st st' es) (hno : (no && st.tx l tShut) = false) (hc : st'.tx l tSemi = false) (hr : st'.isAt = true → m = es.length ∧ RowAt w' (From base) 2 (.slice so m sc) m (varCells es)) : VsRel l no d base w' st st' so m sc := by
  cases h with
  | here i j _ HP hij hl =>
    obtain ⟨rfl, hrow⟩ := hr rfl
    have hno' : (no && tx l i tShut) = false := hno
    have hc' : tx l j tSemi = false := hc
    exact .ok i j es so sc (fun k r h => by rw [varsN, hno']; exact HP k r (Run.then (Run.ifF hc' Run.done) h)) (by omega) hl hrow
  | bad i j bd _ HP =>
    have hno' : (no && tx l i tShut) = false := hno
    exact .fail i j bd _ _ _ (fun k => by rw [varsN, hno']; exact HP k)
  | stay j bd _ => exact .stay j bd _ _ _

theorem Tryz.infoRVar : (Tryz.prog.info? 89).map (fun i => (i.zero, i.size, i.bytes)) = some (some (.agg #[.string ⟨#[]⟩, .int .i64 0]), 2, 24) := by kernel_rfl
set_option maxRecDepth 100000 in
set_option maxHeartbeats 1000000 in
theorem rvars_none (C : Qc) (i d : Nat) (w : World) (T : Tkl C.l) (R : QS C (.here i) d w) (hx : tx C.l i tShut = true) :
    Calls Tryz.prog 35 #[.pointer (some ⟨C.b, 0, none⟩), .bool true] w fun e w' => Mv C.b w w' ∧ ∃ st' so m sc, e = .returned (.slice so m sc) ∧ QS C st' d w' ∧ VsRel C.l true d w.heap.size w' (.here i) st' so m sc := by
  have HB : Hid _ := isB_tx R T (k := kOp) (xb := ⟨#[41]⟩) (x := tShut) (Or.inr ⟨by decide, rfl⟩) (by rw [ByteArray.toList_eq]; rfl)
  go_enter Tryz.func35, Tryz.ntmps35
  go_wp2_with fail
  refine (ris_any C _ d _ R kOp _).mono ?_
  rintro e w3 ⟨rfl, n3, rfl⟩
  have g4' : (St.here i).tx C.l tShut = true := hx
  simp only [HB.out, g4']
  go_wp2
  go_ret
  exact ⟨Mv.of_below (below_drewN (Below.refl _ _) n3), _, none, 0, 0, rfl, R.drewN n3, .ok i i [] none 0 (fun k r h => by rw [varsN, hx]; exact h) (Nat.le_refl _) (by simp) RowAt.none⟩

set_option maxRecDepth 100000 in
set_option maxHeartbeats 1000000 in
theorem rvars_some (C : Qc) (st : St) (d : Nat) (w : World) (T : Tkl C.l) (R0 : QS C st d w) :
    Calls Tryz.prog 35 #[.pointer (some ⟨C.b, 0, none⟩), .bool false] w fun e w' => Mv C.b w w' ∧ ∃ st' so m sc, e = .returned (.slice so m sc) ∧ QS C st' d w' ∧ VsRel C.l false d w.heap.size w' st st' so m sc := by
  obtain ⟨i0, hi0, hz0, hz1, hz2⟩ := info_parts Tryz.infoRVar
  have hbl := R0.blt
  have hlen := R0.len
  go_enter Tryz.func35, Tryz.ntmps35
  go_wp2_with fail
  refine (rone_any C st d _ T R0).mono ?_
  rintro e w1 ⟨hm1, st1, s, x, rfl, R1, hq1⟩
  have hM1 : Mv C.b w w1 := hm1
  have hs1 := hM1.size
  have HW1 : Hid _ := WRel.first hq1
  have HV1 : Hid _ := heap_alloc_new w1 (.cells #[.string s, .int .i64 x] 89)
  have HO1 : Hid (((w1.alloc (.cells #[.string s, .int .i64 x] 89)).alloc (.cells #[.string s, .int .i64 x] 89)).ownsRow (w1.heap.size + 1) 89 2 (.slice none 0 0) 0 []) := ⟨rfl, Or.inl ⟨rfl, rfl⟩⟩
  have hnb : ((w1.alloc (.cells #[.string s, .int .i64 x] 89)).alloc (.cells #[.string s, .int .i64 x] 89)).heap[w1.heap.size + 1]? = some (.cells #[.string s, .int .i64 x] 89) := heap_alloc_new' (by simp) _
  have HN1 : Hid _ := World.news_of_block hnb
  clear hnb hq1
  go_wp2_with (at_builtin; refine wpList_append_lies _ rfl _ _ _ rfl (w1.heap.size + 1) 89 i0 _ 2 24 Tryz.underlying83 hi0 hz0 hz1 hz2 rfl (by omega) _ 0 [] rfl HO1.out ⟨w1.heap.size + 1, 0, none⟩ 1 1 [.string s, .int .i64 x] rfl rfl HN1.out (by simp [Value.oneCell']) (by omega) (by simp [maxLen]) (by omega) (by simp <;> omega) (w1.heap.size + 1 + 1) (by simp) ?_; intro g cap w2 hown2 hgrow hat hlt2)
  have hB2 : Below w1.heap.size w1 w2 := (((Below.refl _ _).alloc (Nat.le_refl _) _).alloc (by simp) _).grown hgrow (by simp; omega) (fun k hk => by cases hk)
  have HV2 : Hid _ := heap_grown hgrow (b := w1.heap.size) (by intro hk; cases hk) (alloc_row _ HV1.out)
  have hs2 : w1.heap.size + 1 + 1 ≤ w2.heap.size := by have := hgrow.size; simpa using this
  have HOW2 : Hid _ := hown2
  clear hown2 HV1 HO1 HN1
  go_loopw [5] (fun v wr => ∃ (st' : St) (es : List Ex) (so : Option Addr) (m sc : Nat) (cells : List Value) (s' : ByteArray) (x' : Int), v = .slice so m sc ∧ QS C st' d wr ∧ Mv C.b w wr ∧ w1.heap.size + 1 ≤ wr.heap.size ∧ Hid (wr.heap[w1.heap.size]? = some (.cells #[.string s', .int .i64 x'] 89 (0, 0))) ∧ Hid (wr.ownsRow (w1.heap.size + 1) 89 2 (.slice so m sc) m cells) ∧ Hid (WRel C.l d st st' es) ∧ Hid (st'.isAt = true → m = es.length ∧ cells = varCells es)) (fun _ wr => qleft C.l wr C.b)
  case atStart => exact ⟨st1, [.mk s x b0 []], some ⟨g, 0, none⟩, 1, cap, _, s, x, rfl, R1.below hB2, hM1.trans (Mv.of_below hB2), by omega, HV2, HOW2, HW1, fun _ => ⟨rfl, rfl⟩⟩
  case round =>
    clear HW1 hgrow hat hlt2 hB2 HV2 hs2 HOW2 R1
    obtain ⟨st', es, so, m, sc, cells, s', x', rfl, Rr, hmr, hsr, HV, HO, HW, HE⟩ := hrel
    cases hc : st'.tx C.l tSemi with
    | false =>
      have e1 : st'.pass C.l tSemi = st' := by
        cases st' with
        | bad j bd => rfl
        | here j => have hc' : tx C.l j tSemi = false := hc; simp only [St.pass, hc', Bool.false_eq_true, if_false]
      go_wp2_with fail
      refine (rpass_any C _ d _ Rr T kOp _ tSemi (Or.inr ⟨by decide, rfl⟩) (by rw [ByteArray.toList_eq]; rfl) (by decide)).mono ?_
      rintro e w3 ⟨rfl, R3, hm3⟩
      rw [e1] at R3
      simp only [hc]
      go_wp2
      go_ret
      refine ⟨hmr.trans hm3, st', so, m, sc, rfl, R3, HW.out.done rfl hc (fun h => ?_)⟩
      obtain ⟨h1, h2⟩ := HE.out h
      refine ⟨h1, ?_⟩
      rw [← h2]
      exact (RowAt.of_owns HO.out).keep (Stays.mv hm3 (fun k hk => by unfold From at hk ⊢; exact ⟨by omega, by omega⟩))
    | true =>
      cases st' with
      | bad j bd => cases hc
      | here j =>
        have hc' : tx C.l j tSemi = true := hc
        have hjl : j < C.l.length := Rr.lt
        have e1 : (St.here j).pass C.l tSemi = .here (j + 1) := by simp only [St.pass, hc', if_true]
        go_wp2_with fail
        refine (rpass_any C _ d _ Rr T kOp _ tSemi (Or.inr ⟨by decide, rfl⟩) (by rw [ByteArray.toList_eq]; rfl) (by decide)).mono ?_
        rintro e w3 ⟨rfl, R3, hm3⟩
        rw [e1] at R3
        simp only [hc]
        go_wp2_with fail
        refine (rone_any C _ d _ T R3).mono ?_
        rintro e w4 ⟨hm4, st4, s4, x4, rfl, R4, hq4⟩
        obtain ⟨es', HW', HN⟩ := HW.out.next hc' hq4
        have HW4 : Hid _ := HW'
        have HN4 : Hid _ := HN
        clear hq4 HW' HN
        have hmm : Mv C.b wr w4 := hm3.trans hm4
        have hs4 := hmm.size
        have hv4 := hmm.row (k := w1.heap.size) (by omega) HV.out
        obtain ⟨a0, a1, af⟩ := blk2 hv4
        have HV5 : Hid (((w4.setCell ⟨w1.heap.size, 0, none⟩ (.string s4)).setCell ⟨w1.heap.size, 1, none⟩ (.int .i64 x4)).heap[w1.heap.size]? = some (.cells #[.string s4, .int .i64 x4] 89)) := set_row (set_row hv4)
        have hB4 : Below w.heap.size w4 ((w4.setCell ⟨w1.heap.size, 0, none⟩ (.string s4)).setCell ⟨w1.heap.size, 1, none⟩ (.int .i64 x4)) := setL_below (N := w1.heap.size) hs1 [.string s4, .int .i64 x4] 0 w4
        have HO4 : Hid _ := (ownsRow_mv (ownsRow_mv (ownsRow_mv HO.out hmm (by omega)) (Mv.setAt w1.heap.size 0 w4 (.string s4)) (by omega)) (Mv.setAt w1.heap.size 1 _ (.int .i64 x4)) (by omega)).alloc (.cells #[.string s4, .int .i64 x4] 89)
        have hnb : (((w4.setCell ⟨w1.heap.size, 0, none⟩ (.string s4)).setCell ⟨w1.heap.size, 1, none⟩ (.int .i64 x4)).alloc (.cells #[.string s4, .int .i64 x4] 89)).heap[w4.heap.size]? = some (.cells #[.string s4, .int .i64 x4] 89) := heap_alloc_new' (by simp) _
        have HN5 : Hid _ := World.news_of_block hnb
        have hml : m ≤ 6001 := by have h1 := (HE.out rfl).1; have h2 := HW.out.num; omega
        have hn63 : m + 1 ≤ maxLen := by unfold maxLen; omega
        have hby : (m + 1) * 24 ≤ 140737488355328 := by omega
        have HRW : Hid (∀ k, (Value.slice so m sc).ownBlock = some k → w1.heap.size + 1 ≤ k ∧ k < wr.heap.size) := fun k hk => ownsRow_block HO.out hk
        have af0 := af 0
        have af1 := af 1
        clear hnb hv4 af
        go_wp2_with (at_builtin; refine wpList_append_lies _ rfl _ _ _ rfl (w1.heap.size + 1) 89 i0 _ 2 24 Tryz.underlying83 hi0 hz0 hz1 hz2 rfl (by omega) _ m cells rfl HO4.out ⟨w4.heap.size, 0, none⟩ 1 1 [.string s4, .int .i64 x4] rfl rfl HN5.out (by simp [Value.oneCell']) (by omega) hn63 hby (by simp <;> omega) (w4.heap.size + 1) (by simp) ?_; intro g cap w5 hown5 hgrow hat hlt5)
        have hB5 : Below w.heap.size w4 w5 := (hB4.alloc (by simp; omega) _).grown hgrow (by simp; omega) (fun k hk => by have := (HRW.out k hk).1; omega)
        have R5 : QS C st4 d w5 := R0.upon R4 hB5
        have HV6 : Hid _ := heap_grown hgrow (b := w1.heap.size) (fun hk => by have := (HRW.out _ hk).1; omega) (alloc_row _ HV5.out)
        refine ⟨⟨st4, es', some ⟨g, 0, none⟩, m + 1, cap, _, s4, x4, rfl, R5, (hmr.trans hmm).upon hB5, ?_, HV6, hown5, HW4, ?_⟩, ?_⟩
        · have := hgrow.size; simp at this; omega
        · intro h4
          cases st4 with
          | bad k bd => cases h4
          | here k =>
            obtain ⟨hjk, rfl⟩ := HN4.out k rfl
            obtain ⟨rfl, rfl⟩ := HE.out rfl
            exact ⟨by simp, (varCells_snoc es (.mk s4 x4 b0 [])).symm⟩
        · rw [Rr.left_at]
          cases st4 with
          | bad k bd => rw [R5.left_bad]; omega
          | here k =>
            obtain ⟨hjk, _⟩ := HN4.out k rfl
            have hkl : k < C.l.length := R5.lt
            rw [R5.left_at]; omega

set_option maxRecDepth 100000 in
set_option maxHeartbeats 1000000 in
theorem rvars_is (C : Qc) (st : St) (d : Nat) (w : World) (T : Tkl C.l) (R0 : QS C st d w) (hx : st.tx C.l tShut = false) :
    Calls Tryz.prog 35 #[.pointer (some ⟨C.b, 0, none⟩), .bool true] w fun e w' => Mv C.b w w' ∧ ∃ st' so m sc, e = .returned (.slice so m sc) ∧ QS C st' d w' ∧ VsRel C.l true d w.heap.size w' st st' so m sc := by
  obtain ⟨i0, hi0, hz0, hz1, hz2⟩ := info_parts Tryz.infoRVar
  have hbl := R0.blt
  have hlen := R0.len
  have HB : Hid _ := isB_tx R0 T (k := kOp) (xb := ⟨#[41]⟩) (x := tShut) (Or.inr ⟨by decide, rfl⟩) (by rw [ByteArray.toList_eq]; rfl)
  go_enter Tryz.func35, Tryz.ntmps35
  go_wp2_with fail
  refine (ris_any C _ d _ R0 kOp _).mono ?_
  rintro e w3 ⟨rfl, n3, rfl⟩
  simp only [HB.out, hx]
  go_wp2_with fail
  refine (rone_any C st d _ T (R0.drewN n3)).mono ?_
  rintro e w1 ⟨hm1, st1, s, x, rfl, R1, hq1⟩
  have hM1 : Mv C.b w w1 := ((Mv.of_below (below_drewN (Below.refl _ _) n3)).trans hm1)
  have hs1 := hM1.size
  have HW1 : Hid _ := WRel.first hq1
  have HV1 : Hid _ := heap_alloc_new w1 (.cells #[.string s, .int .i64 x] 89)
  have HO1 : Hid (((w1.alloc (.cells #[.string s, .int .i64 x] 89)).alloc (.cells #[.string s, .int .i64 x] 89)).ownsRow (w1.heap.size + 1) 89 2 (.slice none 0 0) 0 []) := ⟨rfl, Or.inl ⟨rfl, rfl⟩⟩
  have hnb : ((w1.alloc (.cells #[.string s, .int .i64 x] 89)).alloc (.cells #[.string s, .int .i64 x] 89)).heap[w1.heap.size + 1]? = some (.cells #[.string s, .int .i64 x] 89) := heap_alloc_new' (by simp) _
  have HN1 : Hid _ := World.news_of_block hnb
  clear hnb hq1
  go_wp2_with (at_builtin; refine wpList_append_lies _ rfl _ _ _ rfl (w1.heap.size + 1) 89 i0 _ 2 24 Tryz.underlying83 hi0 hz0 hz1 hz2 rfl (by omega) _ 0 [] rfl HO1.out ⟨w1.heap.size + 1, 0, none⟩ 1 1 [.string s, .int .i64 x] rfl rfl HN1.out (by simp [Value.oneCell']) (by omega) (by simp [maxLen]) (by omega) (by simp <;> omega) (w1.heap.size + 1 + 1) (by simp) ?_; intro g cap w2 hown2 hgrow hat hlt2)
  have hB2 : Below w1.heap.size w1 w2 := (((Below.refl _ _).alloc (Nat.le_refl _) _).alloc (by simp) _).grown hgrow (by simp; omega) (fun k hk => by cases hk)
  have HV2 : Hid _ := heap_grown hgrow (b := w1.heap.size) (by intro hk; cases hk) (alloc_row _ HV1.out)
  have hs2 : w1.heap.size + 1 + 1 ≤ w2.heap.size := by have := hgrow.size; simpa using this
  have HOW2 : Hid _ := hown2
  clear hown2 HV1 HO1 HN1
  go_loopw [5] (fun v wr => ∃ (st' : St) (es : List Ex) (so : Option Addr) (m sc : Nat) (cells : List Value) (s' : ByteArray) (x' : Int), v = .slice so m sc ∧ QS C st' d wr ∧ Mv C.b w wr ∧ w1.heap.size + 1 ≤ wr.heap.size ∧ Hid (wr.heap[w1.heap.size]? = some (.cells #[.string s', .int .i64 x'] 89 (0, 0))) ∧ Hid (wr.ownsRow (w1.heap.size + 1) 89 2 (.slice so m sc) m cells) ∧ Hid (WRel C.l d st st' es) ∧ Hid (st'.isAt = true → m = es.length ∧ cells = varCells es)) (fun _ wr => qleft C.l wr C.b)
  case atStart => exact ⟨st1, [.mk s x b0 []], some ⟨g, 0, none⟩, 1, cap, _, s, x, rfl, R1.below hB2, hM1.trans (Mv.of_below hB2), by omega, HV2, HOW2, HW1, fun _ => ⟨rfl, rfl⟩⟩
  case round =>
    clear HW1 hgrow hat hlt2 hB2 HV2 hs2 HOW2 R1
    obtain ⟨st', es, so, m, sc, cells, s', x', rfl, Rr, hmr, hsr, HV, HO, HW, HE⟩ := hrel
    cases hc : st'.tx C.l tSemi with
    | false =>
      have e1 : st'.pass C.l tSemi = st' := by
        cases st' with
        | bad j bd => rfl
        | here j => have hc' : tx C.l j tSemi = false := hc; simp only [St.pass, hc', Bool.false_eq_true, if_false]
      go_wp2_with fail
      refine (rpass_any C _ d _ Rr T kOp _ tSemi (Or.inr ⟨by decide, rfl⟩) (by rw [ByteArray.toList_eq]; rfl) (by decide)).mono ?_
      rintro e w3 ⟨rfl, R3, hm3⟩
      rw [e1] at R3
      simp only [hc]
      go_wp2
      go_ret
      refine ⟨hmr.trans hm3, st', so, m, sc, rfl, R3, HW.out.done (by rw [Bool.true_and]; exact hx) hc (fun h => ?_)⟩
      obtain ⟨h1, h2⟩ := HE.out h
      refine ⟨h1, ?_⟩
      rw [← h2]
      exact (RowAt.of_owns HO.out).keep (Stays.mv hm3 (fun k hk => by unfold From at hk ⊢; exact ⟨by omega, by omega⟩))
    | true =>
      cases st' with
      | bad j bd => cases hc
      | here j =>
        have hc' : tx C.l j tSemi = true := hc
        have hjl : j < C.l.length := Rr.lt
        have e1 : (St.here j).pass C.l tSemi = .here (j + 1) := by simp only [St.pass, hc', if_true]
        go_wp2_with fail
        refine (rpass_any C _ d _ Rr T kOp _ tSemi (Or.inr ⟨by decide, rfl⟩) (by rw [ByteArray.toList_eq]; rfl) (by decide)).mono ?_
        rintro e w3 ⟨rfl, R3, hm3⟩
        rw [e1] at R3
        simp only [hc]
        go_wp2_with fail
        refine (rone_any C _ d _ T R3).mono ?_
        rintro e w4 ⟨hm4, st4, s4, x4, rfl, R4, hq4⟩
        obtain ⟨es', HW', HN⟩ := HW.out.next hc' hq4
        have HW4 : Hid _ := HW'
        have HN4 : Hid _ := HN
        clear hq4 HW' HN
        have hmm : Mv C.b wr w4 := hm3.trans hm4
        have hs4 := hmm.size
        have hv4 := hmm.row (k := w1.heap.size) (by omega) HV.out
        obtain ⟨a0, a1, af⟩ := blk2 hv4
        have HV5 : Hid (((w4.setCell ⟨w1.heap.size, 0, none⟩ (.string s4)).setCell ⟨w1.heap.size, 1, none⟩ (.int .i64 x4)).heap[w1.heap.size]? = some (.cells #[.string s4, .int .i64 x4] 89)) := set_row (set_row hv4)
        have hB4 : Below w.heap.size w4 ((w4.setCell ⟨w1.heap.size, 0, none⟩ (.string s4)).setCell ⟨w1.heap.size, 1, none⟩ (.int .i64 x4)) := setL_below (N := w1.heap.size) hs1 [.string s4, .int .i64 x4] 0 w4
        have HO4 : Hid _ := (ownsRow_mv (ownsRow_mv (ownsRow_mv HO.out hmm (by omega)) (Mv.setAt w1.heap.size 0 w4 (.string s4)) (by omega)) (Mv.setAt w1.heap.size 1 _ (.int .i64 x4)) (by omega)).alloc (.cells #[.string s4, .int .i64 x4] 89)
        have hnb : (((w4.setCell ⟨w1.heap.size, 0, none⟩ (.string s4)).setCell ⟨w1.heap.size, 1, none⟩ (.int .i64 x4)).alloc (.cells #[.string s4, .int .i64 x4] 89)).heap[w4.heap.size]? = some (.cells #[.string s4, .int .i64 x4] 89) := heap_alloc_new' (by simp) _
        have HN5 : Hid _ := World.news_of_block hnb
        have hml : m ≤ 6001 := by have h1 := (HE.out rfl).1; have h2 := HW.out.num; omega
        have hn63 : m + 1 ≤ maxLen := by unfold maxLen; omega
        have hby : (m + 1) * 24 ≤ 140737488355328 := by omega
        have HRW : Hid (∀ k, (Value.slice so m sc).ownBlock = some k → w1.heap.size + 1 ≤ k ∧ k < wr.heap.size) := fun k hk => ownsRow_block HO.out hk
        have af0 := af 0
        have af1 := af 1
        clear hnb hv4 af
        go_wp2_with (at_builtin; refine wpList_append_lies _ rfl _ _ _ rfl (w1.heap.size + 1) 89 i0 _ 2 24 Tryz.underlying83 hi0 hz0 hz1 hz2 rfl (by omega) _ m cells rfl HO4.out ⟨w4.heap.size, 0, none⟩ 1 1 [.string s4, .int .i64 x4] rfl rfl HN5.out (by simp [Value.oneCell']) (by omega) hn63 hby (by simp <;> omega) (w4.heap.size + 1) (by simp) ?_; intro g cap w5 hown5 hgrow hat hlt5)
        have hB5 : Below w.heap.size w4 w5 := (hB4.alloc (by simp; omega) _).grown hgrow (by simp; omega) (fun k hk => by have := (HRW.out k hk).1; omega)
        have R5 : QS C st4 d w5 := R0.upon R4 hB5
        have HV6 : Hid _ := heap_grown hgrow (b := w1.heap.size) (fun hk => by have := (HRW.out _ hk).1; omega) (alloc_row _ HV5.out)
        refine ⟨⟨st4, es', some ⟨g, 0, none⟩, m + 1, cap, _, s4, x4, rfl, R5, (hmr.trans hmm).upon hB5, ?_, HV6, hown5, HW4, ?_⟩, ?_⟩
        · have := hgrow.size; simp at this; omega
        · intro h4
          cases st4 with
          | bad k bd => cases h4
          | here k =>
            obtain ⟨hjk, rfl⟩ := HN4.out k rfl
            obtain ⟨rfl, rfl⟩ := HE.out rfl
            exact ⟨by simp, (varCells_snoc es (.mk s4 x4 b0 [])).symm⟩
        · rw [Rr.left_at]
          cases st4 with
          | bad k bd => rw [R5.left_bad]; omega
          | here k =>
            obtain ⟨hjk, _⟩ := HN4.out k rfl
            have hkl : k < C.l.length := R5.lt
            rw [R5.left_at]; omega

theorem rvars_any (C : Qc) (no : Bool) (st : St) (d : Nat) (w : World) (T : Tkl C.l) (R : QS C st d w) :
    Calls Tryz.prog 35 #[.pointer (some ⟨C.b, 0, none⟩), .bool no] w fun e w' => Mv C.b w w' ∧ ∃ st' so m sc, e = .returned (.slice so m sc) ∧ QS C st' d w' ∧ VsRel C.l no d w.heap.size w' st st' so m sc := by
  cases no with
  | false => exact rvars_some C st d w T R
  | true =>
    cases hx : st.tx C.l tShut with
    | false => exact rvars_is C st d w T R hx
    | true =>
      cases st with
      | bad j bd => cases hx
      | here i => exact rvars_none C i d w T R hx
end Go.Proofs.YtomgimfmcfjhdaaGreatDoor
