/-
  lustrumref1's READER OF TERMS: what its methods answer; pair, not BY THEIR CONTRACTS.
-/
import Derived.Test.YtomgimfmcfjhdaaGreatDoorP18
import Derived.Test.YtomgimfmcfjhdaaGreatDoorP14
namespace Go.Proofs.YtomgimfmcfjhdaaGreatDoor
open Go.RowKit
attribute [local go_sem ↓] Go.wp_at_zero Go.wp_at_succ

/-- A term's cells, whatever they hold. -/
def Shape (v : Value) : Prop := ∃ (op : ByteArray) (x : Int) (s : ByteArray) (so : Option Addr) (m sc : Nat), v = .agg #[.string op, .int .i64 x, .string s, .slice so m sc]
/-- From where it stood to where it stands: a term was read; or it failed; or it had failed. -/
inductive QRel (l : List Tk) (c : Cd) (d : Nat) (base : Nat) (w' : World) : St → St → Value → Prop
  | ok (i j : Nat) (op : ByteArray) (x : Int) (s : ByteArray) (es : List Ex) (so : Option Addr) (sc : Nat) (ys : List Value) : Parse l c i d (.ok [.mk op x s es] j) → i < j → RowAt w' (From base) 4 (.slice so es.length sc) es.length ys → ExIn w' (From base) es ys → QRel l c d base w' (.here i) (.here j) (.agg #[.string op, .int .i64 x, .string s, .slice so es.length sc])
  | fail (i j : Nat) (bd : Bool) (v : Value) : Parse l c i d (.bad j bd) → Shape v → QRel l c d base w' (.here i) (.bad j bd) v
  | stay (j : Nat) (bd : Bool) (v : Value) : Shape v → QRel l c d base w' (.bad j bd) (.bad j bd) v
theorem QRel.shape {l : List Tk} {c : Cd} {d base : Nat} {w' : World} {st st' : St} {v : Value} (h : QRel l c d base w' st st' v) : Shape v := by
  cases h with
  | ok i j op x s es so sc ys => exact ⟨op, x, s, so, _, sc, rfl⟩
  | fail _ _ _ _ _ h => exact h
  | stay _ _ _ h => exact h
theorem QRel.move {l : List Tk} {c c' : Cd} {d base base' : Nat} {w w' : World} {st st' : St} {v : Value} (h : QRel l c d base w st st' v) (hk : Stays (From base) (From base') w w') (hok : ∀ i j e, st = .here i → st' = .here j → Parse l c i d (.ok [e] j) → Parse l c' i d (.ok [e] j)) (hbad : ∀ i j bd, st = .here i → Parse l c i d (.bad j bd) → Parse l c' i d (.bad j bd)) : QRel l c' d base' w' st st' v := by
  cases h with
  | ok i j op x s es so sc ys hp hij hrow hin => exact .ok i j op x s es so sc ys (hok i j _ rfl rfl hp) hij (hrow.keep hk) (hin.keep hk)
  | fail i j bd v hp hs => exact .fail i j bd v (hbad i j bd rfl hp) hs
  | stay j bd v hs => exact .stay j bd v hs
theorem QRel.adv {l : List Tk} {c : Cd} {d base : Nat} {w' : World} {st : St} {j : Nat} {v : Value} (h : QRel l c d base w' st (.here j) v) : ∃ i, st = .here i ∧ i < j := by
  cases h with
  | ok i j op x s es so sc ys hp hij => exact ⟨i, rfl, hij⟩
theorem QRel.left {l : List Tk} {c : Cd} {d base : Nat} {w' : World} {st : St} {j n : Nat} {v : Value} (h : QRel l c d base w' st (.here j) v) (hn : st.isAt = true → l.length - st.k ≤ n) : l.length - (j + 1) ≤ n := by
  obtain ⟨i, rfl, hij⟩ := h.adv
  have := hn rfl
  simp only [St.k] at this
  omega
/-- Two terms with an operator between. -/
theorem QRel.pair {l : List Tk} {c1 c2 c' : Cd} {d base base1 base2 g : Nat} {w1 w2 w' : World} {st st2 : St} {j : Nat} {o op op' : ByteArray} {x x' : Int} {s s' : ByteArray} {so so' : Option Addr} {m m' sc sc' : Nat} {t : TypeId} (h1 : QRel l c1 d base1 w1 st (.here j) (.agg #[.string op, .int .i64 x, .string s, .slice so m sc])) (h2 : QRel l c2 d base2 w2 (.here (j + 1)) st2 (.agg #[.string op', .int .i64 x', .string s', .slice so' m' sc'])) (k1 : Stays (From base1) (From base) w1 w') (k2 : Stays (From base2) (From base) w2 w') (hg : w'.heap[g]? = some (.cells #[.string op, .int .i64 x, .string s, .slice so m sc, .string op', .int .i64 x', .string s', .slice so' m' sc'] t (0, 0))) (hgb : base ≤ g)
    (hok : ∀ i e e' k, st = .here i → Parse l c1 i d (.ok [e] j) → Parse l c2 (j + 1) d (.ok [e'] k) → Parse l c' i d (.ok [.mk o 0 b0 ([e] ++ [e'])] k)) (hbad : ∀ i e k bd, st = .here i → Parse l c1 i d (.ok [e] j) → Parse l c2 (j + 1) d (.bad k bd) → Parse l c' i d (.bad k bd)) :
    QRel l c' d base w' st st2 (.agg #[.string o, .int .i64 0, .string ⟨#[]⟩, .slice (some ⟨g, 0, none⟩) 2 2]) := by
  generalize hv1 : Value.agg #[.string op, .int .i64 x, .string s, .slice so m sc] = v1 at h1
  generalize hv2 : Value.agg #[.string op', .int .i64 x', .string s', .slice so' m' sc'] = v2 at h2
  cases h1 with
  | ok i _ op1 x1 s1 es1 so1 sc1 ys1 hp1 hij1 hrow1 hin1 =>
    injection hv1 with hv1
    simp only [Array.mk.injEq, List.cons.injEq, Value.string.injEq, Value.int.injEq, Value.slice.injEq, true_and, and_true] at hv1
    obtain ⟨rfl, rfl, rfl, rfl, rfl, rfl⟩ := hv1
    cases h2 with
    | ok _ k op2 x2 s2 es2 so2 sc2 ys2 hp2 hij2 hrow2 hin2 =>
      injection hv2 with hv2
      simp only [Array.mk.injEq, List.cons.injEq, Value.string.injEq, Value.int.injEq, Value.slice.injEq, true_and, and_true] at hv2
      obtain ⟨rfl, rfl, rfl, rfl, rfl, rfl⟩ := hv2
      exact .ok i k _ _ _ _ _ _ _ (hok i _ _ k rfl hp1 hp2) (by omega) (RowAt.blk hg rfl rfl (by simp [maxLen]) hgb) (.cons _ _ _ _ _ _ _ _ (hrow1.keep k1) (hin1.keep k1) (.cons _ _ _ _ _ _ _ _ (hrow2.keep k2) (hin2.keep k2) .nil))
    | fail _ k bd _ hp2 _ => exact .fail i k bd _ (hbad i _ k bd rfl hp1 hp2) ⟨_, _, _, _, _, _, rfl⟩
def QRet (C : Qc) (c : Cd) (st : St) (d : Nat) (w : World) (e : Ending) (w' : World) : Prop := Mv C.b w w' ∧ ∃ st' v, e = .returned v ∧ QS C st' d w' ∧ QRel C.l c d w.heap.size w' st st' v
/-- A method reads this, where at most n tokens are left. -/
def QFits (f : FuncId) (c : Cd) (n : Nat) : Prop := ∀ (C : Qc) (st : St) (d : Nat) (w : World), Tkl C.l → QS C st d w → (st.isAt = true → C.l.length - st.k ≤ n) → Calls Tryz.prog f #[.pointer (some ⟨C.b, 0, none⟩)] w (QRet C c st d w)

abbrev rTerm : Obj := .cells #[.string ⟨#[]⟩, .int .i64 0, .string ⟨#[]⟩, .slice none 0 0] 94
/-- A term, stored. -/
theorem put4 {H : Nat} {w3 : World} {S : Nat → Prop} {l : List Ex} {a b c : Value} {so : Option Addr} {sc : Nat} {ys : List Value} (hrow : RowAt w3 S 4 (.slice so l.length sc) l.length ys) (hin : ExIn w3 S l ys) (hS : ∀ k, S k → H < k) :
    RowAt (set4 w3 H a b c (.slice so l.length sc)) (From H) 4 (.slice so l.length sc) l.length ys ∧ ExIn (set4 w3 H a b c (.slice so l.length sc)) (From H) l ys := by
  have St : Stays S (From H) w3 (set4 w3 H a b c (.slice so l.length sc)) := set4_stays (fun k hk => ⟨by have := hS k hk; omega, by have := hS k hk; unfold From; omega⟩)
  exact ⟨hrow.keep St, hin.keep St⟩
/-- A term of parts, laid and stored. -/
theorem build4 {H : Nat} {w3 : World} {S : Nat → Prop} {es : List Ex} {a b c : Value} {cells : List Value} {t : TypeId} (hin : ExIn w3 S es cells) (hS : ∀ k, S k → H < k) (hs3 : H < w3.heap.size) (n : Nat) (hn : es.length = n) (hn' : n ≤ maxLen) (cur : Array Value) (hcur : cur.toList = cells) :
    RowAt ((set4 w3 H a b c (.slice (some ⟨w3.heap.size, 0, none⟩) n n)).alloc (.cells cur t)) (From H) 4 (.slice (some ⟨w3.heap.size, 0, none⟩) n n) n cells ∧ ExIn ((set4 w3 H a b c (.slice (some ⟨w3.heap.size, 0, none⟩) n n)).alloc (.cells cur t)) (From H) es cells := by
  subst hn
  have St : Stays S (From H) w3 ((set4 w3 H a b c (.slice (some ⟨w3.heap.size, 0, none⟩) es.length es.length)).alloc (.cells cur t)) := (set4_stays (S' := From H) (fun k hk => ⟨by have := hS k hk; omega, by have := hS k hk; unfold From; omega⟩)).trans (Stays.alloc _ (fun k hk => hk)) (by rw [set4_size]; exact Nat.le_refl _)
  have hnew := heap_alloc_new (set4 w3 H a b c (.slice (some ⟨w3.heap.size, 0, none⟩) es.length es.length)) (.cells cur t)
  rw [set4_size] at hnew
  exact ⟨RowAt.blk hnew hcur hin.length hn' (by unfold From; omega), hin.keep St⟩
theorem build4_below {H : Nat} {w3 : World} {a b c e : Value} {o : Obj} (hs3 : H < w3.heap.size) : Below H w3 ((set4 w3 H a b c e).alloc o) := (set4_below (Nat.le_refl _)).alloc (by rw [set4_size]; omega) _

/-- The same, with a part's own variable made just ahead. -/
theorem build4b {H : Nat} {w3 : World} {S : Nat → Prop} {es : List Ex} {a b c : Value} {cells : List Value} {t : TypeId} (o : Obj) (hin : ExIn w3 S es cells) (hS : ∀ k, S k → H < k) (hs3 : H < w3.heap.size) (n : Nat) (hn : es.length = n) (hn' : n ≤ maxLen) (cur : Array Value) (hcur : cur.toList = cells) (g : Nat) (hg : w3.heap.size + 1 = g) :
    RowAt (((set4 w3 H a b c (.slice (some ⟨g, 0, none⟩) n n)).alloc o).alloc (.cells cur t)) (From H) 4 (.slice (some ⟨g, 0, none⟩) n n) n cells ∧ ExIn (((set4 w3 H a b c (.slice (some ⟨g, 0, none⟩) n n)).alloc o).alloc (.cells cur t)) (From H) es cells := by
  subst hn hg
  have St : Stays S (From H) w3 (((set4 w3 H a b c (.slice (some ⟨w3.heap.size + 1, 0, none⟩) es.length es.length)).alloc o).alloc (.cells cur t)) := ((set4_stays (S' := From H) (fun k hk => ⟨by have := hS k hk; omega, by have := hS k hk; unfold From; omega⟩)).trans (Stays.alloc _ (fun k hk => hk)) (by rw [set4_size]; exact Nat.le_refl _)).trans (Stays.alloc _ (fun k hk => hk)) (by simp [set4_size])
  have hnew := two_new (set4 w3 H a b c (.slice (some ⟨w3.heap.size + 1, 0, none⟩) es.length es.length)) o (.cells cur t)
  rw [set4_size] at hnew
  exact ⟨RowAt.blk hnew hcur hin.length hn' (by unfold From; omega), hin.keep St⟩
theorem build4b_below {H : Nat} {w3 : World} {a b c e : Value} {o o' : Obj} (hs3 : H < w3.heap.size) : Below H w3 (((set4 w3 H a b c e).alloc o).alloc o') := ((set4_below (Nat.le_refl _)).alloc (by rw [set4_size]; omega) _).alloc (by simp [set4_size]; omega) _
theorem set2_size (w : World) (p : Addr) (v : Value) : (w.setCell p v).heap.size = w.heap.size := by simp

set_option maxRecDepth 100000 in
set_option maxHeartbeats 1000000 in
theorem pair_any (o : ByteArray) (op op' : ByteArray) (x x' : Int) (s s' : ByteArray) (so so' : Option Addr) (m m' sc sc' : Nat) (w : World) :
    Calls Tryz.prog 140 #[.string o, .agg #[.string op, .int .i64 x, .string s, .slice so m sc], .agg #[.string op', .int .i64 x', .string s', .slice so' m' sc']] w fun e w' => ∃ g, e = .returned (.agg #[.string o, .int .i64 0, .string ⟨#[]⟩, .slice (some ⟨g, 0, none⟩) 2 2]) ∧ w.heap.size ≤ g ∧ w'.heap[g]? = some (.cells #[.string op, .int .i64 x, .string s, .slice so m sc, .string op', .int .i64 x', .string s', .slice so' m' sc'] 94 (0, 0)) ∧ Below w.heap.size w w' := by
  go_enter Tryz.func140, Tryz.ntmps140
  go_wp2
  have hB : ∀ (o1 o2 o3 o4 : Obj), Below w.heap.size w ((((w.alloc o1).alloc o2).alloc o3).alloc o4) := fun _ _ _ _ => ((((Below.refl _ _).alloc (Nat.le_refl _) _).alloc (by simp) _).alloc (by simp; omega) _).alloc (by simp; omega) _
  have hN : ∀ (o1 o2 o3 o4 : Obj), ((((w.alloc o1).alloc o2).alloc o3).alloc o4).heap[w.heap.size + 1 + 1 + 1]? = some o4 := fun o1 o2 o3 o4 => by
    have := heap_alloc_new (((w.alloc o1).alloc o2).alloc o3) o4
    simpa using this
  exact bodyPost_ret (v := .agg #[.string o, .int .i64 0, .string ⟨#[]⟩, .slice (some ⟨w.heap.size + 1 + 1 + 1, 0, none⟩) 2 2]) (by simp [results, Tryz.results140, go_sem]) rfl ⟨_, rfl, by omega, hN _ _ _ _, hB _ _ _ _⟩

set_option maxRecDepth 100000 in
set_option maxHeartbeats 1000000 in
theorem rnot_fits (n : Nat) (hN : ∀ m, m < n → QFits 160 .not m) (hS : QFits 169 (.left .sum) n) : QFits 160 .not n := by
  intro C st d w T R hn
  have HN : Hid (∀ m, m < n → QFits 160 .not m) := hN
  have HS : Hid (QFits 169 (.left .sum) n) := hS
  clear hN hS
  have hlt := R.lt
  have hbl := R.blt
  have hbA : Below w.heap.size w (w.alloc rTerm) := (Below.refl _ _).alloc (Nat.le_refl _) _
  have HZ : Hid _ := heap_alloc_new w rTerm
  have RA := R.below hbA
  have HB : Hid _ := isB_tx RA T (k := kWord) (xb := ⟨#[110, 111, 116]⟩) (x := tNot) (Or.inl ⟨by decide, rfl⟩) (by rw [ByteArray.toList_eq]; rfl)
  cases ht : st.tx C.l tNot with
  | true =>
    cases st with
    | bad j bd => cases ht
    | here i =>
      have ht' : tx C.l i tNot = true := ht
      have hi : i + 1 < C.l.length := T.next_tx R.lt ht'
      go_enter Tryz.func160, Tryz.ntmps160
      go_wp2_with fail
      refine (ris_any C _ d _ RA kWord _).mono ?_
      rintro e w1 ⟨rfl, n1, rfl⟩
      simp only [HB.out, ht]
      go_wp2_with fail
      refine (rdown_any C i d _ (RA.drewN n1) hi).mono ?_
      rintro e w2 ⟨rfl, R2, hm2⟩
      have hs2 := hm2.size
      have hM2 : Mv C.b w w2 := ((Mv.of_below hbA).trans (Mv.of_below (below_drewN (Below.refl _ _) n1))).trans hm2
      go_wp2_with fail
      refine (HN.out (n - 1) (by have := hn rfl; simp only [St.k] at this; have : i < C.l.length := hlt; omega) C _ (d + 1) _ T R2 (fun h => by have := hn rfl; simp only [St.k] at this; by_cases hd : d = 20; (subst hd; cases h); (simp only [St.down, if_neg hd, St.k]; omega))).mono ?_
      rintro e w3 ⟨hm3, st3, v3, rfl, R3, hq3⟩
      obtain ⟨op, x, s, so, m, sc, rfl⟩ := hq3.shape
      have HQ3 : Hid _ := hq3
      clear hq3
      have hs3 := hm3.size
      have hM3 := hM2.trans hm3
      have hlt3 : w.heap.size < w3.heap.size := by simp at hs2; omega
      have hne3 : w.heap.size ≠ w3.heap.size := by omega
      obtain ⟨z0, z1, z2, z3, zf⟩ := blk4 (hm3.row (by omega) (hm2.row (by omega) (row_keep (below_drewN (Below.refl _ _) n1) HZ.out)))
      have c2 := R3.c2
      have f2 := R3.fz 2
      have hdp := R3.dp
      have hbn : C.b ≠ w.heap.size := by omega
      have hbl3 : C.b < w3.heap.size := by omega
      have hbn3 : C.b ≠ w3.heap.size := by omega
      go_wp2
      have R4 : QS C st3 d (w3.setCell ⟨C.b, 2, none⟩ (.int .i64 d)) := R3.set2 rfl (by omega) (fun h => by have := R3.da h; omega)
      have hM4 : Mv C.b w (w3.setCell ⟨C.b, 2, none⟩ (.int .i64 d)) := hM3.trans (Mv.setAt _ _ _ _)
      have hl4 : w.heap.size < (w3.setCell ⟨C.b, 2, none⟩ (.int .i64 d)).heap.size := by rw [set2_size]; exact hlt3
      have hB : Below w.heap.size (w3.setCell ⟨C.b, 2, none⟩ (.int .i64 d)) (((set4 (w3.setCell ⟨C.b, 2, none⟩ (.int .i64 d)) w.heap.size (.string ⟨#[110, 111, 116]⟩) (.int .i64 0) (.string ⟨#[]⟩) (.slice (some ⟨w3.heap.size + 1, 0, none⟩) 1 1)).alloc (.cells #[.string op, .int .i64 x, .string s, .slice so m sc] 94)).alloc (.cells #[.string op, .int .i64 x, .string s, .slice so m sc] 94)) := build4b_below hl4
      refine bodyPost_ret (v := .agg #[.string ⟨#[110, 111, 116]⟩, .int .i64 0, .string ⟨#[]⟩, .slice (some ⟨w3.heap.size + 1, 0, none⟩) 1 1]) (by simp [results, Tryz.results160, go_sem, z0, z1, z2, z3, hlt3]) rfl ⟨hM4.upon hB, st3, _, rfl, R.upon R4 hB, ?_⟩
      have hq := HQ3.out
      by_cases hd : d = 20
      · subst hd
        rw [show (St.here i).down 20 = .bad i true from rfl] at hq
        cases hq
        exact .fail i i true _ (Run.ifT ht' (Run.deep rfl)) ⟨_, _, _, _, _, _, rfl⟩
      · rw [show (St.here i).down d = .here (i + 1) from by simp only [St.down, if_neg hd]] at hq
        generalize hv : Value.agg #[.string op, .int .i64 x, .string s, .slice so m sc] = v at hq
        cases hq with
        | ok _ j op' x' s' es so' sc' ys hp hij hrow hin =>
          injection hv with hv
          simp only [Array.mk.injEq, List.cons.injEq, Value.string.injEq, Value.int.injEq, Value.slice.injEq, true_and, and_true] at hv
          obtain ⟨rfl, rfl, rfl, rfl, rfl, rfl⟩ := hv
          have St : Stays (From w2.heap.size) (fun k => w.heap.size < k) w3 (w3.setCell ⟨C.b, 2, none⟩ (.int .i64 d)) := Stays.set (p := ⟨C.b, 2, none⟩) _ (fun k hk => by unfold From at hk; simp at hs2; exact ⟨by show k ≠ C.b; omega, by omega⟩)
          have hE := build4b (t := 94) (a := .string ⟨#[110, 111, 116]⟩) (b := .int .i64 0) (c := .string ⟨#[]⟩) (.cells #[.string op, .int .i64 x, .string s, .slice so es.length sc] 94) (ExIn.cons op x s es [] _ ys [] (hrow.keep St) (hin.keep St) .nil) (fun k hk => hk) hl4 1 rfl (by simp [maxLen]) #[.string op, .int .i64 x, .string s, .slice so es.length sc] rfl (w3.heap.size + 1) (by rw [set2_size])
          exact .ok i j _ _ _ _ _ _ _ (Parse.notMore ht' hd hp) (by omega) hE.1 hE.2
        | fail _ j bd _ hp _ => exact .fail i j bd _ (Run.ifT ht' (Run.down hd (Run.stop hp))) ⟨_, _, _, _, _, _, rfl⟩
  | false =>
    go_enter Tryz.func160, Tryz.ntmps160
    go_wp2_with fail
    refine (ris_any C _ d _ RA kWord _).mono ?_
    rintro e w1 ⟨rfl, n1, rfl⟩
    simp only [HB.out, ht]
    go_wp2_with fail
    refine (HS.out C st d _ T (RA.drewN n1) hn).mono ?_
    rintro e w2 ⟨hm2, st2, v2, rfl, R2, hq2⟩
    have hs2 : w.heap.size + 1 ≤ w2.heap.size := by have := hm2.size; simpa using this
    have hM2 : Mv C.b w w2 := ((Mv.of_below hbA).trans (Mv.of_below (below_drewN (Below.refl _ _) n1))).trans hm2
    obtain ⟨op, x, s, so, m, sc, rfl⟩ := hq2.shape
    have HQ2 : Hid _ := hq2
    clear hq2
    have hbB : Below w2.heap.size w2 (w2.alloc (.cells #[.string op, .int .i64 x, .string s, .slice so m sc] 94)) := (Below.refl _ _).alloc (Nat.le_refl _) _
    have HX2 : Hid _ := heap_alloc_new w2 (.cells #[.string op, .int .i64 x, .string s, .slice so m sc] 94)
    have HZ2 : Hid _ := row_keep hbB (hm2.row (k := w.heap.size) (by omega) (row_keep (below_drewN (Below.refl _ _) n1) HZ.out))
    have RB := R2.below hbB
    go_wp2_with fail
    refine (rsome_new C st2 d _ RB T cmps _ 7 (by simp) rfl (by decide) (by decide)).mono ?_
    rintro e w3 ⟨rfl, hb3⟩
    have hs3 : w2.heap.size + 1 ≤ w3.heap.size := by have := hb3.size; simpa using this
    have hM3 : Mv C.b w w3 := (hM2.trans (Mv.of_below hbB)).trans (Mv.of_below hb3)
    have R3 := RB.below hb3
    have St2 : Stays (From (w.heap.size + 1)) (fun k => w.heap.size < k) w2 w3 := (Stays.below (S' := From (w.heap.size + 1)) hbB (fun k hk => hk)).trans (Stays.below hb3 (fun k hk => by unfold From at hk; omega)) (by simp)
    have Stz : Stays (From (w.heap.size + 1)) (From w.heap.size) w2 (set4 w3 w.heap.size (.string op) (.int .i64 x) (.string s) (.slice so m sc)) := St2.trans (set4_stays (fun k hk => ⟨by omega, by unfold From; omega⟩)) (by omega)
    have hsz : ((w.alloc rTerm).drewN n1).heap.size = w.heap.size + 1 := by simp
    rw [hsz] at HQ2
    have hB3 : Below w.heap.size w3 (set4 w3 w.heap.size (.string op) (.int .i64 x) (.string s) (.slice so m sc)) := set4_below (Nat.le_refl _)
    have hcmp0 : ∀ i, st = .here i → tx C.l i tNot = false := fun i h => by subst h; exact ht
    obtain ⟨z0, z1, z2, z3, zf⟩ := blk4 (row_keep hb3 HZ2.out)
    obtain ⟨c0, c1, c2, c3, _⟩ := blk4 (row_keep hb3 HX2.out)
    cases st2 with
    | bad j bd =>
      simp only [St.some]
      go_wp2
      refine bodyPost_ret (v := .agg #[.string op, .int .i64 x, .string s, .slice so m sc]) (by simp [results, Tryz.results160, go_sem, z0, z1, z2, z3]) rfl ⟨hM3.upon hB3, _, _, rfl, R.upon R3 hB3, HQ2.out.move Stz (fun i j e h1 h2 => by cases h2) (fun i j bd h1 hp => Run.ifF (hcmp0 i h1) (Run.tail (Run.stop hp)))⟩
    | here j =>
      cases hc : txs C.l j cmps with
      | false =>
        simp only [St.some, hc, Bool.false_eq_true, if_false]
        go_wp2
        refine bodyPost_ret (v := .agg #[.string op, .int .i64 x, .string s, .slice so m sc]) (by simp [results, Tryz.results160, go_sem, z0, z1, z2, z3]) rfl ⟨hM3.upon hB3, _, _, rfl, R.upon R3 hB3, HQ2.out.move Stz (fun i j' e h1 h2 hp => by injection h2 with h2; subst h2; exact Run.ifF (hcmp0 i h1) (Run.tail (Run.then hp (Run.ifF hc Run.done)))) (fun i j bd h1 hp => Run.ifF (hcmp0 i h1) (Run.tail (Run.stop hp)))⟩
      | true =>
        have hj : j < C.l.length := R2.lt
        have hj1 : j + 1 < C.l.length := T.next_txs hj (by decide) hc
        have hne : (tkx C.l j).toList.isEmpty = false := by
          simp only [txs, List.any_eq_true] at hc
          obtain ⟨y, hy, hyx⟩ := hc
          have e : (tkx C.l j).toList = y := by simpa [tx] using hyx
          rw [e]
          simp only [cmps, List.mem_cons, List.not_mem_nil, or_false] at hy
          rcases hy with rfl | rfl | rfl | rfl | rfl | rfl | rfl <;> rfl
        have hlen := R2.len
        have q1 := R3.c1
        have qf := R3.fz 1
        simp only [St.k] at q1
        simp only [St.some, hc, if_true]
        have R4 := R3.set1 (j := j + 1) (x := (j : Int) + 1) (by omega) hj1
        go_wp2_with fail
        refine (HS.out C (.here (j + 1)) d _ T R4 (fun _ => HQ2.out.left hn)).mono ?_
        rintro e w5 ⟨hm5, st5, v5, rfl, R5, hq5⟩
        have hs5 : w3.heap.size ≤ w5.heap.size := by have := hm5.size; simpa using this
        obtain ⟨op', x', s', so', m', sc', rfl⟩ := hq5.shape
        have HQ5 : Hid _ := hq5
        clear hq5
        have hmm : Mv C.b w3 w5 := (Mv.setAt _ _ _ _).trans hm5
        have hM5 := hM3.trans hmm
        have hbC : Below w5.heap.size w5 (w5.alloc (.cells #[.string op', .int .i64 x', .string s', .slice so' m' sc'] 94)) := (Below.refl _ _).alloc (Nat.le_refl _) _
        obtain ⟨d0, d1, d2, d3, _⟩ := blk4 (hmm.row (k := w2.heap.size) (by omega) (row_keep hb3 HX2.out))
        have HZ5 : Hid _ := hmm.row (k := w.heap.size) (by omega) (row_keep hb3 HZ2.out)
        have hl5 : w2.heap.size < w5.heap.size := by omega
        have hn5 : w2.heap.size ≠ w5.heap.size := by omega
        clear z0 z1 z2 z3 zf c0 c1 c2 c3 q1 qf
        go_wp2_with fail
        refine (pair_any _ _ _ _ _ _ _ _ _ _ _ _ _ _).mono ?_
        rintro e w6 ⟨g, rfl, hg, hgc, hb6⟩
        have hs6 : w5.heap.size + 1 ≤ w6.heap.size := by have := hb6.size; simpa using this
        simp only [World.size_alloc] at hg
        obtain ⟨z0, z1, z2, z3, zf⟩ := blk4 (row_keep hb6 (row_keep hbC HZ5.out))
        have hB6 : Below w.heap.size w6 (set4 w6 w.heap.size (.string (tkx C.l j)) (.int .i64 0) (.string ⟨#[]⟩) (.slice (some ⟨g, 0, none⟩) 2 2)) := set4_below (Nat.le_refl _)
        have StA : Stays (From (w.heap.size + 1)) (From w.heap.size) w2 (set4 w6 w.heap.size (.string (tkx C.l j)) (.int .i64 0) (.string ⟨#[]⟩) (.slice (some ⟨g, 0, none⟩) 2 2)) := (((St2.trans (Stays.mv (S' := fun k => w.heap.size < k) hmm (fun k hk => ⟨by omega, hk⟩)) (by omega)).trans (Stays.below hbC (fun k hk => hk)) (by omega)).trans (Stays.below hb6 (fun k hk => hk)) (by simp; omega)).trans (set4_stays (fun k hk => ⟨by omega, by unfold From; omega⟩)) (by omega)
        have StB : Stays (From w3.heap.size) (From w.heap.size) w5 (set4 w6 w.heap.size (.string (tkx C.l j)) (.int .i64 0) (.string ⟨#[]⟩) (.slice (some ⟨g, 0, none⟩) 2 2)) := ((Stays.below (S' := fun k => w.heap.size < k) hbC (fun k hk => by unfold From at hk; omega)).trans (Stays.below hb6 (fun k hk => hk)) (by simp)).trans (set4_stays (fun k hk => ⟨by omega, by unfold From; omega⟩)) (by omega)
        rw [set2_size] at HQ5
        go_wp2
        refine bodyPost_ret (v := .agg #[.string (tkx C.l j), .int .i64 0, .string ⟨#[]⟩, .slice (some ⟨g, 0, none⟩) 2 2]) (by simp [results, Tryz.results160, go_sem, z0, z1, z2, z3]) rfl ⟨((hM5.trans (Mv.of_below hbC)).trans (Mv.of_below hb6)).upon hB6, _, _, rfl, R.upon ((R5.below hbC).below hb6) hB6, ?_⟩
        exact HQ2.out.pair HQ5.out StA StB ((set4_block (by omega)).trans hgc) (by omega) (fun i e e' k h1 hp hp' => Run.ifF (hcmp0 i h1) (Run.tail (Run.then hp (Run.ifT hc (Run.then hp' Run.done))))) (fun i e k bd h1 hp hp' => Run.ifF (hcmp0 i h1) (Run.tail (Run.then hp (Run.ifT hc (Run.stop hp')))))
end Go.Proofs.YtomgimfmcfjhdaaGreatDoor

/-
  lustrumref1's READER OF TERMS: or, and, sum, product BY THEIR CONTRACTS.
-/
namespace Go.Proofs.YtomgimfmcfjhdaaGreatDoor
open Go.RowKit
attribute [local go_sem ↓] Go.wp_at_zero Go.wp_at_succ

/-- What a loop over operators has so far. -/
inductive LRel (l : List Tk) (v : Lv) (d : Nat) (S : Nat → Prop) (wr : World) (st0 : St) : St → Value → Prop
  | ok (i j : Nat) (op : ByteArray) (x : Int) (s : ByteArray) (es : List Ex) (so : Option Addr) (sc : Nat) (ys : List Value) : st0 = .here i → (∀ r, Parse l (.loop v [.mk op x s es]) j d r → Parse l (.left v) i d r) → i < j → RowAt wr S 4 (.slice so es.length sc) es.length ys → ExIn wr S es ys → LRel l v d S wr st0 (.here j) (.agg #[.string op, .int .i64 x, .string s, .slice so es.length sc])
  | fail (i j : Nat) (bd : Bool) (u : Value) : st0 = .here i → Parse l (.left v) i d (.bad j bd) → Shape u → LRel l v d S wr st0 (.bad j bd) u
  | stay (j : Nat) (bd : Bool) (u : Value) : st0 = .bad j bd → Shape u → LRel l v d S wr st0 (.bad j bd) u
theorem LRel.shape {l : List Tk} {v : Lv} {d : Nat} {S : Nat → Prop} {wr : World} {st0 st : St} {u : Value} (h : LRel l v d S wr st0 st u) : Shape u := by
  cases h with
  | ok i j op x s es so sc ys => exact ⟨op, x, s, so, _, sc, rfl⟩
  | fail _ _ _ _ _ _ h => exact h
  | stay _ _ _ _ h => exact h
theorem LRel.left {l : List Tk} {v : Lv} {d : Nat} {S : Nat → Prop} {wr : World} {st0 : St} {j n : Nat} {u : Value} (h : LRel l v d S wr st0 (.here j) u) (hn : st0.isAt = true → l.length - st0.k ≤ n) : l.length - (j + 1) ≤ n := by
  cases h with
  | ok i j op x s es so sc ys h0 hp hij =>
    subst h0
    have := hn rfl
    simp only [St.k] at this
    omega
theorem QRel.loop {l : List Tk} {v : Lv} {d base : Nat} {S : Nat → Prop} {w1 wr : World} {st0 st : St} {u : Value} (h : QRel l v.part d base w1 st0 st u) (hk : Stays (From base) S w1 wr) : LRel l v d S wr st0 st u := by
  cases h with
  | ok i j op x s es so sc ys hp hij hrow hin => exact .ok i j op x s es so sc ys rfl (fun r hr => Parse.left v hp hr) hij (hrow.keep hk) (hin.keep hk)
  | fail i j bd u hp hs => exact .fail i j bd u rfl (Run.stop hp) hs
  | stay j bd u hs => exact .stay j bd u rfl hs
theorem LRel.done {l : List Tk} {v : Lv} {d base : Nat} {S : Nat → Prop} {wr w' : World} {st0 st : St} {u : Value} (h : LRel l v d S wr st0 st u) (hk : Stays S (From base) wr w') (hst : ∀ j, st = .here j → txs l j v.ops = false) : QRel l (.left v) d base w' st0 st u := by
  cases h with
  | ok i j op x s es so sc ys h0 hp hij hrow hin => subst h0; exact .ok i j op x s es so sc ys (hp _ (Parse.loopStop v (hst j rfl))) hij (hrow.keep hk) (hin.keep hk)
  | fail i j bd u h0 hp hs => subst h0; exact .fail i j bd u hp hs
  | stay j bd u h0 hs => subst h0; exact .stay j bd u hs
/-- One operator more. -/
theorem LRel.more {l : List Tk} {v : Lv} {d base2 g : Nat} {S S' : Nat → Prop} {wr w2 w' : World} {st0 st2 : St} {j : Nat} {op op' : ByteArray} {x x' : Int} {s s' : ByteArray} {so so' : Option Addr} {m m' sc sc' : Nat} {t : TypeId} (h1 : LRel l v d S wr st0 (.here j) (.agg #[.string op, .int .i64 x, .string s, .slice so m sc])) (h2 : QRel l v.part d base2 w2 (.here (j + 1)) st2 (.agg #[.string op', .int .i64 x', .string s', .slice so' m' sc'])) (ht : txs l j v.ops = true) (k1 : Stays S S' wr w') (k2 : Stays (From base2) S' w2 w') (hg : w'.heap[g]? = some (.cells #[.string op, .int .i64 x, .string s, .slice so m sc, .string op', .int .i64 x', .string s', .slice so' m' sc'] t (0, 0))) (hgb : S' g) :
    LRel l v d S' w' st0 st2 (.agg #[.string (tkx l j), .int .i64 0, .string ⟨#[]⟩, .slice (some ⟨g, 0, none⟩) 2 2]) := by
  generalize hv1 : Value.agg #[.string op, .int .i64 x, .string s, .slice so m sc] = v1 at h1
  generalize hv2 : Value.agg #[.string op', .int .i64 x', .string s', .slice so' m' sc'] = v2 at h2
  cases h1 with
  | ok i _ op1 x1 s1 es1 so1 sc1 ys1 h0 hp1 hij1 hrow1 hin1 =>
    injection hv1 with hv1
    simp only [Array.mk.injEq, List.cons.injEq, Value.string.injEq, Value.int.injEq, Value.slice.injEq, true_and, and_true] at hv1
    obtain ⟨rfl, rfl, rfl, rfl, rfl, rfl⟩ := hv1
    cases h2 with
    | ok _ k op2 x2 s2 es2 so2 sc2 ys2 hp2 hij2 hrow2 hin2 =>
      injection hv2 with hv2
      simp only [Array.mk.injEq, List.cons.injEq, Value.string.injEq, Value.int.injEq, Value.slice.injEq, true_and, and_true] at hv2
      obtain ⟨rfl, rfl, rfl, rfl, rfl, rfl⟩ := hv2
      exact .ok i k _ _ _ [_, _] _ _ _ h0 (fun r hr => hp1 r (Parse.loopMore v ht hp2 hr)) (by omega) (RowAt.blk hg rfl rfl (by simp [maxLen]) hgb) (.cons _ _ _ _ _ _ _ _ (hrow1.keep k1) (hin1.keep k1) (.cons _ _ _ _ _ _ _ _ (hrow2.keep k2) (hin2.keep k2) .nil))
    | fail _ k bd _ hp2 _ => exact .fail i k bd _ h0 (hp1 _ (Parse.loopBad v ht hp2)) ⟨_, _, _, _, _, _, rfl⟩
theorem LRel.keep {l : List Tk} {v : Lv} {d : Nat} {S S' : Nat → Prop} {wr w' : World} {st0 st : St} {u : Value} (h : LRel l v d S wr st0 st u) (hk : Stays S S' wr w') : LRel l v d S' w' st0 st u := by
  cases h with
  | ok i j op x s es so sc ys h0 hp hij hrow hin => exact .ok i j op x s es so sc ys h0 hp hij (hrow.keep hk) (hin.keep hk)
  | fail i j bd u h0 hp hs => exact .fail i j bd u h0 hp hs
  | stay j bd u h0 hs => exact .stay j bd u h0 hs
def qpos (w : World) (b : Nat) : Nat := match w.cell? ⟨b, 1, none⟩ with | some (.int _ k) => k.toNat | _ => 0
/-- Tokens that are left; none where it has failed. -/
def qleft (l : List Tk) (w : World) (b : Nat) : Nat := match w.cell? ⟨b, 3, none⟩ with | some (.int _ 0) => l.length - qpos w b + 1 | _ => 0
theorem QS.qpos {C : Qc} {st : St} {d : Nat} {w : World} (R : QS C st d w) : Proofs.YtomgimfmcfjhdaaGreatDoor.qpos w C.b = st.k := by simp [Proofs.YtomgimfmcfjhdaaGreatDoor.qpos, R.c1]
theorem QS.left_at {C : Qc} {i d : Nat} {w : World} (R : QS C (.here i) d w) : qleft C.l w C.b = C.l.length - i + 1 := by
  simp only [qleft, R.qpos, R.c3, St.k, St.code]
theorem QS.left_bad {C : Qc} {j : Nat} {bd : Bool} {d : Nat} {w : World} (R : QS C (.bad j bd) d w) : qleft C.l w C.b = 0 := by
  cases bd <;> simp [qleft, R.c3, St.code]
theorem QRel.less {c : Cd} {C : Qc} {d d' n base : Nat} {w w1 w' : World} {j : Nat} {st' : St} {v : Value} (h : QRel C.l c d base w1 (.here (j + 1)) st' v) (R : QS C (.here j) d' w) (R' : QS C st' n w') : qleft C.l w' C.b < qleft C.l w C.b := by
  rw [R.left_at]
  cases h with
  | ok _ k _ _ _ _ _ _ _ _ hk => rw [R'.left_at]; have := R'.lt; simp only [St.k] at this; omega
  | fail _ k bd _ _ _ => rw [R'.left_bad]; omega

theorem ne_or {l : List Tk} {j : Nat} (hc : txs l j (Lv.ops .or) = true) : (tkx l j).toList.isEmpty = false := by
  simp only [txs, List.any_eq_true] at hc
  obtain ⟨y, hy, hyx⟩ := hc
  have e : (tkx l j).toList = y := by simpa [tx] using hyx
  rw [e]
  simp only [Lv.ops, List.mem_cons, List.not_mem_nil, or_false] at hy
  rcases hy with rfl | rfl <;> rfl
set_option maxRecDepth 100000 in
set_option maxHeartbeats 1000000 in
theorem ror_fits (n : Nat) (hK : QFits 139 (Lv.part .or) n) : QFits 116 (.left .or) n := by
  intro C st d w T R hn
  have HK : Hid (QFits 139 (Lv.part .or) n) := hK
  have HN : Hid (st.isAt = true → C.l.length - st.k ≤ n) := hn
  clear hK hn
  have hbl := R.blt
  have hbA : Below w.heap.size w (w.alloc rTerm) := (Below.refl _ _).alloc (Nat.le_refl _) _
  have HZ : Hid _ := heap_alloc_new w rTerm
  have RA := R.below hbA
  go_enter Tryz.func116, Tryz.ntmps116
  go_wp2_with fail
  refine (HK.out C st d _ T RA HN.out).mono ?_
  rintro e w1 ⟨hm1, st1, v1, rfl, R1, hq1⟩
  have hs1 : w.heap.size + 1 ≤ w1.heap.size := by have := hm1.size; simpa using this
  obtain ⟨op, x, s, so, m, sc, rfl⟩ := hq1.shape
  have hbB : Below w1.heap.size w1 (w1.alloc (.cells #[.string op, .int .i64 x, .string s, .slice so m sc] 94)) := (Below.refl _ _).alloc (Nat.le_refl _) _
  have HX1 : Hid _ := heap_alloc_new w1 (.cells #[.string op, .int .i64 x, .string s, .slice so m sc] 94)
  have HZ1 : Hid _ := row_keep hbB (hm1.row (k := w.heap.size) (by omega) HZ.out)
  have HQ1 : Hid _ := hq1
  clear hq1
  go_wp2_with fail
  refine (rsome_new C st1 d _ (R1.below hbB) T (Lv.ops .or) _ 2 (by simp) rfl (by decide) (by decide)).mono ?_
  rintro e w2 ⟨rfl, hb2⟩
  have hs2 : w1.heap.size + 1 ≤ w2.heap.size := by have := hb2.size; simpa using this
  have hM2 : Mv C.b w w2 := (((Mv.of_below hbA).trans hm1).trans (Mv.of_below hbB)).trans (Mv.of_below hb2)
  have R2 := (R1.below hbB).below hb2
  have HX2 : Hid (w2.heap[w1.heap.size]? = some (.cells #[.string op, .int .i64 x, .string s, .slice so m sc] 94 (0, 0))) := row_keep hb2 HX1.out
  have HZ2 : Hid (w2.heap[w.heap.size]? = some rTerm) := row_keep hb2 HZ1.out
  have HL2 : Hid (LRel C.l .or d (fun k => w.heap.size < k ∧ k ≠ w1.heap.size) w2 st st1 (.agg #[.string op, .int .i64 x, .string s, .slice so m sc])) := HQ1.out.loop (fun k hk hl => by
    unfold From at hk
    simp only [World.size_alloc] at hk
    exact ⟨⟨by omega, by omega⟩, (hb2.block k (by simp; omega)).trans (hbB.block k hl)⟩)
  go_wp2
  go_loopw [4] (fun v wr => ∃ (st' : St) (op : ByteArray) (x : Int) (s : ByteArray) (so : Option Addr) (m sc : Nat), v = .string (st'.some C.l (Lv.ops .or)) ∧ QS C st' d wr ∧ Hid (wr.heap[w1.heap.size]? = some (.cells #[.string op, .int .i64 x, .string s, .slice so m sc] 94 (0, 0))) ∧ Hid (wr.heap[w.heap.size]? = some rTerm) ∧ Mv C.b w wr ∧ w1.heap.size < wr.heap.size ∧ Hid (LRel C.l .or d (fun k => w.heap.size < k ∧ k ≠ w1.heap.size) wr st st' (.agg #[.string op, .int .i64 x, .string s, .slice so m sc]))) (fun _ wr => qleft C.l wr C.b)
  case atStart => exact ⟨st1, op, x, s, so, m, sc, rfl, R2, HX2, HZ2, hM2, by omega, HL2⟩
  case round =>
    clear HL2 HX2 HZ2 R2 hM2 HQ1 HZ1 HX1
    obtain ⟨st', op, x, s, so, m, sc, rfl, Rr, HX, HZr, hmr, hszr, HL⟩ := hrel
    by_cases hc : ∃ j, st' = .here j ∧ txs C.l j (Lv.ops .or) = true
    · obtain ⟨j, rfl, hc⟩ := hc
      have hj : j < C.l.length := Rr.lt
      have hj1 : j + 1 < C.l.length := T.next_txs hj (by decide) hc
      have hne := ne_or hc
      have hlen := Rr.len
      have q1 := Rr.c1
      have qf := Rr.fz 1
      simp only [St.k] at q1
      have e1 : (St.here j).some C.l (Lv.ops .or) = tkx C.l j := by simp only [St.some, hc, if_true]
      simp only [e1]
      have R3 := Rr.set1 (j := j + 1) (x := (j : Int) + 1) (by omega) hj1
      go_wp2_with fail
      refine (HK.out C (.here (j + 1)) d _ T R3 (fun _ => HL.out.left HN.out)).mono ?_
      rintro e w4 ⟨hm4, st4, v4, rfl, R4, hq4⟩
      have hs4 : wr.heap.size ≤ w4.heap.size := by have := hm4.size; simpa using this
      obtain ⟨op', x', s', so', m', sc', rfl⟩ := hq4.shape
      have HQ4 : Hid _ := hq4
      clear hq4
      have hmm : Mv C.b wr w4 := (Mv.setAt _ _ _ _).trans hm4
      have hbC : Below w4.heap.size w4 (w4.alloc (.cells #[.string op', .int .i64 x', .string s', .slice so' m' sc'] 94)) := (Below.refl _ _).alloc (Nat.le_refl _) _
      obtain ⟨d0, d1, d2, d3, _⟩ := blk4 (hmm.row (k := w1.heap.size) (by omega) HX.out)
      have HX4 : Hid _ := row_keep hbC (hmm.row (k := w1.heap.size) (by omega) HX.out)
      have HZ4 : Hid _ := row_keep hbC (hmm.row (k := w.heap.size) (by omega) HZr.out)
      have hl4 : w1.heap.size < w4.heap.size := by omega
      have hn4 : w1.heap.size ≠ w4.heap.size := by omega
      clear q1 qf
      go_wp2_with fail
      refine (pair_any _ _ _ _ _ _ _ _ _ _ _ _ _ _).mono ?_
      rintro e w5 ⟨g, rfl, hg, hgc, hb5⟩
      have hs5 : w4.heap.size + 1 ≤ w5.heap.size := by have := hb5.size; simpa using this
      simp only [World.size_alloc] at hg
      have hx5 := row_keep hb5 HX4.out
      obtain ⟨z0, z1, z2, z3, zf⟩ := blk4 hx5
      have HX5 : Hid ((set4 w5 w1.heap.size (.string (tkx C.l j)) (.int .i64 0) (.string ⟨#[]⟩) (.slice (some ⟨g, 0, none⟩) 2 2)).heap[w1.heap.size]? = some (.cells #[.string (tkx C.l j), .int .i64 0, .string ⟨#[]⟩, .slice (some ⟨g, 0, none⟩) 2 2] 94 (0, 0))) := set4_row hx5
      have HZ5 : Hid ((set4 w5 w1.heap.size (.string (tkx C.l j)) (.int .i64 0) (.string ⟨#[]⟩) (.slice (some ⟨g, 0, none⟩) 2 2)).heap[w.heap.size]? = some rTerm) := (set4_block (by omega)).trans (row_keep hb5 HZ4.out)
      have hB5 : Below w.heap.size w5 (set4 w5 w1.heap.size (.string (tkx C.l j)) (.int .i64 0) (.string ⟨#[]⟩) (.slice (some ⟨g, 0, none⟩) 2 2)) := set4_below (by omega)
      have R5 := R.upon ((R4.below hbC).below hb5) hB5
      have hM5 : Mv C.b w _ := (((hmr.trans hmm).trans (Mv.of_below hbC)).trans (Mv.of_below hb5)).upon hB5
      have StA : Stays (fun k => w.heap.size < k ∧ k ≠ w1.heap.size) (fun k => w.heap.size < k ∧ k ≠ w1.heap.size) wr (set4 w5 w1.heap.size (.string (tkx C.l j)) (.int .i64 0) (.string ⟨#[]⟩) (.slice (some ⟨g, 0, none⟩) 2 2)) := (((Stays.mv (S' := fun k => w.heap.size < k ∧ k ≠ w1.heap.size) hmm (fun k hk => ⟨by omega, hk⟩)).trans (Stays.below hbC (fun k hk => hk)) (by omega)).trans (Stays.below hb5 (fun k hk => hk)) (by simp; omega)).trans (set4_stays (fun k hk => ⟨hk.2, hk⟩)) (by omega)
      have StB : Stays (From wr.heap.size) (fun k => w.heap.size < k ∧ k ≠ w1.heap.size) w4 (set4 w5 w1.heap.size (.string (tkx C.l j)) (.int .i64 0) (.string ⟨#[]⟩) (.slice (some ⟨g, 0, none⟩) 2 2)) := ((Stays.below (S' := fun k => w.heap.size < k ∧ k ≠ w1.heap.size) hbC (fun k hk => by unfold From at hk; omega)).trans (Stays.below hb5 (fun k hk => hk)) (by simp)).trans (set4_stays (fun k hk => ⟨hk.2, hk⟩)) (by omega)
      rw [set2_size] at HQ4
      have HL5 : Hid _ := HL.out.more HQ4.out hc StA StB ((set4_block (by omega)).trans hgc) ⟨by omega, by omega⟩
      clear hx5 StA StB
      go_wp2_with fail
      refine (rsome_new C st4 d _ R5 T (Lv.ops .or) _ 2 (by simp [set4]) rfl (by decide) (by decide)).mono ?_
      rintro e w6 ⟨rfl, hb6⟩
      have hs6 := hb6.size
      rw [set4_size] at hs6
      go_wp2
      have HL6 : LRel C.l .or d (fun k => w.heap.size < k ∧ k ≠ w1.heap.size) w6 st st4 (.agg #[.string (tkx C.l j), .int .i64 0, .string ⟨#[]⟩, .slice (some ⟨g, 0, none⟩) 2 2]) := HL5.out.keep (Stays.below hb6 (fun k hk => hk))
      exact ⟨⟨st4, tkx C.l j, 0, ⟨#[]⟩, some ⟨g, 0, none⟩, 2, 2, rfl, R5.below hb6, row_keep hb6 HX5.out, row_keep hb6 HZ5.out, hM5.trans (Mv.of_below hb6), by omega, HL6⟩, HQ4.out.less Rr (R5.below hb6)⟩
    · have hst : ∀ j, st' = .here j → txs C.l j (Lv.ops .or) = false := fun j h => by
        cases h' : txs C.l j (Lv.ops .or) with
        | false => rfl
        | true => exact absurd ⟨j, h, h'⟩ hc
      have e0 : st'.some C.l (Lv.ops .or) = b0 := by
        cases st' with
        | bad j bd => rfl
        | here j => simp only [St.some, hst j rfl, Bool.false_eq_true, if_false]
      clear hc
      simp only [e0]
      obtain ⟨c0, c1, c2, c3, _⟩ := blk4 HX.out
      obtain ⟨z0, z1, z2, z3, zf⟩ := blk4 HZr.out
      have hB : Below w.heap.size wr (set4 wr w.heap.size (.string op) (.int .i64 x) (.string s) (.slice so m sc)) := set4_below (Nat.le_refl _)
      go_wp2
      exact bodyPost_ret (v := .agg #[.string op, .int .i64 x, .string s, .slice so m sc]) (by simp [results, Tryz.results116, go_sem, z0, z1, z2, z3]) rfl ⟨hmr.upon hB, _, _, rfl, R.upon Rr hB, HL.out.done (set4_stays (fun k hk => ⟨by omega, by unfold From; omega⟩)) hst⟩

theorem ne_sum {l : List Tk} {j : Nat} (hc : txs l j (Lv.ops .sum) = true) : (tkx l j).toList.isEmpty = false := by
  simp only [txs, List.any_eq_true] at hc
  obtain ⟨y, hy, hyx⟩ := hc
  have e : (tkx l j).toList = y := by simpa [tx] using hyx
  rw [e]
  simp only [Lv.ops, List.mem_cons, List.not_mem_nil, or_false] at hy
  rcases hy with rfl | rfl <;> rfl
set_option maxRecDepth 100000 in
set_option maxHeartbeats 1000000 in
theorem rsum_fits (n : Nat) (hK : QFits 179 (Lv.part .sum) n) : QFits 169 (.left .sum) n := by
  intro C st d w T R hn
  have HK : Hid (QFits 179 (Lv.part .sum) n) := hK
  have HN : Hid (st.isAt = true → C.l.length - st.k ≤ n) := hn
  clear hK hn
  have hbl := R.blt
  have hbA : Below w.heap.size w (w.alloc rTerm) := (Below.refl _ _).alloc (Nat.le_refl _) _
  have HZ : Hid _ := heap_alloc_new w rTerm
  have RA := R.below hbA
  go_enter Tryz.func169, Tryz.ntmps169
  go_wp2_with fail
  refine (HK.out C st d _ T RA HN.out).mono ?_
  rintro e w1 ⟨hm1, st1, v1, rfl, R1, hq1⟩
  have hs1 : w.heap.size + 1 ≤ w1.heap.size := by have := hm1.size; simpa using this
  obtain ⟨op, x, s, so, m, sc, rfl⟩ := hq1.shape
  have hbB : Below w1.heap.size w1 (w1.alloc (.cells #[.string op, .int .i64 x, .string s, .slice so m sc] 94)) := (Below.refl _ _).alloc (Nat.le_refl _) _
  have HX1 : Hid _ := heap_alloc_new w1 (.cells #[.string op, .int .i64 x, .string s, .slice so m sc] 94)
  have HZ1 : Hid _ := row_keep hbB (hm1.row (k := w.heap.size) (by omega) HZ.out)
  have HQ1 : Hid _ := hq1
  clear hq1
  go_wp2_with fail
  refine (rsome_new C st1 d _ (R1.below hbB) T (Lv.ops .sum) _ 2 (by simp) rfl (by decide) (by decide)).mono ?_
  rintro e w2 ⟨rfl, hb2⟩
  have hs2 : w1.heap.size + 1 ≤ w2.heap.size := by have := hb2.size; simpa using this
  have hM2 : Mv C.b w w2 := (((Mv.of_below hbA).trans hm1).trans (Mv.of_below hbB)).trans (Mv.of_below hb2)
  have R2 := (R1.below hbB).below hb2
  have HX2 : Hid (w2.heap[w1.heap.size]? = some (.cells #[.string op, .int .i64 x, .string s, .slice so m sc] 94 (0, 0))) := row_keep hb2 HX1.out
  have HZ2 : Hid (w2.heap[w.heap.size]? = some rTerm) := row_keep hb2 HZ1.out
  have HL2 : Hid (LRel C.l .sum d (fun k => w.heap.size < k ∧ k ≠ w1.heap.size) w2 st st1 (.agg #[.string op, .int .i64 x, .string s, .slice so m sc])) := HQ1.out.loop (fun k hk hl => by
    unfold From at hk
    simp only [World.size_alloc] at hk
    exact ⟨⟨by omega, by omega⟩, (hb2.block k (by simp; omega)).trans (hbB.block k hl)⟩)
  go_wp2
  go_loopw [4] (fun v wr => ∃ (st' : St) (op : ByteArray) (x : Int) (s : ByteArray) (so : Option Addr) (m sc : Nat), v = .string (st'.some C.l (Lv.ops .sum)) ∧ QS C st' d wr ∧ Hid (wr.heap[w1.heap.size]? = some (.cells #[.string op, .int .i64 x, .string s, .slice so m sc] 94 (0, 0))) ∧ Hid (wr.heap[w.heap.size]? = some rTerm) ∧ Mv C.b w wr ∧ w1.heap.size < wr.heap.size ∧ Hid (LRel C.l .sum d (fun k => w.heap.size < k ∧ k ≠ w1.heap.size) wr st st' (.agg #[.string op, .int .i64 x, .string s, .slice so m sc]))) (fun _ wr => qleft C.l wr C.b)
  case atStart => exact ⟨st1, op, x, s, so, m, sc, rfl, R2, HX2, HZ2, hM2, by omega, HL2⟩
  case round =>
    clear HL2 HX2 HZ2 R2 hM2 HQ1 HZ1 HX1
    obtain ⟨st', op, x, s, so, m, sc, rfl, Rr, HX, HZr, hmr, hszr, HL⟩ := hrel
    by_cases hc : ∃ j, st' = .here j ∧ txs C.l j (Lv.ops .sum) = true
    · obtain ⟨j, rfl, hc⟩ := hc
      have hj : j < C.l.length := Rr.lt
      have hj1 : j + 1 < C.l.length := T.next_txs hj (by decide) hc
      have hne := ne_sum hc
      have hlen := Rr.len
      have q1 := Rr.c1
      have qf := Rr.fz 1
      simp only [St.k] at q1
      have e1 : (St.here j).some C.l (Lv.ops .sum) = tkx C.l j := by simp only [St.some, hc, if_true]
      simp only [e1]
      have R3 := Rr.set1 (j := j + 1) (x := (j : Int) + 1) (by omega) hj1
      go_wp2_with fail
      refine (HK.out C (.here (j + 1)) d _ T R3 (fun _ => HL.out.left HN.out)).mono ?_
      rintro e w4 ⟨hm4, st4, v4, rfl, R4, hq4⟩
      have hs4 : wr.heap.size ≤ w4.heap.size := by have := hm4.size; simpa using this
      obtain ⟨op', x', s', so', m', sc', rfl⟩ := hq4.shape
      have HQ4 : Hid _ := hq4
      clear hq4
      have hmm : Mv C.b wr w4 := (Mv.setAt _ _ _ _).trans hm4
      have hbC : Below w4.heap.size w4 (w4.alloc (.cells #[.string op', .int .i64 x', .string s', .slice so' m' sc'] 94)) := (Below.refl _ _).alloc (Nat.le_refl _) _
      obtain ⟨d0, d1, d2, d3, _⟩ := blk4 (hmm.row (k := w1.heap.size) (by omega) HX.out)
      have HX4 : Hid _ := row_keep hbC (hmm.row (k := w1.heap.size) (by omega) HX.out)
      have HZ4 : Hid _ := row_keep hbC (hmm.row (k := w.heap.size) (by omega) HZr.out)
      have hl4 : w1.heap.size < w4.heap.size := by omega
      have hn4 : w1.heap.size ≠ w4.heap.size := by omega
      clear q1 qf
      go_wp2_with fail
      refine (pair_any _ _ _ _ _ _ _ _ _ _ _ _ _ _).mono ?_
      rintro e w5 ⟨g, rfl, hg, hgc, hb5⟩
      have hs5 : w4.heap.size + 1 ≤ w5.heap.size := by have := hb5.size; simpa using this
      simp only [World.size_alloc] at hg
      have hx5 := row_keep hb5 HX4.out
      obtain ⟨z0, z1, z2, z3, zf⟩ := blk4 hx5
      have HX5 : Hid ((set4 w5 w1.heap.size (.string (tkx C.l j)) (.int .i64 0) (.string ⟨#[]⟩) (.slice (some ⟨g, 0, none⟩) 2 2)).heap[w1.heap.size]? = some (.cells #[.string (tkx C.l j), .int .i64 0, .string ⟨#[]⟩, .slice (some ⟨g, 0, none⟩) 2 2] 94 (0, 0))) := set4_row hx5
      have HZ5 : Hid ((set4 w5 w1.heap.size (.string (tkx C.l j)) (.int .i64 0) (.string ⟨#[]⟩) (.slice (some ⟨g, 0, none⟩) 2 2)).heap[w.heap.size]? = some rTerm) := (set4_block (by omega)).trans (row_keep hb5 HZ4.out)
      have hB5 : Below w.heap.size w5 (set4 w5 w1.heap.size (.string (tkx C.l j)) (.int .i64 0) (.string ⟨#[]⟩) (.slice (some ⟨g, 0, none⟩) 2 2)) := set4_below (by omega)
      have R5 := R.upon ((R4.below hbC).below hb5) hB5
      have hM5 : Mv C.b w _ := (((hmr.trans hmm).trans (Mv.of_below hbC)).trans (Mv.of_below hb5)).upon hB5
      have StA : Stays (fun k => w.heap.size < k ∧ k ≠ w1.heap.size) (fun k => w.heap.size < k ∧ k ≠ w1.heap.size) wr (set4 w5 w1.heap.size (.string (tkx C.l j)) (.int .i64 0) (.string ⟨#[]⟩) (.slice (some ⟨g, 0, none⟩) 2 2)) := (((Stays.mv (S' := fun k => w.heap.size < k ∧ k ≠ w1.heap.size) hmm (fun k hk => ⟨by omega, hk⟩)).trans (Stays.below hbC (fun k hk => hk)) (by omega)).trans (Stays.below hb5 (fun k hk => hk)) (by simp; omega)).trans (set4_stays (fun k hk => ⟨hk.2, hk⟩)) (by omega)
      have StB : Stays (From wr.heap.size) (fun k => w.heap.size < k ∧ k ≠ w1.heap.size) w4 (set4 w5 w1.heap.size (.string (tkx C.l j)) (.int .i64 0) (.string ⟨#[]⟩) (.slice (some ⟨g, 0, none⟩) 2 2)) := ((Stays.below (S' := fun k => w.heap.size < k ∧ k ≠ w1.heap.size) hbC (fun k hk => by unfold From at hk; omega)).trans (Stays.below hb5 (fun k hk => hk)) (by simp)).trans (set4_stays (fun k hk => ⟨hk.2, hk⟩)) (by omega)
      rw [set2_size] at HQ4
      have HL5 : Hid _ := HL.out.more HQ4.out hc StA StB ((set4_block (by omega)).trans hgc) ⟨by omega, by omega⟩
      clear hx5 StA StB
      go_wp2_with fail
      refine (rsome_new C st4 d _ R5 T (Lv.ops .sum) _ 2 (by simp [set4]) rfl (by decide) (by decide)).mono ?_
      rintro e w6 ⟨rfl, hb6⟩
      have hs6 := hb6.size
      rw [set4_size] at hs6
      go_wp2
      have HL6 : LRel C.l .sum d (fun k => w.heap.size < k ∧ k ≠ w1.heap.size) w6 st st4 (.agg #[.string (tkx C.l j), .int .i64 0, .string ⟨#[]⟩, .slice (some ⟨g, 0, none⟩) 2 2]) := HL5.out.keep (Stays.below hb6 (fun k hk => hk))
      exact ⟨⟨st4, tkx C.l j, 0, ⟨#[]⟩, some ⟨g, 0, none⟩, 2, 2, rfl, R5.below hb6, row_keep hb6 HX5.out, row_keep hb6 HZ5.out, hM5.trans (Mv.of_below hb6), by omega, HL6⟩, HQ4.out.less Rr (R5.below hb6)⟩
    · have hst : ∀ j, st' = .here j → txs C.l j (Lv.ops .sum) = false := fun j h => by
        cases h' : txs C.l j (Lv.ops .sum) with
        | false => rfl
        | true => exact absurd ⟨j, h, h'⟩ hc
      have e0 : st'.some C.l (Lv.ops .sum) = b0 := by
        cases st' with
        | bad j bd => rfl
        | here j => simp only [St.some, hst j rfl, Bool.false_eq_true, if_false]
      clear hc
      simp only [e0]
      obtain ⟨c0, c1, c2, c3, _⟩ := blk4 HX.out
      obtain ⟨z0, z1, z2, z3, zf⟩ := blk4 HZr.out
      have hB : Below w.heap.size wr (set4 wr w.heap.size (.string op) (.int .i64 x) (.string s) (.slice so m sc)) := set4_below (Nat.le_refl _)
      go_wp2
      exact bodyPost_ret (v := .agg #[.string op, .int .i64 x, .string s, .slice so m sc]) (by simp [results, Tryz.results169, go_sem, z0, z1, z2, z3]) rfl ⟨hmr.upon hB, _, _, rfl, R.upon Rr hB, HL.out.done (set4_stays (fun k hk => ⟨by omega, by unfold From; omega⟩)) hst⟩

theorem ne_product {l : List Tk} {j : Nat} (hc : txs l j (Lv.ops .prod) = true) : (tkx l j).toList.isEmpty = false := by
  simp only [txs, List.any_eq_true] at hc
  obtain ⟨y, hy, hyx⟩ := hc
  have e : (tkx l j).toList = y := by simpa [tx] using hyx
  rw [e]
  simp only [Lv.ops, List.mem_cons, List.not_mem_nil, or_false] at hy
  rcases hy with rfl | rfl | rfl <;> rfl
set_option maxRecDepth 100000 in
set_option maxHeartbeats 1000000 in
theorem rproduct_fits (n : Nat) (hK : QFits 183 (Lv.part .prod) n) : QFits 179 (.left .prod) n := by
  intro C st d w T R hn
  have HK : Hid (QFits 183 (Lv.part .prod) n) := hK
  have HN : Hid (st.isAt = true → C.l.length - st.k ≤ n) := hn
  clear hK hn
  have hbl := R.blt
  have hbA : Below w.heap.size w (w.alloc rTerm) := (Below.refl _ _).alloc (Nat.le_refl _) _
  have HZ : Hid _ := heap_alloc_new w rTerm
  have RA := R.below hbA
  go_enter Tryz.func179, Tryz.ntmps179
  go_wp2_with fail
  refine (HK.out C st d _ T RA HN.out).mono ?_
  rintro e w1 ⟨hm1, st1, v1, rfl, R1, hq1⟩
  have hs1 : w.heap.size + 1 ≤ w1.heap.size := by have := hm1.size; simpa using this
  obtain ⟨op, x, s, so, m, sc, rfl⟩ := hq1.shape
  have hbB : Below w1.heap.size w1 (w1.alloc (.cells #[.string op, .int .i64 x, .string s, .slice so m sc] 94)) := (Below.refl _ _).alloc (Nat.le_refl _) _
  have HX1 : Hid _ := heap_alloc_new w1 (.cells #[.string op, .int .i64 x, .string s, .slice so m sc] 94)
  have HZ1 : Hid _ := row_keep hbB (hm1.row (k := w.heap.size) (by omega) HZ.out)
  have HQ1 : Hid _ := hq1
  clear hq1
  go_wp2_with fail
  refine (rsome_new C st1 d _ (R1.below hbB) T (Lv.ops .prod) _ 3 (by simp) rfl (by decide) (by decide)).mono ?_
  rintro e w2 ⟨rfl, hb2⟩
  have hs2 : w1.heap.size + 1 ≤ w2.heap.size := by have := hb2.size; simpa using this
  have hM2 : Mv C.b w w2 := (((Mv.of_below hbA).trans hm1).trans (Mv.of_below hbB)).trans (Mv.of_below hb2)
  have R2 := (R1.below hbB).below hb2
  have HX2 : Hid (w2.heap[w1.heap.size]? = some (.cells #[.string op, .int .i64 x, .string s, .slice so m sc] 94 (0, 0))) := row_keep hb2 HX1.out
  have HZ2 : Hid (w2.heap[w.heap.size]? = some rTerm) := row_keep hb2 HZ1.out
  have HL2 : Hid (LRel C.l .prod d (fun k => w.heap.size < k ∧ k ≠ w1.heap.size) w2 st st1 (.agg #[.string op, .int .i64 x, .string s, .slice so m sc])) := HQ1.out.loop (fun k hk hl => by
    unfold From at hk
    simp only [World.size_alloc] at hk
    exact ⟨⟨by omega, by omega⟩, (hb2.block k (by simp; omega)).trans (hbB.block k hl)⟩)
  go_wp2
  go_loopw [4] (fun v wr => ∃ (st' : St) (op : ByteArray) (x : Int) (s : ByteArray) (so : Option Addr) (m sc : Nat), v = .string (st'.some C.l (Lv.ops .prod)) ∧ QS C st' d wr ∧ Hid (wr.heap[w1.heap.size]? = some (.cells #[.string op, .int .i64 x, .string s, .slice so m sc] 94 (0, 0))) ∧ Hid (wr.heap[w.heap.size]? = some rTerm) ∧ Mv C.b w wr ∧ w1.heap.size < wr.heap.size ∧ Hid (LRel C.l .prod d (fun k => w.heap.size < k ∧ k ≠ w1.heap.size) wr st st' (.agg #[.string op, .int .i64 x, .string s, .slice so m sc]))) (fun _ wr => qleft C.l wr C.b)
  case atStart => exact ⟨st1, op, x, s, so, m, sc, rfl, R2, HX2, HZ2, hM2, by omega, HL2⟩
  case round =>
    clear HL2 HX2 HZ2 R2 hM2 HQ1 HZ1 HX1
    obtain ⟨st', op, x, s, so, m, sc, rfl, Rr, HX, HZr, hmr, hszr, HL⟩ := hrel
    by_cases hc : ∃ j, st' = .here j ∧ txs C.l j (Lv.ops .prod) = true
    · obtain ⟨j, rfl, hc⟩ := hc
      have hj : j < C.l.length := Rr.lt
      have hj1 : j + 1 < C.l.length := T.next_txs hj (by decide) hc
      have hne := ne_product hc
      have hlen := Rr.len
      have q1 := Rr.c1
      have qf := Rr.fz 1
      simp only [St.k] at q1
      have e1 : (St.here j).some C.l (Lv.ops .prod) = tkx C.l j := by simp only [St.some, hc, if_true]
      simp only [e1]
      have R3 := Rr.set1 (j := j + 1) (x := (j : Int) + 1) (by omega) hj1
      go_wp2_with fail
      refine (HK.out C (.here (j + 1)) d _ T R3 (fun _ => HL.out.left HN.out)).mono ?_
      rintro e w4 ⟨hm4, st4, v4, rfl, R4, hq4⟩
      have hs4 : wr.heap.size ≤ w4.heap.size := by have := hm4.size; simpa using this
      obtain ⟨op', x', s', so', m', sc', rfl⟩ := hq4.shape
      have HQ4 : Hid _ := hq4
      clear hq4
      have hmm : Mv C.b wr w4 := (Mv.setAt _ _ _ _).trans hm4
      have hbC : Below w4.heap.size w4 (w4.alloc (.cells #[.string op', .int .i64 x', .string s', .slice so' m' sc'] 94)) := (Below.refl _ _).alloc (Nat.le_refl _) _
      obtain ⟨d0, d1, d2, d3, _⟩ := blk4 (hmm.row (k := w1.heap.size) (by omega) HX.out)
      have HX4 : Hid _ := row_keep hbC (hmm.row (k := w1.heap.size) (by omega) HX.out)
      have HZ4 : Hid _ := row_keep hbC (hmm.row (k := w.heap.size) (by omega) HZr.out)
      have hl4 : w1.heap.size < w4.heap.size := by omega
      have hn4 : w1.heap.size ≠ w4.heap.size := by omega
      clear q1 qf
      go_wp2_with fail
      refine (pair_any _ _ _ _ _ _ _ _ _ _ _ _ _ _).mono ?_
      rintro e w5 ⟨g, rfl, hg, hgc, hb5⟩
      have hs5 : w4.heap.size + 1 ≤ w5.heap.size := by have := hb5.size; simpa using this
      simp only [World.size_alloc] at hg
      have hx5 := row_keep hb5 HX4.out
      obtain ⟨z0, z1, z2, z3, zf⟩ := blk4 hx5
      have HX5 : Hid ((set4 w5 w1.heap.size (.string (tkx C.l j)) (.int .i64 0) (.string ⟨#[]⟩) (.slice (some ⟨g, 0, none⟩) 2 2)).heap[w1.heap.size]? = some (.cells #[.string (tkx C.l j), .int .i64 0, .string ⟨#[]⟩, .slice (some ⟨g, 0, none⟩) 2 2] 94 (0, 0))) := set4_row hx5
      have HZ5 : Hid ((set4 w5 w1.heap.size (.string (tkx C.l j)) (.int .i64 0) (.string ⟨#[]⟩) (.slice (some ⟨g, 0, none⟩) 2 2)).heap[w.heap.size]? = some rTerm) := (set4_block (by omega)).trans (row_keep hb5 HZ4.out)
      have hB5 : Below w.heap.size w5 (set4 w5 w1.heap.size (.string (tkx C.l j)) (.int .i64 0) (.string ⟨#[]⟩) (.slice (some ⟨g, 0, none⟩) 2 2)) := set4_below (by omega)
      have R5 := R.upon ((R4.below hbC).below hb5) hB5
      have hM5 : Mv C.b w _ := (((hmr.trans hmm).trans (Mv.of_below hbC)).trans (Mv.of_below hb5)).upon hB5
      have StA : Stays (fun k => w.heap.size < k ∧ k ≠ w1.heap.size) (fun k => w.heap.size < k ∧ k ≠ w1.heap.size) wr (set4 w5 w1.heap.size (.string (tkx C.l j)) (.int .i64 0) (.string ⟨#[]⟩) (.slice (some ⟨g, 0, none⟩) 2 2)) := (((Stays.mv (S' := fun k => w.heap.size < k ∧ k ≠ w1.heap.size) hmm (fun k hk => ⟨by omega, hk⟩)).trans (Stays.below hbC (fun k hk => hk)) (by omega)).trans (Stays.below hb5 (fun k hk => hk)) (by simp; omega)).trans (set4_stays (fun k hk => ⟨hk.2, hk⟩)) (by omega)
      have StB : Stays (From wr.heap.size) (fun k => w.heap.size < k ∧ k ≠ w1.heap.size) w4 (set4 w5 w1.heap.size (.string (tkx C.l j)) (.int .i64 0) (.string ⟨#[]⟩) (.slice (some ⟨g, 0, none⟩) 2 2)) := ((Stays.below (S' := fun k => w.heap.size < k ∧ k ≠ w1.heap.size) hbC (fun k hk => by unfold From at hk; omega)).trans (Stays.below hb5 (fun k hk => hk)) (by simp)).trans (set4_stays (fun k hk => ⟨hk.2, hk⟩)) (by omega)
      rw [set2_size] at HQ4
      have HL5 : Hid _ := HL.out.more HQ4.out hc StA StB ((set4_block (by omega)).trans hgc) ⟨by omega, by omega⟩
      clear hx5 StA StB
      go_wp2_with fail
      refine (rsome_new C st4 d _ R5 T (Lv.ops .prod) _ 3 (by simp [set4]) rfl (by decide) (by decide)).mono ?_
      rintro e w6 ⟨rfl, hb6⟩
      have hs6 := hb6.size
      rw [set4_size] at hs6
      go_wp2
      have HL6 : LRel C.l .prod d (fun k => w.heap.size < k ∧ k ≠ w1.heap.size) w6 st st4 (.agg #[.string (tkx C.l j), .int .i64 0, .string ⟨#[]⟩, .slice (some ⟨g, 0, none⟩) 2 2]) := HL5.out.keep (Stays.below hb6 (fun k hk => hk))
      exact ⟨⟨st4, tkx C.l j, 0, ⟨#[]⟩, some ⟨g, 0, none⟩, 2, 2, rfl, R5.below hb6, row_keep hb6 HX5.out, row_keep hb6 HZ5.out, hM5.trans (Mv.of_below hb6), by omega, HL6⟩, HQ4.out.less Rr (R5.below hb6)⟩
    · have hst : ∀ j, st' = .here j → txs C.l j (Lv.ops .prod) = false := fun j h => by
        cases h' : txs C.l j (Lv.ops .prod) with
        | false => rfl
        | true => exact absurd ⟨j, h, h'⟩ hc
      have e0 : st'.some C.l (Lv.ops .prod) = b0 := by
        cases st' with
        | bad j bd => rfl
        | here j => simp only [St.some, hst j rfl, Bool.false_eq_true, if_false]
      clear hc
      simp only [e0]
      obtain ⟨c0, c1, c2, c3, _⟩ := blk4 HX.out
      obtain ⟨z0, z1, z2, z3, zf⟩ := blk4 HZr.out
      have hB : Below w.heap.size wr (set4 wr w.heap.size (.string op) (.int .i64 x) (.string s) (.slice so m sc)) := set4_below (Nat.le_refl _)
      go_wp2
      exact bodyPost_ret (v := .agg #[.string op, .int .i64 x, .string s, .slice so m sc]) (by simp [results, Tryz.results179, go_sem, z0, z1, z2, z3]) rfl ⟨hmr.upon hB, _, _, rfl, R.upon Rr hB, HL.out.done (set4_stays (fun k hk => ⟨by omega, by unfold From; omega⟩)) hst⟩

end Go.Proofs.YtomgimfmcfjhdaaGreatDoor
