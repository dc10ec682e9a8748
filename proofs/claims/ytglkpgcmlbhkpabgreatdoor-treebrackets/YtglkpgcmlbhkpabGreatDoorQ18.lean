/-
  lustrumref1's READER OF TERMS: what its methods answer; pair, not BY THEIR CONTRACTS.
-/
import Derived.Test.YtglkpgcmlbhkpabGreatDoorQ17
import Derived.Test.YtglkpgcmlbhkpabGreatDoorQ12
import Derived.Test.YtglkpgcmlbhkpabGreatDoorQ06
import Derived.Test.YtglkpgcmlbhkpabGreatDoorQ15
import Derived.Deep.AppendLies
import Derived.Test.YtglkpgcmlbhkpabGreatDoorQ13
namespace Go.Proofs.YtglkpgcmlbhkpabGreatDoor
open Go.RowKit
attribute [local go_sem ↓] Go.wp_at_zero Go.wp_at_succ

/-- A term's cells, whatever they hold. -/
def Shape (v : Value) : Prop := ∃ (op : ByteArray) (x : Int) (s : ByteArray) (so : Option Addr) (m sc : Nat), v = .agg #[.string op, .int .i64 x, .string s, .slice so m sc]
/-- From where it stood to where it stands: a term was read; or it failed; or it had failed. -/
inductive QRel (l : List Tk) (c : Cd) (d : Nat) (base : Nat) (w' : World) : St → St → Value → Prop
  | ok (i j : Nat) (op : ByteArray) (x : Int) (s : ByteArray) (es : List Ex) (so : Option Addr) (sc : Nat) (ys : List Value) : Parse l c i d (.ok [.mk op x s es] j) → i < j → RowAt w' (From base) 4 (.slice so es.length sc) es.length ys → ExIn w' (From base) es ys → QRel l c d base w' (.here i) (.here j) (.agg #[.string op, .int .i64 x, .string s, .slice so es.length sc])
  | fail (i j : Nat) (bd : Bool) (v : Value) : Parse l c i d (.bad j bd) → Shape v → QRel l c d base w' (.here i) (.bad j bd) v
  | stay (j : Nat) (bd : Bool) (v : Value) : Shape v → QRel l c d base w' (.bad j bd) (.bad j bd) v
theorem QRel.shape {l : List Tk} {c : Cd} {d base : Nat} {w' : World} {st st' : St} {v : Value} (h : QRel l c d base w' st st' v) : Shape v := by
  cases h with
  | ok i j op x s es so sc ys => exact ⟨op, x, s, so, _, sc, rfl⟩
  | fail _ _ _ _ _ h => exact h
  | stay _ _ _ h => exact h
theorem QRel.move {l : List Tk} {c c' : Cd} {d base base' : Nat} {w w' : World} {st st' : St} {v : Value} (h : QRel l c d base w st st' v) (hk : Stays (From base) (From base') w w') (hok : ∀ i j e, st = .here i → st' = .here j → Parse l c i d (.ok [e] j) → Parse l c' i d (.ok [e] j)) (hbad : ∀ i j bd, st = .here i → Parse l c i d (.bad j bd) → Parse l c' i d (.bad j bd)) : QRel l c' d base' w' st st' v := by
  cases h with
  | ok i j op x s es so sc ys hp hij hrow hin => exact .ok i j op x s es so sc ys (hok i j _ rfl rfl hp) hij (hrow.keep hk) (hin.keep hk)
  | fail i j bd v hp hs => exact .fail i j bd v (hbad i j bd rfl hp) hs
  | stay j bd v hs => exact .stay j bd v hs
theorem QRel.adv {l : List Tk} {c : Cd} {d base : Nat} {w' : World} {st : St} {j : Nat} {v : Value} (h : QRel l c d base w' st (.here j) v) : ∃ i, st = .here i ∧ i < j := by
  cases h with
  | ok i j op x s es so sc ys hp hij => exact ⟨i, rfl, hij⟩
theorem QRel.left {l : List Tk} {c : Cd} {d base : Nat} {w' : World} {st : St} {j n : Nat} {v : Value} (h : QRel l c d base w' st (.here j) v) (hn : st.isAt = true → l.length - st.k ≤ n) : l.length - (j + 1) ≤ n := by
  obtain ⟨i, rfl, hij⟩ := h.adv
  have := hn rfl
  simp only [St.k] at this
  omega
/-- Two terms with an operator between. -/
theorem QRel.pair {l : List Tk} {c1 c2 c' : Cd} {d base base1 base2 g : Nat} {w1 w2 w' : World} {st st2 : St} {j : Nat} {o op op' : ByteArray} {x x' : Int} {s s' : ByteArray} {so so' : Option Addr} {m m' sc sc' : Nat} {t : TypeId} (h1 : QRel l c1 d base1 w1 st (.here j) (.agg #[.string op, .int .i64 x, .string s, .slice so m sc])) (h2 : QRel l c2 d base2 w2 (.here (j + 1)) st2 (.agg #[.string op', .int .i64 x', .string s', .slice so' m' sc'])) (k1 : Stays (From base1) (From base) w1 w') (k2 : Stays (From base2) (From base) w2 w') (hg : w'.heap[g]? = some (.cells #[.string op, .int .i64 x, .string s, .slice so m sc, .string op', .int .i64 x', .string s', .slice so' m' sc'] t (0, 0))) (hgb : base ≤ g)
    (hok : ∀ i e e' k, st = .here i → Parse l c1 i d (.ok [e] j) → Parse l c2 (j + 1) d (.ok [e'] k) → Parse l c' i d (.ok [.mk o 0 b0 ([e] ++ [e'])] k)) (hbad : ∀ i e k bd, st = .here i → Parse l c1 i d (.ok [e] j) → Parse l c2 (j + 1) d (.bad k bd) → Parse l c' i d (.bad k bd)) :
    QRel l c' d base w' st st2 (.agg #[.string o, .int .i64 0, .string ⟨#[]⟩, .slice (some ⟨g, 0, none⟩) 2 2]) := by
  generalize hv1 : Value.agg #[.string op, .int .i64 x, .string s, .slice so m sc] = v1 at h1
  generalize hv2 : Value.agg #[.string op', .int .i64 x', .string s', .slice so' m' sc'] = v2 at h2
  cases h1 with
  | ok i _ op1 x1 s1 es1 so1 sc1 ys1 hp1 hij1 hrow1 hin1 =>
    injection hv1 with hv1
    simp only [Array.mk.injEq, List.cons.injEq, Value.string.injEq, Value.int.injEq, Value.slice.injEq, true_and, and_true] at hv1
    obtain ⟨rfl, rfl, rfl, rfl, rfl, rfl⟩ := hv1
    cases h2 with
    | ok _ k op2 x2 s2 es2 so2 sc2 ys2 hp2 hij2 hrow2 hin2 =>
      injection hv2 with hv2
      simp only [Array.mk.injEq, List.cons.injEq, Value.string.injEq, Value.int.injEq, Value.slice.injEq, true_and, and_true] at hv2
      obtain ⟨rfl, rfl, rfl, rfl, rfl, rfl⟩ := hv2
      exact .ok i k _ _ _ _ _ _ _ (hok i _ _ k rfl hp1 hp2) (by omega) (RowAt.blk hg rfl rfl (by simp [maxLen]) hgb) (.cons _ _ _ _ _ _ _ _ (hrow1.keep k1) (hin1.keep k1) (.cons _ _ _ _ _ _ _ _ (hrow2.keep k2) (hin2.keep k2) .nil))
    | fail _ k bd _ hp2 _ => exact .fail i k bd _ (hbad i _ k bd rfl hp1 hp2) ⟨_, _, _, _, _, _, rfl⟩
def QRet (C : Qc) (c : Cd) (st : St) (d : Nat) (w : World) (e : Ending) (w' : World) : Prop := Mv C.b w w' ∧ ∃ st' v, e = .returned v ∧ QS C st' d w' ∧ QRel C.l c d w.heap.size w' st st' v
/-- A method reads this, where at most n tokens are left. -/
def QFits (f : FuncId) (c : Cd) (n : Nat) : Prop := ∀ (C : Qc) (st : St) (d : Nat) (w : World), Tkl C.l → QS C st d w → (st.isAt = true → C.l.length - st.k ≤ n) → Calls Tryz.prog f #[.pointer (some ⟨C.b, 0, none⟩)] w (QRet C c st d w)

abbrev rTerm : Obj := .cells #[.string ⟨#[]⟩, .int .i64 0, .string ⟨#[]⟩, .slice none 0 0] 38
/-- A term, stored. -/
theorem put4 {H : Nat} {w3 : World} {S : Nat → Prop} {l : List Ex} {a b c : Value} {so : Option Addr} {sc : Nat} {ys : List Value} (hrow : RowAt w3 S 4 (.slice so l.length sc) l.length ys) (hin : ExIn w3 S l ys) (hS : ∀ k, S k → H < k) :
    RowAt (set4 w3 H a b c (.slice so l.length sc)) (From H) 4 (.slice so l.length sc) l.length ys ∧ ExIn (set4 w3 H a b c (.slice so l.length sc)) (From H) l ys := by
  have St : Stays S (From H) w3 (set4 w3 H a b c (.slice so l.length sc)) := set4_stays (fun k hk => ⟨by have := hS k hk; omega, by have := hS k hk; unfold From; omega⟩)
  exact ⟨hrow.keep St, hin.keep St⟩
/-- A term of parts, laid and stored. -/
theorem build4 {H : Nat} {w3 : World} {S : Nat → Prop} {es : List Ex} {a b c : Value} {cells : List Value} {t : TypeId} (hin : ExIn w3 S es cells) (hS : ∀ k, S k → H < k) (hs3 : H < w3.heap.size) (n : Nat) (hn : es.length = n) (hn' : n ≤ maxLen) (cur : Array Value) (hcur : cur.toList = cells) :
    RowAt ((set4 w3 H a b c (.slice (some ⟨w3.heap.size, 0, none⟩) n n)).alloc (.cells cur t)) (From H) 4 (.slice (some ⟨w3.heap.size, 0, none⟩) n n) n cells ∧ ExIn ((set4 w3 H a b c (.slice (some ⟨w3.heap.size, 0, none⟩) n n)).alloc (.cells cur t)) (From H) es cells := by
  subst hn
  have St : Stays S (From H) w3 ((set4 w3 H a b c (.slice (some ⟨w3.heap.size, 0, none⟩) es.length es.length)).alloc (.cells cur t)) := (set4_stays (S' := From H) (fun k hk => ⟨by have := hS k hk; omega, by have := hS k hk; unfold From; omega⟩)).trans (Stays.alloc _ (fun k hk => hk)) (by rw [set4_size]; exact Nat.le_refl _)
  have hnew := heap_alloc_new (set4 w3 H a b c (.slice (some ⟨w3.heap.size, 0, none⟩) es.length es.length)) (.cells cur t)
  rw [set4_size] at hnew
  exact ⟨RowAt.blk hnew hcur hin.length hn' (by unfold From; omega), hin.keep St⟩
theorem build4_below {H : Nat} {w3 : World} {a b c e : Value} {o : Obj} (hs3 : H < w3.heap.size) : Below H w3 ((set4 w3 H a b c e).alloc o) := (set4_below (Nat.le_refl _)).alloc (by rw [set4_size]; omega) _

/-- The same, with a part's own variable made just ahead. -/
theorem build4b {H : Nat} {w3 : World} {S : Nat → Prop} {es : List Ex} {a b c : Value} {cells : List Value} {t : TypeId} (o : Obj) (hin : ExIn w3 S es cells) (hS : ∀ k, S k → H < k) (hs3 : H < w3.heap.size) (n : Nat) (hn : es.length = n) (hn' : n ≤ maxLen) (cur : Array Value) (hcur : cur.toList = cells) (g : Nat) (hg : w3.heap.size + 1 = g) :
    RowAt (((set4 w3 H a b c (.slice (some ⟨g, 0, none⟩) n n)).alloc o).alloc (.cells cur t)) (From H) 4 (.slice (some ⟨g, 0, none⟩) n n) n cells ∧ ExIn (((set4 w3 H a b c (.slice (some ⟨g, 0, none⟩) n n)).alloc o).alloc (.cells cur t)) (From H) es cells := by
  subst hn hg
  have St : Stays S (From H) w3 (((set4 w3 H a b c (.slice (some ⟨w3.heap.size + 1, 0, none⟩) es.length es.length)).alloc o).alloc (.cells cur t)) := ((set4_stays (S' := From H) (fun k hk => ⟨by have := hS k hk; omega, by have := hS k hk; unfold From; omega⟩)).trans (Stays.alloc _ (fun k hk => hk)) (by rw [set4_size]; exact Nat.le_refl _)).trans (Stays.alloc _ (fun k hk => hk)) (by simp [set4_size])
  have hnew := two_new (set4 w3 H a b c (.slice (some ⟨w3.heap.size + 1, 0, none⟩) es.length es.length)) o (.cells cur t)
  rw [set4_size] at hnew
  exact ⟨RowAt.blk hnew hcur hin.length hn' (by unfold From; omega), hin.keep St⟩
theorem build4b_below {H : Nat} {w3 : World} {a b c e : Value} {o o' : Obj} (hs3 : H < w3.heap.size) : Below H w3 (((set4 w3 H a b c e).alloc o).alloc o') := ((set4_below (Nat.le_refl _)).alloc (by rw [set4_size]; omega) _).alloc (by simp [set4_size]; omega) _
theorem set2_size (w : World) (p : Addr) (v : Value) : (w.setCell p v).heap.size = w.heap.size := by simp

end Go.Proofs.YtglkpgcmlbhkpabGreatDoor

/-
  lustrumref1's READER OF TERMS: or, and, sum, product BY THEIR CONTRACTS.
-/
namespace Go.Proofs.YtglkpgcmlbhkpabGreatDoor
open Go.RowKit
attribute [local go_sem ↓] Go.wp_at_zero Go.wp_at_succ

/-- What a loop over operators has so far. -/
inductive LRel (l : List Tk) (v : Lv) (d : Nat) (S : Nat → Prop) (wr : World) (st0 : St) : St → Value → Prop
  | ok (i j : Nat) (op : ByteArray) (x : Int) (s : ByteArray) (es : List Ex) (so : Option Addr) (sc : Nat) (ys : List Value) : st0 = .here i → (∀ r, Parse l (.loop v [.mk op x s es]) j d r → Parse l (.left v) i d r) → i < j → RowAt wr S 4 (.slice so es.length sc) es.length ys → ExIn wr S es ys → LRel l v d S wr st0 (.here j) (.agg #[.string op, .int .i64 x, .string s, .slice so es.length sc])
  | fail (i j : Nat) (bd : Bool) (u : Value) : st0 = .here i → Parse l (.left v) i d (.bad j bd) → Shape u → LRel l v d S wr st0 (.bad j bd) u
  | stay (j : Nat) (bd : Bool) (u : Value) : st0 = .bad j bd → Shape u → LRel l v d S wr st0 (.bad j bd) u
theorem LRel.shape {l : List Tk} {v : Lv} {d : Nat} {S : Nat → Prop} {wr : World} {st0 st : St} {u : Value} (h : LRel l v d S wr st0 st u) : Shape u := by
  cases h with
  | ok i j op x s es so sc ys => exact ⟨op, x, s, so, _, sc, rfl⟩
  | fail _ _ _ _ _ _ h => exact h
  | stay _ _ _ _ h => exact h
theorem LRel.left {l : List Tk} {v : Lv} {d : Nat} {S : Nat → Prop} {wr : World} {st0 : St} {j n : Nat} {u : Value} (h : LRel l v d S wr st0 (.here j) u) (hn : st0.isAt = true → l.length - st0.k ≤ n) : l.length - (j + 1) ≤ n := by
  cases h with
  | ok i j op x s es so sc ys h0 hp hij =>
    subst h0
    have := hn rfl
    simp only [St.k] at this
    omega
theorem QRel.loop {l : List Tk} {v : Lv} {d base : Nat} {S : Nat → Prop} {w1 wr : World} {st0 st : St} {u : Value} (h : QRel l v.part d base w1 st0 st u) (hk : Stays (From base) S w1 wr) : LRel l v d S wr st0 st u := by
  cases h with
  | ok i j op x s es so sc ys hp hij hrow hin => exact .ok i j op x s es so sc ys rfl (fun r hr => Parse.left v hp hr) hij (hrow.keep hk) (hin.keep hk)
  | fail i j bd u hp hs => exact .fail i j bd u rfl (Run.stop hp) hs
  | stay j bd u hs => exact .stay j bd u rfl hs
theorem LRel.done {l : List Tk} {v : Lv} {d base : Nat} {S : Nat → Prop} {wr w' : World} {st0 st : St} {u : Value} (h : LRel l v d S wr st0 st u) (hk : Stays S (From base) wr w') (hst : ∀ j, st = .here j → txs l j v.ops = false) : QRel l (.left v) d base w' st0 st u := by
  cases h with
  | ok i j op x s es so sc ys h0 hp hij hrow hin => subst h0; exact .ok i j op x s es so sc ys (hp _ (Parse.loopStop v (hst j rfl))) hij (hrow.keep hk) (hin.keep hk)
  | fail i j bd u h0 hp hs => subst h0; exact .fail i j bd u hp hs
  | stay j bd u h0 hs => subst h0; exact .stay j bd u hs
/-- One operator more. -/
theorem LRel.more {l : List Tk} {v : Lv} {d base2 g : Nat} {S S' : Nat → Prop} {wr w2 w' : World} {st0 st2 : St} {j : Nat} {op op' : ByteArray} {x x' : Int} {s s' : ByteArray} {so so' : Option Addr} {m m' sc sc' : Nat} {t : TypeId} (h1 : LRel l v d S wr st0 (.here j) (.agg #[.string op, .int .i64 x, .string s, .slice so m sc])) (h2 : QRel l v.part d base2 w2 (.here (j + 1)) st2 (.agg #[.string op', .int .i64 x', .string s', .slice so' m' sc'])) (ht : txs l j v.ops = true) (k1 : Stays S S' wr w') (k2 : Stays (From base2) S' w2 w') (hg : w'.heap[g]? = some (.cells #[.string op, .int .i64 x, .string s, .slice so m sc, .string op', .int .i64 x', .string s', .slice so' m' sc'] t (0, 0))) (hgb : S' g) :
    LRel l v d S' w' st0 st2 (.agg #[.string (tkx l j), .int .i64 0, .string ⟨#[]⟩, .slice (some ⟨g, 0, none⟩) 2 2]) := by
  generalize hv1 : Value.agg #[.string op, .int .i64 x, .string s, .slice so m sc] = v1 at h1
  generalize hv2 : Value.agg #[.string op', .int .i64 x', .string s', .slice so' m' sc'] = v2 at h2
  cases h1 with
  | ok i _ op1 x1 s1 es1 so1 sc1 ys1 h0 hp1 hij1 hrow1 hin1 =>
    injection hv1 with hv1
    simp only [Array.mk.injEq, List.cons.injEq, Value.string.injEq, Value.int.injEq, Value.slice.injEq, true_and, and_true] at hv1
    obtain ⟨rfl, rfl, rfl, rfl, rfl, rfl⟩ := hv1
    cases h2 with
    | ok _ k op2 x2 s2 es2 so2 sc2 ys2 hp2 hij2 hrow2 hin2 =>
      injection hv2 with hv2
      simp only [Array.mk.injEq, List.cons.injEq, Value.string.injEq, Value.int.injEq, Value.slice.injEq, true_and, and_true] at hv2
      obtain ⟨rfl, rfl, rfl, rfl, rfl, rfl⟩ := hv2
      exact .ok i k _ _ _ [_, _] _ _ _ h0 (fun r hr => hp1 r (Parse.loopMore v ht hp2 hr)) (by omega) (RowAt.blk hg rfl rfl (by simp [maxLen]) hgb) (.cons _ _ _ _ _ _ _ _ (hrow1.keep k1) (hin1.keep k1) (.cons _ _ _ _ _ _ _ _ (hrow2.keep k2) (hin2.keep k2) .nil))
    | fail _ k bd _ hp2 _ => exact .fail i k bd _ h0 (hp1 _ (Parse.loopBad v ht hp2)) ⟨_, _, _, _, _, _, rfl⟩
theorem LRel.keep {l : List Tk} {v : Lv} {d : Nat} {S S' : Nat → Prop} {wr w' : World} {st0 st : St} {u : Value} (h : LRel l v d S wr st0 st u) (hk : Stays S S' wr w') : LRel l v d S' w' st0 st u := by
  cases h with
  | ok i j op x s es so sc ys h0 hp hij hrow hin => exact .ok i j op x s es so sc ys h0 hp hij (hrow.keep hk) (hin.keep hk)
  | fail i j bd u h0 hp hs => exact .fail i j bd u h0 hp hs
  | stay j bd u h0 hs => exact .stay j bd u h0 hs
def qpos (w : World) (b : Nat) : Nat := match w.cell? ⟨b, 1, none⟩ with | some (.int _ k) => k.toNat | _ => 0
/-- Tokens that are left; none where it has failed. -/
def qleft (l : List Tk) (w : World) (b : Nat) : Nat := match w.cell? ⟨b, 3, none⟩ with | some (.int _ 0) => l.length - qpos w b + 1 | _ => 0
theorem QS.qpos {C : Qc} {st : St} {d : Nat} {w : World} (R : QS C st d w) : Proofs.YtglkpgcmlbhkpabGreatDoor.qpos w C.b = st.k := by simp [Proofs.YtglkpgcmlbhkpabGreatDoor.qpos, R.c1]
theorem QS.left_at {C : Qc} {i d : Nat} {w : World} (R : QS C (.here i) d w) : qleft C.l w C.b = C.l.length - i + 1 := by
  simp only [qleft, R.qpos, R.c3, St.k, St.code]
theorem QS.left_bad {C : Qc} {j : Nat} {bd : Bool} {d : Nat} {w : World} (R : QS C (.bad j bd) d w) : qleft C.l w C.b = 0 := by
  cases bd <;> simp [qleft, R.c3, St.code]
theorem QRel.less {c : Cd} {C : Qc} {d d' n base : Nat} {w w1 w' : World} {j : Nat} {st' : St} {v : Value} (h : QRel C.l c d base w1 (.here (j + 1)) st' v) (R : QS C (.here j) d' w) (R' : QS C st' n w') : qleft C.l w' C.b < qleft C.l w C.b := by
  rw [R.left_at]
  cases h with
  | ok _ k _ _ _ _ _ _ _ _ hk => rw [R'.left_at]; have := R'.lt; simp only [St.k] at this; omega
  | fail _ k bd _ _ _ => rw [R'.left_bad]; omega

theorem ne_or {l : List Tk} {j : Nat} (hc : txs l j (Lv.ops .or) = true) : (tkx l j).toList.isEmpty = false := by
  simp only [txs, List.any_eq_true] at hc
  obtain ⟨y, hy, hyx⟩ := hc
  have e : (tkx l j).toList = y := by simpa [tx] using hyx
  rw [e]
  simp only [Lv.ops, List.mem_cons, List.not_mem_nil, or_false] at hy
  rcases hy with rfl | rfl <;> rfl
theorem ne_sum {l : List Tk} {j : Nat} (hc : txs l j (Lv.ops .sum) = true) : (tkx l j).toList.isEmpty = false := by
  simp only [txs, List.any_eq_true] at hc
  obtain ⟨y, hy, hyx⟩ := hc
  have e : (tkx l j).toList = y := by simpa [tx] using hyx
  rw [e]
  simp only [Lv.ops, List.mem_cons, List.not_mem_nil, or_false] at hy
  rcases hy with rfl | rfl <;> rfl
theorem ne_product {l : List Tk} {j : Nat} (hc : txs l j (Lv.ops .prod) = true) : (tkx l j).toList.isEmpty = false := by
  simp only [txs, List.any_eq_true] at hc
  obtain ⟨y, hy, hyx⟩ := hc
  have e : (tkx l j).toList = y := by simpa [tx] using hyx
  rw [e]
  simp only [Lv.ops, List.mem_cons, List.not_mem_nil, or_false] at hy
  rcases hy with rfl | rfl | rfl <;> rfl
end Go.Proofs.YtglkpgcmlbhkpabGreatDoor

/-
  lustrumref1's READER OF TERMS: and, unary BY THEIR CONTRACTS.
-/
namespace Go.Proofs.YtglkpgcmlbhkpabGreatDoor
open Go.RowKit
attribute [local go_sem ↓] Go.wp_at_zero Go.wp_at_succ

theorem tx_eq {l : List Tk} {i : Nat} {x : List UInt8} (h : tx l i x = true) : tkx l i = ⟨x.toArray⟩ := by
  have e : (tkx l i).toList = x := by simpa [tx] using h
  rw [toList_data] at e
  apply ByteArray.ext
  apply Array.ext'
  rw [e]
end Go.Proofs.YtglkpgcmlbhkpabGreatDoor

/-
  lustrumref1's READER OF TERMS: unary BY ITS CONTRACT.
-/
namespace Go.Proofs.YtglkpgcmlbhkpabGreatDoor
open Go.RowKit
attribute [local go_sem ↓] Go.wp_at_zero Go.wp_at_succ

/-- A term behind what opens. -/
theorem QRel.pre {l : List Tk} {c c' : Cd} {d base base1 g i : Nat} {w3 w' : World} {st3 : St} {o op : ByteArray} {x : Int} {s : ByteArray} {so : Option Addr} {m sc : Nat} {t : TypeId} (h : QRel l c (d + 1) base1 w3 ((St.here i).down d) st3 (.agg #[.string op, .int .i64 x, .string s, .slice so m sc])) (k1 : Stays (From base1) (From base) w3 w') (hg : w'.heap[g]? = some (.cells #[.string op, .int .i64 x, .string s, .slice so m sc] t (0, 0))) (hgb : base ≤ g)
    (hok : ∀ e j, d ≠ 20 → Parse l c (i + 1) (d + 1) (.ok [e] j) → Parse l c' i d (.ok [.mk o 0 b0 [e]] j)) (hbad : ∀ j bd, d ≠ 20 → Parse l c (i + 1) (d + 1) (.bad j bd) → Parse l c' i d (.bad j bd)) (hdeep : d = 20 → Parse l c' i d (.bad i true)) :
    QRel l c' d base w' (.here i) st3 (.agg #[.string o, .int .i64 0, .string ⟨#[]⟩, .slice (some ⟨g, 0, none⟩) 1 1]) := by
  by_cases hd : d = 20
  · subst hd
    rw [show (St.here i).down 20 = .bad i true from rfl] at h
    cases h
    exact .fail i i true _ (hdeep rfl) ⟨_, _, _, _, _, _, rfl⟩
  · rw [show (St.here i).down d = .here (i + 1) from by simp only [St.down, if_neg hd]] at h
    generalize hv : Value.agg #[.string op, .int .i64 x, .string s, .slice so m sc] = v at h
    cases h with
    | ok _ j op' x' s' es so' sc' ys hp hij hrow hin =>
      injection hv with hv
      simp only [Array.mk.injEq, List.cons.injEq, Value.string.injEq, Value.int.injEq, Value.slice.injEq, true_and, and_true] at hv
      obtain ⟨rfl, rfl, rfl, rfl, rfl, rfl⟩ := hv
      exact .ok i j _ _ _ [_] _ _ _ (hok _ j hd hp) (by omega) (RowAt.blk hg rfl rfl (by simp [maxLen]) hgb) (.cons _ _ _ _ _ _ _ _ (hrow.keep k1) (hin.keep k1) .nil)
    | fail _ j bd _ hp _ => exact .fail i j bd _ (hbad j bd hd hp) ⟨_, _, _, _, _, _, rfl⟩
/-- Where what stands there may open. -/
theorem down_left {C : Qc} {i d n : Nat} (hn : C.l.length - i ≤ n) (hi : i < C.l.length) : ((St.here i).down d).isAt = true → C.l.length - ((St.here i).down d).k ≤ n - 1 := fun h => by
  by_cases hd : d = 20
  · subst hd; cases h
  · simp only [St.down, if_neg hd, St.k]; omega

end Go.Proofs.YtglkpgcmlbhkpabGreatDoor

/-
  lustrumref1's READER OF TERMS: term BY ITS CONTRACT.
-/
namespace Go.Proofs.YtglkpgcmlbhkpabGreatDoor
open Go.RowKit
attribute [local go_sem ↓] Go.wp_at_zero Go.wp_at_succ

theorem agg_inj {op op' : ByteArray} {x x' : Int} {s s' : ByteArray} {so so' : Option Addr} {m m' sc sc' : Nat} (h : Value.agg #[.string op, .int .i64 x, .string s, .slice so m sc] = .agg #[.string op', .int .i64 x', .string s', .slice so' m' sc']) : op = op' ∧ x = x' ∧ s = s' ∧ so = so' ∧ m = m' ∧ sc = sc' := by
  injection h with h
  simp only [Array.mk.injEq, List.cons.injEq, Value.string.injEq, Value.int.injEq, Value.slice.injEq, true_and, and_true] at h
  exact h
/-- What a value is where a term was read. -/
theorem QRel.inv {l : List Tk} {c : Cd} {d base : Nat} {w' : World} {i j : Nat} {op : ByteArray} {x : Int} {s : ByteArray} {so : Option Addr} {m sc : Nat} (h : QRel l c d base w' (.here i) (.here j) (.agg #[.string op, .int .i64 x, .string s, .slice so m sc])) : ∃ es ys, m = es.length ∧ Parse l c i d (.ok [.mk op x s es] j) ∧ i < j ∧ RowAt w' (From base) 4 (.slice so m sc) m ys ∧ ExIn w' (From base) es ys := by
  generalize hv : Value.agg #[.string op, .int .i64 x, .string s, .slice so m sc] = v at h
  cases h with
  | ok _ _ op' x' s' es so' sc' ys hp hij hrow hin =>
    obtain ⟨rfl, rfl, rfl, rfl, rfl, rfl⟩ := agg_inj hv
    exact ⟨es, ys, rfl, hp, hij, hrow, hin⟩
theorem QRel.badOf {l : List Tk} {c : Cd} {d base : Nat} {w' : World} {i j : Nat} {bd : Bool} {v : Value} (h : QRel l c d base w' (.here i) (.bad j bd) v) : Parse l c i d (.bad j bd) := by
  cases h with
  | fail _ _ _ _ hp _ => exact hp
theorem QRel.stays {l : List Tk} {c : Cd} {d base : Nat} {w' : World} {j : Nat} {bd : Bool} {st : St} {v : Value} (h : QRel l c d base w' (.bad j bd) st v) : st = .bad j bd := by
  cases h with
  | stay _ _ _ _ => rfl
theorem want_left {C : Qc} {c : Cd} {d base n : Nat} {w' : World} {st st' : St} {v : Value} {x : List UInt8} (h : QRel C.l c d base w' st st' v) (hn : st.isAt = true → C.l.length - st.k ≤ n) : (st'.want C.l x).isAt = true → C.l.length - (st'.want C.l x).k ≤ n := fun hw => by
  cases h with
  | ok i j op y s es so sc ys hp hij =>
    simp only [St.want] at hw ⊢
    split at hw
    · rename_i h'
      have := hn rfl
      simp only [St.k] at this
      simp only [h', if_true, St.k]; omega
    · cases hw
  | fail => cases hw
  | stay => cases hw

end Go.Proofs.YtglkpgcmlbhkpabGreatDoor

/-
  lustrumref1's READER OF TERMS: term BY ITS CONTRACT, all of it.
-/
namespace Go.Proofs.YtglkpgcmlbhkpabGreatDoor
open Go.RowKit
attribute [local go_sem ↓] Go.wp_at_zero Go.wp_at_succ

end Go.Proofs.YtglkpgcmlbhkpabGreatDoor

/-
  lustrumref1's READER OF TERMS: atom BY ITS CONTRACTS, but for calls.
-/
namespace Go.Proofs.YtglkpgcmlbhkpabGreatDoor
open Go.RowKit
attribute [local go_sem ↓] Go.wp_at_zero Go.wp_at_succ

set_option maxRecDepth 100000 in
set_option maxHeartbeats 1000000 in
theorem intOf_val (t : ByteArray) (w : World) (ht : 0 < t.size) (hd : ∀ k, k < t.size → digI (byteI t k) = true) (hB : intB t = true) :
    Calls Tryz.prog 202 #[.string t] w fun e w' => e = .returned (.int .i64 (valL t.data.toList : Int)) ∧ w' = w := by
  have hlen : t.data.toList.length = t.size := Array.length_toList
  have h3 : t.size ≤ 3 := by
    rcases Nat.lt_or_ge 3 t.size with h | h
    · rw [long_int t h hd] at hB; cases hB
    · exact h
  have hz : (t.size : Int) ≤ 1 ∨ ((t[0].toNat : Int) == 48) = false := by
    rcases Nat.lt_or_ge 1 t.size with h | h
    · right
      cases h' : ((t[0].toNat : Int) == 48) with
      | false => rfl
      | true => rw [intB_zero t ht (by omega) h'] at hB; cases hB
    · left; omega
  have hv : (valL t.data.toList : Int) ≤ 127 := by
    rcases Int.lt_or_le 127 (valL t.data.toList : Int) with h | h
    · rw [intB_big t h] at hB; cases hB
    · exact h
  clear hB
  go_enter Tryz.func202, Tryz.ntmps202
  go_wp2
  go_loop [3, 4] (fun n i => ∃ (k v : Nat), k ≤ t.size ∧ k ≤ 4 ∧ v ≤ 10000 ∧ i = .int .i64 k ∧ n = .int .i64 v ∧ Hid (v = valL (t.data.toList.take k) ∧ v < 10 ^ k)) (fun _ i => 4 - (intOf i).toNat)
  case atStart => exact ⟨0, 0, Nat.zero_le _, by omega, by omega, rfl, rfl, rfl, by decide⟩
  case round =>
    obtain ⟨k, v, hk, hk4, hv4, rfl, rfl, hval⟩ := hrel
    by_cases hl1 : k < t.size
    · have hl2 : k < 4 := by omega
      have hdk := hd k hl1
      rw [byteI_lt hl1] at hdk
      simp only [digI, Bool.and_eq_true, decide_eq_true_eq] at hdk
      obtain ⟨q1, q2⟩ := hdk
      go_wp2
      obtain ⟨hv1, hv2⟩ := hval.out
      have hp : 10 ^ (k + 1) ≤ 10 ^ 4 := Nat.pow_le_pow_right (by omega) (by omega)
      have hlt' : 10 * v + (t[k].toNat - 48) < 10 ^ (k + 1) := by rw [Nat.pow_succ]; omega
      refine ⟨⟨k + 1, 10 * v + (t[k].toNat - 48), by omega, by omega, by omega, by go_num, ?_, ?_, hlt'⟩, by simp [intOf]; omega⟩
      · have e : (10 * (v : Int) + ((t[k].toNat : Int) - 48)) = ((10 * v + (t[k].toNat - 48) : Nat) : Int) := by omega
        rw [e]
      · rw [take_snoc t k hl1, valL_snoc, ← hv1]
    · obtain rfl : k = t.size := by omega
      have e1 := hval.out.1
      rw [List.take_of_length_le (by omega)] at e1
      subst e1
      clear hd
      rcases hz with hz | hz
      · go_wp2
        go_ret
        exact ⟨rfl, rfl⟩
      · go_wp2
        all_goals go_ret
        all_goals exact ⟨rfl, rfl⟩

end Go.Proofs.YtglkpgcmlbhkpabGreatDoor

/-
  lustrumref1's READER OF TERMS: atom BY ITS CONTRACT: what is none; calls; all of it.
-/
namespace Go.Proofs.YtglkpgcmlbhkpabGreatDoor
open Go.RowKit
attribute [local go_sem ↓] Go.wp_at_zero Go.wp_at_succ

end Go.Proofs.YtglkpgcmlbhkpabGreatDoor

/-
  lustrumref1's READER OF TERMS: atom BY ITS CONTRACT: calls.
-/
namespace Go.Proofs.YtglkpgcmlbhkpabGreatDoor
open Go.RowKit
attribute [local go_sem ↓] Go.wp_at_zero Go.wp_at_succ

theorem Tryz.infoRExpr : (Tryz.prog.info? 38).map (fun i => (i.zero, i.size, i.bytes)) = some (some (.agg #[.string ⟨#[]⟩, .int .i64 0, .string ⟨#[]⟩, .slice none 0 0]), 4, 64) := by kernel_rfl

/-- A call's arguments so far. -/
inductive ARel (l : List Tk) (i d : Nat) : St → Bool → List Ex → Prop
  | start : d ≠ 20 → ARel l i d (.here (i + 1 + 1)) true []
  | more (j : Nat) (es : List Ex) : d ≠ 20 → (∀ r, Parse l (.more es) j (d + 1) r → Parse l .args (i + 1 + 1) (d + 1) r) → i + 1 + 1 < j → es.length ≤ j → ARel l i d (.here j) false es
  | bad (j : Nat) (bd : Bool) (f : Bool) (es : List Ex) : Parse l .atom i d (.bad j bd) → ARel l i d (.bad j bd) f es
theorem ARel.num {l : List Tk} {i d j : Nat} {f : Bool} {es : List Ex} (h : ARel l i d (.here j) f es) : d ≠ 20 ∧ i < j ∧ es.length ≤ j := by
  cases h with
  | start hd => exact ⟨hd, by omega, by simp⟩
  | more _ _ hd _ hj hl => exact ⟨hd, by omega, hl⟩
theorem not_both {l : List Tk} {j : Nat} {x y : List UInt8} (hx : tx l j x = true) (hn : x ≠ y) : tx l j y = false := by
  have e : (tkx l j).toList = x := by simpa [tx] using hx
  simp only [tx, e]
  simpa using hn
theorem ARel.ok {l : List Tk} {i d j : Nat} {f : Bool} {es : List Ex} (h : ARel l i d (.here j) f es) (g1 : isInt l i = false) (g2 : txs l i [tTrue, tFalse] = false) (g3 : isName l i = true) (g4 : tx l (i + 1) tOpen = true) (hx : tx l j tShut = true) : Parse l .atom i d (.ok [.mk sCall 0 (tkx l i) es] (j + 1)) := by
  have hp : Parse l .args (i + 1 + 1) (d + 1) (.ok es j) := by
    cases h with
    | start hd => exact Run.ifT hx Run.done
    | more _ _ hd hp hj hl => exact hp _ (Run.ifF (not_both hx (by decide)) Run.done)
  exact Run.ifF g1 (Run.ifF g2 (Run.ifT g3 (Run.ifT g4 (Run.down h.num.1 (Run.then hp (Run.exp hx Run.done))))))
theorem ARel.next {l : List Tk} {i d j base : Nat} {f : Bool} {es : List Ex} {w' : World} {st5 st6 : St} {op s : ByteArray} {x : Int} {so : Option Addr} {m sc : Nat} (h : ARel l i d (.here j) f es) (g1 : isInt l i = false) (g2 : txs l i [tTrue, tFalse] = false) (g3 : isName l i = true) (g4 : tx l (i + 1) tOpen = true) (hx : tx l j tShut = false) (hst : st5 = if f then .here j else (St.here j).want l tComma) (q : QRel l .term (d + 1) base w' st5 st6 (.agg #[.string op, .int .i64 x, .string s, .slice so m sc])) :
    ∃ es', ARel l i d st6 false es' ∧ ∀ k, st6 = .here k → j < k ∧ ∃ (y : List Ex) (ys : List Value), m = y.length ∧ es' = es ++ [.mk op x s y] ∧ RowAt w' (From base) 4 (.slice so m sc) m ys ∧ ExIn w' (From base) y ys := by
  have F : ∀ {r : Res}, Parse l .args (i + 1 + 1) (d + 1) r → (∀ a k, r ≠ .ok a k) → Parse l .atom i d r := fun {r} hp hr => by
    cases r with
    | ok a k => exact absurd rfl (hr a k)
    | bad k bd => exact Run.ifF g1 (Run.ifF g2 (Run.ifT g3 (Run.ifT g4 (Run.down h.num.1 (Run.stop hp)))))
  have hnum := h.num
  cases h with
  | start hd =>
    simp only [if_true] at hst
    subst hst
    cases st6 with
    | bad k bd => exact ⟨[], .bad k bd _ _ (F (Run.ifF hx (Run.stop q.badOf)) (by simp)), fun k hk => by cases hk⟩
    | here k =>
      obtain ⟨y, ys, e1, hp, hij, hrow, hin⟩ := q.inv
      exact ⟨[.mk op x s y], .more k _ hd (fun r hr => Run.ifF hx (Run.then hp (Run.tail hr))) (by omega) (by simp; omega), fun k' hk => by cases hk; exact ⟨hij, y, ys, e1, rfl, hrow, hin⟩⟩
  | more _ _ hd HP hj hl =>
    simp only [Bool.false_eq_true, if_false] at hst
    cases hc : tx l j tComma with
    | false =>
      rw [show (St.here j).want l tComma = .bad j false from by simp only [St.want, hc, Bool.false_eq_true, if_false]] at hst
      subst hst
      obtain rfl := q.stays
      have hp : Parse l .args (i + 1 + 1) (d + 1) (.ok es j) := HP _ (Run.ifF hc Run.done)
      exact ⟨[], .bad j false _ _ (Run.ifF g1 (Run.ifF g2 (Run.ifT g3 (Run.ifT g4 (Run.down hd (Run.then hp (Run.unexp hx))))))), fun k hk => by cases hk⟩
    | true =>
      rw [show (St.here j).want l tComma = .here (j + 1) from by simp only [St.want, hc, if_true]] at hst
      subst hst
      cases st6 with
      | bad k bd => exact ⟨[], .bad k bd _ _ (F (HP _ (Run.ifT hc (Run.stop q.badOf))) (by simp)), fun k hk => by cases hk⟩
      | here k =>
        obtain ⟨y, ys, e1, hp, hij, hrow, hin⟩ := q.inv
        exact ⟨es ++ [.mk op x s y], .more k _ hd (fun r hr => HP _ (Run.ifT hc (Run.then hp (Run.tail hr)))) (by omega) (by simp; omega), fun k' hk => by cases hk; exact ⟨by omega, y, ys, e1, rfl, hrow, hin⟩⟩
abbrev xTerm (s : ByteArray) : Obj := .cells #[.string ⟨#[99, 97, 108, 108]⟩, .int .i64 0, .string s, .slice none 0 0] 38
theorem heap_alloc_new' {w : World} {n : Nat} (h : n = w.heap.size) (o : Obj) : (w.alloc o).heap[n]? = some o := by subst h; exact heap_alloc_new w o
end Go.Proofs.YtglkpgcmlbhkpabGreatDoor
