/-
  lustrumref1's READER OF TOKENS, ITS SMALL METHODS BY THEIR CONTRACTS: ok, fail, is, pass, want, name, down, some. Conditions: the reader and its tokens lie in memory as TreeOf lays them ('QS').
-/
import Derived.Test.YtglkpgcmlbhkpabGreatDoorP09
import Derived.Test.YtglkpgcmlbhkpabGreatDoorP06
import Derived.Test.YtglkpgcmlbhkpabGreatDoorP10
import Derived.Test.YtglkpgcmlbhkpabGreatDoorP17
import Derived.Test.YtglkpgcmlbhkpabGreatDoorP07
import Derived.Test.YtglkpgcmlbhkpabGreatDoorP14
namespace Go.Proofs.YtglkpgcmlbhkpabGreatDoor
open Go.RowKit
attribute [local go_sem ↓] Go.wp_at_zero Go.wp_at_succ

structure Qc where
  b : Nat
  g : Nat
  cap : Nat
  l : List Tk
/-- Where a reader stands: at a token; or it has failed, at one. -/
inductive St where
  | here (i : Nat)
  | bad (j : Nat) (bd : Bool)
def St.k : St → Nat
  | .here i => i
  | .bad j _ => j
def St.code : St → Int
  | .here _ => 0
  | .bad _ bd => if bd then 2 else 1
def St.pos (l : List Tk) : St → Int
  | .here _ => 0
  | .bad j _ => tkp l j
def St.isAt : St → Bool
  | .here _ => true
  | .bad _ _ => false
/-- A reader. -/
structure QS (C : Qc) (st : St) (d : Nat) (w : World) : Prop where
  c0 : w.cell? ⟨C.b, 0, none⟩ = some (.slice (some ⟨C.g, 0, none⟩) C.l.length C.cap)
  c1 : w.cell? ⟨C.b, 1, none⟩ = some (.int .i64 st.k)
  c2 : w.cell? ⟨C.b, 2, none⟩ = some (.int .i64 d)
  c3 : w.cell? ⟨C.b, 3, none⟩ = some (.int .i64 st.code)
  c4 : w.cell? ⟨C.b, 4, none⟩ = some (.int .i64 (st.pos C.l))
  fz : ∀ k, w.frozen? ⟨C.b, k, none⟩ = false
  row : ∀ k, k < C.l.length → w.cell? ⟨C.g, k * 3, none⟩ = some (.string (tkk C.l k)) ∧ w.cell? ⟨C.g, k * 3 + 1, none⟩ = some (.string (tkx C.l k)) ∧ w.cell? ⟨C.g, k * 3 + 2, none⟩ = some (.int .i64 (tkp C.l k))
  ne : C.g ≠ C.b
  lt : st.k < C.l.length
  len : C.l.length ≤ 6001
  dp : d ≤ 21
  da : st.isAt = true → d ≤ 20
theorem QS.blt {C : Qc} {st : St} {d : Nat} {w : World} (R : QS C st d w) : C.b < w.heap.size := lt_of_cell R.c0
theorem QS.go {C : Qc} {st st' : St} {d e : Nat} {w w' : World} (R : QS C st d w) (h : Mv C.b w w') (h0 : w'.cell? ⟨C.b, 0, none⟩ = some (.slice (some ⟨C.g, 0, none⟩) C.l.length C.cap)) (h1 : w'.cell? ⟨C.b, 1, none⟩ = some (.int .i64 st'.k)) (h2 : w'.cell? ⟨C.b, 2, none⟩ = some (.int .i64 e)) (h3 : w'.cell? ⟨C.b, 3, none⟩ = some (.int .i64 st'.code)) (h4 : w'.cell? ⟨C.b, 4, none⟩ = some (.int .i64 (st'.pos C.l))) (hf : ∀ k, w'.frozen? ⟨C.b, k, none⟩ = false) (hj : st'.k < C.l.length) (he : e ≤ 21) (ha : st'.isAt = true → e ≤ 20) : QS C st' e w' :=
  ⟨h0, h1, h2, h3, h4, hf, fun k hk => ⟨h.cell R.ne (R.row k hk).1, h.cell R.ne (R.row k hk).2.1, h.cell R.ne (R.row k hk).2.2⟩, R.ne, hj, R.len, he, ha⟩
theorem QS.below {C : Qc} {st : St} {d : Nat} {w w' : World} (R : QS C st d w) (hb : Below w.heap.size w w') : QS C st d w' :=
  R.go (Mv.of_below hb) (cell_keep hb R.c0) (cell_keep hb R.c1) (cell_keep hb R.c2) (cell_keep hb R.c3) (cell_keep hb R.c4) (fun k => by rw [hb.frozen (p := ⟨C.b, k, none⟩) R.blt]; exact R.fz k) R.lt R.dp R.da
theorem QS.drewN {C : Qc} {st : St} {d : Nat} {w : World} (R : QS C st d w) (n : Nat) : QS C st d (w.drewN n) := R.below (below_drewN (Below.refl _ _) n)
theorem QS.upon {C : Qc} {st st' : St} {d e : Nat} {w w1 w2 : World} (R : QS C st d w) (R1 : QS C st' e w1) (g : Below w.heap.size w1 w2) : QS C st' e w2 := by
  have f : ∀ {p : Addr} {v : Value}, p.block < w.heap.size → w1.cell? p = some v → w2.cell? p = some v := fun {p} {v} hp hc => by
    rw [World.cell?_of_block (w := w1) (g.block p.block hp)]; exact hc
  have hb := R.blt
  have hg : C.g < w.heap.size := lt_of_cell (R.row st.k R.lt).1
  refine ⟨f hb R1.c0, f hb R1.c1, f hb R1.c2, f hb R1.c3, f hb R1.c4, fun k => ?_, fun k hk => ⟨f hg (R1.row k hk).1, f hg (R1.row k hk).2.1, f hg (R1.row k hk).2.2⟩, R1.ne, R1.lt, R1.len, R1.dp, R1.da⟩
  rw [World.frozen?_of_block (w := w1) (g.block C.b hb)]; exact R1.fz k
theorem other_cell {w : World} {b o p : Nat} {v x : Value} (h : o ≠ p) (hc : w.cell? ⟨b, p, none⟩ = some x) : (w.setCell ⟨b, o, none⟩ v).cell? ⟨b, p, none⟩ = some x := by
  rw [World.cell?_setCell_other _ _ _ _ (addr_ne h)]; exact hc
theorem QS.set1 {C : Qc} {i d : Nat} {w : World} (R : QS C (.here i) d w) {j : Nat} {x : Int} (hx : x = (j : Int)) (hj : j < C.l.length) : QS C (.here j) d (w.setCell ⟨C.b, 1, none⟩ (.int .i64 x)) := by
  subst hx
  exact R.go (Mv.setAt _ _ _ _) (other_cell (by decide) R.c0) (World.cell?_setCell_same _ _ _ R.c1) (other_cell (by decide) R.c2) (other_cell (by decide) R.c3) (other_cell (by decide) R.c4) (fun k => by rw [World.frozen?_setCell]; exact R.fz k) hj R.dp R.da
theorem QS.set2 {C : Qc} {st : St} {d : Nat} {w : World} (R : QS C st d w) {e : Nat} {x : Int} (hx : x = (e : Int)) (he : e ≤ 21) (ha : st.isAt = true → e ≤ 20) : QS C st e (w.setCell ⟨C.b, 2, none⟩ (.int .i64 x)) := by
  subst hx
  exact R.go (Mv.setAt _ _ _ _) (other_cell (by decide) R.c0) (other_cell (by decide) R.c1) (World.cell?_setCell_same _ _ _ R.c2) (other_cell (by decide) R.c3) (other_cell (by decide) R.c4) (fun k => by rw [World.frozen?_setCell]; exact R.fz k) R.lt he ha

/-- Where it stands behind a failure. -/
def St.fail (st : St) (bd : Bool) : St := match st with | .here i => .bad i bd | s => s
theorem QS.set34 {C : Qc} {i d : Nat} {w : World} (R : QS C (.here i) d w) (bd : Bool) {x y : Int} (hx : x = if bd then 2 else 1) (hy : y = (tkp C.l i : Int)) : QS C (.bad i bd) d ((w.setCell ⟨C.b, 3, none⟩ (.int .i64 x)).setCell ⟨C.b, 4, none⟩ (.int .i64 y)) := by
  subst hx hy
  refine R.go ((Mv.setAt _ _ _ _).trans (Mv.setAt _ _ _ _)) (other_cell (by decide) (other_cell (by decide) R.c0)) (other_cell (by decide) (other_cell (by decide) R.c1)) (other_cell (by decide) (other_cell (by decide) R.c2)) (other_cell (by decide) (World.cell?_setCell_same _ _ _ R.c3)) (World.cell?_setCell_same _ _ _ (other_cell (by decide) R.c4)) (fun k => by rw [World.frozen?_setCell, World.frozen?_setCell]; exact R.fz k) R.lt R.dp (fun h => by cases h)
/-- The token there has this text. -/
def St.tx (l : List Tk) (st : St) (x : List UInt8) : Bool := match st with | .here i => Proofs.YtglkpgcmlbhkpabGreatDoor.tx l i x | .bad _ _ => false
/-- The token there is of this kind and has this text. -/
def St.isB (l : List Tk) (st : St) (k x : ByteArray) : Bool := match st with | .here i => ((tkk l i).toList == k.toList) && ((tkx l i).toList == x.toList) | .bad _ _ => false
/-- A word's or an operator's kind. -/
def kindOf (x : List UInt8) : ByteArray := if wordL.contains x then kWord else kOp
theorem isB_tx {C : Qc} {st : St} {d : Nat} {w : World} (R : QS C st d w) (T : Tkl C.l) {k xb : ByteArray} {x : List UInt8} (hx : x ∈ wordL ∧ k = kWord ∨ x ∈ opLL ∧ k = kOp) (hb : xb.toList = x) : st.isB C.l k xb = st.tx C.l x := by
  cases st with
  | bad j bd => rfl
  | here i =>
    have hlt : i < C.l.length := R.lt
    simp only [St.isB, St.tx, Proofs.YtglkpgcmlbhkpabGreatDoor.tx, hb]
    cases h : ((tkx C.l i).toList == x) with
    | false => simp
    | true =>
      have ht : Proofs.YtglkpgcmlbhkpabGreatDoor.tx C.l i x = true := h
      rcases hx with ⟨hx, rfl⟩ | ⟨hx, rfl⟩
      · rw [tkk_lt hlt, T.word hlt hx ht]; simp
      · rw [tkk_lt hlt, T.oper hlt hx ht]; simp
/-- Where it stands behind such a token, if it is there. -/
def St.pass (l : List Tk) (st : St) (x : List UInt8) : St := match st with | .here i => if Proofs.YtglkpgcmlbhkpabGreatDoor.tx l i x then .here (i + 1) else .here i | s => s
def St.want (l : List Tk) (st : St) (x : List UInt8) : St := match st with | .here i => if Proofs.YtglkpgcmlbhkpabGreatDoor.tx l i x then .here (i + 1) else .bad i false | s => s
/-- Where it stands behind what opens. -/
def St.down (st : St) (d : Nat) : St := match st with | .here i => if d = 20 then .bad i true else .here (i + 1) | s => s
end Go.Proofs.YtglkpgcmlbhkpabGreatDoor

/-
  lustrumref1's READER OF TOKENS, name AND some BY THEIR CONTRACTS.
-/
namespace Go.Proofs.YtglkpgcmlbhkpabGreatDoor
open Go.RowKit
attribute [local go_sem ↓] Go.wp_at_zero Go.wp_at_succ

def St.nm (l : List Tk) (st : St) : ByteArray := match st with | .here i => if isName l i then tkx l i else b0 | _ => b0
def St.name (l : List Tk) (st : St) : St := match st with | .here i => if isName l i then .here (i + 1) else .bad i false | s => s
def St.some (l : List Tk) (st : St) (xs : List (List UInt8)) : ByteArray := match st with | .here i => if txs l i xs then tkx l i else b0 | _ => b0
theorem drewN_row {w : World} {q : Nat} {o : Obj} (n : Nat) (h : w.heap[q]? = Option.some o) : (w.drewN n).heap[q]? = Option.some o := row_keep (below_drewN (Below.refl _ _) n) h
end Go.Proofs.YtglkpgcmlbhkpabGreatDoor

/-
  lustrumref1's READER OF TERMS: what its methods answer; pair, not BY THEIR CONTRACTS.
-/
namespace Go.Proofs.YtglkpgcmlbhkpabGreatDoor
open Go.RowKit
attribute [local go_sem ↓] Go.wp_at_zero Go.wp_at_succ

/-- A term's cells, whatever they hold. -/
def Shape (v : Value) : Prop := ∃ (op : ByteArray) (x : Int) (s : ByteArray) (so : Option Addr) (m sc : Nat), v = .agg #[.string op, .int .i64 x, .string s, .slice so m sc]
/-- From where it stood to where it stands: a term was read; or it failed; or it had failed. -/
inductive QRel (l : List Tk) (c : Cd) (d : Nat) (base : Nat) (w' : World) : St → St → Value → Prop
  | ok (i j : Nat) (op : ByteArray) (x : Int) (s : ByteArray) (es : List Ex) (so : Option Addr) (sc : Nat) (ys : List Value) : Parse l c i d (.ok [.mk op x s es] j) → i < j → RowAt w' (From base) 4 (.slice so es.length sc) es.length ys → ExIn w' (From base) es ys → QRel l c d base w' (.here i) (.here j) (.agg #[.string op, .int .i64 x, .string s, .slice so es.length sc])
  | fail (i j : Nat) (bd : Bool) (v : Value) : Parse l c i d (.bad j bd) → Shape v → QRel l c d base w' (.here i) (.bad j bd) v
  | stay (j : Nat) (bd : Bool) (v : Value) : Shape v → QRel l c d base w' (.bad j bd) (.bad j bd) v
theorem QRel.shape {l : List Tk} {c : Cd} {d base : Nat} {w' : World} {st st' : St} {v : Value} (h : QRel l c d base w' st st' v) : Shape v := by
  cases h with
  | ok i j op x s es so sc ys => exact ⟨op, x, s, so, _, sc, rfl⟩
  | fail _ _ _ _ _ h => exact h
  | stay _ _ _ h => exact h
theorem QRel.move {l : List Tk} {c c' : Cd} {d base base' : Nat} {w w' : World} {st st' : St} {v : Value} (h : QRel l c d base w st st' v) (hk : Stays (From base) (From base') w w') (hok : ∀ i j e, st = .here i → st' = .here j → Parse l c i d (.ok [e] j) → Parse l c' i d (.ok [e] j)) (hbad : ∀ i j bd, st = .here i → Parse l c i d (.bad j bd) → Parse l c' i d (.bad j bd)) : QRel l c' d base' w' st st' v := by
  cases h with
  | ok i j op x s es so sc ys hp hij hrow hin => exact .ok i j op x s es so sc ys (hok i j _ rfl rfl hp) hij (hrow.keep hk) (hin.keep hk)
  | fail i j bd v hp hs => exact .fail i j bd v (hbad i j bd rfl hp) hs
  | stay j bd v hs => exact .stay j bd v hs
theorem QRel.adv {l : List Tk} {c : Cd} {d base : Nat} {w' : World} {st : St} {j : Nat} {v : Value} (h : QRel l c d base w' st (.here j) v) : ∃ i, st = .here i ∧ i < j := by
  cases h with
  | ok i j op x s es so sc ys hp hij => exact ⟨i, rfl, hij⟩
theorem QRel.left {l : List Tk} {c : Cd} {d base : Nat} {w' : World} {st : St} {j n : Nat} {v : Value} (h : QRel l c d base w' st (.here j) v) (hn : st.isAt = true → l.length - st.k ≤ n) : l.length - (j + 1) ≤ n := by
  obtain ⟨i, rfl, hij⟩ := h.adv
  have := hn rfl
  simp only [St.k] at this
  omega
/-- Two terms with an operator between. -/
theorem QRel.pair {l : List Tk} {c1 c2 c' : Cd} {d base base1 base2 g : Nat} {w1 w2 w' : World} {st st2 : St} {j : Nat} {o op op' : ByteArray} {x x' : Int} {s s' : ByteArray} {so so' : Option Addr} {m m' sc sc' : Nat} {t : TypeId} (h1 : QRel l c1 d base1 w1 st (.here j) (.agg #[.string op, .int .i64 x, .string s, .slice so m sc])) (h2 : QRel l c2 d base2 w2 (.here (j + 1)) st2 (.agg #[.string op', .int .i64 x', .string s', .slice so' m' sc'])) (k1 : Stays (From base1) (From base) w1 w') (k2 : Stays (From base2) (From base) w2 w') (hg : w'.heap[g]? = some (.cells #[.string op, .int .i64 x, .string s, .slice so m sc, .string op', .int .i64 x', .string s', .slice so' m' sc'] t (0, 0))) (hgb : base ≤ g)
    (hok : ∀ i e e' k, st = .here i → Parse l c1 i d (.ok [e] j) → Parse l c2 (j + 1) d (.ok [e'] k) → Parse l c' i d (.ok [.mk o 0 b0 ([e] ++ [e'])] k)) (hbad : ∀ i e k bd, st = .here i → Parse l c1 i d (.ok [e] j) → Parse l c2 (j + 1) d (.bad k bd) → Parse l c' i d (.bad k bd)) :
    QRel l c' d base w' st st2 (.agg #[.string o, .int .i64 0, .string ⟨#[]⟩, .slice (some ⟨g, 0, none⟩) 2 2]) := by
  generalize hv1 : Value.agg #[.string op, .int .i64 x, .string s, .slice so m sc] = v1 at h1
  generalize hv2 : Value.agg #[.string op', .int .i64 x', .string s', .slice so' m' sc'] = v2 at h2
  cases h1 with
  | ok i _ op1 x1 s1 es1 so1 sc1 ys1 hp1 hij1 hrow1 hin1 =>
    injection hv1 with hv1
    simp only [Array.mk.injEq, List.cons.injEq, Value.string.injEq, Value.int.injEq, Value.slice.injEq, true_and, and_true] at hv1
    obtain ⟨rfl, rfl, rfl, rfl, rfl, rfl⟩ := hv1
    cases h2 with
    | ok _ k op2 x2 s2 es2 so2 sc2 ys2 hp2 hij2 hrow2 hin2 =>
      injection hv2 with hv2
      simp only [Array.mk.injEq, List.cons.injEq, Value.string.injEq, Value.int.injEq, Value.slice.injEq, true_and, and_true] at hv2
      obtain ⟨rfl, rfl, rfl, rfl, rfl, rfl⟩ := hv2
      exact .ok i k _ _ _ _ _ _ _ (hok i _ _ k rfl hp1 hp2) (by omega) (RowAt.blk hg rfl rfl (by simp [maxLen]) hgb) (.cons _ _ _ _ _ _ _ _ (hrow1.keep k1) (hin1.keep k1) (.cons _ _ _ _ _ _ _ _ (hrow2.keep k2) (hin2.keep k2) .nil))
    | fail _ k bd _ hp2 _ => exact .fail i k bd _ (hbad i _ k bd rfl hp1 hp2) ⟨_, _, _, _, _, _, rfl⟩
def QRet (C : Qc) (c : Cd) (st : St) (d : Nat) (w : World) (e : Ending) (w' : World) : Prop := Mv C.b w w' ∧ ∃ st' v, e = .returned v ∧ QS C st' d w' ∧ QRel C.l c d w.heap.size w' st st' v
/-- A method reads this, where at most n tokens are left. -/
def QFits (f : FuncId) (c : Cd) (n : Nat) : Prop := ∀ (C : Qc) (st : St) (d : Nat) (w : World), Tkl C.l → QS C st d w → (st.isAt = true → C.l.length - st.k ≤ n) → Calls Tryz.prog f #[.pointer (some ⟨C.b, 0, none⟩)] w (QRet C c st d w)

abbrev rTerm : Obj := .cells #[.string ⟨#[]⟩, .int .i64 0, .string ⟨#[]⟩, .slice none 0 0] 38
/-- A term, stored. -/
theorem put4 {H : Nat} {w3 : World} {S : Nat → Prop} {l : List Ex} {a b c : Value} {so : Option Addr} {sc : Nat} {ys : List Value} (hrow : RowAt w3 S 4 (.slice so l.length sc) l.length ys) (hin : ExIn w3 S l ys) (hS : ∀ k, S k → H < k) :
    RowAt (set4 w3 H a b c (.slice so l.length sc)) (From H) 4 (.slice so l.length sc) l.length ys ∧ ExIn (set4 w3 H a b c (.slice so l.length sc)) (From H) l ys := by
  have St : Stays S (From H) w3 (set4 w3 H a b c (.slice so l.length sc)) := set4_stays (fun k hk => ⟨by have := hS k hk; omega, by have := hS k hk; unfold From; omega⟩)
  exact ⟨hrow.keep St, hin.keep St⟩
/-- A term of parts, laid and stored. -/
theorem build4 {H : Nat} {w3 : World} {S : Nat → Prop} {es : List Ex} {a b c : Value} {cells : List Value} {t : TypeId} (hin : ExIn w3 S es cells) (hS : ∀ k, S k → H < k) (hs3 : H < w3.heap.size) (n : Nat) (hn : es.length = n) (hn' : n ≤ maxLen) (cur : Array Value) (hcur : cur.toList = cells) :
    RowAt ((set4 w3 H a b c (.slice (some ⟨w3.heap.size, 0, none⟩) n n)).alloc (.cells cur t)) (From H) 4 (.slice (some ⟨w3.heap.size, 0, none⟩) n n) n cells ∧ ExIn ((set4 w3 H a b c (.slice (some ⟨w3.heap.size, 0, none⟩) n n)).alloc (.cells cur t)) (From H) es cells := by
  subst hn
  have St : Stays S (From H) w3 ((set4 w3 H a b c (.slice (some ⟨w3.heap.size, 0, none⟩) es.length es.length)).alloc (.cells cur t)) := (set4_stays (S' := From H) (fun k hk => ⟨by have := hS k hk; omega, by have := hS k hk; unfold From; omega⟩)).trans (Stays.alloc _ (fun k hk => hk)) (by rw [set4_size]; exact Nat.le_refl _)
  have hnew := heap_alloc_new (set4 w3 H a b c (.slice (some ⟨w3.heap.size, 0, none⟩) es.length es.length)) (.cells cur t)
  rw [set4_size] at hnew
  exact ⟨RowAt.blk hnew hcur hin.length hn' (by unfold From; omega), hin.keep St⟩
theorem build4_below {H : Nat} {w3 : World} {a b c e : Value} {o : Obj} (hs3 : H < w3.heap.size) : Below H w3 ((set4 w3 H a b c e).alloc o) := (set4_below (Nat.le_refl _)).alloc (by rw [set4_size]; omega) _

/-- The same, with a part's own variable made just ahead. -/
theorem build4b {H : Nat} {w3 : World} {S : Nat → Prop} {es : List Ex} {a b c : Value} {cells : List Value} {t : TypeId} (o : Obj) (hin : ExIn w3 S es cells) (hS : ∀ k, S k → H < k) (hs3 : H < w3.heap.size) (n : Nat) (hn : es.length = n) (hn' : n ≤ maxLen) (cur : Array Value) (hcur : cur.toList = cells) (g : Nat) (hg : w3.heap.size + 1 = g) :
    RowAt (((set4 w3 H a b c (.slice (some ⟨g, 0, none⟩) n n)).alloc o).alloc (.cells cur t)) (From H) 4 (.slice (some ⟨g, 0, none⟩) n n) n cells ∧ ExIn (((set4 w3 H a b c (.slice (some ⟨g, 0, none⟩) n n)).alloc o).alloc (.cells cur t)) (From H) es cells := by
  subst hn hg
  have St : Stays S (From H) w3 (((set4 w3 H a b c (.slice (some ⟨w3.heap.size + 1, 0, none⟩) es.length es.length)).alloc o).alloc (.cells cur t)) := ((set4_stays (S' := From H) (fun k hk => ⟨by have := hS k hk; omega, by have := hS k hk; unfold From; omega⟩)).trans (Stays.alloc _ (fun k hk => hk)) (by rw [set4_size]; exact Nat.le_refl _)).trans (Stays.alloc _ (fun k hk => hk)) (by simp [set4_size])
  have hnew := two_new (set4 w3 H a b c (.slice (some ⟨w3.heap.size + 1, 0, none⟩) es.length es.length)) o (.cells cur t)
  rw [set4_size] at hnew
  exact ⟨RowAt.blk hnew hcur hin.length hn' (by unfold From; omega), hin.keep St⟩
theorem build4b_below {H : Nat} {w3 : World} {a b c e : Value} {o o' : Obj} (hs3 : H < w3.heap.size) : Below H w3 (((set4 w3 H a b c e).alloc o).alloc o') := ((set4_below (Nat.le_refl _)).alloc (by rw [set4_size]; omega) _).alloc (by simp [set4_size]; omega) _
theorem set2_size (w : World) (p : Addr) (v : Value) : (w.setCell p v).heap.size = w.heap.size := by simp

end Go.Proofs.YtglkpgcmlbhkpabGreatDoor

/-
  lustrumref1's READER OF TERMS: or, and, sum, product BY THEIR CONTRACTS.
-/
namespace Go.Proofs.YtglkpgcmlbhkpabGreatDoor
open Go.RowKit
attribute [local go_sem ↓] Go.wp_at_zero Go.wp_at_succ

/-- What a loop over operators has so far. -/
inductive LRel (l : List Tk) (v : Lv) (d : Nat) (S : Nat → Prop) (wr : World) (st0 : St) : St → Value → Prop
  | ok (i j : Nat) (op : ByteArray) (x : Int) (s : ByteArray) (es : List Ex) (so : Option Addr) (sc : Nat) (ys : List Value) : st0 = .here i → (∀ r, Parse l (.loop v [.mk op x s es]) j d r → Parse l (.left v) i d r) → i < j → RowAt wr S 4 (.slice so es.length sc) es.length ys → ExIn wr S es ys → LRel l v d S wr st0 (.here j) (.agg #[.string op, .int .i64 x, .string s, .slice so es.length sc])
  | fail (i j : Nat) (bd : Bool) (u : Value) : st0 = .here i → Parse l (.left v) i d (.bad j bd) → Shape u → LRel l v d S wr st0 (.bad j bd) u
  | stay (j : Nat) (bd : Bool) (u : Value) : st0 = .bad j bd → Shape u → LRel l v d S wr st0 (.bad j bd) u
theorem LRel.shape {l : List Tk} {v : Lv} {d : Nat} {S : Nat → Prop} {wr : World} {st0 st : St} {u : Value} (h : LRel l v d S wr st0 st u) : Shape u := by
  cases h with
  | ok i j op x s es so sc ys => exact ⟨op, x, s, so, _, sc, rfl⟩
  | fail _ _ _ _ _ _ h => exact h
  | stay _ _ _ _ h => exact h
theorem LRel.left {l : List Tk} {v : Lv} {d : Nat} {S : Nat → Prop} {wr : World} {st0 : St} {j n : Nat} {u : Value} (h : LRel l v d S wr st0 (.here j) u) (hn : st0.isAt = true → l.length - st0.k ≤ n) : l.length - (j + 1) ≤ n := by
  cases h with
  | ok i j op x s es so sc ys h0 hp hij =>
    subst h0
    have := hn rfl
    simp only [St.k] at this
    omega
theorem QRel.loop {l : List Tk} {v : Lv} {d base : Nat} {S : Nat → Prop} {w1 wr : World} {st0 st : St} {u : Value} (h : QRel l v.part d base w1 st0 st u) (hk : Stays (From base) S w1 wr) : LRel l v d S wr st0 st u := by
  cases h with
  | ok i j op x s es so sc ys hp hij hrow hin => exact .ok i j op x s es so sc ys rfl (fun r hr => Parse.left v hp hr) hij (hrow.keep hk) (hin.keep hk)
  | fail i j bd u hp hs => exact .fail i j bd u rfl (Run.stop hp) hs
  | stay j bd u hs => exact .stay j bd u rfl hs
theorem LRel.done {l : List Tk} {v : Lv} {d base : Nat} {S : Nat → Prop} {wr w' : World} {st0 st : St} {u : Value} (h : LRel l v d S wr st0 st u) (hk : Stays S (From base) wr w') (hst : ∀ j, st = .here j → txs l j v.ops = false) : QRel l (.left v) d base w' st0 st u := by
  cases h with
  | ok i j op x s es so sc ys h0 hp hij hrow hin => subst h0; exact .ok i j op x s es so sc ys (hp _ (Parse.loopStop v (hst j rfl))) hij (hrow.keep hk) (hin.keep hk)
  | fail i j bd u h0 hp hs => subst h0; exact .fail i j bd u hp hs
  | stay j bd u h0 hs => subst h0; exact .stay j bd u hs
/-- One operator more. -/
theorem LRel.more {l : List Tk} {v : Lv} {d base2 g : Nat} {S S' : Nat → Prop} {wr w2 w' : World} {st0 st2 : St} {j : Nat} {op op' : ByteArray} {x x' : Int} {s s' : ByteArray} {so so' : Option Addr} {m m' sc sc' : Nat} {t : TypeId} (h1 : LRel l v d S wr st0 (.here j) (.agg #[.string op, .int .i64 x, .string s, .slice so m sc])) (h2 : QRel l v.part d base2 w2 (.here (j + 1)) st2 (.agg #[.string op', .int .i64 x', .string s', .slice so' m' sc'])) (ht : txs l j v.ops = true) (k1 : Stays S S' wr w') (k2 : Stays (From base2) S' w2 w') (hg : w'.heap[g]? = some (.cells #[.string op, .int .i64 x, .string s, .slice so m sc, .string op', .int .i64 x', .string s', .slice so' m' sc'] t (0, 0))) (hgb : S' g) :
    LRel l v d S' w' st0 st2 (.agg #[.string (tkx l j), .int .i64 0, .string ⟨#[]⟩, .slice (some ⟨g, 0, none⟩) 2 2]) := by
  generalize hv1 : Value.agg #[.string op, .int .i64 x, .string s, .slice so m sc] = v1 at h1
  generalize hv2 : Value.agg #[.string op', .int .i64 x', .string s', .slice so' m' sc'] = v2 at h2
  cases h1 with
  | ok i _ op1 x1 s1 es1 so1 sc1 ys1 h0 hp1 hij1 hrow1 hin1 =>
    injection hv1 with hv1
    simp only [Array.mk.injEq, List.cons.injEq, Value.string.injEq, Value.int.injEq, Value.slice.injEq, true_and, and_true] at hv1
    obtain ⟨rfl, rfl, rfl, rfl, rfl, rfl⟩ := hv1
    cases h2 with
    | ok _ k op2 x2 s2 es2 so2 sc2 ys2 hp2 hij2 hrow2 hin2 =>
      injection hv2 with hv2
      simp only [Array.mk.injEq, List.cons.injEq, Value.string.injEq, Value.int.injEq, Value.slice.injEq, true_and, and_true] at hv2
      obtain ⟨rfl, rfl, rfl, rfl, rfl, rfl⟩ := hv2
      exact .ok i k _ _ _ [_, _] _ _ _ h0 (fun r hr => hp1 r (Parse.loopMore v ht hp2 hr)) (by omega) (RowAt.blk hg rfl rfl (by simp [maxLen]) hgb) (.cons _ _ _ _ _ _ _ _ (hrow1.keep k1) (hin1.keep k1) (.cons _ _ _ _ _ _ _ _ (hrow2.keep k2) (hin2.keep k2) .nil))
    | fail _ k bd _ hp2 _ => exact .fail i k bd _ h0 (hp1 _ (Parse.loopBad v ht hp2)) ⟨_, _, _, _, _, _, rfl⟩
theorem LRel.keep {l : List Tk} {v : Lv} {d : Nat} {S S' : Nat → Prop} {wr w' : World} {st0 st : St} {u : Value} (h : LRel l v d S wr st0 st u) (hk : Stays S S' wr w') : LRel l v d S' w' st0 st u := by
  cases h with
  | ok i j op x s es so sc ys h0 hp hij hrow hin => exact .ok i j op x s es so sc ys h0 hp hij (hrow.keep hk) (hin.keep hk)
  | fail i j bd u h0 hp hs => exact .fail i j bd u h0 hp hs
  | stay j bd u h0 hs => exact .stay j bd u h0 hs
def qpos (w : World) (b : Nat) : Nat := match w.cell? ⟨b, 1, none⟩ with | some (.int _ k) => k.toNat | _ => 0
/-- Tokens that are left; none where it has failed. -/
def qleft (l : List Tk) (w : World) (b : Nat) : Nat := match w.cell? ⟨b, 3, none⟩ with | some (.int _ 0) => l.length - qpos w b + 1 | _ => 0
theorem QS.qpos {C : Qc} {st : St} {d : Nat} {w : World} (R : QS C st d w) : Proofs.YtglkpgcmlbhkpabGreatDoor.qpos w C.b = st.k := by simp [Proofs.YtglkpgcmlbhkpabGreatDoor.qpos, R.c1]
theorem QS.left_at {C : Qc} {i d : Nat} {w : World} (R : QS C (.here i) d w) : qleft C.l w C.b = C.l.length - i + 1 := by
  simp only [qleft, R.qpos, R.c3, St.k, St.code]
theorem QS.left_bad {C : Qc} {j : Nat} {bd : Bool} {d : Nat} {w : World} (R : QS C (.bad j bd) d w) : qleft C.l w C.b = 0 := by
  cases bd <;> simp [qleft, R.c3, St.code]
theorem QRel.less {c : Cd} {C : Qc} {d d' n base : Nat} {w w1 w' : World} {j : Nat} {st' : St} {v : Value} (h : QRel C.l c d base w1 (.here (j + 1)) st' v) (R : QS C (.here j) d' w) (R' : QS C st' n w') : qleft C.l w' C.b < qleft C.l w C.b := by
  rw [R.left_at]
  cases h with
  | ok _ k _ _ _ _ _ _ _ _ hk => rw [R'.left_at]; have := R'.lt; simp only [St.k] at this; omega
  | fail _ k bd _ _ _ => rw [R'.left_bad]; omega

theorem ne_or {l : List Tk} {j : Nat} (hc : txs l j (Lv.ops .or) = true) : (tkx l j).toList.isEmpty = false := by
  simp only [txs, List.any_eq_true] at hc
  obtain ⟨y, hy, hyx⟩ := hc
  have e : (tkx l j).toList = y := by simpa [tx] using hyx
  rw [e]
  simp only [Lv.ops, List.mem_cons, List.not_mem_nil, or_false] at hy
  rcases hy with rfl | rfl <;> rfl
theorem ne_sum {l : List Tk} {j : Nat} (hc : txs l j (Lv.ops .sum) = true) : (tkx l j).toList.isEmpty = false := by
  simp only [txs, List.any_eq_true] at hc
  obtain ⟨y, hy, hyx⟩ := hc
  have e : (tkx l j).toList = y := by simpa [tx] using hyx
  rw [e]
  simp only [Lv.ops, List.mem_cons, List.not_mem_nil, or_false] at hy
  rcases hy with rfl | rfl <;> rfl
theorem ne_product {l : List Tk} {j : Nat} (hc : txs l j (Lv.ops .prod) = true) : (tkx l j).toList.isEmpty = false := by
  simp only [txs, List.any_eq_true] at hc
  obtain ⟨y, hy, hyx⟩ := hc
  have e : (tkx l j).toList = y := by simpa [tx] using hyx
  rw [e]
  simp only [Lv.ops, List.mem_cons, List.not_mem_nil, or_false] at hy
  rcases hy with rfl | rfl | rfl <;> rfl
end Go.Proofs.YtglkpgcmlbhkpabGreatDoor

/-
  lustrumref1's READER OF TERMS: and, unary BY THEIR CONTRACTS.
-/
namespace Go.Proofs.YtglkpgcmlbhkpabGreatDoor
open Go.RowKit
attribute [local go_sem ↓] Go.wp_at_zero Go.wp_at_succ

theorem tx_eq {l : List Tk} {i : Nat} {x : List UInt8} (h : tx l i x = true) : tkx l i = ⟨x.toArray⟩ := by
  have e : (tkx l i).toList = x := by simpa [tx] using h
  rw [toList_data] at e
  apply ByteArray.ext
  apply Array.ext'
  rw [e]
end Go.Proofs.YtglkpgcmlbhkpabGreatDoor

/-
  lustrumref1's READER OF TERMS: unary BY ITS CONTRACT.
-/
namespace Go.Proofs.YtglkpgcmlbhkpabGreatDoor
open Go.RowKit
attribute [local go_sem ↓] Go.wp_at_zero Go.wp_at_succ

/-- A term behind what opens. -/
theorem QRel.pre {l : List Tk} {c c' : Cd} {d base base1 g i : Nat} {w3 w' : World} {st3 : St} {o op : ByteArray} {x : Int} {s : ByteArray} {so : Option Addr} {m sc : Nat} {t : TypeId} (h : QRel l c (d + 1) base1 w3 ((St.here i).down d) st3 (.agg #[.string op, .int .i64 x, .string s, .slice so m sc])) (k1 : Stays (From base1) (From base) w3 w') (hg : w'.heap[g]? = some (.cells #[.string op, .int .i64 x, .string s, .slice so m sc] t (0, 0))) (hgb : base ≤ g)
    (hok : ∀ e j, d ≠ 20 → Parse l c (i + 1) (d + 1) (.ok [e] j) → Parse l c' i d (.ok [.mk o 0 b0 [e]] j)) (hbad : ∀ j bd, d ≠ 20 → Parse l c (i + 1) (d + 1) (.bad j bd) → Parse l c' i d (.bad j bd)) (hdeep : d = 20 → Parse l c' i d (.bad i true)) :
    QRel l c' d base w' (.here i) st3 (.agg #[.string o, .int .i64 0, .string ⟨#[]⟩, .slice (some ⟨g, 0, none⟩) 1 1]) := by
  by_cases hd : d = 20
  · subst hd
    rw [show (St.here i).down 20 = .bad i true from rfl] at h
    cases h
    exact .fail i i true _ (hdeep rfl) ⟨_, _, _, _, _, _, rfl⟩
  · rw [show (St.here i).down d = .here (i + 1) from by simp only [St.down, if_neg hd]] at h
    generalize hv : Value.agg #[.string op, .int .i64 x, .string s, .slice so m sc] = v at h
    cases h with
    | ok _ j op' x' s' es so' sc' ys hp hij hrow hin =>
      injection hv with hv
      simp only [Array.mk.injEq, List.cons.injEq, Value.string.injEq, Value.int.injEq, Value.slice.injEq, true_and, and_true] at hv
      obtain ⟨rfl, rfl, rfl, rfl, rfl, rfl⟩ := hv
      exact .ok i j _ _ _ [_] _ _ _ (hok _ j hd hp) (by omega) (RowAt.blk hg rfl rfl (by simp [maxLen]) hgb) (.cons _ _ _ _ _ _ _ _ (hrow.keep k1) (hin.keep k1) .nil)
    | fail _ j bd _ hp _ => exact .fail i j bd _ (hbad j bd hd hp) ⟨_, _, _, _, _, _, rfl⟩
/-- Where what stands there may open. -/
theorem down_left {C : Qc} {i d n : Nat} (hn : C.l.length - i ≤ n) (hi : i < C.l.length) : ((St.here i).down d).isAt = true → C.l.length - ((St.here i).down d).k ≤ n - 1 := fun h => by
  by_cases hd : d = 20
  · subst hd; cases h
  · simp only [St.down, if_neg hd, St.k]; omega

end Go.Proofs.YtglkpgcmlbhkpabGreatDoor
