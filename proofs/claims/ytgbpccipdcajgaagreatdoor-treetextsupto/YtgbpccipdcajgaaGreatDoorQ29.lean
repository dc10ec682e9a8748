/-
  WHAT IS WRITTEN OF A PROGRAM IS SEEN AND READ AS THAT PROGRAM, IN PLAIN MATHEMATICS; or it is too deep, or too many nodes.
-/
import Derived.Test.YtgbpccipdcajgaaGreatDoorQ27
import Derived.Test.YtgbpccipdcajgaaGreatDoorQ22
import Derived.Test.YtgbpccipdcajgaaGreatDoorQ25
import Derived.Test.YtgbpccipdcajgaaGreatDoorQ28
import Derived.Test.YtgbpccipdcajgaaGreatDoorQ14
import Derived.Test.YtgbpccipdcajgaaGreatDoorQ17
namespace Go.Proofs.YtgbpccipdcajgaaGreatDoor
def optX : List Ex → List UInt8
 | [] => []
 | v :: r => oneX v ++ moreX r
theorem opt_tx {vs : List Ex} (h : ∀ v ∈ vs, VarOk v) : lstX varX 0 vs = some (optX vs) := by
 cases vs with
 | nil => rfl
 | cons v r => exact vars_tx h
def ownT (owns : List Ex) (r : List UInt8) : List UInt8 := if owns = [] then r else tVar ++ (32 :: (optX owns ++ (tSemi ++ (10 :: r))))
def NP.endT (n : NP) : List UInt8 := tLet ++ ([10] ++ (qsX n.qp ++ tTel))
def NP.txt (n : NP) : List UInt8 := tNode ++ (32 :: (n.name.toList ++ (tOpen ++ (optX n.ins ++ (tShut ++ (32 :: (tReturns ++ (32 :: (tOpen ++ (optX n.outs ++ (tShut ++ (tSemi ++ ([10] ++ ownT n.owns n.endT)))))))))))))
theorem qs_end : ∀ (qp : List Part) {p : List Pc} {x : List UInt8}, (∀ q ∈ qp, EqP q.1 q.2.1 q.2.2.1 q.2.2.2) → Lx offI p x → Lx offI (p ++ (qsP qp ++ [wordP tTel])) (x ++ ([10] ++ (qsX qp ++ tTel)))
 | [], p, x, _, h => Lx.gaps h (Lx.word (by decide)) [10] (by decide) ⟨_, _, rfl, rfl⟩
 | q :: r, p, x, hq, h => by
  have h1 : Lx offI (p ++ q.2.2.1) (x ++ ([10, 32, 32] ++ q.2.2.2)) := Lx.gaps h (hq q List.mem_cons_self).lex [10, 32, 32] (by decide) ⟨_, _, rfl, rfl⟩
  have h2 := qs_end r (fun y hy => hq y (List.mem_cons_of_mem _ hy)) h1
  have e1 : p ++ (qsP (q :: r) ++ [wordP tTel]) = p ++ q.2.2.1 ++ (qsP r ++ [wordP tTel]) := by rw [qsP_cons]; simp
  have e2 : x ++ ([10] ++ (qsX (q :: r) ++ tTel)) = x ++ ([10, 32, 32] ++ q.2.2.2) ++ ([10] ++ (qsX r ++ tTel)) := by
   have : qsX (q :: r) = [32, 32] ++ (q.2.2.2 ++ [10]) ++ qsX r := rfl
   rw [this]; simp
  rw [e1, e2]
  exact h2
theorem NP.endLex {n : NP} (hn : n.Fine) : Lx offI n.end' n.endT := qs_end n.qp (p := [wordP tLet]) hn.qs (Lx.word (by decide))
theorem own_lex {owns : List Ex} (h : ∀ v ∈ owns, VarOk v) {p : List Pc} {x : List UInt8} (hx : Lx offI p x) : Lx offI (ownP owns p) (ownT owns x) := by
 by_cases ho : owns = []
 ·rw [ownP, ownT, if_pos ho, if_pos ho]
  exact hx
 ·rw [ownP, ownT, if_neg ho, if_neg ho]
  obtain ⟨v, r, rfl⟩ := List.exists_cons_of_ne_nil ho
  have hm : Lx anyI [opP tSemi] tSemi := Lx.op1 (by decide) (by decide) (by decide) (by decide) (by decide)
  have h1 : Lx offI ([opP tSemi] ++ p) (tSemi ++ ([10] ++ x)) := Lx.gaps hm hx [10] (by decide) ⟨_, _, rfl, rfl⟩
  have h2 : Lx offI (varsP (v :: r) ++ ([opP tSemi] ++ p)) (optX (v :: r) ++ (tSemi ++ ([10] ++ x))) := Lx.seq (vars_lex h) h1 ⟨59, _, rfl, rfl⟩
  exact Lx.gap (p := [wordP tVar]) (Lx.word (by decide)) h2 rfl
theorem brk_vars {vs : List Ex} (h : ∀ v ∈ vs, VarOk v) {p : List Pc} {x : List UInt8} (hx : Lx offI (opP tShut :: p) (tShut ++ x)) : Lx offI (opP tOpen :: (varsP vs ++ opP tShut :: p)) (tOpen ++ (optX vs ++ (tShut ++ x))) := by
 have hO : Lx anyI [opP tOpen] tOpen := Lx.op1 (by decide) (by decide) (by decide) (by decide) (by decide)
 cases vs with
 | nil => exact Lx.seq (p := [opP tOpen]) hO hx ⟨41, _, rfl, rfl⟩
 | cons v r =>
  have h1 : Lx offI (varsP (v :: r) ++ opP tShut :: p) (optX (v :: r) ++ (tShut ++ x)) := Lx.seq (vars_lex h) hx ⟨41, _, rfl, rfl⟩
  have hne : ∃ c s, optX (v :: r) ++ (tShut ++ x) = c :: s := by
   rcases optX (v :: r) with _ | ⟨c, s⟩
   ·exact ⟨41, _, rfl⟩
   ·exact ⟨c, _, rfl⟩
  obtain ⟨c, s, hc⟩ := hne
  exact Lx.seq (p := [opP tOpen]) hO h1 ⟨c, s, hc, rfl⟩
theorem NP.lex {n : NP} (hn : n.Fine) : Lx offI n.tok n.txt := by
 have hm : Lx anyI [opP tSemi] tSemi := Lx.op1 (by decide) (by decide) (by decide) (by decide) (by decide)
 have hS : Lx anyI [opP tShut] tShut := Lx.op1 (by decide) (by decide) (by decide) (by decide) (by decide)
 have z := own_lex hn.owns (NP.endLex hn)
 have z := Lx.gaps hm z [10] (by decide) ⟨_, _, rfl, rfl⟩
 have z := Lx.seq hS z ⟨59, _, rfl, rfl⟩
 have z := brk_vars hn.outs z
 have z := Lx.gap (Lx.word (x := tReturns) (by decide)) z rfl
 have z := Lx.gap hS z rfl
 have z := brk_vars hn.ins z
 have z := Lx.seq (Lx.name hn.nm) z ⟨40, _, rfl, rfl⟩
 have z := Lx.gap (Lx.word (x := tNode) (by decide)) z rfl
 exact z

structure NodeOk (n : Ex) : Prop where
 has : ∃ name ins outs owns qs, n = .mk name 0 b0 [lst ins, lst outs, lst owns, lst qs] ∧ NmOk name ∧ (∀ v ∈ ins, VarOk v) ∧ outs ≠ [] ∧ (∀ v ∈ outs, VarOk v) ∧ (∀ v ∈ owns, VarOk v) ∧ ∀ q ∈ qs, (∃ kind ns e, q = .mk kind 0 b0 [lst ns, e]) ∧ EqOk q
def txtN (ns : List NP) : List UInt8 := ns.flatMap fun n => n.txt ++ [10]
theorem lexes_end {p : List Pc} {x : List UInt8} (h : Lx offI p x) : ∃ l, Lexes (sOf (x ++ [10])) 0 l none ∧ l.map (fun t => (t.kind, t.text)) = p ++ [(kEnd, b0)] := by
 have H := Has.whole (x ++ [10])
 have hsz : (sOf (x ++ [10])).size = x.length + 1 := by rw [← bytes_len, sOf_list, List.length_append]; rfl
 generalize sOf (x ++ [10]) = s at H hsz ⊢
 obtain ⟨H1, H2⟩ := H.split
 rw [Nat.zero_add] at H2
 obtain ⟨hlt, hb⟩ := H2.head
 obtain ⟨ts, R, e⟩ := h s [] 0 0 .start (.refl 0) H1 fun _ => by rw [Nat.zero_add, hb]; rfl
 rw [Nat.zero_add, List.nil_append] at R
 have hcom : comB s s.size = false := by
  unfold comB
  rw [decide_eq_false (by omega)]
  rfl
 have F : Lexes s x.length [⟨kEnd, b0, s.size⟩] none := by
  refine .fin _ s.size 0 kEnd b0 ⟨.blank _ _ hlt (by rw [hb]; rfl) ?_, Nat.le_refl _, fun h => by omega⟩ hcom (.fin rfl) (by rw [kEnd_list]; rfl) (by rw [kEnd_list]; rfl)
  rw [← hsz]
  exact .refl _
 refine ⟨ts ++ [⟨kEnd, b0, s.size⟩], R.lexes F, ?_⟩
 rw [List.map_append, e]
 simp
theorem progs_lex : ∀ (r : List NP) {p : List Pc} {x : List UInt8}, (∀ n ∈ r, n.Fine) → Lx offI p x → ∃ y, x ++ (10 :: txtN r) = y ++ [10] ∧ Lx offI (p ++ toksN r) y
 | [], p, x, _, h => ⟨x, rfl, by rw [show toksN [] = [] from rfl, List.append_nil]; exact h⟩
 | n :: r, p, x, hn, h => by
  have h1 : Lx offI (p ++ n.tok) (x ++ ([10] ++ n.txt)) := Lx.gaps h (NP.lex (hn n List.mem_cons_self)) [10] (by decide) ⟨_, _, rfl, rfl⟩
  obtain ⟨y, hy, hl⟩ := progs_lex r (fun m hm => hn m (List.mem_cons_of_mem _ hm)) h1
  refine ⟨y, ?_, ?_⟩
  ·rw [← hy]
   have : txtN (n :: r) = n.txt ++ [10] ++ txtN r := rfl
   rw [this]; simp
  ·have : toksN (n :: r) = n.tok ++ toksN r := rfl
   rw [this, ← List.append_assoc]
   exact hl
theorem prog_lexes (ns : List NP) (hn : ∀ n ∈ ns, n.Fine) : ∃ l, Lexes (sOf (txtN ns)) 0 l none ∧ l.map (fun t => (t.kind, t.text)) = toksN ns ++ [(kEnd, b0)] := by
 cases ns with
 | nil =>
  refine ⟨[⟨kEnd, b0, 0⟩], ?_, rfl⟩
  have hz : (sOf (txtN [])).size = 0 := by rw [← bytes_len, sOf_list]; rfl
  exact .fin 0 0 0 kEnd b0 ⟨.refl 0, by omega, fun h => by omega⟩ (by unfold comB; rw [decide_eq_false (by omega)]; rfl) (.fin (by omega)) (by rw [kEnd_list]; rfl) (by rw [kEnd_list]; rfl)
 | cons n r =>
  obtain ⟨y, hy, hl⟩ := progs_lex r (fun m hm => hn m (List.mem_cons_of_mem _ hm)) (NP.lex (hn n List.mem_cons_self))
  have e : txtN (n :: r) = y ++ [10] := by
   rw [← hy]
   have : txtN (n :: r) = n.txt ++ [10] ++ txtN r := rfl
   rw [this]; simp
  rw [e]
  exact lexes_end hl
theorem same_can {n : NP} : SameNd n.ex n.can ↔ SameEqs (n.qp.map (·.1)) (n.qp.map fun x => canQ x.1) := by
 constructor
 ·rintro ⟨name, ins, ins', outs, outs', owns, owns', qs, qs', h1, h2, _, _, _, h6⟩
  simp only [NP.ex, NP.can, Ex.mk.injEq, List.cons.injEq, lst] at h1 h2
  rw [h1.2.2.2.2.2.2.1.2.2.2, h2.2.2.2.2.2.2.1.2.2.2]
  exact h6
 ·intro h
  have hv : ∀ vs : List Ex, varCells vs = varCells (vs.map canV) := fun vs => by
   induction vs with
   | nil => rfl
   | cons v r ih => simp only [varCells, List.map_cons, List.flatMap_cons] at ih ⊢; rw [ih]; rfl
  exact ⟨n.name, n.ins, _, n.outs, _, n.owns, _, _, _, rfl, rfl, hv _, hv _, hv _, h⟩
theorem EqP.same {q : Ex} {k : Nat} {p : List Pc} {x : List UInt8} (h : EqP q k p x) : SameEq q (canQ q) := by
 have hn : ∀ ns : List Ex, nameCells ns = nameCells (ns.map canN) := fun ns => by
  induction ns with
  | nil => rfl
  | cons v r ih => simp only [nameCells, List.map_cons] at ih ⊢; rw [ih]; rfl
 cases h with
 | chk y ns e k p x _ _ _ => exact ⟨_, ns, _, e, rfl, rfl, hn ns⟩
 | one v e k p x _ _ => exact ⟨_, [v], _, e, rfl, rfl, hn [v]⟩
 | many v u r e k p x z _ _ _ => exact ⟨_, v :: u :: r, _, e, rfl, rfl, hn _⟩
theorem NP.same {n : NP} (hn : n.Fine) : SameNd n.ex n.can := same_can.2 ⟨by simp, fun m h1 h2 => by
 simp only [List.getElem_map]
 exact (hn.qs _ (List.getElem_mem (by simpa using h1))).same⟩
end Go.Proofs.YtgbpccipdcajgaaGreatDoor
namespace Go.Proofs.YtgbpccipdcajgaaGreatDoor
open Go.RowKit
attribute [local go_sem ↓] Go.wp_at_zero Go.wp_at_succ
def rOne (v : Ex) : List UInt8 := v.op.toList ++ ([58, 32] ++ (if v.n = 2 then [105, 110, 116] else [98, 111, 111, 108]))
def rvTxt : List Ex → List UInt8
 | [] => []
 | v :: r => rOne v ++ r.flatMap fun u => [59, 32] ++ rOne u
theorem rvTxt_snoc (l : List Ex) (v : Ex) : rvTxt (l ++ [v]) = rvTxt l ++ ((if l = [] then [] else [59, 32]) ++ rOne v) := by
 cases l with
 | nil => simp [rvTxt]
 | cons a r => simp [rvTxt]
theorem rvTxt_take {vs : List Ex} {i : Nat} (h : i < vs.length) : rvTxt (vs.take (i + 1)) = rvTxt (vs.take i) ++ ((if i = 0 then [] else [59, 32]) ++ rOne vs[i]) := by
 have e : vs.take (i + 1) = vs.take i ++ [vs[i]] := by rw [List.take_add_one, List.getElem?_eq_getElem h]; rfl
 rw [e, rvTxt_snoc]
 by_cases hi : i = 0
 ·subst hi; simp
 ·have : vs.take i ≠ [] := fun h0 => by
   have := congrArg List.length h0
   rw [List.length_take, List.length_nil] at this
   omega
  rw [if_neg this, if_neg hi]
theorem sOf_add (x y : List UInt8) : sOf x ++ sOf y = sOf (x ++ y) := by
 apply ByteArray.ext
 rw [ByteArray.data_append]
 simp [sOf]
theorem rv_first {vs : List Ex} {i : Nat} {v : Ex} {base kt : ByteArray} (h : rvTxt (vs.take (i + 1)) = rvTxt (vs.take i) ++ ((if i = 0 then [] else [59, 32]) ++ rOne v)) (hb : sOf (rvTxt (vs.take i)) = base) (hk : kt = (if v.n = 2 then ⟨#[105, 110, 116]⟩ else ⟨#[98, 111, 111, 108]⟩)) (hi : i = 0) : base ++ v.op ++ ⟨#[58, 32]⟩ ++ kt = sOf (rvTxt (vs.take (i + 1))) := by
 have ek : kt = sOf (if v.n = 2 then [105, 110, 116] else [98, 111, 111, 108]) := by rw [hk]; split <;> rfl
 rw [h, if_pos hi, ← hb, ek, show (⟨#[58, 32]⟩ : ByteArray) = sOf [58, 32] from rfl]
 conv => lhs; rw [← sOf_bytes v.op]
 rw [sOf_add, sOf_add, sOf_add]
 simp [rOne]
theorem rv_next {vs : List Ex} {i : Nat} {v : Ex} {base kt : ByteArray} (h : rvTxt (vs.take (i + 1)) = rvTxt (vs.take i) ++ ((if i = 0 then [] else [59, 32]) ++ rOne v)) (hb : sOf (rvTxt (vs.take i)) = base) (hk : kt = (if v.n = 2 then ⟨#[105, 110, 116]⟩ else ⟨#[98, 111, 111, 108]⟩)) (hi : i ≠ 0) : base ++ ⟨#[59, 32]⟩ ++ v.op ++ ⟨#[58, 32]⟩ ++ kt = sOf (rvTxt (vs.take (i + 1))) := by
 have ek : kt = sOf (if v.n = 2 then [105, 110, 116] else [98, 111, 111, 108]) := by rw [hk]; split <;> rfl
 rw [h, if_neg hi, ← hb, ek, show (⟨#[58, 32]⟩ : ByteArray) = sOf [58, 32] from rfl, show (⟨#[59, 32]⟩ : ByteArray) = sOf [59, 32] from rfl]
 conv => lhs; rw [← sOf_bytes v.op]
 rw [sOf_add, sOf_add, sOf_add, sOf_add]
 simp [rOne]
theorem rv_bad {vs : List Ex} {i : Nat} (hlt : i < vs.length) {bad bad1 ok : Bool} (h1 : bad1 = false ↔ bad = false ∧ ∀ v ∈ vs.take i, VarOk v) (h2 : ok = true ↔ VarOk vs[i]) : (bad1 || !ok) = false ↔ bad = false ∧ ∀ v ∈ vs.take (i + 1), VarOk v := by
 have e : vs.take (i + 1) = vs.take i ++ [vs[i]] := by rw [List.take_add_one, List.getElem?_eq_getElem hlt]; rfl
 rw [e, Bool.or_eq_false_iff, Bool.not_eq_false', h1, h2]
 simp only [List.mem_append, List.mem_cons, List.not_mem_nil, or_false]
 exact ⟨fun h => ⟨h.1.1, fun v hv => hv.elim (h.1.2 v) (fun e => e ▸ h.2)⟩, fun h => ⟨⟨h.1, fun v hv => h.2 v (Or.inl hv)⟩, h.2 _ (Or.inr rfl)⟩⟩
def RwK (B b : Nat) (w w' : World) : Prop := Below B w w' ∧ Kept b w w'
theorem RwK.refl (B b : Nat) (w : World) : RwK B b w w := ⟨Below.refl _ _, Lib.OthersKept.refl _ _ _⟩
theorem RwK.trans {B b : Nat} {w w1 w2 : World} (h : RwK B b w w1) (g : RwK B b w1 w2) : RwK B b w w2 := ⟨h.1.trans g.1, Lib.OthersKept.trans h.2 g.2⟩
theorem RwK.of {B b : Nat} {w w' : World} (h : Below w.heap.size w w') (hB : B ≤ w.heap.size) : RwK B b w w' := ⟨h.mono hB, fun _ _ hk _ _ => row_keep h hk⟩
theorem RwK.set {B b : Nat} {a w : World} (h : RwK B b a w) (hB : B ≤ b) (k : Nat) (v : Value) : RwK B b a (w.setCell ⟨b, k, none⟩ v) := ⟨h.1.setCell (p := ⟨b, k, none⟩) hB v, Lib.OthersKept.setCell h.2 ⟨b, k, none⟩ rfl v⟩
theorem RwK.alloc {B b : Nat} {a w : World} (h : RwK B b a w) (hB : B ≤ w.heap.size) (o : Obj) : RwK B b a (w.alloc o) := ⟨h.1.alloc hB o, Lib.OthersKept.alloc h.2 o⟩
theorem RwK.re {B b : Nat} {w w' : World} (h : RwK B b w w') {k : Nat} {op : ByteArray} {n : Int} {s : ByteArray} {v : Value} (hk : k ≠ b) (hr : w.heap[k]? = some (reObj op n s v)) : w'.heap[k]? = some (reObj op n s v) := h.2 k _ hr (by simpa using hk) (by intro c fz e; injection e with _ e2; exact absurd e2 (by decide))
theorem must_k (B b : Nat) (n : Int) (bad ok : Bool) (w : World) (h : w.heap[b]? = some (rwObj n bad false)) (hB : B ≤ b) :
  Calls Tryz.prog 52 #[.pointer (some ⟨b, 0, none⟩), .bool ok] w fun e w' => e = .returned (.tuple #[]) ∧ RwK B b w w' ∧ w'.heap[b]? = some (rwObj n (bad || !ok) false) := by
 refine (must_any b n bad false ok w h).mono ?_
 rintro e w' ⟨rfl, hw⟩
 cases ok with
 | true =>
  simp only [if_true] at hw
  subst hw
  exact ⟨rfl, RwK.refl _ _ _, by simpa using h⟩
 | false =>
  simp only [Bool.false_eq_true, if_false] at hw
  subst hw
  refine ⟨rfl, (RwK.refl _ _ _).set hB _ _, ?_⟩
  have := set_row (k := 1) (v := .bool true) h
  simpa using this
theorem down_k (B b : Nat) (n : Int) (bad : Bool) (d : Nat) (hd : d ≤ 20) (w : World) (h : w.heap[b]? = some (rwObj n bad false)) (hB : B ≤ b) :
  Calls Tryz.prog 90 #[.pointer (some ⟨b, 0, none⟩), .int .i64 d] w fun e w' => e = .returned (.int .i64 (d + 1 : Nat)) ∧ RwK B b w w' ∧ w'.heap[b]? = some (rwObj n (bad || !decide (d < 20)) false) := by
 refine (down_any b n bad d hd w h).mono ?_
 rintro e w' ⟨rfl, hw⟩
 by_cases h20 : d < 20
 ·rw [if_pos h20] at hw
  subst hw
  exact ⟨rfl, RwK.refl _ _ _, by simpa [h20] using h⟩
 ·rw [if_neg h20] at hw
  subst hw
  refine ⟨rfl, (RwK.refl _ _ _).set hB _ _, ?_⟩
  have := set_row (k := 1) (v := .bool true) h
  simpa [h20] using this
def RwRes (L : Nat) (t : Ex) (d : Nat) (c : Int) (bad : Bool) (text : ByteArray) (n' : Int) (bad' : Bool) : Prop :=
 (bad = true → bad' = true ∧ text = b0) ∧ (bad = false → ∀ m : Nat, c = m → m ≤ 6000 →
  (bad' = false ∧ ∃ k : Nat, n' = ((m + k : Nat) : Int) ∧ WentT L t d m text.toList k) ∨ (bad' = true ∧ NoGoT L t d m ∧ text.size ≤ 9000000 + 40 * (6001 - m)))
def RwEnd (B b : Nat) (L : Nat) (t : Ex) (d : Nat) (c : Int) (bad : Bool) (w : World) (e : Ending) (w' : World) : Prop :=
 ∃ text n' bad', e = .returned (.string text) ∧ RwK B b w w' ∧ w'.heap[b]? = some (rwObj n' bad' false) ∧ RwRes L t d c bad text n' bad'
theorem rw_row {b : Nat} {k k' : Int} {bad : Bool} {w : World} (h : w.heap[b]? = some (rwObj k bad false)) (o : Obj) : ((w.setCell ⟨b, 0, none⟩ (.int .i64 k')).alloc o).heap[b]? = some (rwObj k' bad false) := by
 have h1 := set_row (k := 0) (v := .int .i64 k') h
 have hlt : b < (w.setCell ⟨b, 0, none⟩ (.int .i64 k')).heap.size := (Array.getElem?_eq_some_iff.1 h1).1
 rw [Lib.alloc_old _ _ _ hlt, h1]
 rfl
theorem rw_bad {b : Nat} {k : Int} {bad : Bool} {w : World} (h : w.heap[b]? = some (rwObj k bad false)) : w.cell? ⟨b, 1, none⟩ = some (.bool bad) ∧ w.cell? ⟨b, 2, none⟩ = some (.bool false) := by simp [World.cell?, h]
theorem RwRes.stop {L : Nat} {op : ByteArray} {n : Int} {s : ByteArray} {l : List Ex} {d : Nat} {c : Int} {bad : Bool} (n' : Int) (hL : L ≤ 8) (h : bad = true ∨ 6000 < wrap64 (c + 1) ∨ formedB op.toList n s.toList l.length = false) : RwRes L (.mk op n s l) d c bad b0 n' true := by
 refine ⟨fun _ => ⟨rfl, rfl⟩, fun hb m hm h6 => Or.inr ⟨rfl, ?_, by show 0 ≤ _; omega⟩⟩
 rcases h with h | h | h
 ·rw [hb] at h; cases h
 ·subst hm
  have : wrap64 ((m : Int) + 1) = (m : Int) + 1 := by unfold wrap64; omega
  exact noGo_full hL (by omega)
 ·exact noGo_form h
set_option maxRecDepth 100000 in
set_option maxHeartbeats 1000000 in
theorem rwTerm_stop (B b : Nat) (L : Nat) (hL : L ≤ 8) (op : ByteArray) (n : Int) (s : ByteArray) (l : List Ex) (w : World) (d least : Int) (dd : Nat) (o : Option Addr) (c : Nat) (k : Int) (bad : Bool) (hb : w.heap[b]? = some (rwObj k bad false)) (hB : B ≤ b) (h : bad = true ∨ 6000 < wrap64 (k + 1) ∨ formedB op.toList n s.toList l.length = false) :
  Calls Tryz.prog 55 #[.pointer (some ⟨b, 0, none⟩), .agg #[.string op, .int .i64 n, .string s, .slice o l.length c], .int .i64 least, .int .i64 d] w (RwEnd B b L (.mk op n s l) dd k bad w) := by
 have hlt : b < w.heap.size := (Array.getElem?_eq_some_iff.1 hb).1
 have c0 : w.cell? ⟨b, 0, none⟩ = some (.int .i64 k) := by simp [World.cell?, hb]
 have f0 : w.frozen? ⟨b, 0, none⟩ = false := by simp [World.frozen?, hb]
 have R1 : Hid _ := rw_row (k' := wrap64 (k + 1)) hb (reObj op n s (.slice o l.length c))
 have K1 : Hid (RwK B b w ((w.setCell ⟨b, 0, none⟩ (.int .i64 (wrap64 (k + 1)))).alloc (reObj op n s (.slice o l.length c)))) := ((RwK.refl _ _ _).set hB 0 _).alloc (by simp; omega) _
 have HH : Hid (bad = true ∨ 6000 < wrap64 (k + 1) ∨ formedB op.toList n s.toList l.length = false) := h
 clear hb h
 by_cases h6 : wrap64 (k + 1) ≤ 6000
 ·go_enter Tryz.func55, Tryz.ntmps55
  go_wp2_with fail
  refine (refFormed_any op n s o l.length c _).mono ?_
  rintro e w2 ⟨rfl, hw2⟩
  have R2 : Hid _ := row_keep hw2 R1.out
  have K2 : Hid (RwK B b w w2) := K1.out.trans (RwK.of hw2 (by simp; omega))
  have HF : Hid (bad = true ∨ formedB op.toList n s.toList l.length = false) := HH.out.imp id fun h => h.resolve_left (by omega)
  clear hw2
  generalize formedB op.toList n s.toList l.length = fb at HF ⊢
  go_wp2_with fail
  refine (must_k B b _ bad fb _ R2.out hB).mono ?_
  rintro e w3 ⟨rfl, k3, r3⟩
  have hbb : (bad || !fb) = true := by rcases HF.out with h | h <;> simp [h]
  rw [hbb] at r3
  have c1 := (rw_bad r3).1
  go_wp2
  go_ret
  exact ⟨b0, _, true, rfl, K2.out.trans k3, r3, RwRes.stop _ hL HH.out⟩
 ·go_enter Tryz.func55, Tryz.ntmps55
  go_wp2_with fail
  refine (must_k B b _ bad false _ R1.out hB).mono ?_
  rintro e w3 ⟨rfl, k3, r3⟩
  have hbb : (bad || !false) = true := by simp
  rw [hbb] at r3
  have c1 := (rw_bad r3).1
  go_wp2
  go_ret
  exact ⟨b0, _, true, rfl, K1.out.trans k3, r3, RwRes.stop _ hL HH.out⟩
def LevOk (least L : Nat) : Prop := (least = 0 ∧ L = 0) ∨ (least = L + 1 ∧ 1 ≤ L ∧ L ≤ 8)
theorem LevOk.le {least L : Nat} (h : LevOk least L) : L ≤ 8 := by rcases h with ⟨_, h⟩ | ⟨_, _, h⟩ <;> omega
theorem LevOk.iff {least L : Nat} (h : LevOk least L) {t : List UInt8 × Int × Nat} (ht : t ∈ arL) : t.2.2 < least ↔ lvOf t.1 < L := by
 have e := (by decide : ∀ t ∈ arL, lvOf t.1 = t.2.2 - 1) t ht
 rcases h with ⟨h1, h2⟩ | ⟨h1, h2, h3⟩ <;> omega
inductive NzT : Ex → Prop
 | mk (op : ByteArray) (n : Int) (s : ByteArray) (l : List Ex) : s.size ≤ 9000000 → (∀ e ∈ l, NzT e) → NzT (.mk op n s l)
theorem NzT.part {op : ByteArray} {n : Int} {s : ByteArray} {l : List Ex} (h : NzT (.mk op n s l)) : s.size ≤ 9000000 ∧ ∀ e ∈ l, NzT e := by
 cases h with
 | mk _ _ _ _ h1 h2 => exact ⟨h1, h2⟩
abbrev RwTerm (B b : Nat) (op : ByteArray) (n : Int) (s : ByteArray) (l : List Ex) (least L : Nat) : Prop := ∀ (w : World) (d : Nat) (o : Option Addr) (c : Nat) (ys : List Value) (k : Int) (bad : Bool), w.heap[b]? = some (rwObj k bad false) → RowAt w (fun k => k < B) 4 (.slice o l.length c) l.length ys → ExIn w (fun k => k < B) l ys → (bad = false → d ≤ 20 ∧ ∃ m : Nat, k = m ∧ m ≤ 6000) →
  Calls Tryz.prog 55 #[.pointer (some ⟨b, 0, none⟩), .agg #[.string op, .int .i64 n, .string s, .slice o l.length c], .int .i64 least, .int .i64 d] w (RwEnd B b L (.mk op n s l) d k bad w)
theorem RwRes.size {L : Nat} {t : Ex} {d : Nat} {c : Int} {bad : Bool} {text : ByteArray} {n' : Int} {bad' : Bool} (h : RwRes L t d c bad text n' bad') (hc : bad = false → ∃ m : Nat, c = m ∧ m ≤ 6000) : text.size ≤ 10000000 := by
 cases bad with
 | true => rw [(h.1 rfl).2]; decide
 | false =>
  obtain ⟨m, hm, h6⟩ := hc rfl
  rcases h.2 rfl m hm h6 with ⟨_, k, _, hw⟩ | ⟨_, _, h⟩
  ·have h1 := hw.len
   have h2 := hw.room
   rw [bytes_len] at h1
   omega
  ·omega
theorem size_of_row {w : World} {k : Nat} {o : Obj} (h : w.heap[k]? = some o) : k < w.heap.size := (Array.getElem?_eq_some_iff.1 h).1
theorem list_app (x y : ByteArray) : (x ++ y).toList = x.toList ++ y.toList := by
 rw [ByteArray.toList_eq, ByteArray.toList_eq, ByteArray.toList_eq, ByteArray.data_append]
 simp
theorem RwRes.brk {L : Nat} {op : ByteArray} {n : Int} {s : ByteArray} {l : List Ex} {d m : Nat} {bad1 : Bool} {text : ByteArray} {n' : Int} {bad' : Bool} (hf : formedB op.toList n s.toList l.length = true) (hl : lvOf op.toList < L) (hm : m + 1 ≤ 6000) (hd : bad1 = !decide (d < 20)) (h : RwRes 0 (.mk op n s l) (d + 1) ((m + 1 : Nat) : Int) bad1 text n' bad') : RwRes L (.mk op n s l) d (m : Int) false (⟨#[40]⟩ ++ text ++ ⟨#[41]⟩) n' bad' := by
 refine ⟨fun h => (by cases h), fun _ m' hm' _ => ?_⟩
 obtain rfl : m = m' := by omega
 have hz : (⟨#[40]⟩ ++ text ++ ⟨#[41]⟩ : ByteArray).size = text.size + 2 := by rw [ByteArray.size_append, ByteArray.size_append]; show 1 + text.size + 1 = _; omega
 by_cases h20 : d < 20
 ·have hb1 : bad1 = false := by rw [hd]; simp [h20]
  rcases h.2 hb1 (m + 1) rfl hm with ⟨e, k, hk, hw⟩ | ⟨e, hn, hs⟩
  ·refine Or.inl ⟨e, k + 1, by rw [hk]; congr 1; omega, ?_⟩
   have := brk_went hf hl hw
   rw [list_app, list_app, show (⟨#[40]⟩ : ByteArray).toList = [40] from by rw [ByteArray.toList_eq], show (⟨#[41]⟩ : ByteArray).toList = [41] from by rw [ByteArray.toList_eq]]
   exact this
  ·exact Or.inr ⟨e, brk_no hf hl (Or.inr hn), by rw [hz]; omega⟩
 ·have hb1 : bad1 = true := by rw [hd]; simp [h20]
  obtain ⟨e, ht⟩ := h.1 hb1
  refine Or.inr ⟨e, brk_no hf hl (Or.inl (by omega)), ?_⟩
  rw [hz, ht]
  show 0 + 2 ≤ _
  omega
set_option maxRecDepth 100000 in
set_option maxHeartbeats 1000000 in
theorem rwTerm_brk (B b : Nat) (hB : B ≤ b) (op : ByteArray) (n : Int) (s : ByteArray) (l : List Ex) (least L : Nat) (hLv : LevOk least L) (t : List UInt8 × Int × Nat) (ht : t ∈ arL) (ho : op.toList = t.1) (hlo : t.2.2 < least) (HB : RwTerm B b op n s l 0 0) (hf : formedB op.toList n s.toList l.length = true) (w : World) (d : Nat) (o : Option Addr) (c : Nat) (ys : List Value) (m : Nat) (hb : w.heap[b]? = some (rwObj m false false)) (h1 : RowAt w (fun k => k < B) 4 (.slice o l.length c) l.length ys) (h2 : ExIn w (fun k => k < B) l ys) (hd : d ≤ 20) (hm : m + 1 ≤ 6000) :
  Calls Tryz.prog 55 #[.pointer (some ⟨b, 0, none⟩), .agg #[.string op, .int .i64 n, .string s, .slice o l.length c], .int .i64 least, .int .i64 d] w (RwEnd B b L (.mk op n s l) d m false w) := by
 have hlt : b < w.heap.size := size_of_row hb
 have c0 : w.cell? ⟨b, 0, none⟩ = some (.int .i64 m) := by simp [World.cell?, hb]
 have f0 : w.frozen? ⟨b, 0, none⟩ = false := by simp [World.frozen?, hb]
 have R1 : Hid _ := rw_row (k' := ((m + 1 : Nat) : Int)) hb (reObj op n s (.slice o l.length c))
 have K1 : Hid (RwK B b w ((w.setCell ⟨b, 0, none⟩ (.int .i64 ((m + 1 : Nat) : Int))).alloc (reObj op n s (.slice o l.length c)))) := ((RwK.refl _ _ _).set hB 0 _).alloc (by simp; omega) _
 have E1 : Hid (((w.setCell ⟨b, 0, none⟩ (.int .i64 ((m + 1 : Nat) : Int))).alloc (reObj op n s (.slice o l.length c))).heap[w.heap.size]? = some (reObj op n s (.slice o l.length c))) := heap_alloc_new' (by simp) _
 have hwr : wrap64 ((m : Int) + 1) = ((m + 1 : Nat) : Int) := by unfold wrap64; omega
 have h6 : ((m + 1 : Nat) : Int) ≤ 6000 := by omega
 have hlo' : ((t.2.2 : Nat) : Int) < (least : Int) := by omega
 have HC : Hid (∀ w, Calls Tryz.prog 89 #[.string op] w fun e w' => e = .returned (.int .i64 (t.2.2 : Nat)) ∧ w' = w) := fun w => closeOf_in op w t ht ho
 have HL : Hid (lvOf op.toList < L) := by
  have := (hLv.iff ht).1 hlo
  rw [← ho] at this
  exact this
 have HROW : Hid (RowAt w (fun k => k < B) 4 (.slice o l.length c) l.length ys ∧ ExIn w (fun k => k < B) l ys) := ⟨h1, h2⟩
 have HF : Hid (formedB op.toList n s.toList l.length = true) := hf
 clear hb h1 h2 hf
 go_enter Tryz.func55, Tryz.ntmps55
 go_wp2_with fail
 refine (refFormed_any op n s o l.length c _).mono ?_
 rw [HF.out]
 rintro e w2 ⟨rfl, hw2⟩
 have R2 : Hid _ := row_keep hw2 R1.out
 have K2 : Hid (RwK B b w w2) := K1.out.trans (RwK.of hw2 (by simp; omega))
 have E2 : Hid _ := row_keep hw2 E1.out
 clear hw2 R1 K1 E1
 go_wp2_with fail
 refine (must_k B b _ false true _ R2.out hB).mono ?_
 rintro e w3 ⟨rfl, k3, r3⟩
 have c1 := (rw_bad r3).1
 have E3 := k3.re (by omega) E2.out
 obtain ⟨x0, x1, x2, x3, _⟩ := blk4 E3
 go_wp2_with fail
 refine (HC.out _).mono ?_
 rintro e w4 ⟨rfl, rfl⟩
 go_wp2_with fail
 refine (down_k B b _ false d hd _ r3 hB).mono ?_
 rintro e w5 ⟨rfl, k5, r5⟩
 have E5 := k5.re (by omega) E3
 obtain ⟨y0, y1, y2, y3, _⟩ := blk4 E5
 have K5 : Hid (RwK B b w w5) := (K2.out.trans k3).trans k5
 have R5 : Hid _ := r5
 clear k3 k5 r3 r5 c1 x0 x1 x2 x3 E3 E2
 go_wp2_with fail
 refine (HB _ (d + 1) o c ys _ _ R5.out (below_row HROW.out.1 K5.out.1) (below_ex HROW.out.2 K5.out.1) (fun hbb => ⟨by simp at hbb; omega, m + 1, rfl, hm⟩)).mono ?_
 rintro e w6 ⟨text, n', bad', rfl, k6, r6, hres⟩
 have hz := hres.size (fun _ => ⟨m + 1, rfl, hm⟩)
 have ha1 : ∀ W : World, (Op.stringOp .add ⟨#[40]⟩ text).run Tryz.prog W = .ok (.string (⟨#[40]⟩ ++ text)) W := fun W => run_string_add_sum W _ _ (by show 1 + text.size ≤ _; omega)
 have ha2 : ∀ W : World, (Op.stringOp .add (⟨#[40]⟩ ++ text) ⟨#[41]⟩).run Tryz.prog W = .ok (.string (⟨#[40]⟩ ++ text ++ ⟨#[41]⟩)) W := fun W => run_string_add_sum W _ _ (by rw [ByteArray.size_append]; show 1 + text.size + 1 ≤ _; omega)
 go_wp2
 go_ret
 exact ⟨_, n', bad', rfl, K5.out.trans k6, r6, RwRes.brk HF.out HL.out hm (by simp) hres⟩
theorem RwRes.went {L : Nat} {t : Ex} {d m k : Nat} {text : ByteArray} {n' : Int} (h : WentT L t d m text.toList k) (hn : n' = ((m + k : Nat) : Int)) : RwRes L t d (m : Int) false text n' false := by
 refine ⟨fun h => (by cases h), fun _ m' hm' _ => ?_⟩
 obtain rfl : m = m' := by omega
 exact Or.inl ⟨rfl, k, hn, h⟩
theorem RwRes.no {L : Nat} {t : Ex} {d m : Nat} {text : ByteArray} {n' : Int} (h : NoGoT L t d m) (hs : text.size ≤ 9000000 + 40 * (6001 - m)) : RwRes L t d (m : Int) false text n' true := by
 refine ⟨fun h => (by cases h), fun _ m' hm' _ => ?_⟩
 obtain rfl : m = m' := by omega
 exact Or.inr ⟨rfl, h, hs⟩
set_option maxRecDepth 100000 in
set_option maxHeartbeats 2000000 in
theorem rwTerm_int (B b : Nat) (hB : B ≤ b) (op : ByteArray) (n : Int) (s : ByteArray) (least L : Nat) (hLv : LevOk least L) (t : List UInt8 × Int × Nat) (ht : t ∈ arL) (ho : op.toList = t.1) (hlo : ¬ t.2.2 < least) (tt : op.toList = [105, 110, 116]) (hf : formedB op.toList n s.toList 0 = true) (w : World) (d : Nat) (o : Option Addr) (c : Nat) (ys : List Value) (m : Nat) (hb : w.heap[b]? = some (rwObj m false false)) (h1 : RowAt w (fun k => k < B) 4 (.slice o 0 c) 0 ys) (h2 : ExIn w (fun k => k < B) [] ys) (hd : d ≤ 20) (hm : m + 1 ≤ 6000) :
  Calls Tryz.prog 55 #[.pointer (some ⟨b, 0, none⟩), .agg #[.string op, .int .i64 n, .string s, .slice o 0 c], .int .i64 least, .int .i64 d] w (RwEnd B b L (.mk op n s []) d m false w) := by
 have hlt : b < w.heap.size := size_of_row hb
 have c0 : w.cell? ⟨b, 0, none⟩ = some (.int .i64 m) := by simp [World.cell?, hb]
 have f0 : w.frozen? ⟨b, 0, none⟩ = false := by simp [World.frozen?, hb]
 have R1 : Hid _ := rw_row (k' := ((m + 1 : Nat) : Int)) hb (reObj op n s (.slice o 0 c))
 have K1 : Hid (RwK B b w ((w.setCell ⟨b, 0, none⟩ (.int .i64 ((m + 1 : Nat) : Int))).alloc (reObj op n s (.slice o 0 c)))) := ((RwK.refl _ _ _).set hB 0 _).alloc (by simp; omega) _
 have E1 : Hid (((w.setCell ⟨b, 0, none⟩ (.int .i64 ((m + 1 : Nat) : Int))).alloc (reObj op n s (.slice o 0 c))).heap[w.heap.size]? = some (reObj op n s (.slice o 0 c))) := heap_alloc_new' (by simp) _
 have hwr : wrap64 ((m : Int) + 1) = ((m + 1 : Nat) : Int) := by unfold wrap64; omega
 have h6 : ((m + 1 : Nat) : Int) ≤ 6000 := by omega
 have hlo' : ¬ ((t.2.2 : Nat) : Int) < (least : Int) := by omega
 have HC : Hid (∀ w, Calls Tryz.prog 89 #[.string op] w fun e w' => e = .returned (.int .i64 (t.2.2 : Nat)) ∧ w' = w) := fun w => closeOf_in op w t ht ho
 have HL : Hid (¬ lvOf op.toList < L) := by
  have := mt (hLv.iff ht).2 hlo
  rw [← ho] at this
  exact this
 have HROW : Hid (RowAt w (fun k => k < B) 4 (.slice o 0 c) 0 ys ∧ ExIn w (fun k => k < B) [] ys) := ⟨h1, h2⟩
 have HF : Hid (formedB op.toList n s.toList 0 = true) := hf
 clear hb h1 h2 hf
 clear ho
 have hn0 := (form_zero HF.out).2.2 tt
 go_enter Tryz.func55, Tryz.ntmps55
 go_wp2_with fail
 refine (refFormed_any op n s o 0 c _).mono ?_
 rw [HF.out]
 rintro e w2 ⟨rfl, hw2⟩
 have R2 : Hid _ := row_keep hw2 R1.out
 have K2 : Hid (RwK B b w w2) := K1.out.trans (RwK.of hw2 (by simp; omega))
 have E2 : Hid _ := row_keep hw2 E1.out
 clear hw2 R1 K1 E1
 go_wp2_with fail
 refine (must_k B b _ false true _ R2.out hB).mono ?_
 rintro e w3 ⟨rfl, k3, r3⟩
 have c1 := (rw_bad r3).1
 have E3 := k3.re (by omega) E2.out
 obtain ⟨x0, x1, x2, x3, _⟩ := blk4 E3
 have K3 : Hid (RwK B b w w3) := K2.out.trans k3
 clear k3 R2 K2 E2
 go_wp2_with fail
 refine (HC.out _).mono ?_
 rintro e w4 ⟨rfl, rfl⟩
 go_wp2_with fail
 refine (decimal_any n hn0.1 hn0.2 _).mono ?_
 rintro e w5 ⟨rfl, hw5⟩
 have r5 := row_keep hw5 r3
 have K5 := K3.out.trans (RwK.of hw5 (Nat.le_trans hB (Nat.le_of_lt (size_of_row r3))))
 go_wp2
 go_ret
 exact ⟨_, _, false, rfl, K5, r5, RwRes.went (k := 1) (by have := int_went tt HF.out HL.out hd hm; rwa [show (⟨(Lib.itoa n).toArray⟩ : ByteArray).toList = Lib.itoa n from by rw [ByteArray.toList_eq]]) rfl⟩
set_option maxRecDepth 100000 in
set_option maxHeartbeats 2000000 in
theorem rwTerm_true (B b : Nat) (hB : B ≤ b) (op : ByteArray) (n : Int) (s : ByteArray) (least L : Nat) (hLv : LevOk least L) (t : List UInt8 × Int × Nat) (ht : t ∈ arL) (ho : op.toList = t.1) (hlo : ¬ t.2.2 < least) (tt : op.toList = [116, 114, 117, 101]) (hf : formedB op.toList n s.toList 0 = true) (w : World) (d : Nat) (o : Option Addr) (c : Nat) (ys : List Value) (m : Nat) (hb : w.heap[b]? = some (rwObj m false false)) (h1 : RowAt w (fun k => k < B) 4 (.slice o 0 c) 0 ys) (h2 : ExIn w (fun k => k < B) [] ys) (hd : d ≤ 20) (hm : m + 1 ≤ 6000) :
  Calls Tryz.prog 55 #[.pointer (some ⟨b, 0, none⟩), .agg #[.string op, .int .i64 n, .string s, .slice o 0 c], .int .i64 least, .int .i64 d] w (RwEnd B b L (.mk op n s []) d m false w) := by
 have hlt : b < w.heap.size := size_of_row hb
 have c0 : w.cell? ⟨b, 0, none⟩ = some (.int .i64 m) := by simp [World.cell?, hb]
 have f0 : w.frozen? ⟨b, 0, none⟩ = false := by simp [World.frozen?, hb]
 have R1 : Hid _ := rw_row (k' := ((m + 1 : Nat) : Int)) hb (reObj op n s (.slice o 0 c))
 have K1 : Hid (RwK B b w ((w.setCell ⟨b, 0, none⟩ (.int .i64 ((m + 1 : Nat) : Int))).alloc (reObj op n s (.slice o 0 c)))) := ((RwK.refl _ _ _).set hB 0 _).alloc (by simp; omega) _
 have E1 : Hid (((w.setCell ⟨b, 0, none⟩ (.int .i64 ((m + 1 : Nat) : Int))).alloc (reObj op n s (.slice o 0 c))).heap[w.heap.size]? = some (reObj op n s (.slice o 0 c))) := heap_alloc_new' (by simp) _
 have hwr : wrap64 ((m : Int) + 1) = ((m + 1 : Nat) : Int) := by unfold wrap64; omega
 have h6 : ((m + 1 : Nat) : Int) ≤ 6000 := by omega
 have hlo' : ¬ ((t.2.2 : Nat) : Int) < (least : Int) := by omega
 have HC : Hid (∀ w, Calls Tryz.prog 89 #[.string op] w fun e w' => e = .returned (.int .i64 (t.2.2 : Nat)) ∧ w' = w) := fun w => closeOf_in op w t ht ho
 have HL : Hid (¬ lvOf op.toList < L) := by
  have := mt (hLv.iff ht).2 hlo
  rw [← ho] at this
  exact this
 have HROW : Hid (RowAt w (fun k => k < B) 4 (.slice o 0 c) 0 ys ∧ ExIn w (fun k => k < B) [] ys) := ⟨h1, h2⟩
 have HF : Hid (formedB op.toList n s.toList 0 = true) := hf
 clear hb h1 h2 hf
 clear ho
 go_enter Tryz.func55, Tryz.ntmps55
 go_wp2_with fail
 refine (refFormed_any op n s o 0 c _).mono ?_
 rw [HF.out]
 rintro e w2 ⟨rfl, hw2⟩
 have R2 : Hid _ := row_keep hw2 R1.out
 have K2 : Hid (RwK B b w w2) := K1.out.trans (RwK.of hw2 (by simp; omega))
 have E2 : Hid _ := row_keep hw2 E1.out
 clear hw2 R1 K1 E1
 go_wp2_with fail
 refine (must_k B b _ false true _ R2.out hB).mono ?_
 rintro e w3 ⟨rfl, k3, r3⟩
 have c1 := (rw_bad r3).1
 have E3 := k3.re (by omega) E2.out
 obtain ⟨x0, x1, x2, x3, _⟩ := blk4 E3
 have K3 : Hid (RwK B b w w3) := K2.out.trans k3
 clear k3 R2 K2 E2
 go_wp2_with fail
 refine (HC.out _).mono ?_
 rintro e w4 ⟨rfl, rfl⟩
 go_wp2
 go_ret
 exact ⟨_, _, false, rfl, K3.out, r3, RwRes.went (k := 1) (bool_went (Or.inl tt) HF.out HL.out hd hm) rfl⟩
set_option maxRecDepth 100000 in
set_option maxHeartbeats 2000000 in
theorem rwTerm_false (B b : Nat) (hB : B ≤ b) (op : ByteArray) (n : Int) (s : ByteArray) (least L : Nat) (hLv : LevOk least L) (t : List UInt8 × Int × Nat) (ht : t ∈ arL) (ho : op.toList = t.1) (hlo : ¬ t.2.2 < least) (tt : op.toList = [102, 97, 108, 115, 101]) (hf : formedB op.toList n s.toList 0 = true) (w : World) (d : Nat) (o : Option Addr) (c : Nat) (ys : List Value) (m : Nat) (hb : w.heap[b]? = some (rwObj m false false)) (h1 : RowAt w (fun k => k < B) 4 (.slice o 0 c) 0 ys) (h2 : ExIn w (fun k => k < B) [] ys) (hd : d ≤ 20) (hm : m + 1 ≤ 6000) :
  Calls Tryz.prog 55 #[.pointer (some ⟨b, 0, none⟩), .agg #[.string op, .int .i64 n, .string s, .slice o 0 c], .int .i64 least, .int .i64 d] w (RwEnd B b L (.mk op n s []) d m false w) := by
 have hlt : b < w.heap.size := size_of_row hb
 have c0 : w.cell? ⟨b, 0, none⟩ = some (.int .i64 m) := by simp [World.cell?, hb]
 have f0 : w.frozen? ⟨b, 0, none⟩ = false := by simp [World.frozen?, hb]
 have R1 : Hid _ := rw_row (k' := ((m + 1 : Nat) : Int)) hb (reObj op n s (.slice o 0 c))
 have K1 : Hid (RwK B b w ((w.setCell ⟨b, 0, none⟩ (.int .i64 ((m + 1 : Nat) : Int))).alloc (reObj op n s (.slice o 0 c)))) := ((RwK.refl _ _ _).set hB 0 _).alloc (by simp; omega) _
 have E1 : Hid (((w.setCell ⟨b, 0, none⟩ (.int .i64 ((m + 1 : Nat) : Int))).alloc (reObj op n s (.slice o 0 c))).heap[w.heap.size]? = some (reObj op n s (.slice o 0 c))) := heap_alloc_new' (by simp) _
 have hwr : wrap64 ((m : Int) + 1) = ((m + 1 : Nat) : Int) := by unfold wrap64; omega
 have h6 : ((m + 1 : Nat) : Int) ≤ 6000 := by omega
 have hlo' : ¬ ((t.2.2 : Nat) : Int) < (least : Int) := by omega
 have HC : Hid (∀ w, Calls Tryz.prog 89 #[.string op] w fun e w' => e = .returned (.int .i64 (t.2.2 : Nat)) ∧ w' = w) := fun w => closeOf_in op w t ht ho
 have HL : Hid (¬ lvOf op.toList < L) := by
  have := mt (hLv.iff ht).2 hlo
  rw [← ho] at this
  exact this
 have HROW : Hid (RowAt w (fun k => k < B) 4 (.slice o 0 c) 0 ys ∧ ExIn w (fun k => k < B) [] ys) := ⟨h1, h2⟩
 have HF : Hid (formedB op.toList n s.toList 0 = true) := hf
 clear hb h1 h2 hf
 clear ho
 go_enter Tryz.func55, Tryz.ntmps55
 go_wp2_with fail
 refine (refFormed_any op n s o 0 c _).mono ?_
 rw [HF.out]
 rintro e w2 ⟨rfl, hw2⟩
 have R2 : Hid _ := row_keep hw2 R1.out
 have K2 : Hid (RwK B b w w2) := K1.out.trans (RwK.of hw2 (by simp; omega))
 have E2 : Hid _ := row_keep hw2 E1.out
 clear hw2 R1 K1 E1
 go_wp2_with fail
 refine (must_k B b _ false true _ R2.out hB).mono ?_
 rintro e w3 ⟨rfl, k3, r3⟩
 have c1 := (rw_bad r3).1
 have E3 := k3.re (by omega) E2.out
 obtain ⟨x0, x1, x2, x3, _⟩ := blk4 E3
 have K3 : Hid (RwK B b w w3) := K2.out.trans k3
 clear k3 R2 K2 E2
 go_wp2_with fail
 refine (HC.out _).mono ?_
 rintro e w4 ⟨rfl, rfl⟩
 go_wp2
 go_ret
 exact ⟨_, _, false, rfl, K3.out, r3, RwRes.went (k := 1) (bool_went (Or.inr tt) HF.out HL.out hd hm) rfl⟩
set_option maxRecDepth 100000 in
set_option maxHeartbeats 2000000 in
theorem rwTerm_name (B b : Nat) (hB : B ≤ b) (op : ByteArray) (n : Int) (s : ByteArray) (least L : Nat) (hLv : LevOk least L) (t : List UInt8 × Int × Nat) (ht : t ∈ arL) (ho : op.toList = t.1) (hlo : ¬ t.2.2 < least) (tt : op.toList = [110, 97, 109, 101]) (hs : s.size ≤ 9000000) (hf : formedB op.toList n s.toList 0 = true) (w : World) (d : Nat) (o : Option Addr) (c : Nat) (ys : List Value) (m : Nat) (hb : w.heap[b]? = some (rwObj m false false)) (h1 : RowAt w (fun k => k < B) 4 (.slice o 0 c) 0 ys) (h2 : ExIn w (fun k => k < B) [] ys) (hd : d ≤ 20) (hm : m + 1 ≤ 6000) :
  Calls Tryz.prog 55 #[.pointer (some ⟨b, 0, none⟩), .agg #[.string op, .int .i64 n, .string s, .slice o 0 c], .int .i64 least, .int .i64 d] w (RwEnd B b L (.mk op n s []) d m false w) := by
 have hlt : b < w.heap.size := size_of_row hb
 have c0 : w.cell? ⟨b, 0, none⟩ = some (.int .i64 m) := by simp [World.cell?, hb]
 have f0 : w.frozen? ⟨b, 0, none⟩ = false := by simp [World.frozen?, hb]
 have R1 : Hid _ := rw_row (k' := ((m + 1 : Nat) : Int)) hb (reObj op n s (.slice o 0 c))
 have K1 : Hid (RwK B b w ((w.setCell ⟨b, 0, none⟩ (.int .i64 ((m + 1 : Nat) : Int))).alloc (reObj op n s (.slice o 0 c)))) := ((RwK.refl _ _ _).set hB 0 _).alloc (by simp; omega) _
 have E1 : Hid (((w.setCell ⟨b, 0, none⟩ (.int .i64 ((m + 1 : Nat) : Int))).alloc (reObj op n s (.slice o 0 c))).heap[w.heap.size]? = some (reObj op n s (.slice o 0 c))) := heap_alloc_new' (by simp) _
 have hwr : wrap64 ((m : Int) + 1) = ((m + 1 : Nat) : Int) := by unfold wrap64; omega
 have h6 : ((m + 1 : Nat) : Int) ≤ 6000 := by omega
 have hlo' : ¬ ((t.2.2 : Nat) : Int) < (least : Int) := by omega
 have HC : Hid (∀ w, Calls Tryz.prog 89 #[.string op] w fun e w' => e = .returned (.int .i64 (t.2.2 : Nat)) ∧ w' = w) := fun w => closeOf_in op w t ht ho
 have HL : Hid (¬ lvOf op.toList < L) := by
  have := mt (hLv.iff ht).2 hlo
  rw [← ho] at this
  exact this
 have HROW : Hid (RowAt w (fun k => k < B) 4 (.slice o 0 c) 0 ys ∧ ExIn w (fun k => k < B) [] ys) := ⟨h1, h2⟩
 have HF : Hid (formedB op.toList n s.toList 0 = true) := hf
 clear hb h1 h2 hf
 clear ho
 go_enter Tryz.func55, Tryz.ntmps55
 go_wp2_with fail
 refine (refFormed_any op n s o 0 c _).mono ?_
 rw [HF.out]
 rintro e w2 ⟨rfl, hw2⟩
 have R2 : Hid _ := row_keep hw2 R1.out
 have K2 : Hid (RwK B b w w2) := K1.out.trans (RwK.of hw2 (by simp; omega))
 have E2 : Hid _ := row_keep hw2 E1.out
 clear hw2 R1 K1 E1
 go_wp2_with fail
 refine (must_k B b _ false true _ R2.out hB).mono ?_
 rintro e w3 ⟨rfl, k3, r3⟩
 have c1 := (rw_bad r3).1
 have E3 := k3.re (by omega) E2.out
 obtain ⟨x0, x1, x2, x3, _⟩ := blk4 E3
 have K3 : Hid (RwK B b w w3) := K2.out.trans k3
 clear k3 R2 K2 E2
 go_wp2_with fail
 refine (HC.out _).mono ?_
 rintro e w4 ⟨rfl, rfl⟩
 have c2 := (rw_bad r3).2
 go_wp2_with fail
 refine (refIsName_any s hs _).mono ?_
 rintro e w5 ⟨b5, rfl, hb5, hw5⟩
 have R5 : Hid _ := row_keep hw5 r3
 have K5 : Hid (RwK B b w w5) := K3.out.trans (RwK.of hw5 (Nat.le_trans hB (Nat.le_of_lt (size_of_row r3))))
 have E5 : Hid _ := row_keep hw5 E3
 clear hw5 r3 E3 x0 x1 x2 x3 c1 c2
 go_wp2_with fail
 refine (must_k B b _ false b5 _ R5.out hB).mono ?_
 rintro e w6 ⟨rfl, k6, r6⟩
 have E6 := k6.re (by omega) E5.out
 obtain ⟨y0, y1, y2, y3, _⟩ := blk4 E6
 go_wp2
 go_ret
 refine ⟨_, _, _, rfl, K5.out.trans k6, r6, ?_⟩
 cases b5 with
 | true => exact RwRes.went (k := 1) (name_went tt HF.out HL.out hd hm (hb5.1 rfl)) rfl
 | false => exact RwRes.no (name_no tt HF.out HL.out (fun h => by cases hb5.2 h)) (by omega)
end Go.Proofs.YtgbpccipdcajgaaGreatDoor
