/-
  THE GRAMMAR OF PROGRAMS, IN PLAIN MATHEMATICS: what is read of tokens, from a token on, so deep: nodes, equations, terms; or the token that cannot stand there. There is one answer.
-/
import Derived.Test.YtgbpccipdcajgaaGreatDoorQ04
import Derived.Deep.AppendLies
import Derived.OwnWalk
import Derived.Below
import Derived.Laws.AppendOwn
import Derived.Laws.Rows
import Derived.Shelf.LaysM
import Derived.Shelf.Strconv.Itoa3
import Derived.Test.YtgbpccipdcajgaaGreatDoorProg
namespace Go.Proofs.YtgbpccipdcajgaaGreatDoor
inductive Ex where
 | mk (op : ByteArray) (n : Int) (s : ByteArray) (l : List Ex)
def Ex.op : Ex → ByteArray | .mk op _ _ _ => op
def Ex.n : Ex → Int | .mk _ n _ _ => n
def Ex.s : Ex → ByteArray | .mk _ _ s _ => s
def Ex.l : Ex → List Ex | .mk _ _ _ l => l

inductive Lv where | or | and | sum | prod
inductive Cd where
 | term | left (v : Lv) | loop (v : Lv) (a : List Ex) | not | cmp | un | atom | args | more (a : List Ex)
 | one | vars (a : List Ex) | owns (a : List Ex) | names (a : List Ex) | eq | eqs (a : List Ex) | node | nodes (a : List Ex)
def Lv.part : Lv → Cd
 | .or => .left .and
 | .and => .not
 | .sum => .left .prod
 | .prod => .un
inductive Res where
 | ok (l : List Ex) (j : Nat)
 | bad (j : Nat) (b : Bool)
inductive Act where
 | ret (r : Res)
 | call (c : Cd) (i d : Nat) (k : List Ex → Nat → Act)

abbrev b0 : ByteArray := ⟨#[]⟩
section
variable (l : List Tk)
def tkx (i : Nat) : ByteArray := if h : i < l.length then l[i].text else b0
def tkk (i : Nat) : ByteArray := if h : i < l.length then l[i].kind else b0
def tx (i : Nat) (x : List UInt8) : Bool := (tkx l i).toList == x
def isName (i : Nat) : Bool := (tkk l i).toList == [110, 97, 109, 101]
def isInt (i : Nat) : Bool := (tkk l i).toList == [105, 110, 116]
def isEnd (i : Nat) : Bool := (tkk l i).toList == [101, 110, 100]
end

def tIf : List UInt8 := [105, 102]
def tThen : List UInt8 := [116, 104, 101, 110]
def tElse : List UInt8 := [101, 108, 115, 101]
def tArrow : List UInt8 := [45, 62]
def tFby : List UInt8 := [102, 98, 121]
def tOr : List UInt8 := [111, 114]
def tXor : List UInt8 := [120, 111, 114]
def tAnd : List UInt8 := [97, 110, 100]
def tNot : List UInt8 := [110, 111, 116]
def tEq : List UInt8 := [61]
def tNe : List UInt8 := [60, 62]
def tLt : List UInt8 := [60]
def tLe : List UInt8 := [60, 61]
def tGt : List UInt8 := [62]
def tGe : List UInt8 := [62, 61]
def tImp : List UInt8 := [61, 62]
def tPlus : List UInt8 := [43]
def tMinus : List UInt8 := [45]
def tMul : List UInt8 := [42]
def tDiv : List UInt8 := [47]
def tMod : List UInt8 := [109, 111, 100]
def tPre : List UInt8 := [112, 114, 101]
def tTrue : List UInt8 := [116, 114, 117, 101]
def tFalse : List UInt8 := [102, 97, 108, 115, 101]
def tOpen : List UInt8 := [40]
def tShut : List UInt8 := [41]
def tComma : List UInt8 := [44]
def tSemi : List UInt8 := [59]
def tColon : List UInt8 := [58]
def tBool : List UInt8 := [98, 111, 111, 108]
def tInt : List UInt8 := [105, 110, 116]
def tAssert : List UInt8 := [97, 115, 115, 101, 114, 116]
def tCheck : List UInt8 := [99, 104, 101, 99, 107]
def tNode : List UInt8 := [110, 111, 100, 101]
def tReturns : List UInt8 := [114, 101, 116, 117, 114, 110, 115]
def tVar : List UInt8 := [118, 97, 114]
def tLet : List UInt8 := [108, 101, 116]
def tTel : List UInt8 := [116, 101, 108]
def sNeg : ByteArray := ⟨#[110, 101, 103]⟩
def sInt : ByteArray := ⟨#[105, 110, 116]⟩
def sName : ByteArray := ⟨#[110, 97, 109, 101]⟩
def sCall : ByteArray := ⟨#[99, 97, 108, 108]⟩
def sSet : ByteArray := ⟨#[115, 101, 116]⟩

def Lv.ops : Lv → List (List UInt8)
 | .or => [tOr, tXor]
 | .and => [tAnd]
 | .sum => [tPlus, tMinus]
 | .prod => [tMul, tDiv, tMod]
def cmps : List (List UInt8) := [tEq, tNe, tLt, tLe, tGt, tGe, tImp]

def decOf (x : List UInt8) : Int := x.foldl (fun n c => 10 * n + ((c.toNat : Int) - 48)) 0

section
variable (l : List Tk)
def txs (i : Nat) (xs : List (List UInt8)) : Bool := xs.any (fun x => tx l i x)
def retA (e : List Ex) (j : Nat) : Act := .ret (.ok e j)
def expA (i : Nat) (x : List UInt8) (k : Nat → Act) : Act := if tx l i x then k (i + 1) else .ret (.bad i false)
def nameA (i : Nat) (k : Nat → Act) : Act := if isName l i then k (i + 1) else .ret (.bad i false)
def downA (i d : Nat) (k : Act) : Act := if d = 20 then .ret (.bad i true) else k
def nm (i : Nat) : Ex := .mk (tkx l i) 0 b0 []
def lst (a : List Ex) : Ex := .mk b0 0 b0 a
def endA (kind : ByteArray) (names : List Ex) (i d : Nat) : Act :=
 .call .term i d fun e j => expA l j tSemi fun k => retA [.mk kind 0 b0 (lst names :: e)] k
def bodyA (name : ByteArray) (ins : List Ex) (i d : Nat) : Act :=
 expA l i tShut fun i => expA l i tReturns fun i => expA l i tOpen fun i => .call .one i d fun o i => .call (.vars o) i d fun outs i => expA l i tShut fun i => expA l i tSemi fun i =>
 let rest (owns : List Ex) (i : Nat) : Act := expA l i tLet fun i => .call (.eqs []) i d fun qs i => expA l i tTel fun i => retA [.mk name 0 b0 [lst ins, lst outs, lst owns, lst qs]] i
 if tx l i tVar then .call (.owns []) (i + 1) d rest else rest [] i
def step (c : Cd) (i d : Nat) : Act :=
 match c with
 | .term =>
  if tx l i tIf then downA i d (.call .term (i + 1) (d + 1) fun a i1 => expA l i1 tThen fun i2 => .call .term i2 (d + 1) fun b i3 => expA l i3 tElse fun i4 => .call .term i4 (d + 1) fun c i5 => retA [.mk (tkx l i) 0 b0 (a ++ b ++ c)] i5)
  else .call (.left .or) i d fun a j => if txs l j [tArrow, tFby] then downA j d (.call .term (j + 1) (d + 1) fun b k => retA [.mk (tkx l j) 0 b0 (a ++ b)] k) else retA a j
 | .left v => .call v.part i d fun a j => .call (.loop v a) j d retA
 | .loop v a => if txs l i v.ops then .call v.part (i + 1) d fun b j => .call (.loop v [.mk (tkx l i) 0 b0 (a ++ b)]) j d retA else retA a i
 | .not => if tx l i tNot then downA i d (.call .not (i + 1) (d + 1) fun a j => retA [.mk ⟨tNot.toArray⟩ 0 b0 a] j) else .call .cmp i d retA
 | .cmp => .call (.left .sum) i d fun a j => if txs l j cmps then .call (.left .sum) (j + 1) d fun b k => retA [.mk (tkx l j) 0 b0 (a ++ b)] k else retA a j
 | .un =>
  if tx l i tMinus then downA i d (.call .un (i + 1) (d + 1) fun a j => retA [.mk sNeg 0 b0 a] j)
  else if tx l i tPre then downA i d (.call .un (i + 1) (d + 1) fun a j => retA [.mk ⟨tPre.toArray⟩ 0 b0 a] j)
  else .call .atom i d retA
 | .atom =>
  if isInt l i then retA [.mk sInt (decOf (tkx l i).toList) b0 []] (i + 1)
  else if txs l i [tTrue, tFalse] then retA [.mk (tkx l i) 0 b0 []] (i + 1)
  else if isName l i then
   if tx l (i + 1) tOpen then downA (i + 1) d (.call .args (i + 1 + 1) (d + 1) fun a j => expA l j tShut fun k => retA [.mk sCall 0 (tkx l i) a] k)
   else retA [.mk sName 0 (tkx l i) []] (i + 1)
  else if tx l i tOpen then downA i d (.call .term (i + 1) (d + 1) fun a j => expA l j tShut fun k => retA a k)
  else .ret (.bad i false)
 | .args => if tx l i tShut then retA [] i else .call .term i d fun a j => .call (.more a) j d retA
 | .more a => if tx l i tComma then .call .term (i + 1) d fun b j => .call (.more (a ++ b)) j d retA else retA a i
 | .one => nameA l i fun j => expA l j tColon fun j => if tx l j tBool then retA [.mk (tkx l i) 1 b0 []] (j + 1) else expA l j tInt fun k => retA [.mk (tkx l i) 2 b0 []] k
 | .vars a => if tx l i tSemi then .call .one (i + 1) d fun v j => .call (.vars (a ++ v)) j d retA else retA a i
 | .owns a => .call .one i d fun v j => expA l j tSemi fun k => if isName l k then .call (.owns (a ++ v)) k d retA else retA (a ++ v) k
 | .names a => if tx l i tComma then nameA l (i + 1) fun j => .call (.names (a ++ [nm l (i + 1)])) j d retA else retA a i
 | .eq =>
  if txs l i [tAssert, tCheck] then endA l (tkx l i) [] (i + 1) d
  else if tx l i tOpen then nameA l (i + 1) fun j => expA l j tComma fun k => nameA l k fun m => .call (.names [nm l (i + 1), nm l k]) m d fun ns j => expA l j tShut fun j => expA l j tEq fun j => endA l sSet ns j d
  else nameA l i fun j => expA l j tEq fun j => endA l sSet [nm l i] j d
 | .eqs a => if tx l i tTel then retA a i else .call .eq i d fun q j => .call (.eqs (a ++ q)) j d retA
 | .node => expA l i tNode fun i => nameA l i fun j => expA l j tOpen fun k => if tx l k tShut then bodyA l (tkx l i) [] k d else .call .one k d fun v j => .call (.vars v) j d fun ins j => bodyA l (tkx l i) ins j d
 | .nodes a => if isEnd l i then retA a i else if tx l i tNode && a.length == 12 then .ret (.bad i true) else .call .node i d fun n j => .call (.nodes (a ++ n)) j d retA

inductive Run : Act → Res → Prop
 | ret (r : Res) : Run (.ret r) r
 | ok (c : Cd) (i d : Nat) (k : List Ex → Nat → Act) (e : List Ex) (j : Nat) (r : Res) : Run (step l c i d) (.ok e j) → Run (k e j) r → Run (.call c i d k) r
 | bad (c : Cd) (i d : Nat) (k : List Ex → Nat → Act) (j : Nat) (b : Bool) : Run (step l c i d) (.bad j b) → Run (.call c i d k) (.bad j b)
def Parse (c : Cd) (i d : Nat) (r : Res) : Prop := Run l (step l c i d) r
end
theorem Run.one {l : List Tk} {a : Act} {r r' : Res} (h : Run l a r) (g : Run l a r') : r = r' := by
 induction h generalizing r' with
 | ret r => cases g; rfl
 | ok c i d k e j r h1 h2 ih1 ih2 =>
  cases g with
  | ok _ _ _ _ e' j' _ g1 g2 =>
   have := ih1 g1
   injection this with e1 e2
   subst e1 e2
   exact ih2 g2
  | bad _ _ _ _ j' b g1 => exact absurd (ih1 g1) (by simp)
 | bad c i d k j b h1 ih1 =>
  cases g with
  | ok _ _ _ _ e' j' _ g1 g2 => exact absurd (ih1 g1) (by simp)
  | bad _ _ _ _ j' b' g1 => exact ih1 g1
theorem Parse.one {l : List Tk} {c : Cd} {i d : Nat} {r r' : Res} (h : Parse l c i d r) (g : Parse l c i d r') : r = r' := Run.one h g
theorem Run.tail {l : List Tk} {c : Cd} {i d : Nat} {r : Res} (h : Parse l c i d r) : Run l (.call c i d retA) r := by
 cases r with
 | ok e j => exact .ok _ _ _ _ e j _ h (.ret _)
 | bad j b => exact .bad _ _ _ _ j b h
section
variable {l : List Tk} {r : Res} {i d j : Nat} {a b : List Ex}
theorem Run.ifT {c : Bool} {x y : Act} (h : c = true) (p : Run l x r) : Run l (if c then x else y) r := by rw [if_pos h]; exact p
theorem Run.ifF {c : Bool} {x y : Act} (h : c = false) (p : Run l y r) : Run l (if c then x else y) r := by rw [if_neg (by rw [h]; exact Bool.false_ne_true)]; exact p
theorem Run.down {k : Act} (h : d ≠ 20) (p : Run l k r) : Run l (downA i d k) r := by rw [downA, if_neg h]; exact p
theorem Run.deep {k : Act} (h : d = 20) : Run l (downA i d k) (.bad i true) := by rw [downA, if_pos h]; exact .ret _
theorem Run.exp {x : List UInt8} {k : Nat → Act} (h : tx l i x = true) (p : Run l (k (i + 1)) r) : Run l (expA l i x k) r := by rw [expA, if_pos h]; exact p
theorem Run.unexp {x : List UInt8} {k : Nat → Act} (h : tx l i x = false) : Run l (expA l i x k) (.bad i false) := by rw [expA, if_neg (by rw [h]; exact Bool.false_ne_true)]; exact .ret _
theorem Run.nam {k : Nat → Act} (h : isName l i = true) (p : Run l (k (i + 1)) r) : Run l (nameA l i k) r := by rw [nameA, if_pos h]; exact p
theorem Run.unnam {k : Nat → Act} (h : isName l i = false) : Run l (nameA l i k) (.bad i false) := by rw [nameA, if_neg (by rw [h]; exact Bool.false_ne_true)]; exact .ret _
theorem Run.then {c : Cd} {k : List Ex → Nat → Act} (h : Parse l c i d (.ok a j)) (p : Run l (k a j) r) : Run l (.call c i d k) r := .ok c i d k a j r h p
theorem Run.stop {c : Cd} {k : List Ex → Nat → Act} {bd : Bool} (h : Parse l c i d (.bad j bd)) : Run l (.call c i d k) (.bad j bd) := .bad c i d k j bd h
theorem Run.done : Run l (retA a j) (.ok a j) := .ret _
theorem Parse.left (v : Lv) (h : Parse l v.part i d (.ok a j)) (p : Parse l (.loop v a) j d r) : Parse l (.left v) i d r := Run.then h (Run.tail p)
theorem Parse.loopMore (v : Lv) (h : txs l i v.ops = true) (p : Parse l v.part (i + 1) d (.ok b j)) (q : Parse l (.loop v [.mk (tkx l i) 0 b0 (a ++ b)]) j d r) : Parse l (.loop v a) i d r := Run.ifT h (Run.then p (Run.tail q))
theorem Parse.loopBad (v : Lv) {bd : Bool} (h : txs l i v.ops = true) (p : Parse l v.part (i + 1) d (.bad j bd)) : Parse l (.loop v a) i d (.bad j bd) := Run.ifT h (Run.stop p)
theorem Parse.loopStop (v : Lv) (h : txs l i v.ops = false) : Parse l (.loop v a) i d (.ok a i) := Run.ifF h Run.done
theorem Parse.notMore (h : tx l i tNot = true) (hd : d ≠ 20) (p : Parse l .not (i + 1) (d + 1) (.ok a j)) : Parse l .not i d (.ok [.mk ⟨tNot.toArray⟩ 0 b0 a] j) := Run.ifT h (Run.down hd (Run.then p Run.done))
theorem Parse.ifMore {c : List Ex} {i1 i2 i3 : Nat} (h : tx l i tIf = true) (hd : d ≠ 20) (p : Parse l .term (i + 1) (d + 1) (.ok a i1)) (h1 : tx l i1 tThen = true) (q : Parse l .term (i1 + 1) (d + 1) (.ok b i2)) (h2 : tx l i2 tElse = true) (s : Parse l .term (i2 + 1) (d + 1) (.ok c i3)) : Parse l .term i d (.ok [.mk (tkx l i) 0 b0 (a ++ b ++ c)] i3) :=
 Run.ifT h (Run.down hd (Run.then p (Run.exp h1 (Run.then q (Run.exp h2 (Run.then s Run.done))))))
end
end Go.Proofs.YtgbpccipdcajgaaGreatDoor
namespace Go.Proofs.YtgbpccipdcajgaaGreatDoor
open Go.RowKit
attribute [local go_sem ↓] Go.wp_at_zero Go.wp_at_succ
theorem Tryz.infoTok : (Tryz.prog.info? 37).map (fun i => (i.zero, i.size, i.bytes)) = some (some (.agg #[.string ⟨#[]⟩, .string ⟨#[]⟩, .int .i64 0]), 3, 40) := by kernel_rfl

theorem ownsRow_mv {ba base : Nat} {w w' : World} {e : TypeId} {size : Nat} {v : Value} {n : Nat} {xs : List Value} (h : w.ownsRow base e size v n xs) (hm : Mv ba w w') (hb : ba < base) : w'.ownsRow base e size v n xs := by
 obtain ⟨h1, h2⟩ := h
 refine ⟨h1, ?_⟩
 rcases h2 with h2 | ⟨g, cap, cur, hv, hg, hh, r⟩
 ·exact Or.inl h2
 ·refine Or.inr ⟨g, cap, cur, hv, hg, ?_, r⟩
  have hl : g < w.heap.size := by
   rcases Nat.lt_or_ge g w.heap.size with h | h
   ·exact h
   ·rw [Array.getElem?_eq_none h] at hh; cases hh
  rw [hm.block g hl (by intro e; injection e with e; omega)]; exact hh

theorem ownsRow_low {base base' : Nat} {w : World} {e : TypeId} {size : Nat} {v : Value} {n : Nat} {xs : List Value} (h : w.ownsRow base e size v n xs) (hb : base' ≤ base) : w.ownsRow base' e size v n xs := by
 obtain ⟨h1, h2⟩ := h
 refine ⟨h1, ?_⟩
 rcases h2 with h2 | ⟨g, cap, cur, hv, hg, r⟩
 ·exact Or.inl h2
 ·exact Or.inr ⟨g, cap, cur, hv, Nat.le_trans hb hg, r⟩
theorem ownsRow_block {base : Nat} {w : World} {e : TypeId} {size : Nat} {v : Value} {n : Nat} {xs : List Value} (h : w.ownsRow base e size v n xs) {k : Nat} (hk : v.ownBlock = some k) : base ≤ k ∧ k < w.heap.size := by
 obtain ⟨_, h2⟩ := h
 rcases h2 with ⟨rfl, _⟩ | ⟨g, cap, cur, rfl, hg, hh, r⟩
 ·cases hk
 ·have e : g = k := by simpa [Value.ownBlock] using hk
  subst e
  refine ⟨hg, ?_⟩
  rcases Nat.lt_or_ge g w.heap.size with h | h
  ·exact h
  ·rw [Array.getElem?_eq_none h] at hh; cases hh
theorem cell_grown {w w' : World} {row : Option Nat} (hg : w.grownBy w' row) {p : Addr} {v : Value} (hr : row ≠ some p.block) (hc : w.cell? p = some v) : w'.cell? p = some v := by
 rw [World.cell?_of_block (w := w) (hg.block p.block (lt_of_cell hc) (Ne.symm hr))]; exact hc
theorem Rdr.grown {bs ba bc bt bk B : Nat} {s : ByteArray} {i : Nat} {w w' : World} {row : Option Nat} (R : Rdr bs ba bc bt bk s i w) (hg : w.grownBy w' row) (hr : ∀ k, row = some k → B ≤ k) (l1 : bs < B) (l2 : ba < B) (l3 : bc < B) (l4 : bt < B) (l5 : bk < B) : Rdr bs ba bc bt bk s i w' := by
 have f : ∀ {b : Nat}, b < B → row ≠ some b := fun {b} hb e => by have := hr b e; omega
 exact ⟨cell_grown hg (f l1) R.hs, cell_grown hg (f l2) R.ha, by rw [World.frozen?_of_block (w := w) (hg.block ba R.lt (Ne.symm (f l2)))]; exact R.hf, cell_grown hg (f l3) R.hc, cell_grown hg (f l4) R.ht, cell_grown hg (f l5) R.hk, R.ns, R.nc, R.nt, R.nk⟩

set_option maxRecDepth 100000 in
set_option maxHeartbeats 2000000 in
theorem lex_any (s : ByteArray) (w : World) (pT : Addr) (ev : Value) (hs : s.size ≤ 6000) (hT : w.cell? ⟨2, 0, none⟩ = some (.iface 235 (.pointer (some pT)))) (hv : w.cell? ⟨11, 0, none⟩ = some ev) (hev : ev = .nilIface ∨ ∃ te pe, ev = .iface te pe) :
  Calls Tryz.prog 11 #[.string s] w fun e w' => Below w.heap.size w w' ∧
   ((∃ (l : List Tk) (v : Value), Lexes s 0 l none ∧ e = .returned (.tuple #[v, .nilIface]) ∧ w'.ownsRow w.heap.size 37 3 v l.length (tkCells l)) ∨
    (∃ (l : List Tk) (j p : Nat), Lexes s 0 l (some j) ∧ e = .returned (.tuple #[.slice none 0 0, .iface 64 (.pointer (some ⟨p, 0, none⟩))]) ∧ w'.cell? ⟨p, 0, none⟩ = some (.int .i64 j) ∧ w'.cell? ⟨p, 0 + 1, none⟩ = some (.iface 235 (.pointer (some pT))))) := by
 obtain ⟨i0, hi0, hz0, hz1, hz2⟩ := info_parts Tryz.infoTok
 go_enter Tryz.func11, Tryz.ntmps11
 go_wp2_with fail
 refine (reader_any s _).mono ?_
 rintro e w1 ⟨bs, ba, bc, bt, bk, rfl, hba, R, hb⟩
 go_wp2
 go_loopw [5] (fun v wr => ∃ (l : List Tk) (i : Nat), Reads s l i ∧ wr.ownsRow w1.heap.size 37 3 v l.length (tkCells l) ∧ Rdr bs ba bc bt bk s i wr ∧ Below w.heap.size w wr ∧ w1.heap.size ≤ wr.heap.size) (fun _ wr => s.size - cellNat wr ba)
 case atStart => exact ⟨[], 0, .start, ⟨rfl, Or.inl ⟨rfl, rfl⟩⟩, R, hb, Nat.le_refl _⟩
 case round =>
  obtain ⟨l, i, hrd, hown, Rr, hbr, hsz⟩ := hrel
  have hle := hrd.le
  have hvr := cell_keep hbr hv
  have hTr := cell_keep hbr hT
  have hgb : 11 ≠ ba := by have := lt_of_cell hv; have h2 : 11 < w.heap.size := this; omega
  go_wp2_with fail
  refine (next_any bs ba bc bt bk s i _ Rr hle.1 hs ev hvr hev hgb).mono ?_
  rintro e w2 ⟨j, n, kind, text, St, hcom, T, rfl, R2, hm2⟩
  have hba2 : ba < w1.heap.size := R.lt
  have hown2 := ownsRow_mv hown hm2 hba2
  have hT2 := hm2.cell (p := ⟨2, 0, none⟩) (by have := lt_of_cell hT; have h2 : 2 < w.heap.size := this; show 2 ≠ ba; omega) hTr
  have hb2 : Below w.heap.size w w2 := ⟨hm2.os.trans hbr.os, hm2.tape.trans hbr.tape, hm2.output.trans hbr.output, Nat.le_trans hbr.size hm2.size, fun k hk => (hm2.block k (Nat.lt_of_lt_of_le hk hbr.size) (by intro e; injection e with e; omega)).trans (hbr.block k hk)⟩
  have lT := lt_of_cell hT2
  have hsz2 : w1.heap.size ≤ w2.heap.size := Nat.le_trans hsz hm2.size
  clear hvr hTr hown
  have hnb : ((w2.alloc (.cells #[.string kind, .string text, .int .i64 j] 37)).alloc (.cells #[.string kind, .string text, .int .i64 j] 37)).heap[w2.heap.size + 1]? = some (.cells #[.string kind, .string text, .int .i64 j] 37 (0, 0)) := by
   show ((w2.heap.push _).push _)[w2.heap.size + 1]? = _
   rw [Array.getElem?_push, if_pos (by simp)]
  have hn63 : l.length + 1 ≤ maxLen := by unfold maxLen; omega
  have hby : (l.length + 1) * 40 ≤ 140737488355328 := by omega
  by_cases h0 : kind.toList.isEmpty = true
  ·clear hnb hn63 hby
   go_wp2
   go_region
   all_goals
    go_wp2
    go_ret2
    refine ⟨((hb2.alloc hb2.size _).alloc (Nat.le_trans hb2.size (by simp)) _).drew, Or.inr ⟨_, j, w2.heap.size + 1, hrd.lexes (.bad i j n kind text St hcom T h0), rfl, ?_, ?_⟩⟩
    ·show ((w2.alloc _).alloc _).cell? _ = _
     rw [World.cell?_alloc_at _ _ _ _ (by simp)]; rfl
    ·show ((w2.alloc _).alloc _).cell? _ = _
     rw [World.cell?_alloc_at _ _ _ _ (by simp)]; rfl
  ·have h0' : kind.toList.isEmpty = false := by simpa using h0
   clear h0
   have HN := World.news_of_block hnb
   have HN' : Hid _ := HN
   clear HN hnb
   have hrow : ∀ k, u5.ownBlock = some k → w1.heap.size ≤ k ∧ k < w2.heap.size := fun k hk => ownsRow_block hown2 hk
   have hw2k : u5.ownBlock ≠ some w2.heap.size := fun e => by have := (hrow _ e).2; omega
   have hkc : ((w2.alloc (.cells #[.string kind, .string text, .int .i64 j] 37)).alloc (.cells #[.string kind, .string text, .int .i64 j] 37)).cell? ⟨w2.heap.size, 0, none⟩ = some (.string kind) := by
    rw [World.cell?_alloc_past _ _ _ (by simp), World.cell?_alloc_at _ _ _ _ rfl]; rfl
   have l1 := lt_of_cell R.hs
   have l3 := lt_of_cell R.hc
   have l4 := lt_of_cell R.ht
   have l5 := lt_of_cell R.hk
   by_cases h1 : (kind.toList == [101, 110, 100]) = true
   ·go_wp2_with (at_builtin; refine wpList_append_lies _ rfl _ _ _ rfl w1.heap.size 37 i0 _ 3 40 Tryz.underlying30 hi0 hz0 hz1 hz2 rfl (by omega) _ l.length (tkCells l) rfl ((hown2.alloc _).alloc _) ⟨w2.heap.size + 1, 0, none⟩ 1 1 [.string kind, .string text, .int .i64 j] rfl rfl HN'.out (by simp [Value.oneCell']) (by omega) hn63 hby (by simp; omega) (w2.heap.size + 1 + 1) (by simp) ?_; intro g cap w3 hown3 hgrow hat hlt; have hk3 := cell_grown (p := ⟨w2.heap.size, 0, none⟩) hgrow hw2k hkc)
    go_ret2
    refine ⟨((hb2.alloc hb2.size _).alloc (Nat.le_trans hb2.size (by simp)) _).grown hgrow (Nat.le_trans hb2.size (by simp; omega)) (fun k hk => Nat.le_trans hb.size (hrow k hk).1), Or.inl ⟨l ++ [⟨kind, text, j⟩], _, hrd.lexes (.fin i j n kind text St hcom T h0' h1), rfl, ?_⟩⟩
    rw [tkCells_snoc, List.length_append]
    exact ownsRow_low hown3 hb.size
   ·have h1' : (kind.toList == [101, 110, 100]) = false := by simpa using h1
    clear h1
    go_wp2_with (at_builtin; refine wpList_append_lies _ rfl _ _ _ rfl w1.heap.size 37 i0 _ 3 40 Tryz.underlying30 hi0 hz0 hz1 hz2 rfl (by omega) _ l.length (tkCells l) rfl ((hown2.alloc _).alloc _) ⟨w2.heap.size + 1, 0, none⟩ 1 1 [.string kind, .string text, .int .i64 j] rfl rfl HN'.out (by simp [Value.oneCell']) (by omega) hn63 hby (by simp; omega) (w2.heap.size + 1 + 1) (by simp) ?_; intro g cap w3 hown3 hgrow hat hlt; have hk3 := cell_grown (p := ⟨w2.heap.size, 0, none⟩) hgrow hw2k hkc)
    have R3 := ((R2.alloc _).alloc _).grown hgrow (fun k hk => (hrow k hk).1) l1 hba2 l3 l4 l5
    have hp := T.pos h0' h1'
    have hl2 := T.le St.le
    have hij := St.skips.le
    have hn1 := Rr.nat
    have hn2 := R3.nat
    refine ⟨⟨l ++ [⟨kind, text, j⟩], j + n, .tok l i j n kind text hrd St hcom T h0' h1', ?_, R3, ((hb2.alloc hb2.size _).alloc (Nat.le_trans hb2.size (by simp)) _).grown hgrow (Nat.le_trans hb2.size (by simp; omega)) (fun k hk => Nat.le_trans hb.size (hrow k hk).1), Nat.le_trans hsz2 (Nat.le_trans (by simp; omega) hgrow.size)⟩, ?_⟩
    ·rw [tkCells_snoc, List.length_append]
     exact hown3
    ·rw [hn1, hn2]; omega
end Go.Proofs.YtgbpccipdcajgaaGreatDoor
namespace Go.Proofs.YtgbpccipdcajgaaGreatDoor
open Go.RowKit
def RowAt (w : World) (S : Nat → Prop) (size : Nat) (v : Value) (n : Nat) (xs : List Value) : Prop :=
 xs.length = n * size ∧ n ≤ maxLen ∧ ∃ o c, v = .slice o n c ∧ ∀ k x, xs[k]? = some x → ∃ b off, o = some ⟨b, off, none⟩ ∧ S b ∧ w.cell? ⟨b, off + k, none⟩ = some x
def From (base : Nat) : Nat → Prop := fun b => base ≤ b
def Stays (S S' : Nat → Prop) (w w' : World) : Prop := ∀ b, S b → b < w.heap.size → S' b ∧ w'.heap[b]? = w.heap[b]?
theorem blk_of_cell {w : World} {p : Addr} {v : Value} (hc : w.cell? p = some v) : p.block < w.heap.size := by
 rcases Nat.lt_or_ge p.block w.heap.size with h | h
 ·exact h
 ·simp [World.cell?, Array.getElem?_eq_none h] at hc
theorem RowAt.keep {w w' : World} {S S' : Nat → Prop} {size n : Nat} {v : Value} {xs : List Value} (h : RowAt w S size v n xs) (hs : Stays S S' w w') : RowAt w' S' size v n xs := by
 obtain ⟨h1, h2, o, c, rfl, h3⟩ := h
 refine ⟨h1, h2, o, c, rfl, fun k x hx => ?_⟩
 obtain ⟨b, off, rfl, hb, hc⟩ := h3 k x hx
 have hs' := hs b hb (blk_of_cell hc)
 exact ⟨b, off, rfl, hs'.1, by rw [World.cell?_of_block (w := w) hs'.2]; exact hc⟩
theorem RowAt.of_owns {w : World} {base size n : Nat} {e : TypeId} {v : Value} {xs : List Value} (h : w.ownsRow base e size v n xs) : RowAt w (From base) size v n xs := by
 obtain ⟨h1, h2⟩ := h
 rcases h2 with ⟨rfl, rfl⟩ | ⟨g, cap, cur, rfl, hg, hh, hc1, hc2, hc3, hc4⟩
 ·have : xs = [] := List.eq_nil_of_length_eq_zero (by omega)
  subst this
  exact ⟨by simp, by unfold maxLen; omega, none, 0, rfl, fun k x hx => by simp at hx⟩
 ·refine ⟨h1, by omega, _, cap, rfl, fun k x hx => ⟨g, 0, rfl, hg, ?_⟩⟩
  rw [Nat.zero_add, cell_of_row w g k cur e (0, 0) hh]
  rw [← hc4, List.getElem?_take] at hx
  split at hx
  ·simpa using hx
  ·cases hx
theorem RowAt.at {w : World} {S : Nat → Prop} {size n : Nat} {v : Value} {xs : List Value} (h : RowAt w S size v n xs) (hp : 0 < xs.length) : ∃ b off c, v = .slice (some ⟨b, off, none⟩) n c ∧ S b ∧ b < w.heap.size ∧ ∀ k x, xs[k]? = some x → w.cell? ⟨b, off + k, none⟩ = some x := by
 obtain ⟨h1, h2, o, c, rfl, h3⟩ := h
 obtain ⟨b, off, rfl, hb, hc⟩ := h3 0 xs[0] (List.getElem?_eq_getElem hp)
 refine ⟨b, off, c, rfl, hb, blk_of_cell hc, fun k x hx => ?_⟩
 obtain ⟨b', off', e, _, hc'⟩ := h3 k x hx
 injection e with e; injection e with e1 e2; subst e1 e2
 exact hc'

inductive ExIn (w : World) (S : Nat → Prop) : List Ex → List Value → Prop
 | nil : ExIn w S [] []
 | cons (op : ByteArray) (n : Int) (s : ByteArray) (l es : List Ex) (lv : Value) (xs ys : List Value) : RowAt w S 4 lv l.length xs → ExIn w S l xs → ExIn w S es ys → ExIn w S (.mk op n s l :: es) (.string op :: .int .i64 n :: .string s :: lv :: ys)
theorem ExIn.keep {w w' : World} {S S' : Nat → Prop} {es : List Ex} {xs : List Value} (h : ExIn w S es xs) (hs : Stays S S' w w') : ExIn w' S' es xs := by
 induction h with
 | nil => exact .nil
 | cons op n s l es lv xs ys h1 _ _ ih1 ih2 => exact .cons op n s l es lv xs ys (h1.keep hs) ih1 ih2
theorem ExIn.length {w : World} {S : Nat → Prop} {es : List Ex} {xs : List Value} (h : ExIn w S es xs) : xs.length = es.length * 4 := by
 induction h with
 | nil => rfl
 | cons op n s l es lv xs ys h1 _ _ _ ih2 => simp only [List.length_cons, ih2]; omega
theorem ExIn.append {w : World} {S : Nat → Prop} {es fs : List Ex} {xs ys : List Value} (h : ExIn w S es xs) (g : ExIn w S fs ys) : ExIn w S (es ++ fs) (xs ++ ys) := by
 induction h with
 | nil => exact g
 | cons op n s l es lv xs ys h1 h2 _ _ ih2 => exact .cons op n s l _ lv xs _ h1 h2 ih2
theorem ExIn.one {w : World} {S : Nat → Prop} {e : Ex} {xs : List Value} (h : ExIn w S [e] xs) : ∃ op n s l lv ys, e = .mk op n s l ∧ xs = [.string op, .int .i64 n, .string s, lv] ∧ RowAt w S 4 lv l.length ys ∧ ExIn w S l ys := by
 cases h with
 | cons op n s l es lv xs ys h1 h2 h3 =>
  cases h3
  exact ⟨op, n, s, l, lv, xs, rfl, rfl, h1, h2⟩
theorem ExIn.one' {w : World} {S : Nat → Prop} {e : Ex} {xs : List Value} (h : ExIn w S [e] xs) : ∃ op n s l o c ys, e = .mk op n s l ∧ xs = [.string op, .int .i64 n, .string s, .slice o l.length c] ∧ RowAt w S 4 (.slice o l.length c) l.length ys ∧ ExIn w S l ys := by
 obtain ⟨op, n, s, l, lv, ys, rfl, rfl, h1, h2⟩ := h.one
 obtain ⟨a1, a2, o, c, rfl, a3⟩ := h1
 exact ⟨op, n, s, l, o, c, ys, rfl, rfl, ⟨a1, a2, o, c, rfl, a3⟩, h2⟩
def ExV (w : World) (S : Nat → Prop) (e : Ex) (v : Value) : Prop := ∃ xs, v = .agg xs ∧ ExIn w S [e] xs.toList
theorem ExV.one {w : World} {S : Nat → Prop} {e : Ex} {v : Value} (h : ExV w S e v) : ∃ op n s l o c ys, e = .mk op n s l ∧ v = .agg #[.string op, .int .i64 n, .string s, .slice o l.length c] ∧ RowAt w S 4 (.slice o l.length c) l.length ys ∧ ExIn w S l ys := by
 obtain ⟨xs, rfl, h⟩ := h
 obtain ⟨op, n, s, l, o, c, ys, rfl, hx, h1, h2⟩ := h.one'
 refine ⟨op, n, s, l, o, c, ys, rfl, ?_, h1, h2⟩
 congr 1
 apply Array.ext'
 rw [hx]
theorem ExV.mk {w : World} {S : Nat → Prop} {op : ByteArray} {n : Int} {s : ByteArray} {l : List Ex} {lv : Value} {ys : List Value} (h1 : RowAt w S 4 lv l.length ys) (h2 : ExIn w S l ys) : ExV w S (.mk op n s l) (.agg #[.string op, .int .i64 n, .string s, lv]) :=
 ⟨_, rfl, .cons op n s l [] lv ys [] h1 h2 .nil⟩
def varCells (l : List Ex) : List Value := l.flatMap fun e => [.string e.op, .int .i64 e.n]
def nameCells (l : List Ex) : List Value := l.map fun e => .string e.op
inductive EqIn (w : World) (S : Nat → Prop) : List Ex → List Value → Prop
 | nil : EqIn w S [] []
 | cons (kind : ByteArray) (ns : List Ex) (e : Ex) (es : List Ex) (nv : Value) (xs ys : List Value) : RowAt w S 1 nv ns.length (nameCells ns) → ExIn w S [e] xs → EqIn w S es ys → EqIn w S (.mk kind 0 b0 [lst ns, e] :: es) (.string kind :: nv :: xs ++ ys)
theorem EqIn.keep {w w' : World} {S S' : Nat → Prop} {es : List Ex} {xs : List Value} (h : EqIn w S es xs) (hs : Stays S S' w w') : EqIn w' S' es xs := by
 induction h with
 | nil => exact .nil
 | cons kind ns e es nv xs ys h1 h2 _ ih => exact .cons kind ns e es nv xs ys (h1.keep hs) (h2.keep hs) ih
theorem EqIn.append {w : World} {S : Nat → Prop} {es fs : List Ex} {xs ys : List Value} (h : EqIn w S es xs) (g : EqIn w S fs ys) : EqIn w S (es ++ fs) (xs ++ ys) := by
 induction h with
 | nil => exact g
 | cons kind ns e es nv xs zs h1 h2 _ ih =>
  have := EqIn.cons kind ns e _ nv xs _ h1 h2 ih
  simpa using this
inductive NdIn (w : World) (S : Nat → Prop) : List Ex → List Value → Prop
 | nil : NdIn w S [] []
 | cons (name : ByteArray) (ins outs owns qs es : List Ex) (v1 v2 v3 v4 : Value) (xs ys : List Value) : RowAt w S 2 v1 ins.length (varCells ins) → RowAt w S 2 v2 outs.length (varCells outs) → RowAt w S 2 v3 owns.length (varCells owns) → RowAt w S 6 v4 qs.length xs → EqIn w S qs xs → NdIn w S es ys →
   NdIn w S (.mk name 0 b0 [lst ins, lst outs, lst owns, lst qs] :: es) (.string name :: v1 :: v2 :: v3 :: v4 :: ys)
theorem NdIn.keep {w w' : World} {S S' : Nat → Prop} {es : List Ex} {xs : List Value} (h : NdIn w S es xs) (hs : Stays S S' w w') : NdIn w' S' es xs := by
 induction h with
 | nil => exact .nil
 | cons name ins outs owns qs es v1 v2 v3 v4 xs ys h1 h2 h3 h4 h5 _ ih => exact .cons name ins outs owns qs es v1 v2 v3 v4 xs ys (h1.keep hs) (h2.keep hs) (h3.keep hs) (h4.keep hs) (h5.keep hs) ih
theorem NdIn.append {w : World} {S : Nat → Prop} {es fs : List Ex} {xs ys : List Value} (h : NdIn w S es xs) (g : NdIn w S fs ys) : NdIn w S (es ++ fs) (xs ++ ys) := by
 induction h with
 | nil => exact g
 | cons name ins outs owns qs es v1 v2 v3 v4 xs ys h1 h2 h3 h4 h5 _ ih => exact .cons name ins outs owns qs _ v1 v2 v3 v4 xs _ h1 h2 h3 h4 h5 ih
end Go.Proofs.YtgbpccipdcajgaaGreatDoor
namespace Go.Proofs
open Go.Shelf
def Tryz.laysM171_ren : Go.Shelf.Ren := ⟨fun | 171 => 166 | 243 => 177 | 246 => 180 | 283 => 184 | 284 => 185 | 285 => 186 | 286 => 187 | 129 => 191 | 317 => 190 | 318 => 192 | 319 => 193 | 320 => 194 | 337 => 196 | 338 => 197 | n => n, fun | 3 => 3 | 9 => 9 | 2 => 2 | 4 => 4 | 171 => 240 | 0 => 0 | 53 => 222 | 37 => 112 | 5 => 5 | 173 => 243 | 212 => 246 | 51 => 247 | 20 => 20 | 213 => 248 | 46 => 225 | 232 => 252 | 233 => 253 | n => n, fun | 17 => 13 | 18 => 14 | 19 => 15 | n => n⟩
theorem Tryz.laysM171 : Go.Proofs.LaysM.n171 Tryz.prog Tryz.laysM171_ren := {
 mixed := by kernel_rfl
 f129 := Tryz.func191.trans (congrArg some (by kernel_rfl))
 f171 := Tryz.func166.trans (congrArg some (by kernel_rfl))
 f243 := Tryz.func177.trans (congrArg some (by kernel_rfl))
 f246 := Tryz.func180.trans (congrArg some (by kernel_rfl))
 f283 := Tryz.func184.trans (congrArg some (by kernel_rfl))
 f284 := Tryz.func185.trans (congrArg some (by kernel_rfl))
 f285 := Tryz.func186.trans (congrArg some (by kernel_rfl))
 f286 := Tryz.func187.trans (congrArg some (by kernel_rfl))
 f317 := Tryz.func190.trans (congrArg some (by kernel_rfl))
 f318 := Tryz.func192.trans (congrArg some (by kernel_rfl))
 f319 := Tryz.func193.trans (congrArg some (by kernel_rfl))
 f320 := Tryz.func194.trans (congrArg some (by kernel_rfl))
 f337 := Tryz.func196.trans (congrArg some (by kernel_rfl))
 f338 := Tryz.func197.trans (congrArg some (by kernel_rfl))
 t0 := Tryz.underlying0
 a0 := Tryz.isAgg0
 z0 := Tryz.sizeOf0
 v0 := Tryz.zeroValue0
 t2 := Tryz.underlying2
 a2 := Tryz.isAgg2
 z2 := Tryz.sizeOf2
 v2 := Tryz.zeroValue2
 t3 := Tryz.underlying3
 a3 := Tryz.isAgg3
 z3 := Tryz.sizeOf3
 v3 := Tryz.zeroValue3
 t4 := Tryz.underlying4
 a4 := Tryz.isAgg4
 z4 := Tryz.sizeOf4
 v4 := Tryz.zeroValue4
 t5 := Tryz.underlying5
 a5 := Tryz.isAgg5
 z5 := Tryz.sizeOf5
 v5 := Tryz.zeroValue5
 t9 := Tryz.underlying9
 a9 := Tryz.isAgg9
 z9 := Tryz.sizeOf9
 v9 := Tryz.zeroValue9
 t20 := Tryz.underlying20
 a20 := Tryz.isAgg20
 z20 := Tryz.sizeOf20
 v20 := Tryz.zeroValue20
 t37 := Tryz.underlying112
 a37 := Tryz.isAgg112
 z37 := Tryz.sizeOf112
 v37 := Tryz.zeroValue112
 t46 := Tryz.underlying225
 a46 := Tryz.isAgg225
 z46 := Tryz.sizeOf225
 v46 := Tryz.zeroValue225
 t51 := Tryz.underlying247
 a51 := Tryz.isAgg247
 z51 := Tryz.sizeOf247
 v51 := Tryz.zeroValue247
 t53 := Tryz.underlying222
 a53 := Tryz.isAgg222
 z53 := Tryz.sizeOf222
 v53 := Tryz.zeroValue222
 t171 := Tryz.underlying240
 a171 := Tryz.isAgg240
 z171 := Tryz.sizeOf240
 v171 := Tryz.zeroValue240
 t173 := Tryz.underlying243
 a173 := Tryz.isAgg243
 z173 := Tryz.sizeOf243
 v173 := Tryz.zeroValue243
 t212 := Tryz.underlying246
 a212 := Tryz.isAgg246
 z212 := Tryz.sizeOf246
 v212 := Tryz.zeroValue246
 t213 := Tryz.underlying248
 a213 := Tryz.isAgg248
 z213 := Tryz.sizeOf248
 t232 := Tryz.underlying252
 a232 := Tryz.isAgg252
 z232 := Tryz.sizeOf252
 v232 := Tryz.zeroValue252
 t233 := Tryz.underlying253
 a233 := Tryz.isAgg253
 z233 := Tryz.sizeOf253
 v233 := Tryz.zeroValue253
 g17 := by kernel_rfl
 g18 := by kernel_rfl
 g19 := by kernel_rfl
 i0 := by kernel_rfl
 i2 := by kernel_rfl
 i3 := by kernel_rfl
 i4 := by kernel_rfl
 i5 := by kernel_rfl
 i9 := by kernel_rfl
 i20 := by kernel_rfl
 i37 := by kernel_rfl
 i46 := by kernel_rfl
 i51 := by kernel_rfl
 i53 := by kernel_rfl
 i171 := by kernel_rfl
 i173 := by kernel_rfl
 i212 := by kernel_rfl
 i232 := by kernel_rfl
 i233 := by kernel_rfl
 m17 := by kernel_rfl
 m18 := by kernel_rfl
 m19 := by kernel_rfl }
open Go.RowKit Go.Sort Go.Lib in
theorem Tryz.strconv_Itoa (n : Int) (h0 : -9223372036854775808 ≤ n) (h1 : n ≤ 9223372036854775807) (w : World) (htab : Lib.TabIs Tryz.prog w "internal/strconv.uint64pow10" .u64 Lib.pow10Tab) :
  Calls Tryz.prog 166 #[.int .i64 n] w fun e w' => e = .returned (.string ⟨(Lib.itoa n).toArray⟩) ∧ ∃ k os, w' = grow (w.drewN k) os := Any.strconv_Itoa Tryz.laysM171 n h0 h1 w htab
end Go.Proofs
