/-
  THE GRAMMAR OF PROGRAMS, IN PLAIN MATHEMATICS: what is read of tokens, from a token on, so deep: nodes, equations, terms; or the token that cannot stand there. There is one answer.
-/
import Derived.Test.YtglkpgcmlbhkpabGreatDoorQ05
import Derived.Below
import Derived.Laws.AppendOwn
import Derived.Laws.Rows
import Derived.OwnWalk
import Derived.Deep.AppendLies
import Derived.LoopTactic
namespace Go.Proofs.YtglkpgcmlbhkpabGreatDoor

/-- What is read: a term; a variable (its name, its kind); a name; an equation (its kind; names and a term); a node (its name; four lists). -/
inductive Ex where
  | mk (op : ByteArray) (n : Int) (s : ByteArray) (l : List Ex)
def Ex.op : Ex → ByteArray | .mk op _ _ _ => op
def Ex.n : Ex → Int | .mk _ n _ _ => n
def Ex.s : Ex → ByteArray | .mk _ _ s _ => s
def Ex.l : Ex → List Ex | .mk _ _ _ l => l

inductive Lv where | or | and | sum | prod
/-- What is to be read. -/
inductive Cd where
  | term | left (v : Lv) | loop (v : Lv) (a : List Ex) | not | cmp | un | atom | args | more (a : List Ex)
  | one | vars (a : List Ex) | owns (a : List Ex) | names (a : List Ex) | eq | eqs (a : List Ex) | node | nodes (a : List Ex)
def Lv.part : Lv → Cd
  | .or => .left .and
  | .and => .not
  | .sum => .left .prod
  | .prod => .un
/-- What came of it: these, and the token behind them; or a token that cannot stand (true: too many, too deep). -/
inductive Res where
  | ok (l : List Ex) (j : Nat)
  | bad (j : Nat) (b : Bool)
inductive Act where
  | ret (r : Res)
  | call (c : Cd) (i d : Nat) (k : List Ex → Nat → Act)

abbrev b0 : ByteArray := ⟨#[]⟩
section
variable (l : List Tk)
def tkx (i : Nat) : ByteArray := if h : i < l.length then l[i].text else b0
def tkk (i : Nat) : ByteArray := if h : i < l.length then l[i].kind else b0
/-- The token's text is this one. -/
def tx (i : Nat) (x : List UInt8) : Bool := (tkx l i).toList == x
def isName (i : Nat) : Bool := (tkk l i).toList == [110, 97, 109, 101]
def isInt (i : Nat) : Bool := (tkk l i).toList == [105, 110, 116]
def isEnd (i : Nat) : Bool := (tkk l i).toList == [101, 110, 100]
end

def tIf : List UInt8 := [105, 102]
def tThen : List UInt8 := [116, 104, 101, 110]
def tElse : List UInt8 := [101, 108, 115, 101]
def tArrow : List UInt8 := [45, 62]
def tFby : List UInt8 := [102, 98, 121]
def tOr : List UInt8 := [111, 114]
def tXor : List UInt8 := [120, 111, 114]
def tAnd : List UInt8 := [97, 110, 100]
def tNot : List UInt8 := [110, 111, 116]
def tEq : List UInt8 := [61]
def tNe : List UInt8 := [60, 62]
def tLt : List UInt8 := [60]
def tLe : List UInt8 := [60, 61]
def tGt : List UInt8 := [62]
def tGe : List UInt8 := [62, 61]
def tImp : List UInt8 := [61, 62]
def tPlus : List UInt8 := [43]
def tMinus : List UInt8 := [45]
def tMul : List UInt8 := [42]
def tDiv : List UInt8 := [47]
def tMod : List UInt8 := [109, 111, 100]
def tPre : List UInt8 := [112, 114, 101]
def tTrue : List UInt8 := [116, 114, 117, 101]
def tFalse : List UInt8 := [102, 97, 108, 115, 101]
def tOpen : List UInt8 := [40]
def tShut : List UInt8 := [41]
def tComma : List UInt8 := [44]
def tSemi : List UInt8 := [59]
def tColon : List UInt8 := [58]
def tBool : List UInt8 := [98, 111, 111, 108]
def tInt : List UInt8 := [105, 110, 116]
def tAssert : List UInt8 := [97, 115, 115, 101, 114, 116]
def tCheck : List UInt8 := [99, 104, 101, 99, 107]
def tNode : List UInt8 := [110, 111, 100, 101]
def tReturns : List UInt8 := [114, 101, 116, 117, 114, 110, 115]
def tVar : List UInt8 := [118, 97, 114]
def tLet : List UInt8 := [108, 101, 116]
def tTel : List UInt8 := [116, 101, 108]
def sNeg : ByteArray := ⟨#[110, 101, 103]⟩
def sInt : ByteArray := ⟨#[105, 110, 116]⟩
def sName : ByteArray := ⟨#[110, 97, 109, 101]⟩
def sCall : ByteArray := ⟨#[99, 97, 108, 108]⟩
def sSet : ByteArray := ⟨#[115, 101, 116]⟩

/-- The texts of a list of operators. -/
def Lv.ops : Lv → List (List UInt8)
  | .or => [tOr, tXor]
  | .and => [tAnd]
  | .sum => [tPlus, tMinus]
  | .prod => [tMul, tDiv, tMod]
def cmps : List (List UInt8) := [tEq, tNe, tLt, tLe, tGt, tGe, tImp]

/-- The number of digits. -/
def decOf (x : List UInt8) : Int := x.foldl (fun n c => 10 * n + ((c.toNat : Int) - 48)) 0

section
variable (l : List Tk)
/-- One of these texts. -/
def txs (i : Nat) (xs : List (List UInt8)) : Bool := xs.any (fun x => tx l i x)
def retA (e : List Ex) (j : Nat) : Act := .ret (.ok e j)
def expA (i : Nat) (x : List UInt8) (k : Nat → Act) : Act := if tx l i x then k (i + 1) else .ret (.bad i false)
def nameA (i : Nat) (k : Nat → Act) : Act := if isName l i then k (i + 1) else .ret (.bad i false)
/-- Something opens here. -/
def downA (i d : Nat) (k : Act) : Act := if d = 20 then .ret (.bad i true) else k
def nm (i : Nat) : Ex := .mk (tkx l i) 0 b0 []
def lst (a : List Ex) : Ex := .mk b0 0 b0 a
/-- An equation's term, and its end. -/
def endA (kind : ByteArray) (names : List Ex) (i d : Nat) : Act :=
  .call .term i d fun e j => expA l j tSemi fun k => retA [.mk kind 0 b0 (lst names :: e)] k
/-- What a node has behind its inputs. -/
def bodyA (name : ByteArray) (ins : List Ex) (i d : Nat) : Act :=
  expA l i tShut fun i => expA l i tReturns fun i => expA l i tOpen fun i => .call .one i d fun o i => .call (.vars o) i d fun outs i => expA l i tShut fun i => expA l i tSemi fun i =>
  let rest (owns : List Ex) (i : Nat) : Act := expA l i tLet fun i => .call (.eqs []) i d fun qs i => expA l i tTel fun i => retA [.mk name 0 b0 [lst ins, lst outs, lst owns, lst qs]] i
  if tx l i tVar then .call (.owns []) (i + 1) d rest else rest [] i
/-- THE GRAMMAR. -/
def step (c : Cd) (i d : Nat) : Act :=
  match c with
  | .term =>
    if tx l i tIf then downA i d (.call .term (i + 1) (d + 1) fun a i1 => expA l i1 tThen fun i2 => .call .term i2 (d + 1) fun b i3 => expA l i3 tElse fun i4 => .call .term i4 (d + 1) fun c i5 => retA [.mk (tkx l i) 0 b0 (a ++ b ++ c)] i5)
    else .call (.left .or) i d fun a j => if txs l j [tArrow, tFby] then downA j d (.call .term (j + 1) (d + 1) fun b k => retA [.mk (tkx l j) 0 b0 (a ++ b)] k) else retA a j
  | .left v => .call v.part i d fun a j => .call (.loop v a) j d retA
  | .loop v a => if txs l i v.ops then .call v.part (i + 1) d fun b j => .call (.loop v [.mk (tkx l i) 0 b0 (a ++ b)]) j d retA else retA a i
  | .not => if tx l i tNot then downA i d (.call .not (i + 1) (d + 1) fun a j => retA [.mk ⟨tNot.toArray⟩ 0 b0 a] j) else .call .cmp i d retA
  | .cmp => .call (.left .sum) i d fun a j => if txs l j cmps then .call (.left .sum) (j + 1) d fun b k => retA [.mk (tkx l j) 0 b0 (a ++ b)] k else retA a j
  | .un =>
    if tx l i tMinus then downA i d (.call .un (i + 1) (d + 1) fun a j => retA [.mk sNeg 0 b0 a] j)
    else if tx l i tPre then downA i d (.call .un (i + 1) (d + 1) fun a j => retA [.mk ⟨tPre.toArray⟩ 0 b0 a] j)
    else .call .atom i d retA
  | .atom =>
    if isInt l i then retA [.mk sInt (decOf (tkx l i).toList) b0 []] (i + 1)
    else if txs l i [tTrue, tFalse] then retA [.mk (tkx l i) 0 b0 []] (i + 1)
    else if isName l i then
      if tx l (i + 1) tOpen then downA (i + 1) d (.call .args (i + 1 + 1) (d + 1) fun a j => expA l j tShut fun k => retA [.mk sCall 0 (tkx l i) a] k)
      else retA [.mk sName 0 (tkx l i) []] (i + 1)
    else if tx l i tOpen then downA i d (.call .term (i + 1) (d + 1) fun a j => expA l j tShut fun k => retA a k)
    else .ret (.bad i false)
  | .args => if tx l i tShut then retA [] i else .call .term i d fun a j => .call (.more a) j d retA
  | .more a => if tx l i tComma then .call .term (i + 1) d fun b j => .call (.more (a ++ b)) j d retA else retA a i
  | .one => nameA l i fun j => expA l j tColon fun j => if tx l j tBool then retA [.mk (tkx l i) 1 b0 []] (j + 1) else expA l j tInt fun k => retA [.mk (tkx l i) 2 b0 []] k
  | .vars a => if tx l i tSemi then .call .one (i + 1) d fun v j => .call (.vars (a ++ v)) j d retA else retA a i
  | .owns a => .call .one i d fun v j => expA l j tSemi fun k => if isName l k then .call (.owns (a ++ v)) k d retA else retA (a ++ v) k
  | .names a => if tx l i tComma then nameA l (i + 1) fun j => .call (.names (a ++ [nm l (i + 1)])) j d retA else retA a i
  | .eq =>
    if txs l i [tAssert, tCheck] then endA l (tkx l i) [] (i + 1) d
    else if tx l i tOpen then nameA l (i + 1) fun j => expA l j tComma fun k => nameA l k fun m => .call (.names [nm l (i + 1), nm l k]) m d fun ns j => expA l j tShut fun j => expA l j tEq fun j => endA l sSet ns j d
    else nameA l i fun j => expA l j tEq fun j => endA l sSet [nm l i] j d
  | .eqs a => if tx l i tTel then retA a i else .call .eq i d fun q j => .call (.eqs (a ++ q)) j d retA
  | .node => expA l i tNode fun i => nameA l i fun j => expA l j tOpen fun k => if tx l k tShut then bodyA l (tkx l i) [] k d else .call .one k d fun v j => .call (.vars v) j d fun ins j => bodyA l (tkx l i) ins j d
  | .nodes a => if isEnd l i then retA a i else if tx l i tNode && a.length == 12 then .ret (.bad i true) else .call .node i d fun n j => .call (.nodes (a ++ n)) j d retA

inductive Run : Act → Res → Prop
  | ret (r : Res) : Run (.ret r) r
  | ok (c : Cd) (i d : Nat) (k : List Ex → Nat → Act) (e : List Ex) (j : Nat) (r : Res) : Run (step l c i d) (.ok e j) → Run (k e j) r → Run (.call c i d k) r
  | bad (c : Cd) (i d : Nat) (k : List Ex → Nat → Act) (j : Nat) (b : Bool) : Run (step l c i d) (.bad j b) → Run (.call c i d k) (.bad j b)
/-- What is read there, and what comes of it. -/
def Parse (c : Cd) (i d : Nat) (r : Res) : Prop := Run l (step l c i d) r
end
theorem Run.one {l : List Tk} {a : Act} {r r' : Res} (h : Run l a r) (g : Run l a r') : r = r' := by
  induction h generalizing r' with
  | ret r => cases g; rfl
  | ok c i d k e j r h1 h2 ih1 ih2 =>
    cases g with
    | ok _ _ _ _ e' j' _ g1 g2 =>
      have := ih1 g1
      injection this with e1 e2
      subst e1 e2
      exact ih2 g2
    | bad _ _ _ _ j' b g1 => exact absurd (ih1 g1) (by simp)
  | bad c i d k j b h1 ih1 =>
    cases g with
    | ok _ _ _ _ e' j' _ g1 g2 => exact absurd (ih1 g1) (by simp)
    | bad _ _ _ _ j' b' g1 => exact ih1 g1
theorem Parse.one {l : List Tk} {c : Cd} {i d : Nat} {r r' : Res} (h : Parse l c i d r) (g : Parse l c i d r') : r = r' := Run.one h g
theorem Run.tail {l : List Tk} {c : Cd} {i d : Nat} {r : Res} (h : Parse l c i d r) : Run l (.call c i d retA) r := by
  cases r with
  | ok e j => exact .ok _ _ _ _ e j _ h (.ret _)
  | bad j b => exact .bad _ _ _ _ j b h
end Go.Proofs.YtglkpgcmlbhkpabGreatDoor

/-
  TERMS, VARIABLES, EQUATIONS, NODES IN MEMORY: which cells hold them.
-/
namespace Go.Proofs.YtglkpgcmlbhkpabGreatDoor
open Go.RowKit
/-- n elements of so many cells each lie behind v, in blocks of such numbers: these cells. -/
def RowAt (w : World) (S : Nat → Prop) (size : Nat) (v : Value) (n : Nat) (xs : List Value) : Prop :=
  xs.length = n * size ∧ n ≤ maxLen ∧ ∃ o c, v = .slice o n c ∧ ∀ k x, xs[k]? = some x → ∃ b off, o = some ⟨b, off, none⟩ ∧ S b ∧ w.cell? ⟨b, off + k, none⟩ = some x
/-- Blocks from there on. -/
def From (base : Nat) : Nat → Prop := fun b => base ≤ b
/-- What lies in such blocks stays. -/
def Stays (S S' : Nat → Prop) (w w' : World) : Prop := ∀ b, S b → b < w.heap.size → S' b ∧ w'.heap[b]? = w.heap[b]?
theorem blk_of_cell {w : World} {p : Addr} {v : Value} (hc : w.cell? p = some v) : p.block < w.heap.size := by
  rcases Nat.lt_or_ge p.block w.heap.size with h | h
  · exact h
  · simp [World.cell?, Array.getElem?_eq_none h] at hc
theorem RowAt.keep {w w' : World} {S S' : Nat → Prop} {size n : Nat} {v : Value} {xs : List Value} (h : RowAt w S size v n xs) (hs : Stays S S' w w') : RowAt w' S' size v n xs := by
  obtain ⟨h1, h2, o, c, rfl, h3⟩ := h
  refine ⟨h1, h2, o, c, rfl, fun k x hx => ?_⟩
  obtain ⟨b, off, rfl, hb, hc⟩ := h3 k x hx
  have hs' := hs b hb (blk_of_cell hc)
  exact ⟨b, off, rfl, hs'.1, by rw [World.cell?_of_block (w := w) hs'.2]; exact hc⟩
theorem RowAt.of_owns {w : World} {base size n : Nat} {e : TypeId} {v : Value} {xs : List Value} (h : w.ownsRow base e size v n xs) : RowAt w (From base) size v n xs := by
  obtain ⟨h1, h2⟩ := h
  rcases h2 with ⟨rfl, rfl⟩ | ⟨g, cap, cur, rfl, hg, hh, hc1, hc2, hc3, hc4⟩
  · have : xs = [] := List.eq_nil_of_length_eq_zero (by omega)
    subst this
    exact ⟨by simp, by unfold maxLen; omega, none, 0, rfl, fun k x hx => by simp at hx⟩
  · refine ⟨h1, by omega, _, cap, rfl, fun k x hx => ⟨g, 0, rfl, hg, ?_⟩⟩
    rw [Nat.zero_add, cell_of_row w g k cur e (0, 0) hh]
    rw [← hc4, List.getElem?_take] at hx
    split at hx
    · simpa using hx
    · cases hx
theorem RowAt.at {w : World} {S : Nat → Prop} {size n : Nat} {v : Value} {xs : List Value} (h : RowAt w S size v n xs) (hp : 0 < xs.length) : ∃ b off c, v = .slice (some ⟨b, off, none⟩) n c ∧ S b ∧ b < w.heap.size ∧ ∀ k x, xs[k]? = some x → w.cell? ⟨b, off + k, none⟩ = some x := by
  obtain ⟨h1, h2, o, c, rfl, h3⟩ := h
  obtain ⟨b, off, rfl, hb, hc⟩ := h3 0 xs[0] (List.getElem?_eq_getElem hp)
  refine ⟨b, off, c, rfl, hb, blk_of_cell hc, fun k x hx => ?_⟩
  obtain ⟨b', off', e, _, hc'⟩ := h3 k x hx
  injection e with e; injection e with e1 e2; subst e1 e2
  exact hc'

/-- Terms in memory, their cells one behind the other. -/
inductive ExIn (w : World) (S : Nat → Prop) : List Ex → List Value → Prop
  | nil : ExIn w S [] []
  | cons (op : ByteArray) (n : Int) (s : ByteArray) (l es : List Ex) (lv : Value) (xs ys : List Value) : RowAt w S 4 lv l.length xs → ExIn w S l xs → ExIn w S es ys → ExIn w S (.mk op n s l :: es) (.string op :: .int .i64 n :: .string s :: lv :: ys)
theorem ExIn.keep {w w' : World} {S S' : Nat → Prop} {es : List Ex} {xs : List Value} (h : ExIn w S es xs) (hs : Stays S S' w w') : ExIn w' S' es xs := by
  induction h with
  | nil => exact .nil
  | cons op n s l es lv xs ys h1 _ _ ih1 ih2 => exact .cons op n s l es lv xs ys (h1.keep hs) ih1 ih2
theorem ExIn.length {w : World} {S : Nat → Prop} {es : List Ex} {xs : List Value} (h : ExIn w S es xs) : xs.length = es.length * 4 := by
  induction h with
  | nil => rfl
  | cons op n s l es lv xs ys h1 _ _ _ ih2 => simp only [List.length_cons, ih2]; omega
theorem ExIn.append {w : World} {S : Nat → Prop} {es fs : List Ex} {xs ys : List Value} (h : ExIn w S es xs) (g : ExIn w S fs ys) : ExIn w S (es ++ fs) (xs ++ ys) := by
  induction h with
  | nil => exact g
  | cons op n s l es lv xs ys h1 h2 _ _ ih2 => exact .cons op n s l _ lv xs _ h1 h2 ih2
theorem ExIn.one {w : World} {S : Nat → Prop} {e : Ex} {xs : List Value} (h : ExIn w S [e] xs) : ∃ op n s l lv ys, e = .mk op n s l ∧ xs = [.string op, .int .i64 n, .string s, lv] ∧ RowAt w S 4 lv l.length ys ∧ ExIn w S l ys := by
  cases h with
  | cons op n s l es lv xs ys h1 h2 h3 =>
    cases h3
    exact ⟨op, n, s, l, lv, xs, rfl, rfl, h1, h2⟩
theorem ExIn.one' {w : World} {S : Nat → Prop} {e : Ex} {xs : List Value} (h : ExIn w S [e] xs) : ∃ op n s l o c ys, e = .mk op n s l ∧ xs = [.string op, .int .i64 n, .string s, .slice o l.length c] ∧ RowAt w S 4 (.slice o l.length c) l.length ys ∧ ExIn w S l ys := by
  obtain ⟨op, n, s, l, lv, ys, rfl, rfl, h1, h2⟩ := h.one
  obtain ⟨a1, a2, o, c, rfl, a3⟩ := h1
  exact ⟨op, n, s, l, o, c, ys, rfl, rfl, ⟨a1, a2, o, c, rfl, a3⟩, h2⟩
/-- A term in memory by its value. -/
def ExV (w : World) (S : Nat → Prop) (e : Ex) (v : Value) : Prop := ∃ xs, v = .agg xs ∧ ExIn w S [e] xs.toList
theorem ExV.keep {w w' : World} {S S' : Nat → Prop} {e : Ex} {v : Value} (h : ExV w S e v) (hs : Stays S S' w w') : ExV w' S' e v := by
  obtain ⟨xs, rfl, h⟩ := h
  exact ⟨xs, rfl, h.keep hs⟩
theorem ExV.one {w : World} {S : Nat → Prop} {e : Ex} {v : Value} (h : ExV w S e v) : ∃ op n s l o c ys, e = .mk op n s l ∧ v = .agg #[.string op, .int .i64 n, .string s, .slice o l.length c] ∧ RowAt w S 4 (.slice o l.length c) l.length ys ∧ ExIn w S l ys := by
  obtain ⟨xs, rfl, h⟩ := h
  obtain ⟨op, n, s, l, o, c, ys, rfl, hx, h1, h2⟩ := h.one'
  refine ⟨op, n, s, l, o, c, ys, rfl, ?_, h1, h2⟩
  congr 1
  apply Array.ext'
  rw [hx]
theorem ExV.mk {w : World} {S : Nat → Prop} {op : ByteArray} {n : Int} {s : ByteArray} {l : List Ex} {lv : Value} {ys : List Value} (h1 : RowAt w S 4 lv l.length ys) (h2 : ExIn w S l ys) : ExV w S (.mk op n s l) (.agg #[.string op, .int .i64 n, .string s, lv]) :=
  ⟨_, rfl, .cons op n s l [] lv ys [] h1 h2 .nil⟩
theorem ExV.leaf {w : World} {S : Nat → Prop} {op : ByteArray} {n : Int} {s : ByteArray} : ExV w S (.mk op n s []) (.agg #[.string op, .int .i64 n, .string s, .slice none 0 0]) :=
  .mk (ys := []) ⟨rfl, by unfold maxLen; simp, none, 0, rfl, fun k x hx => by simp at hx⟩ .nil

def varCells (l : List Ex) : List Value := l.flatMap fun e => [.string e.op, .int .i64 e.n]
def nameCells (l : List Ex) : List Value := l.map fun e => .string e.op
/-- Equations in memory. -/
inductive EqIn (w : World) (S : Nat → Prop) : List Ex → List Value → Prop
  | nil : EqIn w S [] []
  | cons (kind : ByteArray) (ns : List Ex) (e : Ex) (es : List Ex) (nv : Value) (xs ys : List Value) : RowAt w S 1 nv ns.length (nameCells ns) → ExIn w S [e] xs → EqIn w S es ys → EqIn w S (.mk kind 0 b0 [lst ns, e] :: es) (.string kind :: nv :: xs ++ ys)
theorem EqIn.keep {w w' : World} {S S' : Nat → Prop} {es : List Ex} {xs : List Value} (h : EqIn w S es xs) (hs : Stays S S' w w') : EqIn w' S' es xs := by
  induction h with
  | nil => exact .nil
  | cons kind ns e es nv xs ys h1 h2 _ ih => exact .cons kind ns e es nv xs ys (h1.keep hs) (h2.keep hs) ih
theorem EqIn.length {w : World} {S : Nat → Prop} {es : List Ex} {xs : List Value} (h : EqIn w S es xs) : xs.length = es.length * 6 := by
  induction h with
  | nil => rfl
  | cons kind ns e es nv xs ys h1 h2 _ ih =>
    have := h2.length
    simp only [List.length_cons, List.length_append, List.length_nil] at *
    omega
theorem EqIn.append {w : World} {S : Nat → Prop} {es fs : List Ex} {xs ys : List Value} (h : EqIn w S es xs) (g : EqIn w S fs ys) : EqIn w S (es ++ fs) (xs ++ ys) := by
  induction h with
  | nil => exact g
  | cons kind ns e es nv xs zs h1 h2 _ ih =>
    have := EqIn.cons kind ns e _ nv xs _ h1 h2 ih
    simpa using this
/-- Nodes in memory. -/
inductive NdIn (w : World) (S : Nat → Prop) : List Ex → List Value → Prop
  | nil : NdIn w S [] []
  | cons (name : ByteArray) (ins outs owns qs es : List Ex) (v1 v2 v3 v4 : Value) (xs ys : List Value) : RowAt w S 2 v1 ins.length (varCells ins) → RowAt w S 2 v2 outs.length (varCells outs) → RowAt w S 2 v3 owns.length (varCells owns) → RowAt w S 6 v4 qs.length xs → EqIn w S qs xs → NdIn w S es ys →
      NdIn w S (.mk name 0 b0 [lst ins, lst outs, lst owns, lst qs] :: es) (.string name :: v1 :: v2 :: v3 :: v4 :: ys)
theorem NdIn.keep {w w' : World} {S S' : Nat → Prop} {es : List Ex} {xs : List Value} (h : NdIn w S es xs) (hs : Stays S S' w w') : NdIn w' S' es xs := by
  induction h with
  | nil => exact .nil
  | cons name ins outs owns qs es v1 v2 v3 v4 xs ys h1 h2 h3 h4 h5 _ ih => exact .cons name ins outs owns qs es v1 v2 v3 v4 xs ys (h1.keep hs) (h2.keep hs) (h3.keep hs) (h4.keep hs) (h5.keep hs) ih
theorem NdIn.length {w : World} {S : Nat → Prop} {es : List Ex} {xs : List Value} (h : NdIn w S es xs) : xs.length = es.length * 5 := by
  induction h with
  | nil => rfl
  | cons => simp only [List.length_cons] at *; omega
theorem NdIn.append {w : World} {S : Nat → Prop} {es fs : List Ex} {xs ys : List Value} (h : NdIn w S es xs) (g : NdIn w S fs ys) : NdIn w S (es ++ fs) (xs ++ ys) := by
  induction h with
  | nil => exact g
  | cons name ins outs owns qs es v1 v2 v3 v4 xs ys h1 h2 h3 h4 h5 _ ih => exact .cons name ins outs owns qs _ v1 v2 v3 v4 xs _ h1 h2 h3 h4 h5 ih
end Go.Proofs.YtglkpgcmlbhkpabGreatDoor

/-
  THE SMALL FUNCTIONS OF THE DOCUMENT'S ANSWER (lustrumref1), BY THEIR CONTRACTS: isLow, isDigit, Has, Words, IntOf, Bare, Fine.
-/
namespace Go.Proofs.YtglkpgcmlbhkpabGreatDoor
open Go.RowKit

theorem isLow_any (c : Int) (w : World) : Calls Tryz.prog 199 #[.int .u8 c] w fun e w' => e = .returned (.bool (lowI c)) ∧ w' = w := by
  go_enter Tryz.func199, Tryz.ntmps199
  go_wp2
  all_goals (go_ret; exact ⟨ret_bool (by simp [lowI]; omega), rfl⟩)
theorem refDigit_any (c : Int) (w : World) : Calls Tryz.prog 200 #[.int .u8 c] w fun e w' => e = .returned (.bool (digI c)) ∧ w' = w := by
  go_enter Tryz.func200, Tryz.ntmps200
  go_wp2
  all_goals (go_ret; exact ⟨ret_bool (by simp [digI]; omega), rfl⟩)

theorem beq_swap (a b : List UInt8) : (a == b) = (b == a) := by
  rw [Bool.eq_iff_iff, beq_iff_eq, beq_iff_eq]; exact eq_comm
/-- Is a text among these? -/
def amongB (ss : List (List UInt8)) (t : ByteArray) : Bool := ss.any fun l => t.toList == l

set_option maxHeartbeats 1000000 in
theorem index_any (b c : Nat) (ss : List (List UInt8)) (t : ByteArray) (w : World) (hc : ∀ k (h : k < ss.length), w.cell? ⟨b, k, none⟩ = some (.string ⟨ss[k].toArray⟩)) (hn : ss.length ≤ 1000) :
    Calls Tryz.prog 165 #[.slice (some ⟨b, 0, none⟩) ss.length c, .string t] w fun e w' => (∃ r : Int, e = .returned (.int .i64 r) ∧ (decide (0 ≤ r) = amongB ss t)) ∧ w' = w := by
  go_enter Tryz.func165, Tryz.ntmps165
  go_wp2
  go_loop [5] (fun i => ∃ k : Nat, k ≤ ss.length ∧ i = .int .i64 k ∧ Hid (∀ j (h : j < ss.length), j < k → (t.toList == ss[j]) = false)) (fun i => ss.length - (intOf i).toNat)
  case atStart => exact ⟨0, Nat.zero_le _, rfl, fun j _ h => by omega⟩
  case round =>
    obtain ⟨k, hk, rfl, hall⟩ := hrel
    by_cases hlt : k < ss.length
    · have hck := hc k hlt
      have hi1 : (k : Int) < (ss.length : Int) := by omega
      by_cases hb : (t.toList == ss[k]) = true
      · have hb' : (ss[k] == t.toList) = true := by rw [beq_swap]; exact hb
        go_wp2
        go_ret
        refine ⟨⟨k, rfl, ?_⟩, rfl⟩
        have h1 : amongB ss t = true := List.any_eq_true.2 ⟨ss[k], List.getElem_mem hlt, hb⟩
        rw [h1]; exact decide_eq_true (by omega)
      · have hb0 : (t.toList == ss[k]) = false := by
          cases h : (t.toList == ss[k]) with
          | true => exact absurd h hb
          | false => rfl
        have hb' : (ss[k] == t.toList) = false := by rw [beq_swap]; exact hb0
        have HB : Hid ((t.toList == ss[k]) = false) := hb0
        clear hb hb0
        go_wp2
        refine ⟨⟨k + 1, by omega, by go_num, ?_⟩, by simp [intOf]; omega⟩
        intro j hj hjk
        by_cases e : j = k
        · subst e; exact HB.out
        · exact hall.out j hj (by omega)
    · obtain rfl : k = ss.length := by omega
      go_wp2
      go_ret
      refine ⟨⟨-1, rfl, ?_⟩, rfl⟩
      have h1 : amongB ss t = false := by
        rw [amongB, List.any_eq_false]
        intro x hx
        obtain ⟨j, hj, rfl⟩ := List.mem_iff_getElem.1 hx
        rw [hall.out j hj hj]
        exact Bool.false_ne_true
      rw [h1]; rfl
theorem has_any (b c : Nat) (ss : List (List UInt8)) (t : ByteArray) (w : World) (hc : ∀ k (h : k < ss.length), w.cell? ⟨b, k, none⟩ = some (.string ⟨ss[k].toArray⟩)) (hn : ss.length ≤ 1000) :
    Calls Tryz.prog 106 #[.slice (some ⟨b, 0, none⟩) ss.length c, .string t] w fun e w' => e = .returned (.bool (amongB ss t)) ∧ w' = w := by
  go_enter Tryz.func106, Tryz.ntmps106
  go_wp2_with fail
  refine (index_any b c ss t _ hc hn).mono ?_
  rintro e w' ⟨⟨r, rfl, hr⟩, rfl⟩
  have HR : Hid (decide (0 ≤ r) = amongB ss t) := hr
  clear hr hc
  go_wp2
  all_goals go_ret
  all_goals exact ⟨ret_bool (by rw [← HR.out]), rfl⟩

def strCells (ss : List (List UInt8)) : Array Value := (ss.map fun l => Value.string ⟨l.toArray⟩).toArray
theorem strCells_at (ss : List (List UInt8)) (k : Nat) (h : k < ss.length) : (strCells ss)[k]? = some (.string ⟨ss[k].toArray⟩) := by
  simp [strCells, h]
theorem words_any (w : World) : Calls Tryz.prog 201 #[] w fun e w' => e = .returned (.slice (some ⟨w.heap.size, 0, none⟩) 21 21) ∧ w' = w.alloc (.cells (strCells wordL) 9) := by
  go_enter Tryz.func201, Tryz.ntmps201
  go_wp2
  go_ret
  exact ⟨rfl, rfl⟩
theorem bare_any (c : Int) (w : World) : Calls Tryz.prog 55 #[.int .i64 c] w fun e w' => e = .returned (.agg #[.int .i64 c, .int .i64 (-1)]) ∧ Below w.heap.size w w' := by
  go_enter Tryz.func55, Tryz.ntmps55
  go_wp2
  exact bodyPost_ret (v := .agg #[.int .i64 c, .int .i64 (-1)]) (by simp [results, Tryz.results55, go_sem]) rfl ⟨rfl, (Below.refl _ _).alloc (Nat.le_refl _) _⟩
theorem fine_any (w : World) : Calls Tryz.prog 57 #[] w fun e w' => e = .returned (.agg #[.int .i64 0, .int .i64 (-1)]) ∧ Below w.heap.size w w' := by
  go_enter Tryz.func57, Tryz.ntmps57
  go_wp2
  exact bodyPost_ret (v := .agg #[.int .i64 0, .int .i64 (-1)]) (by simp [results, Tryz.results57, go_sem]) rfl ⟨rfl, (Below.refl _ _).alloc (Nat.le_refl _) _⟩
end Go.Proofs.YtglkpgcmlbhkpabGreatDoor

/-
  lustrumref1.IntOf BY ITS CONTRACT: of digits: is it a number that the language has?
-/
namespace Go.Proofs.YtglkpgcmlbhkpabGreatDoor
open Go.RowKit

theorem valL_snoc (l : List UInt8) (c : UInt8) : valL (l ++ [c]) = 10 * valL l + (c.toNat - 48) := by simp [valL]
theorem take_snoc (t : ByteArray) (k : Nat) (h : k < t.size) : t.data.toList.take (k + 1) = t.data.toList.take k ++ [t[k]] := by
  rw [List.take_succ_eq_append_getElem (by simpa using h)]; rfl
theorem fold_ge : ∀ (l : List UInt8) (a : Nat), a * 10 ^ l.length ≤ l.foldl (fun n c => 10 * n + (c.toNat - 48)) a
  | [], a => by simp
  | c :: r, a => by
    have := fold_ge r (10 * a + (c.toNat - 48))
    rw [List.foldl_cons, List.length_cons, Nat.pow_succ]
    refine Nat.le_trans ?_ this
    rw [show a * (10 ^ r.length * 10) = (10 * a) * 10 ^ r.length from by rw [Nat.mul_comm 10 a, Nat.mul_assoc, Nat.mul_comm 10]]
    exact Nat.mul_le_mul_right _ (by omega)
/-- Four digits or more are none, be it for a 0 ahead. -/
theorem long_int (t : ByteArray) (h3 : 3 < t.size) (hd : ∀ k, k < t.size → digI (byteI t k) = true) : intB t = false := by
  by_cases hz : byteI t 0 = 48
  · have h1 : 1 < t.size := by omega
    simp [intB, hz, h1]
  · have h0 := hd 0 (by omega)
    have hl : t.data.toList.length = t.size := Array.length_toList
    rcases hx : t.data.toList with _ | ⟨c, r⟩
    · rw [hx] at hl; simp at hl; omega
    · have hb : byteI t 0 = (c.toNat : Int) := by
        rw [byteI_data t 0 (by omega)]
        simp [hx]
      rw [hb] at h0 hz
      simp only [digI, Bool.and_eq_true, decide_eq_true_eq] at h0
      have hv : 1000 ≤ valL t.data.toList := by
        rw [hx]
        show 1000 ≤ r.foldl _ (10 * 0 + (c.toNat - 48))
        refine Nat.le_trans ?_ (fold_ge r _)
        have hr : 3 ≤ r.length := by rw [hx] at hl; simp at hl; omega
        have hp : 10 ^ 3 ≤ 10 ^ r.length := Nat.pow_le_pow_right (by omega) hr
        have hc : 1 ≤ 10 * 0 + (c.toNat - 48) := by omega
        exact Nat.le_trans (by omega : 1000 ≤ 1 * 10 ^ 3) (Nat.mul_le_mul hc hp)
      have hn : ¬ valL t.data.toList ≤ 127 := by omega
      simp [intB, hn]
theorem intB_of (t : ByteArray) (ht : 0 < t.size) (hv : (valL t.data.toList : Int) ≤ 127) (h : (t.size : Int) ≤ 1 ∨ ((t[0].toNat : Int) == 48) = false) : intB t = true := by
  have h1 : valL t.data.toList ≤ 127 := by omega
  rcases h with h | h
  · have h2 : ¬ 1 < t.size := by omega
    simp [intB, h1, h2]
  · have hb : (byteI t 0 == 48) = false := by rw [byteI_lt ht]; exact h
    simp [intB, h1, hb]
theorem intB_big (t : ByteArray) (h : (127 : Int) < (valL t.data.toList : Int)) : intB t = false := by
  have h1 : ¬ valL t.data.toList ≤ 127 := by omega
  simp [intB, h1]
theorem intB_zero (t : ByteArray) (ht : 0 < t.size) (h1 : 1 < (t.size : Int)) (h : ((t[0].toNat : Int) == 48) = true) : intB t = false := by
  have h2 : 1 < t.size := by omega
  have hb : (byteI t 0 == 48) = true := by rw [byteI_lt ht]; exact h
  simp [intB, h2, hb]

set_option maxRecDepth 100000 in
set_option maxHeartbeats 1000000 in
theorem intOf_any (t : ByteArray) (w : World) (ht : 0 < t.size) (hs : t.size ≤ 6000) (hd : ∀ k, k < t.size → digI (byteI t k) = true) :
    Calls Tryz.prog 202 #[.string t] w fun e w' => (∃ r : Int, e = .returned (.int .i64 r) ∧ decide (0 ≤ r) = intB t) ∧ w' = w := by
  have hlen : t.data.toList.length = t.size := Array.length_toList
  go_enter Tryz.func202, Tryz.ntmps202
  go_wp2
  go_loop [3, 4] (fun n i => ∃ (k v : Nat), k ≤ t.size ∧ k ≤ 4 ∧ v ≤ 10000 ∧ i = .int .i64 k ∧ n = .int .i64 v ∧ Hid (v = valL (t.data.toList.take k) ∧ v < 10 ^ k)) (fun _ i => 4 - (intOf i).toNat)
  case atStart => exact ⟨0, 0, Nat.zero_le _, by omega, by omega, rfl, rfl, rfl, by decide⟩
  case round =>
    obtain ⟨k, v, hk, hk4, hv, rfl, rfl, hval⟩ := hrel
    by_cases hlt : k < t.size ∧ k < 4
    · obtain ⟨hl1, hl2⟩ := hlt
      have hdk := hd k hl1
      rw [byteI_lt hl1] at hdk
      simp only [digI, Bool.and_eq_true, decide_eq_true_eq] at hdk
      obtain ⟨q1, q2⟩ := hdk
      go_wp2
      obtain ⟨hv1, hv2⟩ := hval.out
      have hp : 10 ^ (k + 1) ≤ 10 ^ 4 := Nat.pow_le_pow_right (by omega) (by omega)
      have hlt' : 10 * v + (t[k].toNat - 48) < 10 ^ (k + 1) := by rw [Nat.pow_succ]; omega
      refine ⟨⟨k + 1, 10 * v + (t[k].toNat - 48), by omega, by omega, by omega, by go_num, ?_, ?_, hlt'⟩, by simp [intOf]; omega⟩
      · have e : (10 * (v : Int) + ((t[k].toNat : Int) - 48)) = ((10 * v + (t[k].toNat - 48) : Nat) : Int) := by omega
        rw [e]
      · rw [take_snoc t k hl1, valL_snoc, ← hv1]
    · by_cases h4 : 3 < t.size
      · have hB := long_int t h4 hd
        have HBB : Hid (intB t = false) := hB
        clear hd hB
        by_cases hkt : k < t.size
        · go_wp2
          all_goals (go_ret; exact ⟨⟨-1, rfl, by rw [HBB.out]; rfl⟩, rfl⟩)
        · go_wp2
          all_goals (go_ret; exact ⟨⟨-1, rfl, by rw [HBB.out]; rfl⟩, rfl⟩)
      · obtain rfl : k = t.size := by omega
        have e1 := hval.out.1
        rw [List.take_of_length_le (by omega)] at e1
        subst e1
        clear hd
        go_wp2
        all_goals go_ret
        all_goals (first
          | exact ⟨⟨_, rfl, by rw [intB_big t ‹_›]; rfl⟩, rfl⟩
          | exact ⟨⟨_, rfl, by rw [intB_of t ht ‹_› (Or.inl ‹_›)]; exact decide_eq_true (by omega)⟩, rfl⟩
          | exact ⟨⟨_, rfl, by rw [intB_of t ht ‹_› (Or.inr (And.right ‹_›))]; exact decide_eq_true (by omega)⟩, rfl⟩
          | exact ⟨⟨_, rfl, by rw [intB_zero t ht ‹1 < (t.size : Int)› (by have h := ‹(3 < (t.size : Int) ∨ _) ∨ _›; rcases h with (h | h) | h; (exfalso; omega); (exfalso; omega); exact h)]; rfl⟩, rfl⟩)
end Go.Proofs.YtglkpgcmlbhkpabGreatDoor
