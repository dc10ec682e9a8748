/-
  THE GRAMMAR OF PROGRAMS, IN PLAIN MATHEMATICS: what is read of tokens, from a token on, so deep: nodes, equations, terms; or the token that cannot stand there. There is one answer.
-/
import Derived.Test.YtomgimfmcfjhdaaGreatDoorP06
namespace Go.Proofs.YtomgimfmcfjhdaaGreatDoor

/-- What is read: a term; a variable (its name, its kind); a name; an equation (its kind; names and a term); a node (its name; four lists). -/
inductive Ex where
  | mk (op : ByteArray) (n : Int) (s : ByteArray) (l : List Ex)
def Ex.op : Ex → ByteArray | .mk op _ _ _ => op
def Ex.n : Ex → Int | .mk _ n _ _ => n
def Ex.s : Ex → ByteArray | .mk _ _ s _ => s
def Ex.l : Ex → List Ex | .mk _ _ _ l => l

inductive Lv where | or | and | sum | prod
/-- What is to be read. -/
inductive Cd where
  | term | left (v : Lv) | loop (v : Lv) (a : List Ex) | not | cmp | un | atom | args | more (a : List Ex)
  | one | vars (a : List Ex) | owns (a : List Ex) | names (a : List Ex) | eq | eqs (a : List Ex) | node | nodes (a : List Ex)
def Lv.part : Lv → Cd
  | .or => .left .and
  | .and => .not
  | .sum => .left .prod
  | .prod => .un
/-- What came of it: these, and the token behind them; or a token that cannot stand (true: too many, too deep). -/
inductive Res where
  | ok (l : List Ex) (j : Nat)
  | bad (j : Nat) (b : Bool)
inductive Act where
  | ret (r : Res)
  | call (c : Cd) (i d : Nat) (k : List Ex → Nat → Act)

abbrev b0 : ByteArray := ⟨#[]⟩
section
variable (l : List Tk)
def tkx (i : Nat) : ByteArray := if h : i < l.length then l[i].text else b0
def tkk (i : Nat) : ByteArray := if h : i < l.length then l[i].kind else b0
/-- The token's text is this one. -/
def tx (i : Nat) (x : List UInt8) : Bool := (tkx l i).toList == x
def isName (i : Nat) : Bool := (tkk l i).toList == [110, 97, 109, 101]
def isInt (i : Nat) : Bool := (tkk l i).toList == [105, 110, 116]
def isEnd (i : Nat) : Bool := (tkk l i).toList == [101, 110, 100]
end

def tIf : List UInt8 := [105, 102]
def tThen : List UInt8 := [116, 104, 101, 110]
def tElse : List UInt8 := [101, 108, 115, 101]
def tArrow : List UInt8 := [45, 62]
def tFby : List UInt8 := [102, 98, 121]
def tOr : List UInt8 := [111, 114]
def tXor : List UInt8 := [120, 111, 114]
def tAnd : List UInt8 := [97, 110, 100]
def tNot : List UInt8 := [110, 111, 116]
def tEq : List UInt8 := [61]
def tNe : List UInt8 := [60, 62]
def tLt : List UInt8 := [60]
def tLe : List UInt8 := [60, 61]
def tGt : List UInt8 := [62]
def tGe : List UInt8 := [62, 61]
def tImp : List UInt8 := [61, 62]
def tPlus : List UInt8 := [43]
def tMinus : List UInt8 := [45]
def tMul : List UInt8 := [42]
def tDiv : List UInt8 := [47]
def tMod : List UInt8 := [109, 111, 100]
def tPre : List UInt8 := [112, 114, 101]
def tTrue : List UInt8 := [116, 114, 117, 101]
def tFalse : List UInt8 := [102, 97, 108, 115, 101]
def tOpen : List UInt8 := [40]
def tShut : List UInt8 := [41]
def tComma : List UInt8 := [44]
def tSemi : List UInt8 := [59]
def tColon : List UInt8 := [58]
def tBool : List UInt8 := [98, 111, 111, 108]
def tInt : List UInt8 := [105, 110, 116]
def tAssert : List UInt8 := [97, 115, 115, 101, 114, 116]
def tCheck : List UInt8 := [99, 104, 101, 99, 107]
def tNode : List UInt8 := [110, 111, 100, 101]
def tReturns : List UInt8 := [114, 101, 116, 117, 114, 110, 115]
def tVar : List UInt8 := [118, 97, 114]
def tLet : List UInt8 := [108, 101, 116]
def tTel : List UInt8 := [116, 101, 108]
def sNeg : ByteArray := ⟨#[110, 101, 103]⟩
def sInt : ByteArray := ⟨#[105, 110, 116]⟩
def sName : ByteArray := ⟨#[110, 97, 109, 101]⟩
def sCall : ByteArray := ⟨#[99, 97, 108, 108]⟩
def sSet : ByteArray := ⟨#[115, 101, 116]⟩

/-- The texts of a list of operators. -/
def Lv.ops : Lv → List (List UInt8)
  | .or => [tOr, tXor]
  | .and => [tAnd]
  | .sum => [tPlus, tMinus]
  | .prod => [tMul, tDiv, tMod]
def cmps : List (List UInt8) := [tEq, tNe, tLt, tLe, tGt, tGe, tImp]

/-- The number of digits. -/
def decOf (x : List UInt8) : Int := x.foldl (fun n c => 10 * n + ((c.toNat : Int) - 48)) 0

section
variable (l : List Tk)
/-- One of these texts. -/
def txs (i : Nat) (xs : List (List UInt8)) : Bool := xs.any (fun x => tx l i x)
def retA (e : List Ex) (j : Nat) : Act := .ret (.ok e j)
def expA (i : Nat) (x : List UInt8) (k : Nat → Act) : Act := if tx l i x then k (i + 1) else .ret (.bad i false)
def nameA (i : Nat) (k : Nat → Act) : Act := if isName l i then k (i + 1) else .ret (.bad i false)
/-- Something opens here. -/
def downA (i d : Nat) (k : Act) : Act := if d = 20 then .ret (.bad i true) else k
def nm (i : Nat) : Ex := .mk (tkx l i) 0 b0 []
def lst (a : List Ex) : Ex := .mk b0 0 b0 a
/-- An equation's term, and its end. -/
def endA (kind : ByteArray) (names : List Ex) (i d : Nat) : Act :=
  .call .term i d fun e j => expA l j tSemi fun k => retA [.mk kind 0 b0 (lst names :: e)] k
/-- What a node has behind its inputs. -/
def bodyA (name : ByteArray) (ins : List Ex) (i d : Nat) : Act :=
  expA l i tShut fun i => expA l i tReturns fun i => expA l i tOpen fun i => .call .one i d fun o i => .call (.vars o) i d fun outs i => expA l i tShut fun i => expA l i tSemi fun i =>
  let rest (owns : List Ex) (i : Nat) : Act := expA l i tLet fun i => .call (.eqs []) i d fun qs i => expA l i tTel fun i => retA [.mk name 0 b0 [lst ins, lst outs, lst owns, lst qs]] i
  if tx l i tVar then .call (.owns []) (i + 1) d rest else rest [] i
/-- THE GRAMMAR. -/
def step (c : Cd) (i d : Nat) : Act :=
  match c with
  | .term =>
    if tx l i tIf then downA i d (.call .term (i + 1) (d + 1) fun a i1 => expA l i1 tThen fun i2 => .call .term i2 (d + 1) fun b i3 => expA l i3 tElse fun i4 => .call .term i4 (d + 1) fun c i5 => retA [.mk (tkx l i) 0 b0 (a ++ b ++ c)] i5)
    else .call (.left .or) i d fun a j => if txs l j [tArrow, tFby] then downA j d (.call .term (j + 1) (d + 1) fun b k => retA [.mk (tkx l j) 0 b0 (a ++ b)] k) else retA a j
  | .left v => .call v.part i d fun a j => .call (.loop v a) j d retA
  | .loop v a => if txs l i v.ops then .call v.part (i + 1) d fun b j => .call (.loop v [.mk (tkx l i) 0 b0 (a ++ b)]) j d retA else retA a i
  | .not => if tx l i tNot then downA i d (.call .not (i + 1) (d + 1) fun a j => retA [.mk ⟨tNot.toArray⟩ 0 b0 a] j) else .call .cmp i d retA
  | .cmp => .call (.left .sum) i d fun a j => if txs l j cmps then .call (.left .sum) (j + 1) d fun b k => retA [.mk (tkx l j) 0 b0 (a ++ b)] k else retA a j
  | .un =>
    if tx l i tMinus then downA i d (.call .un (i + 1) (d + 1) fun a j => retA [.mk sNeg 0 b0 a] j)
    else if tx l i tPre then downA i d (.call .un (i + 1) (d + 1) fun a j => retA [.mk ⟨tPre.toArray⟩ 0 b0 a] j)
    else .call .atom i d retA
  | .atom =>
    if isInt l i then retA [.mk sInt (decOf (tkx l i).toList) b0 []] (i + 1)
    else if txs l i [tTrue, tFalse] then retA [.mk (tkx l i) 0 b0 []] (i + 1)
    else if isName l i then
      if tx l (i + 1) tOpen then downA (i + 1) d (.call .args (i + 1 + 1) (d + 1) fun a j => expA l j tShut fun k => retA [.mk sCall 0 (tkx l i) a] k)
      else retA [.mk sName 0 (tkx l i) []] (i + 1)
    else if tx l i tOpen then downA i d (.call .term (i + 1) (d + 1) fun a j => expA l j tShut fun k => retA a k)
    else .ret (.bad i false)
  | .args => if tx l i tShut then retA [] i else .call .term i d fun a j => .call (.more a) j d retA
  | .more a => if tx l i tComma then .call .term (i + 1) d fun b j => .call (.more (a ++ b)) j d retA else retA a i
  | .one => nameA l i fun j => expA l j tColon fun j => if tx l j tBool then retA [.mk (tkx l i) 1 b0 []] (j + 1) else expA l j tInt fun k => retA [.mk (tkx l i) 2 b0 []] k
  | .vars a => if tx l i tSemi then .call .one (i + 1) d fun v j => .call (.vars (a ++ v)) j d retA else retA a i
  | .owns a => .call .one i d fun v j => expA l j tSemi fun k => if isName l k then .call (.owns (a ++ v)) k d retA else retA (a ++ v) k
  | .names a => if tx l i tComma then nameA l (i + 1) fun j => .call (.names (a ++ [nm l (i + 1)])) j d retA else retA a i
  | .eq =>
    if txs l i [tAssert, tCheck] then endA l (tkx l i) [] (i + 1) d
    else if tx l i tOpen then nameA l (i + 1) fun j => expA l j tComma fun k => nameA l k fun m => .call (.names [nm l (i + 1), nm l k]) m d fun ns j => expA l j tShut fun j => expA l j tEq fun j => endA l sSet ns j d
    else nameA l i fun j => expA l j tEq fun j => endA l sSet [nm l i] j d
  | .eqs a => if tx l i tTel then retA a i else .call .eq i d fun q j => .call (.eqs (a ++ q)) j d retA
  | .node => expA l i tNode fun i => nameA l i fun j => expA l j tOpen fun k => if tx l k tShut then bodyA l (tkx l i) [] k d else .call .one k d fun v j => .call (.vars v) j d fun ins j => bodyA l (tkx l i) ins j d
  | .nodes a => if isEnd l i then retA a i else if tx l i tNode && a.length == 12 then .ret (.bad i true) else .call .node i d fun n j => .call (.nodes (a ++ n)) j d retA

inductive Run : Act → Res → Prop
  | ret (r : Res) : Run (.ret r) r
  | ok (c : Cd) (i d : Nat) (k : List Ex → Nat → Act) (e : List Ex) (j : Nat) (r : Res) : Run (step l c i d) (.ok e j) → Run (k e j) r → Run (.call c i d k) r
  | bad (c : Cd) (i d : Nat) (k : List Ex → Nat → Act) (j : Nat) (b : Bool) : Run (step l c i d) (.bad j b) → Run (.call c i d k) (.bad j b)
/-- What is read there, and what comes of it. -/
def Parse (c : Cd) (i d : Nat) (r : Res) : Prop := Run l (step l c i d) r
end
theorem Run.one {l : List Tk} {a : Act} {r r' : Res} (h : Run l a r) (g : Run l a r') : r = r' := by
  induction h generalizing r' with
  | ret r => cases g; rfl
  | ok c i d k e j r h1 h2 ih1 ih2 =>
    cases g with
    | ok _ _ _ _ e' j' _ g1 g2 =>
      have := ih1 g1
      injection this with e1 e2
      subst e1 e2
      exact ih2 g2
    | bad _ _ _ _ j' b g1 => exact absurd (ih1 g1) (by simp)
  | bad c i d k j b h1 ih1 =>
    cases g with
    | ok _ _ _ _ e' j' _ g1 g2 => exact absurd (ih1 g1) (by simp)
    | bad _ _ _ _ j' b' g1 => exact ih1 g1
theorem Parse.one {l : List Tk} {c : Cd} {i d : Nat} {r r' : Res} (h : Parse l c i d r) (g : Parse l c i d r') : r = r' := Run.one h g
theorem Run.tail {l : List Tk} {c : Cd} {i d : Nat} {r : Res} (h : Parse l c i d r) : Run l (.call c i d retA) r := by
  cases r with
  | ok e j => exact .ok _ _ _ _ e j _ h (.ret _)
  | bad j b => exact .bad _ _ _ _ j b h
end Go.Proofs.YtomgimfmcfjhdaaGreatDoor

/-
  STEPS OF THE GRAMMAR, IN PLAIN MATHEMATICS: by which what is read is put together.
-/
namespace Go.Proofs.YtomgimfmcfjhdaaGreatDoor

section
variable {l : List Tk} {r : Res} {i d j : Nat} {a b : List Ex}
theorem Run.ifT {c : Bool} {x y : Act} (h : c = true) (p : Run l x r) : Run l (if c then x else y) r := by rw [if_pos h]; exact p
theorem Run.ifF {c : Bool} {x y : Act} (h : c = false) (p : Run l y r) : Run l (if c then x else y) r := by rw [if_neg (by rw [h]; exact Bool.false_ne_true)]; exact p
theorem Run.down {k : Act} (h : d ≠ 20) (p : Run l k r) : Run l (downA i d k) r := by rw [downA, if_neg h]; exact p
theorem Run.deep {k : Act} (h : d = 20) : Run l (downA i d k) (.bad i true) := by rw [downA, if_pos h]; exact .ret _
theorem Run.exp {x : List UInt8} {k : Nat → Act} (h : tx l i x = true) (p : Run l (k (i + 1)) r) : Run l (expA l i x k) r := by rw [expA, if_pos h]; exact p
theorem Run.unexp {x : List UInt8} {k : Nat → Act} (h : tx l i x = false) : Run l (expA l i x k) (.bad i false) := by rw [expA, if_neg (by rw [h]; exact Bool.false_ne_true)]; exact .ret _
theorem Run.nam {k : Nat → Act} (h : isName l i = true) (p : Run l (k (i + 1)) r) : Run l (nameA l i k) r := by rw [nameA, if_pos h]; exact p
theorem Run.unnam {k : Nat → Act} (h : isName l i = false) : Run l (nameA l i k) (.bad i false) := by rw [nameA, if_neg (by rw [h]; exact Bool.false_ne_true)]; exact .ret _
theorem Run.then {c : Cd} {k : List Ex → Nat → Act} (h : Parse l c i d (.ok a j)) (p : Run l (k a j) r) : Run l (.call c i d k) r := .ok c i d k a j r h p
theorem Run.stop {c : Cd} {k : List Ex → Nat → Act} {bd : Bool} (h : Parse l c i d (.bad j bd)) : Run l (.call c i d k) (.bad j bd) := .bad c i d k j bd h
theorem Run.done : Run l (retA a j) (.ok a j) := .ret _
theorem Parse.left (v : Lv) (h : Parse l v.part i d (.ok a j)) (p : Parse l (.loop v a) j d r) : Parse l (.left v) i d r := Run.then h (Run.tail p)
theorem Parse.loopMore (v : Lv) (h : txs l i v.ops = true) (p : Parse l v.part (i + 1) d (.ok b j)) (q : Parse l (.loop v [.mk (tkx l i) 0 b0 (a ++ b)]) j d r) : Parse l (.loop v a) i d r := Run.ifT h (Run.then p (Run.tail q))
theorem Parse.loopBad (v : Lv) {bd : Bool} (h : txs l i v.ops = true) (p : Parse l v.part (i + 1) d (.bad j bd)) : Parse l (.loop v a) i d (.bad j bd) := Run.ifT h (Run.stop p)
theorem Parse.loopStop (v : Lv) (h : txs l i v.ops = false) : Parse l (.loop v a) i d (.ok a i) := Run.ifF h Run.done
theorem Parse.notMore (h : tx l i tNot = true) (hd : d ≠ 20) (p : Parse l .not (i + 1) (d + 1) (.ok a j)) : Parse l .not i d (.ok [.mk ⟨tNot.toArray⟩ 0 b0 a] j) := Run.ifT h (Run.down hd (Run.then p Run.done))
theorem Parse.ifMore {c : List Ex} {i1 i2 i3 : Nat} (h : tx l i tIf = true) (hd : d ≠ 20) (p : Parse l .term (i + 1) (d + 1) (.ok a i1)) (h1 : tx l i1 tThen = true) (q : Parse l .term (i1 + 1) (d + 1) (.ok b i2)) (h2 : tx l i2 tElse = true) (s : Parse l .term (i2 + 1) (d + 1) (.ok c i3)) : Parse l .term i d (.ok [.mk (tkx l i) 0 b0 (a ++ b ++ c)] i3) :=
  Run.ifT h (Run.down hd (Run.then p (Run.exp h1 (Run.then q (Run.exp h2 (Run.then s Run.done))))))
end
end Go.Proofs.YtomgimfmcfjhdaaGreatDoor

/-
  HOW LONG THE LISTS ARE THAT ARE READ (mathematics alone): no longer than there are tokens, and four.
-/
namespace Go.Proofs.YtomgimfmcfjhdaaGreatDoor

/-- No list in these is longer. -/
inductive Fit (N : Nat) : List Ex → Prop
  | nil : Fit N []
  | cons (op : ByteArray) (n : Int) (s : ByteArray) (l es : List Ex) : l.length ≤ N → Fit N l → Fit N es → Fit N (.mk op n s l :: es)
theorem Fit.append {N : Nat} {a b : List Ex} (h : Fit N a) (g : Fit N b) : Fit N (a ++ b) := by
  induction h with
  | nil => exact g
  | cons op n s l es h1 h2 _ _ ih => exact .cons op n s l _ h1 h2 ih
theorem Fit.one {N : Nat} {op : ByteArray} {n : Int} {s : ByteArray} {l : List Ex} (h1 : l.length ≤ N) (h2 : Fit N l) : Fit N [.mk op n s l] := .cons op n s l [] h1 h2 .nil
theorem Fit.leaf {N : Nat} {op : ByteArray} {n : Int} {s : ByteArray} : Fit N [.mk op n s []] := .one (Nat.zero_le _) .nil

section
variable (l : List Tk)
/-- What must hold ahead of a call: no more is gathered than was read. -/
def Pre (c : Cd) (i : Nat) : Prop := match c with
  | .loop _ a => a.length = 1 ∧ Fit (l.length + 4) a
  | .more a | .vars a | .owns a | .names a | .eqs a | .nodes a => a.length ≤ i ∧ Fit (l.length + 4) a
  | _ => True
def Post (c : Cd) (i : Nat) (e : List Ex) (j : Nat) : Prop := Fit (l.length + 4) e ∧ match c with
  | .term | .left _ | .not | .cmp | .un | .atom | .one | .eq | .node => e.length = 1 ∧ i < j ∧ j ≤ l.length
  | .loop _ _ => e.length = 1 ∧ i ≤ j ∧ (i ≤ l.length → j ≤ l.length)
  | .args | .more _ | .vars _ | .owns _ | .names _ | .eqs _ | .nodes _ => e.length ≤ j ∧ i ≤ j ∧ (i ≤ l.length → j ≤ l.length)
/-- All its calls are so, and so is what it tells. -/
def Vc (Q : List Ex → Nat → Prop) : Act → Prop
  | .ret (.ok e j) => Q e j
  | .ret (.bad _ _) => True
  | .call c i _ k => Pre l c i ∧ ∀ e j, Post l c i e j → Vc Q (k e j)
end
section
variable {l : List Tk}
theorem tx_lt {i : Nat} {x : List UInt8} (h : tx l i x = true) (hx : x ≠ []) : i < l.length := by
  rcases Nat.lt_or_ge i l.length with h1 | h1
  · exact h1
  · exfalso
    have : tkx l i = b0 := by unfold tkx; rw [dif_neg (by omega)]
    rw [tx, this, ByteArray.toList_eq] at h
    simp at h
    exact hx h
theorem txs_lt {i : Nat} {xs : List (List UInt8)} (h : txs l i xs = true) (hx : [] ∉ xs) : i < l.length := by
  rw [txs, List.any_eq_true] at h
  obtain ⟨x, h1, h2⟩ := h
  exact tx_lt h2 (fun e => hx (e ▸ h1))
theorem kind_lt {i : Nat} {x : List UInt8} (h : ((tkk l i).toList == x) = true) (hx : x ≠ []) : i < l.length := by
  rcases Nat.lt_or_ge i l.length with h1 | h1
  · exact h1
  · exfalso
    have : tkk l i = b0 := by unfold tkk; rw [dif_neg (by omega)]
    rw [this, ByteArray.toList_eq] at h
    simp at h
    exact hx h
theorem Vc.exp {Q : List Ex → Nat → Prop} {i : Nat} {x : List UInt8} {k : Nat → Act} (hx : x ≠ []) (h : i < l.length → Vc l Q (k (i + 1))) : Vc l Q (expA l i x k) := by
  unfold expA
  split
  · rename_i g; exact h (tx_lt g hx)
  · exact trivial
theorem Vc.nam {Q : List Ex → Nat → Prop} {i : Nat} {k : Nat → Act} (h : i < l.length → Vc l Q (k (i + 1))) : Vc l Q (nameA l i k) := by
  unfold nameA
  split
  · rename_i g; exact h (kind_lt g (by simp))
  · exact trivial
theorem Vc.down {Q : List Ex → Nat → Prop} {i d : Nat} {k : Act} (h : Vc l Q k) : Vc l Q (downA i d k) := by
  unfold downA
  split
  · exact trivial
  · exact h
theorem Vc.ite {Q : List Ex → Nat → Prop} {c : Bool} {x y : Act} (h : c = true → Vc l Q x) (g : c = false → Vc l Q y) : Vc l Q (if c then x else y) := by
  cases c with
  | true => exact h rfl
  | false => exact g rfl
theorem Vc.call {Q : List Ex → Nat → Prop} {c : Cd} {i d : Nat} {k : List Ex → Nat → Act} (h : Pre l c i) (g : ∀ e j, Post l c i e j → Vc l Q (k e j)) : Vc l Q (.call c i d k) := ⟨h, g⟩
theorem Vc.ret {Q : List Ex → Nat → Prop} {e : List Ex} {j : Nat} (h : Q e j) : Vc l Q (retA e j) := h
theorem post_part {v : Lv} {i j : Nat} {e : List Ex} (h : Post l v.part i e j) : Fit (l.length + 4) e ∧ e.length = 1 ∧ i < j ∧ j ≤ l.length := by cases v <;> exact h
theorem pre_part {v : Lv} {i : Nat} : Pre l v.part i := by cases v <;> exact trivial
theorem fit_nm {i : Nat} : Fit (l.length + 4) [nm l i] := .leaf
theorem fit_lst {a b : List Ex} (h : a.length ≤ l.length) (h1 : Fit (l.length + 4) a) (h2 : Fit (l.length + 4) b) : Fit (l.length + 4) (lst a :: b) := .cons _ _ _ a b (by omega) h1 h2

theorem vc_end {kind : ByteArray} {names : List Ex} {i i0 d : Nat} (h1 : names.length ≤ l.length) (h2 : Fit (l.length + 4) names) (hi : i0 < i) : Vc l (Post l .eq i0) (endA l kind names i d) :=
  .call trivial fun e j ⟨f, h3, h4, h5⟩ => .exp (by decide) fun h6 => .ret ⟨.one (by simp [h3]) (fit_lst h1 h2 f), rfl, by omega, by omega⟩
theorem vc_body {name : ByteArray} {ins : List Ex} {i i0 d : Nat} (h1 : ins.length ≤ l.length) (h2 : Fit (l.length + 4) ins) (hi : i0 < i) : Vc l (Post l .node i0) (bodyA l name ins i d) := by
  refine .exp (by decide) fun a1 => .exp (by decide) fun a2 => .exp (by decide) fun a3 => .call trivial fun o i1 ⟨f1, b1, b2, b3⟩ => .call ⟨by omega, f1⟩ fun outs i2 ⟨f2, c1, c2, c3⟩ => .exp (by decide) fun a4 => .exp (by decide) fun a5 => ?_
  have R : ∀ (owns : List Ex) (i : Nat), owns.length ≤ l.length → Fit (l.length + 4) owns → i0 < i → Vc l (Post l .node i0) (expA l i tLet fun i => .call (.eqs []) i d fun qs i => expA l i tTel fun i => retA [.mk name 0 b0 [lst ins, lst outs, lst owns, lst qs]] i) := by
    intro owns i g1 g2 g3
    exact .exp (by decide) fun a1 => .call ⟨Nat.zero_le _, .nil⟩ fun qs j ⟨f3, d1, d2, d3⟩ => .exp (by decide) fun a6 => .ret ⟨.one (by simp) (fit_lst h1 h2 (fit_lst (by omega) f2 (fit_lst g1 g2 (fit_lst (by omega) f3 .nil)))), rfl, by omega, by omega⟩
  refine .ite (fun g => .call ⟨Nat.zero_le _, .nil⟩ fun owns j ⟨f3, d1, d2, d3⟩ => ?_) (fun _ => R [] _ (Nat.zero_le _) .nil (by omega))
  have := tx_lt g (by decide)
  exact R owns j (by have := d3 (by omega); omega) f3 (by omega)

theorem vc_step (c : Cd) (i d : Nat) (h : Pre l c i) : Vc l (Post l c i) (step l c i d) := by
  cases c with
  | term =>
    refine .ite (fun g => ?_) (fun _ => ?_)
    · exact .down (.call trivial fun a i1 ⟨f1, a1, a2, a3⟩ => .exp (by decide) fun _ => .call trivial fun b i2 ⟨f2, b1, b2, b3⟩ => .exp (by decide) fun _ => .call trivial fun c i3 ⟨f3, c1, c2, c3⟩ => .ret ⟨.one (by simp [a1, b1, c1]) ((f1.append f2).append f3), rfl, by omega, by omega⟩)
    · exact .call trivial fun a j ⟨f1, a1, a2, a3⟩ => .ite (fun g => .down (.call trivial fun b k ⟨f2, b1, b2, b3⟩ => .ret ⟨.one (by simp [a1, b1]) (f1.append f2), rfl, by omega, by omega⟩)) (fun _ => .ret ⟨f1, a1, a2, a3⟩)
  | left v => exact .call pre_part fun a j hp => .call ⟨(post_part hp).2.1, (post_part hp).1⟩ fun b k ⟨f2, b1, b2, b3⟩ => .ret ⟨f2, b1, by have := (post_part hp).2.2.1; omega, b3 (post_part hp).2.2.2⟩
  | loop v a =>
    obtain ⟨h1, h2⟩ := h
    refine .ite (fun g => .call pre_part fun b j hp => ?_) (fun _ => .ret ⟨h2, h1, Nat.le_refl _, fun h => h⟩)
    obtain ⟨f1, a1, a2, a3⟩ := post_part hp
    exact .call ⟨rfl, .one (by simp [h1, a1]) (h2.append f1)⟩ fun e k ⟨f2, b1, b2, b3⟩ => .ret ⟨f2, b1, by omega, fun _ => b3 a3⟩
  | not => exact .ite (fun g => .down (.call trivial fun a j ⟨f1, a1, a2, a3⟩ => .ret ⟨.one (by simp [a1]) f1, rfl, by omega, a3⟩)) (fun _ => .call trivial fun a j ⟨f1, a1, a2, a3⟩ => .ret ⟨f1, a1, a2, a3⟩)
  | cmp => exact .call trivial fun a j ⟨f1, a1, a2, a3⟩ => .ite (fun g => .call trivial fun b k ⟨f2, b1, b2, b3⟩ => .ret ⟨.one (by simp [a1, b1]) (f1.append f2), rfl, by omega, b3⟩) (fun _ => .ret ⟨f1, a1, a2, a3⟩)
  | un => exact .ite (fun g => .down (.call trivial fun a j ⟨f1, a1, a2, a3⟩ => .ret ⟨.one (by simp [a1]) f1, rfl, by omega, a3⟩)) (fun _ => .ite (fun g => .down (.call trivial fun a j ⟨f1, a1, a2, a3⟩ => .ret ⟨.one (by simp [a1]) f1, rfl, by omega, a3⟩)) (fun _ => .call trivial fun a j ⟨f1, a1, a2, a3⟩ => .ret ⟨f1, a1, a2, a3⟩))
  | atom =>
    refine .ite (fun g => .ret ⟨.leaf, rfl, by omega, kind_lt g (by simp)⟩) fun _ => .ite (fun g => .ret ⟨.leaf, rfl, by omega, txs_lt g (by decide)⟩) fun _ => .ite (fun g => ?_) fun _ => .ite (fun g => ?_) fun _ => trivial
    · exact .ite (fun g1 => .down (.call trivial fun a j ⟨f1, a1, a2, a3⟩ => .exp (by decide) fun h => .ret ⟨.one (by omega) f1, rfl, by omega, by omega⟩)) (fun _ => .ret ⟨.leaf, rfl, by omega, kind_lt g (by simp)⟩)
    · exact .down (.call trivial fun a j ⟨f1, a1, a2, a3⟩ => .exp (by decide) fun h => .ret ⟨f1, a1, by omega, by omega⟩)
  | args => exact .ite (fun g => .ret ⟨.nil, Nat.zero_le _, Nat.le_refl _, fun h => h⟩) (fun _ => .call trivial fun a j ⟨f1, a1, a2, a3⟩ => .call ⟨by omega, f1⟩ fun b k ⟨f2, b1, b2, b3⟩ => .ret ⟨f2, b1, by omega, fun _ => b3 a3⟩)
  | more a => exact .ite (fun g => .call trivial fun b j ⟨f1, a1, a2, a3⟩ => .call ⟨by have := h.1; simp; omega, h.2.append f1⟩ fun e k ⟨f2, b1, b2, b3⟩ => .ret ⟨f2, b1, by omega, fun _ => b3 a3⟩) (fun _ => .ret ⟨h.2, h.1, Nat.le_refl _, fun h => h⟩)
  | one => simp only [step]; exact .nam fun a1 => .exp (by decide) fun a2 => .ite (fun g => .ret ⟨.leaf, rfl, by omega, tx_lt g (by decide)⟩) (fun _ => .exp (by decide) fun a3 => .ret ⟨.leaf, rfl, by omega, by omega⟩)
  | vars a => exact .ite (fun g => .call trivial fun b j ⟨f1, a1, a2, a3⟩ => .call ⟨by have := h.1; simp; omega, h.2.append f1⟩ fun e k ⟨f2, b1, b2, b3⟩ => .ret ⟨f2, b1, by omega, fun _ => b3 a3⟩) (fun _ => .ret ⟨h.2, h.1, Nat.le_refl _, fun h => h⟩)
  | owns a => exact .call trivial fun b j ⟨f1, a1, a2, a3⟩ => .exp (by decide) fun h1 => .ite (fun g => .call ⟨by have := h.1; simp; omega, h.2.append f1⟩ fun e k ⟨f2, b1, b2, b3⟩ => .ret ⟨f2, b1, by omega, fun _ => b3 (by omega)⟩) (fun _ => .ret ⟨h.2.append f1, by have := h.1; simp; omega, by omega, fun _ => by omega⟩)
  | names a => exact .ite (fun g => .nam fun h1 => .call ⟨by have := h.1; simp; omega, h.2.append fit_nm⟩ fun e k ⟨f2, b1, b2, b3⟩ => .ret ⟨f2, b1, by omega, fun _ => b3 (by omega)⟩) (fun _ => .ret ⟨h.2, h.1, Nat.le_refl _, fun h => h⟩)
  | eq =>
    refine .ite (fun g => vc_end (Nat.zero_le _) .nil (by omega)) fun _ => .ite (fun g => ?_) fun _ => .nam fun h1 => .exp (by decide) fun h2 => vc_end (by simp; omega) fit_nm (by omega)
    exact .nam fun h1 => .exp (by decide) fun h2 => .nam fun h3 => .call ⟨by simp, (fit_nm (l := l)).append fit_nm⟩ fun ns j ⟨f2, b1, b2, b3⟩ => .exp (by decide) fun h4 => .exp (by decide) fun h5 => vc_end (by omega) f2 (by omega)
  | eqs a => exact .ite (fun g => .ret ⟨h.2, h.1, Nat.le_refl _, fun h => h⟩) (fun _ => .call trivial fun b j ⟨f1, a1, a2, a3⟩ => .call ⟨by have := h.1; simp; omega, h.2.append f1⟩ fun e k ⟨f2, b1, b2, b3⟩ => .ret ⟨f2, b1, by omega, fun _ => b3 a3⟩)
  | node =>
    simp only [step]
    refine .exp (by decide) fun h1 => .nam fun h2 => .exp (by decide) fun h3 => .ite (fun g => vc_body (Nat.zero_le _) .nil (by omega)) fun _ => .call trivial fun b j ⟨f1, a1, a2, a3⟩ => .call ⟨by omega, f1⟩ fun ins k ⟨f2, b1, b2, b3⟩ => ?_
    have := b3 a3
    exact vc_body (by omega) f2 (by omega)
  | nodes a => exact .ite (fun g => .ret ⟨h.2, h.1, Nat.le_refl _, fun h => h⟩) (fun _ => .ite (fun _ => trivial) fun _ => .call trivial fun b j ⟨f1, a1, a2, a3⟩ => .call ⟨by have := h.1; simp; omega, h.2.append f1⟩ fun e k ⟨f2, b1, b2, b3⟩ => .ret ⟨f2, b1, by omega, fun _ => b3 a3⟩)
theorem Run.vc {a : Act} {r : Res} (h : Run l a r) : ∀ Q, Vc l Q a → ∀ e j, r = .ok e j → Q e j := by
  induction h with
  | ret r => intro Q hv e j hr; subst hr; exact hv
  | ok c i d k e j r h1 h2 ih1 ih2 => intro Q hv e' j' hr; exact ih2 Q (hv.2 e j (ih1 _ (vc_step c i d hv.1) e j rfl)) e' j' hr
  | bad c i d k j b h1 ih1 => intro Q hv e' j' hr; cases hr
/-- Nodes that are read have no longer lists. -/
theorem Parse.fit {es : List Ex} {j : Nat} (h : Parse l (.nodes []) 0 0 (.ok es j)) : Fit (l.length + 4) es ∧ es.length ≤ l.length := by
  obtain ⟨h1, h2, h3, h4⟩ := Run.vc h _ (vc_step (.nodes []) 0 0 ⟨Nat.zero_le _, .nil⟩) es j rfl
  exact ⟨h1, by have := h4 (by omega); omega⟩
end
end Go.Proofs.YtomgimfmcfjhdaaGreatDoor
