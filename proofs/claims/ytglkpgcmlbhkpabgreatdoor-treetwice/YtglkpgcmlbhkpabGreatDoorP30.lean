/-
  lustrumref1's READER OF NODES: equation BY ITS CONTRACT.
-/
import Derived.Test.YtglkpgcmlbhkpabGreatDoorP29
import Derived.Test.YtglkpgcmlbhkpabGreatDoorP27
import Derived.Test.YtglkpgcmlbhkpabGreatDoorP08
import Derived.Test.YtglkpgcmlbhkpabGreatDoorP21
namespace Go.Proofs.YtglkpgcmlbhkpabGreatDoor
open Go.RowKit
attribute [local go_sem ↓] Go.wp_at_zero Go.wp_at_succ

theorem want_isAt {l : List Tk} {st : St} {x : List UInt8} (h : (st.want l x).isAt = true) : st.isAt = true := by
  cases st with
  | bad j bd => exact h
  | here j => rfl
def rnamesA (l : List Tk) (i : Nat) (k : List Ex → Nat → Act) : Act := nameA l (i + 1) fun j => expA l j tComma fun k' => nameA l k' fun m => .call (.names [nm l (i + 1), nm l k']) m 0 k
/-- Names so far. -/
inductive NRel (l : List Tk) (i : Nat) : St → List Ex → Prop
  | here (j : Nat) (ns : List Ex) : (∀ k r, Run l (.call (.names ns) j 0 k) r → Run l (rnamesA l i k) r) → i < j → ns.length ≤ j → NRel l i (.here j) ns
  | bad (j : Nat) (bd : Bool) (ns : List Ex) : (∀ k, Run l (rnamesA l i k) (.bad j bd)) → NRel l i (.bad j bd) ns
theorem NRel.num {l : List Tk} {i j : Nat} {ns : List Ex} (h : NRel l i (.here j) ns) : i < j ∧ ns.length ≤ j := by
  cases h with
  | here _ _ _ h1 h2 => exact ⟨h1, h2⟩
theorem NRel.first {l : List Tk} {i : Nat} : NRel l i ((((St.here (i + 1)).name l).want l tComma).name l) [.mk ((St.here (i + 1)).nm l) 0 b0 [], .mk ((((St.here (i + 1)).name l).want l tComma).nm l) 0 b0 []] := by
  cases h1 : isName l (i + 1) with
  | false =>
    rw [show (((St.here (i + 1)).name l).want l tComma).name l = .bad (i + 1) false from by simp [St.name, h1, St.want]]
    exact .bad _ _ _ (fun k => Run.ifF h1 (.ret _))
  | true =>
    rw [show (St.here (i + 1)).nm l = tkx l (i + 1) from by simp [St.nm, h1]]
    cases h2 : tx l (i + 1 + 1) tComma with
    | false =>
      rw [show (((St.here (i + 1)).name l).want l tComma).name l = .bad (i + 1 + 1) false from by simp [St.name, h1, h2, St.want]]
      exact .bad _ _ _ (fun k => Run.ifT h1 (Run.unexp h2))
    | true =>
      rw [show ((St.here (i + 1)).name l).want l tComma = .here (i + 1 + 1 + 1) from by simp [St.name, h1, h2, St.want]]
      cases h3 : isName l (i + 1 + 1 + 1) with
      | false =>
        rw [show (St.here (i + 1 + 1 + 1)).name l = .bad (i + 1 + 1 + 1) false from by simp [St.name, h3]]
        exact .bad _ _ _ (fun k => Run.ifT h1 (Run.exp h2 (Run.ifF h3 (.ret _))))
      | true =>
        rw [show (St.here (i + 1 + 1 + 1)).name l = .here (i + 1 + 1 + 1 + 1) from by simp [St.name, h3], show (St.here (i + 1 + 1 + 1)).nm l = tkx l (i + 1 + 1 + 1) from by simp [St.nm, h3]]
        exact .here _ _ (fun k r hr => Run.ifT h1 (Run.exp h2 (Run.ifT h3 hr))) (by omega) (by simp)
theorem NRel.next {l : List Tk} {i j : Nat} {ns : List Ex} (h : NRel l i (.here j) ns) (hc : tx l j tComma = true) : NRel l i ((St.here (j + 1)).name l) (ns ++ [.mk ((St.here (j + 1)).nm l) 0 b0 []]) := by
  cases h with
  | here _ _ HP hij hl =>
    cases h1 : isName l (j + 1) with
    | false =>
      rw [show (St.here (j + 1)).name l = .bad (j + 1) false from by simp [St.name, h1]]
      exact .bad _ _ _ (fun k => HP k _ (Run.stop (Run.ifT hc (Run.ifF h1 (.ret _)))))
    | true =>
      rw [show (St.here (j + 1)).name l = .here (j + 1 + 1) from by simp [St.name, h1], show (St.here (j + 1)).nm l = tkx l (j + 1) from by simp [St.nm, h1]]
      refine .here _ _ (fun k r hr => HP k r ?_) (by omega) (by simp; omega)
      cases hr with
      | ok _ _ _ _ e j _ h3 h2 => exact Run.then (Run.ifT hc (Run.ifT h1 (Run.tail h3))) h2
      | bad _ _ _ _ j b h3 => exact Run.stop (Run.ifT hc (Run.ifT h1 (Run.tail h3)))
theorem NRel.done {l : List Tk} {i : Nat} {st' : St} {ns : List Ex} (h : NRel l i st' ns) (g0 : txs l i [tAssert, tCheck] = false) (g3 : tx l i tOpen = true) (hc : st'.tx l tComma = false) : EPre l (.here i) ((st'.want l tShut).want l tEq) sSet ns := by
  cases h with
  | bad j bd _ HP => exact .bad i j bd _ _ (Run.ifF g0 (Run.ifT g3 (HP _)))
  | here j _ HP hij hl =>
    have hc' : tx l j tComma = false := hc
    have G : ∀ k r, Run l (k ns j) r → Run l (rnamesA l i k) r := fun k r h => HP k r (Run.then (Run.ifF hc' Run.done) h)
    cases h1 : tx l j tShut with
    | false =>
      rw [show ((St.here j).want l tShut).want l tEq = .bad j false from by simp [St.want, h1]]
      exact .bad i j false _ _ (Run.ifF g0 (Run.ifT g3 (G _ _ (Run.unexp h1))))
    | true =>
      cases h2 : tx l (j + 1) tEq with
      | false =>
        rw [show ((St.here j).want l tShut).want l tEq = .bad (j + 1) false from by simp [St.want, h1, h2]]
        exact .bad i _ false _ _ (Run.ifF g0 (Run.ifT g3 (G _ _ (Run.exp h1 (Run.unexp h2)))))
      | true =>
        rw [show ((St.here j).want l tShut).want l tEq = .here (j + 1 + 1) from by simp [St.want, h1, h2]]
        exact .here i _ _ _ (fun r hr => Run.ifF g0 (Run.ifT g3 (G _ _ (Run.exp h1 (Run.exp h2 hr))))) (by omega)

end Go.Proofs.YtglkpgcmlbhkpabGreatDoor

/-
  lustrumref1's READER OF NODES: where it stands and what is still to be read (mathematics alone).
-/
namespace Go.Proofs.YtglkpgcmlbhkpabGreatDoor
open Go.RowKit

/-- It stands here, and this is still to be read; or it failed. -/
inductive KRel (l : List Tk) (P : Res → Prop) (i : Nat) : St → (Nat → Act) → Prop
  | here (j : Nat) (k : Nat → Act) : (∀ r, Run l (k j) r → P r) → i ≤ j → KRel l P i (.here j) k
  | bad (j : Nat) (bd : Bool) (k : Nat → Act) : P (.bad j bd) → KRel l P i (.bad j bd) k
section
variable {l : List Tk} {P : Res → Prop} {i : Nat} {st : St}
theorem KRel.any {k k' : Nat → Act} (h : KRel l P i st k) (hs : st.isAt = false) : KRel l P i st k' := by
  cases h with
  | here j _ _ _ => cases hs
  | bad j bd _ hp => exact .bad j bd _ hp
theorem KRel.to {k k' : Nat → Act} (h : KRel l P i st k) (hk : ∀ j, st = .here j → ∀ r, Run l (k' j) r → Run l (k j) r) : KRel l P i st k' := by
  cases h with
  | here j _ hp hij => exact .here j _ (fun r hr => hp r (hk j rfl r hr)) hij
  | bad j bd _ hp => exact .bad j bd _ hp
theorem KRel.want {x : List UInt8} {k : Nat → Act} (h : KRel l P i st (fun j => expA l j x k)) : KRel l P i (st.want l x) k := by
  cases h with
  | bad j bd _ hp => exact .bad j bd _ hp
  | here j _ hp hij =>
    cases hx : tx l j x with
    | false =>
      rw [show (St.here j).want l x = .bad j false from by simp only [St.want, hx, Bool.false_eq_true, if_false]]
      exact .bad j false _ (hp _ (Run.unexp hx))
    | true =>
      rw [show (St.here j).want l x = .here (j + 1) from by simp only [St.want, hx, if_true]]
      exact .here (j + 1) _ (fun r hr => hp r (Run.exp hx hr)) (by omega)
theorem KRel.name {k : ByteArray → Nat → Act} (h : KRel l P i st (fun j => nameA l j (k (tkx l j)))) : KRel l P i (st.name l) (k (st.nm l)) := by
  cases h with
  | bad j bd _ hp => exact .bad j bd _ hp
  | here j _ hp hij =>
    cases hx : isName l j with
    | false =>
      rw [show (St.here j).name l = .bad j false from by simp [St.name, hx]]
      exact .bad j false _ (hp _ (Run.ifF hx (.ret _)))
    | true =>
      rw [show (St.here j).name l = .here (j + 1) from by simp [St.name, hx], show (St.here j).nm l = tkx l j from by simp [St.nm, hx]]
      exact .here (j + 1) _ (fun r hr => hp r (Run.ifT hx hr)) (by omega)
theorem KRel.vars {no : Bool} {e : Nat} {k : List Ex → Nat → Act} {st' : St} {base : Nat} {w' : World} {so : Option Addr} {m sc : Nat} (h : KRel l P i st (fun j => varsN l no j e k)) (q : VsRel l no e base w' st st' so m sc) :
    ∃ es, KRel l P i st' (k es) ∧ (st'.isAt = true → m = es.length ∧ RowAt w' (From base) 2 (.slice so m sc) m (varCells es)) := by
  cases h with
  | bad j bd _ hp =>
    cases q with
    | stay _ _ => exact ⟨[], .bad j bd _ hp, fun h => by cases h⟩
  | here j _ hp hij =>
    cases q with
    | ok _ j' es _ _ hq hjj hl hrow => exact ⟨es, .here j' _ (fun r hr => hp r (hq k r hr)) (by omega), fun _ => ⟨rfl, hrow⟩⟩
    | fail _ j' bd _ _ _ hq => exact ⟨[], .bad j' bd _ (hp _ (hq k)), fun h => by cases h⟩
theorem KRel.pass {x : List UInt8} {A B : Nat → Act} (h : KRel l P i st (fun j => if tx l j x then A (j + 1) else B j)) :
    (st.tx l x = true → KRel l P i (st.pass l x) A) ∧ (st.tx l x = false → KRel l P i (st.pass l x) B) := by
  cases h with
  | bad j bd _ hp => exact ⟨fun h => by (cases h), fun _ => .bad j bd _ hp⟩
  | here j _ hp hij =>
    refine ⟨fun h => ?_, fun h => ?_⟩
    · have hx : tx l j x = true := h
      rw [show (St.here j).pass l x = .here (j + 1) from by simp only [St.pass, hx, if_true]]
      exact .here (j + 1) _ (fun r hr => hp r (Run.ifT hx hr)) (by omega)
    · rw [pass_other h]
      have hx : tx l j x = false := h
      exact .here j _ (fun r hr => hp r (Run.ifF hx hr)) hij
/-- Own variables: one more. -/
theorem KRel.own {e : Nat} {a : List Ex} {k : List Ex → Nat → Act} {st1 : St} {s : ByteArray} {x : Int} (h : KRel l P i st (fun j => .call (.owns a) j e k)) (q : VRel l e st st1 s x) :
    KRel l P i (st1.want l tSemi) (fun j => if isName l j then .call (.owns (a ++ [.mk s x b0 []])) j e k else k (a ++ [.mk s x b0 []]) j) := by
  cases h with
  | bad j bd _ hp =>
    cases q with
    | stay _ _ => exact .bad j bd _ hp
  | here j _ hp hij =>
    cases q with
    | fail _ j' bd _ _ hq => exact .bad j' bd _ (hp _ (Run.stop (Run.stop hq)))
    | ok _ j' _ _ hq hjj =>
      cases hx : tx l j' tSemi with
      | false =>
        rw [show (St.here j').want l tSemi = .bad j' false from by simp only [St.want, hx, Bool.false_eq_true, if_false]]
        exact .bad j' false _ (hp _ (Run.stop (Run.then hq (Run.unexp hx))))
      | true =>
        rw [show (St.here j').want l tSemi = .here (j' + 1) from by simp only [St.want, hx, if_true]]
        refine .here (j' + 1) _ (fun r hr => hp r ?_) (by omega)
        cases hn : isName l (j' + 1) with
        | false =>
          simp only [hn, Bool.false_eq_true, if_false] at hr
          exact Run.then (Run.then hq (Run.exp hx (Run.ifF hn Run.done))) hr
        | true =>
          simp only [hn, if_true] at hr
          cases hr with
          | ok _ _ _ _ e j _ h3 h2 => exact Run.then (Run.then hq (Run.exp hx (Run.ifT hn (Run.tail h3)))) h2
          | bad _ _ _ _ j b h3 => exact Run.stop (Run.then hq (Run.exp hx (Run.ifT hn (Run.tail h3))))
/-- Equations: one more. -/
theorem KRel.eq {a : List Ex} {k : List Ex → Nat → Act} {st1 : St} {base : Nat} {w' : World} {v : Value} (h : KRel l P i st (fun j => .call (.eqs a) j 0 k)) (ht : st.tx l tTel = false) (q : ERel l base w' st st1 v) :
    ∃ qs, KRel l P i st1 (fun j => .call (.eqs (a ++ qs)) j 0 k) ∧ (st1.isAt = true → ∃ xs, v = .agg xs ∧ qs.length = 1 ∧ EqIn w' (From base) qs xs.toList) := by
  cases h with
  | bad j bd _ hp =>
    cases q with
    | stay _ _ => exact ⟨[], .bad j bd _ hp, fun h => by cases h⟩
  | here j _ hp hij =>
    have ht' : tx l j tTel = false := ht
    cases q with
    | fail _ j' bd _ hq => exact ⟨[], .bad j' bd _ (hp _ (Run.stop (Run.ifF ht' (Run.stop hq)))), fun h => by cases h⟩
    | ok _ j' kind ns so sc op x s es so' sc' ys hq hjj hr1 hr2 hin =>
      refine ⟨[.mk kind 0 b0 [lst ns, .mk op x s es]], .here j' _ (fun r hr => hp r ?_) (by omega), fun _ => ⟨_, rfl, rfl, .cons kind ns (.mk op x s es) [] _ _ [] hr1 (.cons op x s es _ _ ys _ hr2 hin .nil) .nil⟩⟩
      cases hr with
      | ok _ _ _ _ e j _ h3 h2 => exact Run.then (Run.ifF ht' (Run.then hq (Run.tail h3))) h2
      | bad _ _ _ _ j b h3 => exact Run.stop (Run.ifF ht' (Run.then hq (Run.tail h3)))
/-- Equations: no more. -/
theorem KRel.eqs {a : List Ex} {k : List Ex → Nat → Act} (h : KRel l P i st (fun j => .call (.eqs a) j 0 k)) (ht : st.isAt = true → st.tx l tTel = true) : KRel l P i st (k a) :=
  h.to fun j hj r hr => by
    subst hj
    have ht' : tx l j tTel = true := ht rfl
    exact Run.then (Run.ifT ht' Run.done) hr
end
end Go.Proofs.YtglkpgcmlbhkpabGreatDoor

/-
  lustrumref1's READER OF NODES: a node, by what is still to be read (mathematics alone).
-/
namespace Go.Proofs.YtglkpgcmlbhkpabGreatDoor
open Go.RowKit

/-- What a node has behind its own variables. -/
def rrestA (l : List Tk) (name : ByteArray) (ins outs owns : List Ex) (i : Nat) : Act := expA l i tLet fun i => .call (.eqs []) i 0 fun qs i => expA l i tTel fun i => retA [.mk name 0 b0 [lst ins, lst outs, lst owns, lst qs]] i
/-- What it has behind its outputs. -/
def rownsA (l : List Tk) (name : ByteArray) (ins outs : List Ex) (i : Nat) : Act := if tx l i tVar then .call (.owns []) (i + 1) 0 (rrestA l name ins outs) else rrestA l name ins outs [] i
/-- A node, from its first word on. -/
def rnodeA (l : List Tk) (j : Nat) : Act := expA l j tNode fun p => nameA l p fun j => expA l j tOpen fun k => varsN l true k 0 fun ins j => bodyA l (tkx l p) ins j 0
section
variable {l : List Tk} {P : Res → Prop} {i : Nat} {st st' : St} {name : ByteArray} {ins outs owns qs : List Ex}
theorem KRel.body (h : KRel l P i st (fun j => bodyA l name ins j 0)) : KRel l P i st (fun j => expA l j tShut fun j => expA l j tReturns fun j => expA l j tOpen fun j => varsN l false j 0 fun outs j => expA l j tShut fun j => expA l j tSemi fun j => rownsA l name ins outs j) := h.to fun _ _ _ hr => hr
/-- Up to its inputs. -/
theorem KRel.toIns {base : Nat} {w' : World} {so : Option Addr} {m sc : Nat} (h : KRel l P i st (rnodeA l)) (q : VsRel l true 0 base w' (((st.want l tNode).name l).want l tOpen) st' so m sc) :
    ∃ ins, KRel l P i (((st'.want l tShut).want l tReturns).want l tOpen) (fun j => varsN l false j 0 fun outs j => expA l j tShut fun j => expA l j tSemi fun j => rownsA l ((st.want l tNode).nm l) ins outs j) ∧ (st'.isAt = true → m = ins.length ∧ RowAt w' (From base) 2 (.slice so m sc) m (varCells ins)) := by
  have h1 := KRel.want (x := tNode) (k := fun p => nameA l p fun j => expA l j tOpen fun k => varsN l true k 0 fun ins j => bodyA l (tkx l p) ins j 0) h
  have h2 := KRel.name (k := fun p j => expA l j tOpen fun k => varsN l true k 0 fun ins j => bodyA l p ins j 0) h1
  obtain ⟨ins, h3, hr⟩ := KRel.vars h2.want q
  exact ⟨ins, h3.body.want.want.want, hr⟩
/-- Up to its outputs. -/
theorem KRel.toOuts {base : Nat} {w' : World} {so : Option Addr} {m sc : Nat} (h : KRel l P i st (fun j => varsN l false j 0 fun outs j => expA l j tShut fun j => expA l j tSemi fun j => rownsA l name ins outs j)) (q : VsRel l false 0 base w' st st' so m sc) :
    ∃ outs, KRel l P i ((st'.want l tShut).want l tSemi) (fun j => rownsA l name ins outs j) ∧ (st'.isAt = true → m = outs.length ∧ RowAt w' (From base) 2 (.slice so m sc) m (varCells outs)) := by
  obtain ⟨outs, h3, hr⟩ := KRel.vars h q
  exact ⟨outs, h3.want.want, hr⟩
/-- Own variables so far: there may be more. -/
theorem KRel.toOwns (h : KRel l P i st (fun j => rownsA l name ins outs j)) :
    (st.tx l tVar = true → KRel l P i (st.pass l tVar) (fun j => .call (.owns []) j 0 (rrestA l name ins outs))) ∧ (st.tx l tVar = false → KRel l P i (st.pass l tVar) (rrestA l name ins outs [])) :=
  KRel.pass (A := fun j => .call (.owns []) j 0 (rrestA l name ins outs)) (B := fun j => rrestA l name ins outs [] j) h
theorem KRel.end (h : KRel l P i st (fun j => retA [.mk name 0 b0 [lst ins, lst outs, lst owns, lst qs]] j)) :
    (∀ j, st = .here j → P (.ok [.mk name 0 b0 [lst ins, lst outs, lst owns, lst qs]] j) ∧ i ≤ j) ∧ ∀ j bd, st = .bad j bd → P (.bad j bd) := by
  cases h with
  | here j _ hp hij => exact ⟨fun j' e => by cases e; exact ⟨hp _ Run.done, hij⟩, fun _ _ e => by cases e⟩
  | bad j bd _ hp => exact ⟨fun _ e => by (cases e), fun _ _ e => by cases e; exact hp⟩
/-- Nodes so far. -/
inductive PRel (l : List Tk) : St → List Ex → Prop
  | here (j : Nat) (es : List Ex) : (∀ r, Parse l (.nodes es) j 0 r → Parse l (.nodes []) 0 0 r) → es.length ≤ 12 → PRel l (.here j) es
  | bad (j : Nat) (bd : Bool) (es : List Ex) : Parse l (.nodes []) 0 0 (.bad j bd) → PRel l (.bad j bd) es
theorem PRel.start : PRel l (.here 0) [] := .here 0 [] (fun _ h => h) (by simp)
theorem PRel.many {es : List Ex} {j : Nat} (h : PRel l (.here j) es) (he : isEnd l j = false) (hx : tx l j tNode = true) (hl : es.length = 12) : Parse l (.nodes []) 0 0 (.bad j true) := by
  cases h with
  | here _ _ hp _ => exact hp _ (Run.ifF he (Run.ifT (by rw [hx, hl]; rfl) (.ret _)))
/-- What comes of the next node. -/
def NextP (l : List Tk) (j : Nat) (es : List Ex) (r : Res) : Prop := match r with
  | .ok e k => Parse l .node j 0 (.ok e k) ∧ tx l j tNode = true ∧ isEnd l j = false ∧ (tx l j tNode && es.length == 12) = false
  | .bad k bd => Parse l (.nodes []) 0 0 (.bad k bd)
theorem rnode_first {j : Nat} {r : Res} {e : List Ex} {k : Nat} (h : Run l (rnodeA l j) r) (hr : r = .ok e k) : tx l j tNode = true := by
  cases hx : tx l j tNode with
  | true => rfl
  | false =>
    have := h.one (Run.unexp hx)
    rw [hr] at this; cases this
theorem PRel.node {es : List Ex} {j : Nat} (h : PRel l (.here j) es) (he : isEnd l j = false) (hl : (tx l j tNode && es.length == 12) = false) : KRel l (NextP l j es) j (.here j) (rnodeA l) := by
  cases h with
  | here _ _ hp h12 =>
    refine .here j _ (fun r hr => ?_) (Nat.le_refl _)
    cases r with
    | ok e k => exact ⟨hr, rnode_first hr rfl, he, hl⟩
    | bad k bd => exact hp _ (Run.ifF he (Run.ifF hl (Run.stop hr)))
theorem PRel.full {es : List Ex} {j : Nat} (h : PRel l (.here j) es) (he : isEnd l j = false) (hx : tx l j tNode = true) (hl : es.length = 12) : KRel l (NextP l j es) j (.bad j true) (rnodeA l) := .bad j true _ (h.many he hx hl)
theorem PRel.next {es : List Ex} {j : Nat} (h : PRel l (.here j) es) (hn : KRel l (NextP l j es) j st (fun j => retA [.mk name 0 b0 [lst ins, lst outs, lst owns, lst qs]] j)) : PRel l st (es ++ [.mk name 0 b0 [lst ins, lst outs, lst owns, lst qs]]) ∧ ∀ k, st = .here k → j < k := by
  obtain ⟨h1, h2⟩ := hn.end
  cases h with
  | here _ _ hp h12 =>
    cases st with
    | bad k bd => exact ⟨.bad k bd _ (h2 k bd rfl), fun k e => by cases e⟩
    | here k =>
      obtain ⟨⟨g1, g2, g3, g4⟩, hij⟩ := h1 k rfl
      refine ⟨.here k _ (fun r hr => hp r (Run.ifF g3 (Run.ifF g4 (Run.then g1 (Run.tail hr))))) ?_, fun k' e => by cases e; exact (Run.vc g1 _ (vc_step .node j 0 trivial) _ _ rfl).2.2.1⟩
      rw [g2] at g4
      simp at g4 ⊢
      omega
theorem PRel.ends {es : List Ex} {j : Nat} (h : PRel l (.here j) es) (he : isEnd l j = true) : Parse l (.nodes []) 0 0 (.ok es j) := by
  cases h with
  | here _ _ hp _ => exact hp _ (Run.ifT he Run.done)
end
end Go.Proofs.YtglkpgcmlbhkpabGreatDoor

/-
  lustrumref1's TreeOf BY ITS CONTRACTS, where there are no tokens.
-/
namespace Go.Proofs.YtglkpgcmlbhkpabGreatDoor
open Go.RowKit
attribute [local go_sem ↓] Go.wp_at_zero Go.wp_at_succ

theorem Tryz.infoRNode : (Tryz.prog.info? 48).map (fun i => (i.zero, i.size, i.bytes)) = some (some (.agg #[.string ⟨#[]⟩, .slice none 0 0, .slice none 0 0, .slice none 0 0, .slice none 0 0]), 5, 112) := by kernel_rfl
theorem Tryz.infoREq : (Tryz.prog.info? 45).map (fun i => (i.zero, i.size, i.bytes)) = some (some (.agg #[.string ⟨#[]⟩, .slice none 0 0, .string ⟨#[]⟩, .int .i64 0, .string ⟨#[]⟩, .slice none 0 0]), 6, 104) := by kernel_rfl

end Go.Proofs.YtglkpgcmlbhkpabGreatDoor
