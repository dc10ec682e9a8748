/-
  lustrumref1's READER OF NODES: a node, by what is still to be read (mathematics alone).
-/
import Derived.Test.YtglkpgcmlbhkpabGreatDoorQ23
import Derived.Test.YtglkpgcmlbhkpabGreatDoorQ21
import Derived.Test.YtglkpgcmlbhkpabGreatDoorQ08
import Derived.Test.YtglkpgcmlbhkpabGreatDoorQ17
namespace Go.Proofs.YtglkpgcmlbhkpabGreatDoor
open Go.RowKit

/-- What a node has behind its own variables. -/
def rrestA (l : List Tk) (name : ByteArray) (ins outs owns : List Ex) (i : Nat) : Act := expA l i tLet fun i => .call (.eqs []) i 0 fun qs i => expA l i tTel fun i => retA [.mk name 0 b0 [lst ins, lst outs, lst owns, lst qs]] i
/-- What it has behind its outputs. -/
def rownsA (l : List Tk) (name : ByteArray) (ins outs : List Ex) (i : Nat) : Act := if tx l i tVar then .call (.owns []) (i + 1) 0 (rrestA l name ins outs) else rrestA l name ins outs [] i
/-- A node, from its first word on. -/
def rnodeA (l : List Tk) (j : Nat) : Act := expA l j tNode fun p => nameA l p fun j => expA l j tOpen fun k => varsN l true k 0 fun ins j => bodyA l (tkx l p) ins j 0
section
variable {l : List Tk} {P : Res → Prop} {i : Nat} {st st' : St} {name : ByteArray} {ins outs owns qs : List Ex}
theorem KRel.body (h : KRel l P i st (fun j => bodyA l name ins j 0)) : KRel l P i st (fun j => expA l j tShut fun j => expA l j tReturns fun j => expA l j tOpen fun j => varsN l false j 0 fun outs j => expA l j tShut fun j => expA l j tSemi fun j => rownsA l name ins outs j) := h.to fun _ _ _ hr => hr
/-- Up to its inputs. -/
theorem KRel.toIns {base : Nat} {w' : World} {so : Option Addr} {m sc : Nat} (h : KRel l P i st (rnodeA l)) (q : VsRel l true 0 base w' (((st.want l tNode).name l).want l tOpen) st' so m sc) :
    ∃ ins, KRel l P i (((st'.want l tShut).want l tReturns).want l tOpen) (fun j => varsN l false j 0 fun outs j => expA l j tShut fun j => expA l j tSemi fun j => rownsA l ((st.want l tNode).nm l) ins outs j) ∧ (st'.isAt = true → m = ins.length ∧ RowAt w' (From base) 2 (.slice so m sc) m (varCells ins)) := by
  have h1 := KRel.want (x := tNode) (k := fun p => nameA l p fun j => expA l j tOpen fun k => varsN l true k 0 fun ins j => bodyA l (tkx l p) ins j 0) h
  have h2 := KRel.name (k := fun p j => expA l j tOpen fun k => varsN l true k 0 fun ins j => bodyA l p ins j 0) h1
  obtain ⟨ins, h3, hr⟩ := KRel.vars h2.want q
  exact ⟨ins, h3.body.want.want.want, hr⟩
/-- Up to its outputs. -/
theorem KRel.toOuts {base : Nat} {w' : World} {so : Option Addr} {m sc : Nat} (h : KRel l P i st (fun j => varsN l false j 0 fun outs j => expA l j tShut fun j => expA l j tSemi fun j => rownsA l name ins outs j)) (q : VsRel l false 0 base w' st st' so m sc) :
    ∃ outs, KRel l P i ((st'.want l tShut).want l tSemi) (fun j => rownsA l name ins outs j) ∧ (st'.isAt = true → m = outs.length ∧ RowAt w' (From base) 2 (.slice so m sc) m (varCells outs)) := by
  obtain ⟨outs, h3, hr⟩ := KRel.vars h q
  exact ⟨outs, h3.want.want, hr⟩
/-- Own variables so far: there may be more. -/
theorem KRel.toOwns (h : KRel l P i st (fun j => rownsA l name ins outs j)) :
    (st.tx l tVar = true → KRel l P i (st.pass l tVar) (fun j => .call (.owns []) j 0 (rrestA l name ins outs))) ∧ (st.tx l tVar = false → KRel l P i (st.pass l tVar) (rrestA l name ins outs [])) :=
  KRel.pass (A := fun j => .call (.owns []) j 0 (rrestA l name ins outs)) (B := fun j => rrestA l name ins outs [] j) h
theorem KRel.end (h : KRel l P i st (fun j => retA [.mk name 0 b0 [lst ins, lst outs, lst owns, lst qs]] j)) :
    (∀ j, st = .here j → P (.ok [.mk name 0 b0 [lst ins, lst outs, lst owns, lst qs]] j) ∧ i ≤ j) ∧ ∀ j bd, st = .bad j bd → P (.bad j bd) := by
  cases h with
  | here j _ hp hij => exact ⟨fun j' e => by cases e; exact ⟨hp _ Run.done, hij⟩, fun _ _ e => by cases e⟩
  | bad j bd _ hp => exact ⟨fun _ e => by (cases e), fun _ _ e => by cases e; exact hp⟩
/-- Nodes so far. -/
inductive PRel (l : List Tk) : St → List Ex → Prop
  | here (j : Nat) (es : List Ex) : (∀ r, Parse l (.nodes es) j 0 r → Parse l (.nodes []) 0 0 r) → es.length ≤ 12 → PRel l (.here j) es
  | bad (j : Nat) (bd : Bool) (es : List Ex) : Parse l (.nodes []) 0 0 (.bad j bd) → PRel l (.bad j bd) es
theorem PRel.start : PRel l (.here 0) [] := .here 0 [] (fun _ h => h) (by simp)
theorem PRel.many {es : List Ex} {j : Nat} (h : PRel l (.here j) es) (he : isEnd l j = false) (hx : tx l j tNode = true) (hl : es.length = 12) : Parse l (.nodes []) 0 0 (.bad j true) := by
  cases h with
  | here _ _ hp _ => exact hp _ (Run.ifF he (Run.ifT (by rw [hx, hl]; rfl) (.ret _)))
/-- What comes of the next node. -/
def NextP (l : List Tk) (j : Nat) (es : List Ex) (r : Res) : Prop := match r with
  | .ok e k => Parse l .node j 0 (.ok e k) ∧ tx l j tNode = true ∧ isEnd l j = false ∧ (tx l j tNode && es.length == 12) = false
  | .bad k bd => Parse l (.nodes []) 0 0 (.bad k bd)
theorem rnode_first {j : Nat} {r : Res} {e : List Ex} {k : Nat} (h : Run l (rnodeA l j) r) (hr : r = .ok e k) : tx l j tNode = true := by
  cases hx : tx l j tNode with
  | true => rfl
  | false =>
    have := h.one (Run.unexp hx)
    rw [hr] at this; cases this
theorem PRel.node {es : List Ex} {j : Nat} (h : PRel l (.here j) es) (he : isEnd l j = false) (hl : (tx l j tNode && es.length == 12) = false) : KRel l (NextP l j es) j (.here j) (rnodeA l) := by
  cases h with
  | here _ _ hp h12 =>
    refine .here j _ (fun r hr => ?_) (Nat.le_refl _)
    cases r with
    | ok e k => exact ⟨hr, rnode_first hr rfl, he, hl⟩
    | bad k bd => exact hp _ (Run.ifF he (Run.ifF hl (Run.stop hr)))
theorem PRel.full {es : List Ex} {j : Nat} (h : PRel l (.here j) es) (he : isEnd l j = false) (hx : tx l j tNode = true) (hl : es.length = 12) : KRel l (NextP l j es) j (.bad j true) (rnodeA l) := .bad j true _ (h.many he hx hl)
theorem PRel.next {es : List Ex} {j : Nat} (h : PRel l (.here j) es) (hn : KRel l (NextP l j es) j st (fun j => retA [.mk name 0 b0 [lst ins, lst outs, lst owns, lst qs]] j)) : PRel l st (es ++ [.mk name 0 b0 [lst ins, lst outs, lst owns, lst qs]]) ∧ ∀ k, st = .here k → j < k := by
  obtain ⟨h1, h2⟩ := hn.end
  cases h with
  | here _ _ hp h12 =>
    cases st with
    | bad k bd => exact ⟨.bad k bd _ (h2 k bd rfl), fun k e => by cases e⟩
    | here k =>
      obtain ⟨⟨g1, g2, g3, g4⟩, hij⟩ := h1 k rfl
      refine ⟨.here k _ (fun r hr => hp r (Run.ifF g3 (Run.ifF g4 (Run.then g1 (Run.tail hr))))) ?_, fun k' e => by cases e; exact (Run.vc g1 _ (vc_step .node j 0 trivial) _ _ rfl).2.2.1⟩
      rw [g2] at g4
      simp at g4 ⊢
      omega
theorem PRel.ends {es : List Ex} {j : Nat} (h : PRel l (.here j) es) (he : isEnd l j = true) : Parse l (.nodes []) 0 0 (.ok es j) := by
  cases h with
  | here _ _ hp _ => exact hp _ (Run.ifT he Run.done)
end
end Go.Proofs.YtglkpgcmlbhkpabGreatDoor

/-
  lustrumref1's TreeOf BY ITS CONTRACTS, where there are no tokens.
-/
namespace Go.Proofs.YtglkpgcmlbhkpabGreatDoor
open Go.RowKit
attribute [local go_sem ↓] Go.wp_at_zero Go.wp_at_succ

theorem Tryz.infoRNode : (Tryz.prog.info? 48).map (fun i => (i.zero, i.size, i.bytes)) = some (some (.agg #[.string ⟨#[]⟩, .slice none 0 0, .slice none 0 0, .slice none 0 0, .slice none 0 0]), 5, 112) := by kernel_rfl
theorem Tryz.infoREq : (Tryz.prog.info? 45).map (fun i => (i.zero, i.size, i.bytes)) = some (some (.agg #[.string ⟨#[]⟩, .slice none 0 0, .string ⟨#[]⟩, .int .i64 0, .string ⟨#[]⟩, .slice none 0 0]), 6, 104) := by kernel_rfl

end Go.Proofs.YtglkpgcmlbhkpabGreatDoor
