/-
  PROGRAMS THAT ARE READ ARE RIGHT IN THEIR NAMES AND LISTS, IN PLAIN MATHEMATICS; and what was written of them was not too deep.
-/
import Derived.Test.YtgbpccipdcajgaaGreatDoorQ29
import Derived.Test.YtgbpccipdcajgaaGreatDoorQ28
namespace Go.Proofs.YtgbpccipdcajgaaGreatDoor
def NmV (v : Ex) : Prop := NmOk v.op
def EqG (q : Ex) : Prop := ∃ kind ns e, q = .mk kind 0 b0 [lst ns, e] ∧ NmT e ∧ ((kind.toList = [115, 101, 116] ∧ ns ≠ [] ∧ All NmV ns) ∨ (kind.toList ∈ [tAssert, tCheck] ∧ ns = []))
def NdG (n : Ex) : Prop := ∃ name ins outs owns qs, n = .mk name 0 b0 [lst ins, lst outs, lst owns, lst qs] ∧ NmOk name ∧ All VarOk ins ∧ outs ≠ [] ∧ All VarOk outs ∧ All VarOk owns ∧ All EqG qs
def PostG (c : Cd) (es : List Ex) : Prop := match c with
 | .term => All NmT es ∧ es.length = 1
 | .left _ | .not | .cmp | .un | .atom => All NmT es ∧ es.length = 1
 | .args => All NmT es
 | .loop _ a => All NmT a → a.length = 1 → All NmT es ∧ es.length = 1
 | .more a => All NmT a → All NmT es
 | .one => All VarOk es ∧ es ≠ []
 | .vars a => All VarOk a → a ≠ [] → All VarOk es ∧ es ≠ []
 | .owns a => All VarOk a → All VarOk es
 | .names a => All NmV a → a ≠ [] → All NmV es ∧ es ≠ []
 | .eq => All EqG es
 | .eqs a => All EqG a → All EqG es
 | .node => All NdG es ∧ es.length = 1
 | .nodes a => All NdG a → All NdG es
def VcG (Q : List Ex → Prop) : Act → Prop
 | .ret (.ok e _) => Q e
 | .ret (.bad _ _) => True
 | .call c _ _ k => ∀ e j, PostG c e → VcG Q (k e j)
section
variable {l : List Tk} {Q : List Ex → Prop} {i d : Nat}
theorem VcG.exp {x : List UInt8} {k : Nat → Act} (h : VcG Q (k (i + 1))) : VcG Q (expA l i x k) := by
 unfold expA; split
 ·exact h
 ·exact trivial
theorem VcG.nam {k : Nat → Act} (h : isName l i = true → VcG Q (k (i + 1))) : VcG Q (nameA l i k) := by
 unfold nameA; split
 ·rename_i g; exact h g
 ·exact trivial
theorem VcG.down {k : Act} (h : VcG Q k) : VcG Q (downA i d k) := by
 unfold downA; split
 ·exact trivial
 ·exact h
theorem step_ok (hl : LexNm l) (c : Cd) (i d : Nat) : VcG (PostG c) (step l c i d) := by
 match c with
 | .term =>
  dsimp only [step]
  split
  ·rename_i g
   refine VcG.down ?_
   intro a i1 ha
   refine VcG.exp ?_
   intro b i3 hb
   refine VcG.exp ?_
   intro c i5 hc
   refine ⟨All.one (NmT.op (ys := [tIf]) ?_ (by decide) ((All.app ha.1 hb.1).app hc.1)), rfl⟩
   rw [tx, beq_iff_eq] at g
   rw [g]; exact List.mem_cons_self
  ·intro a j ha
   dsimp only
   split
   ·rename_i g
    refine VcG.down ?_
    intro b k hb
    exact ⟨All.one (NmT.op (txs_text g) (by decide) (All.app ha.1 hb.1)), rfl⟩
   ·exact ha
 | .left v =>
  intro a j ha b k hb
  have ha' : All NmT a ∧ a.length = 1 := by cases v <;> exact ha
  exact hb ha'.1 ha'.2
 | .loop v a =>
  dsimp only [step]
  split
  ·rename_i g
   intro b j hb c k hc ha _
   refine hc (All.one (NmT.op (txs_text g) (by cases v <;> decide) (All.app ha ?_))) rfl
   cases v <;> exact hb.1
  ·exact fun ha h1 => ⟨ha, h1⟩
 | .not =>
  dsimp only [step]
  split
  ·refine VcG.down ?_
   intro a j ha
   exact ⟨All.one (NmT.op (ys := [tNot]) (by rw [ByteArray.toList_eq]; exact List.mem_cons_self) (by decide) ha.1), rfl⟩
  ·exact fun a j ha => ha
 | .cmp =>
  dsimp only [step]
  intro a j ha
  dsimp only
  split
  ·rename_i g
   exact fun b k hb => ⟨All.one (NmT.op (txs_text g) (by decide) (All.app ha.1 hb.1)), rfl⟩
  ·exact ha
 | .un =>
  dsimp only [step]
  split
  ·refine VcG.down ?_
   intro a j ha
   exact ⟨All.one (NmT.op (ys := [[110, 101, 103]]) (by rw [ByteArray.toList_eq]; exact List.mem_cons_self) (by decide) ha.1), rfl⟩
  ·split
   ·refine VcG.down ?_
    intro a j ha
    exact ⟨All.one (NmT.op (ys := [tPre]) (by rw [ByteArray.toList_eq]; exact List.mem_cons_self) (by decide) ha.1), rfl⟩
   ·exact fun a j ha => ha
 | .atom =>
  dsimp only [step]
  split
  ·exact ⟨All.one (NmT.op (ys := [[105, 110, 116]]) (by rw [ByteArray.toList_eq]; exact List.mem_cons_self) (by decide) All.nil), rfl⟩
  ·split
   ·rename_i g
    exact ⟨All.one (NmT.op (txs_text g) (by decide) All.nil), rfl⟩
   ·split
    ·rename_i g
     split
     ·refine VcG.down ?_
      intro a j ha
      refine VcG.exp ?_
      exact ⟨All.one (.mk _ _ _ _ (fun _ => hl i g) ha), rfl⟩
     ·exact ⟨All.one (.mk _ _ _ _ (fun _ => hl i g) All.nil), rfl⟩
    ·split
     ·refine VcG.down ?_
      intro a j ha
      refine VcG.exp ?_
      exact ha
     ·exact trivial
 | .args =>
  dsimp only [step]
  split
  ·exact All.nil
  ·exact fun a j ha b k hb => hb ha.1
 | .more a =>
  dsimp only [step]
  split
  ·exact fun b j hb c k hc ha => hc (All.app ha hb.1)
  ·exact fun ha => ha
 | .one =>
  dsimp only [step]
  refine VcG.nam fun g => ?_
  refine VcG.exp ?_
  split
  ·exact ⟨All.one ⟨hl i g, Or.inl rfl⟩, by simp⟩
  ·refine VcG.exp ?_
   exact ⟨All.one ⟨hl i g, Or.inr rfl⟩, by simp⟩
 | .vars a =>
  dsimp only [step]
  split
  ·exact fun v j hv b k hb ha h1 => hb (All.app ha hv.1) (by simp [h1])
  ·exact fun ha h1 => ⟨ha, h1⟩
 | .owns a =>
  dsimp only [step]
  intro v j hv
  refine VcG.exp ?_
  split
  ·exact fun b k hb ha => hb (All.app ha hv.1)
  ·exact fun ha => All.app ha hv.1
 | .names a =>
  dsimp only [step]
  split
  ·refine VcG.nam fun g => ?_
   exact fun b k hb ha h1 => hb (All.app ha (All.one (hl (i + 1) g))) (by simp)
  ·exact fun ha h1 => ⟨ha, h1⟩
 | .eq =>
  have en : ∀ (kind : ByteArray) (ns : List Ex) (i d : Nat), ((kind.toList = [115, 101, 116] ∧ ns ≠ [] ∧ All NmV ns) ∨ (kind.toList ∈ [tAssert, tCheck] ∧ ns = [])) → VcG (PostG .eq) (endA l kind ns i d) := fun kind ns i d hk e j he => by
   refine VcG.exp ?_
   obtain ⟨h1, h2⟩ := he
   match e, h1, h2 with
   | [t], h1, _ => exact All.one ⟨kind, ns, t, rfl, h1 t List.mem_cons_self, hk⟩
  have sSet_list : sSet.toList = [115, 101, 116] := by rw [ByteArray.toList_eq]; rfl
  dsimp only [step]
  split
  ·rename_i g
   exact en _ _ _ _ (Or.inr ⟨txs_text g, rfl⟩)
  ·split
   ·refine VcG.nam fun g1 => ?_
    refine VcG.exp ?_
    refine VcG.nam fun g2 => ?_
    intro ns _ hns
    obtain ⟨h1, h2⟩ := hns (All.app (a := [nm l (i + 1)]) (b := [nm l (i + 1 + 1 + 1)]) (All.one (hl _ g1)) (All.one (hl _ g2))) (by simp)
    refine VcG.exp ?_
    refine VcG.exp ?_
    exact en _ _ _ _ (Or.inl ⟨sSet_list, h2, h1⟩)
   ·refine VcG.nam fun g1 => ?_
    refine VcG.exp ?_
    exact en _ _ _ _ (Or.inl ⟨sSet_list, by simp, All.one (hl _ g1)⟩)
 | .eqs a =>
  dsimp only [step]
  split
  ·exact fun ha => ha
  ·exact fun q j hq b k hb ha => hb (All.app ha hq)
 | .node =>
  have bn : ∀ (name : ByteArray) (ins : List Ex) (i d : Nat), NmOk name → All VarOk ins → VcG (PostG .node) (bodyA l name ins i d) := fun name ins i d hname hins => by
   unfold bodyA
   refine VcG.exp ?_
   refine VcG.exp ?_
   refine VcG.exp ?_
   intro o _ ho outs _ hou
   obtain ⟨hou1, hou2⟩ := hou ho.1 ho.2
   refine VcG.exp ?_
   refine VcG.exp ?_
   have rest : ∀ (owns : List Ex) (i : Nat), All VarOk owns → VcG (PostG .node) (expA l i tLet fun i => .call (.eqs []) i d fun qs i => expA l i tTel fun i => retA [.mk name 0 b0 [lst ins, lst outs, lst owns, lst qs]] i) := fun owns i hown => by
    refine VcG.exp ?_
    intro qs j hq
    refine VcG.exp ?_
    exact ⟨All.one ⟨name, ins, outs, owns, qs, rfl, hname, hins, hou2, hou1, hown, hq All.nil⟩, rfl⟩
   dsimp only
   split
   ·exact fun owns _ hown => rest _ _ (hown All.nil)
   ·exact rest _ _ All.nil
  dsimp only [step]
  refine VcG.exp ?_
  refine VcG.nam fun g => ?_
  refine VcG.exp ?_
  split
  ·exact bn _ _ _ _ (hl _ g) All.nil
  ·exact fun v _ hv ins _ hins => bn _ _ _ _ (hl _ g) (hins hv.1 hv.2).1
 | .nodes a =>
  dsimp only [step]
  split
  ·exact fun ha => ha
  ·split
   ·exact trivial
   ·exact fun n j hn b k hb ha => hb (All.app ha hn.1)
theorem Run.okG (hl : LexNm l) {a : Act} {r : Res} (h : Run l a r) : ∀ {Q : List Ex → Prop}, VcG Q a → ∀ e j, r = .ok e j → Q e := by
 induction h with
 | ret r => intro Q hv e j he; subst he; exact hv
 | ok c i d k e j r _ _ ih1 ih2 =>
  intro Q hv e' j' he
  exact ih2 (hv e j (ih1 (step_ok hl c i d) e j rfl)) e' j' he
 | bad c i d k j b _ _ => intro Q hv e j he; cases he
theorem Parse.okG (hl : LexNm l) {es : List Ex} {j : Nat} (h : Parse l (.nodes []) 0 0 (.ok es j)) : All NdG es := (Run.okG hl h (step_ok hl (.nodes []) 0 0) es j rfl) All.nil
end
theorem cells_ok : ∀ (a b : List Ex), varCells a = varCells b → All VarOk b → All VarOk a
 | [], _, _, _ => All.nil
 | x :: r, [], h, _ => by cases h
 | x :: r, y :: t, h, hb => by
  have h' : Value.string x.op :: Value.int .i64 x.n :: varCells r = Value.string y.op :: Value.int .i64 y.n :: varCells t := h
  simp only [List.cons.injEq, Value.string.injEq, Value.int.injEq, true_and] at h'
  obtain ⟨h1, h2, h3⟩ := h'
  intro v hv
  rcases List.mem_cons.1 hv with rfl | hv
  ·have := hb y List.mem_cons_self
   exact ⟨by rw [h1]; exact this.nm, by rw [h2]; exact this.kind⟩
  ·exact cells_ok r t h3 (fun z hz => hb z (List.mem_cons_of_mem _ hz)) v hv
theorem names_ok : ∀ (a b : List Ex), nameCells a = nameCells b → All NmV b → All NmV a
 | [], _, _, _ => All.nil
 | x :: r, [], h, _ => by cases h
 | x :: r, y :: t, h, hb => by
  have h' : Value.string x.op :: nameCells r = Value.string y.op :: nameCells t := h
  simp only [List.cons.injEq, Value.string.injEq] at h'
  obtain ⟨h1, h2⟩ := h'
  intro v hv
  rcases List.mem_cons.1 hv with rfl | hv
  ·show NmOk v.op
   rw [h1]; exact hb y List.mem_cons_self
  ·exact names_ok r t h2 (fun z hz => hb z (List.mem_cons_of_mem _ hz)) v hv
theorem cells_nil {a b : List Ex} (h : varCells a = varCells b) (hb : b ≠ []) : a ≠ [] := by
 rintro rfl
 cases b with
 | nil => exact hb rfl
 | cons y t => cases h
theorem names_nil {a b : List Ex} (h : nameCells a = nameCells b) : (b ≠ [] → a ≠ []) ∧ (b = [] → a = []) := by
 constructor
 ·rintro hb rfl
  cases b with
  | nil => exact hb rfl
  | cons y t => cases h
 ·rintro rfl
  cases a with
  | nil => rfl
  | cons y t => cases h
theorem EqOk.of {kind : ByteArray} {ns : List Ex} {e : Ex} (h1 : NmT e) (h2 : kind.toList = [115, 101, 116] → ns ≠ [] ∧ ∀ n ∈ ns, NmOk n.op) (h3 : kind.toList ≠ [115, 101, 116] → ns = []) : EqOk (.mk kind 0 b0 [lst ns, e]) := by
 refine ⟨fun k n' t he => ?_, fun k n' t he => ?_, fun k n' t he => ?_⟩ <;>
 ·simp only [Ex.mk.injEq, List.cons.injEq, lst] at he
  obtain ⟨rfl, _, _, ⟨_, _, _, rfl⟩, rfl, _⟩ := he
  first | exact h1 | exact h2 | exact h3
theorem NdG.okOf {n n' : Ex} (hs : SameNd n n') (h : NdG n') : NodeOk n := by
 obtain ⟨name, ins, ins', outs, outs', owns, owns', qs, qs', rfl, rfl, v1, v2, v3, hq1, hq2⟩ := hs
 obtain ⟨name2, i2, o2, w2, q2, e, g1, g2, g3, g4, g5, g6⟩ := h
 simp only [Ex.mk.injEq, List.cons.injEq, lst] at e
 obtain ⟨rfl, _, _, ⟨_, _, _, rfl⟩, ⟨_, _, _, rfl⟩, ⟨_, _, _, rfl⟩, ⟨_, _, _, rfl⟩, _⟩ := e
 refine ⟨name, ins, outs, owns, qs, rfl, g1, cells_ok _ _ v1 g2, cells_nil v2 g3, cells_ok _ _ v2 g4, cells_ok _ _ v3 g5, fun q hq => ?_⟩
 obtain ⟨m, hm, rfl⟩ := List.mem_iff_getElem.1 hq
 obtain ⟨kind, ns, ns', t, ea, eb, hc⟩ := hq2 m hm (by omega)
 obtain ⟨kind2, ns2, t2, e2, f1, f2⟩ := g6 (qs'[m]'(by omega)) (List.getElem_mem (by omega))
 rw [eb] at e2
 simp only [Ex.mk.injEq, List.cons.injEq, lst] at e2
 obtain ⟨rfl, _, _, ⟨_, _, _, rfl⟩, rfl, _⟩ := e2
 refine ⟨⟨kind, ns, t, ea⟩, ?_⟩
 rw [ea]
 refine EqOk.of f1 (fun hk => ?_) (fun hk => ?_)
 ·rcases f2 with ⟨_, f3, f4⟩ | ⟨f3, _⟩
  ·exact ⟨(names_nil hc).1 f3, names_ok _ _ hc f4⟩
  ·rw [hk] at f3; exact absurd f3 (by decide)
 ·rcases f2 with ⟨f3, _⟩ | ⟨_, f3⟩
  ·exact absurd f3 hk
  ·exact (names_nil hc).2 f3
def dQ : Ex → Nat
 | .mk _ _ _ (_ :: e :: _) => dW 0 e
 | _ => 0
def dN : Ex → Nat
 | .mk _ _ _ [_, _, _, d] => (d.l.map dQ).foldr max 0
 | _ => 0
theorem eq_txD {kind : ByteArray} {ns : List Ex} {e : Ex} {z : List UInt8} (h : eqX kind ns e = some z) (ok : EqOk (.mk kind 0 b0 [lst ns, e])) : ∃ p x, EqP (.mk kind 0 b0 [lst ns, e]) (dW 0 e) p x ∧ z = [32, 32] ++ (x ++ [10]) := by
 obtain ⟨a, b, ha, hb, rfl⟩ := catX_eq h
 obtain ⟨c, d, hc, hd, rfl⟩ := catX_eq hb
 obtain ⟨t, f, ht, hf, rfl⟩ := catX_eq hd
 cases ha; cases hf
 obtain ⟨op, n, s, es⟩ := e
 obtain ⟨p, hp⟩ := tw_prD (SizeOf.sizeOf es + 1) op n s es (by omega) (ok.nmt _ _ _ rfl) 0 t (by omega) ht
 by_cases hs : kind.toList = [115, 101, 116]
 ·rw [if_pos hs] at hc
  obtain ⟨y, w, hy, hw, rfl⟩ := catX_eq hc
  cases hw
  obtain ⟨hne, hnm⟩ := ok.set _ _ _ rfl hs
  rw [show kind = sSet from sOf_eq hs]
  match ns, hne, hnm, hy with
  | [v], _, hnm, hy =>
   have hy' : some v.op.data.toList = some y := hy
   cases hy'
   refine ⟨_, _, .one v _ _ p t (hnm v List.mem_cons_self) hp, ?_⟩
   rw [data_list]
   simp [tEq, tSemi]
  | v :: u :: r, _, hnm, hy =>
   have hy' : catX (some [40]) (catX (catX (nameX 0 v) (lstX nameX (0 + 1) (u :: r))) (some [41])) = some y := hy
   rw [nms_tx (u :: r) 0, nameX, sepX, if_neg (by omega), catX_some, catX_some, catX_some, catX_some] at hy'
   have hz : Lx offI (nameP v.op :: nmsP (u :: r)) (v.op.toList ++ nmsX (u :: r)) := nms_lex (u :: r) (p := [nameP v.op]) (fun x hx => hnm x (List.mem_cons_of_mem _ hx)) (Lx.name (hnm v List.mem_cons_self))
   cases hy'
   refine ⟨_, _, .many v u r _ _ p t _ hnm hz hp, ?_⟩
   rw [data_list]
   simp [tEq, tSemi, tOpen, tShut]
 ·rw [if_neg hs] at hc
  have hns := ok.chk _ _ _ rfl hs
  split at hc
  ·rename_i hk
   cases hc
   have hk' : kind.toList ∈ [tAssert, tCheck] := by
    rcases hk with h | h <;> rw [h] <;> decide
   have e1 : kind = sOf kind.toList := (sOf_bytes kind).symm
   have h1 := EqP.chk kind.toList ns (.mk op n s es) _ p t hk' hns hp
   rw [← e1] at h1
   refine ⟨_, _, h1, ?_⟩
   rw [data_list]
   simp [tSemi]
  ·cases hc
theorem qs_txD : ∀ (qs : List Ex) (i : Nat) {z : List UInt8}, lstX (fun _ q => eqTx q) i qs = some z → (∀ q ∈ qs, (∃ kind ns e, q = .mk kind 0 b0 [lst ns, e]) ∧ EqOk q) → ∃ qp : List Part, (∀ x ∈ qp, EqP x.1 x.2.1 x.2.2.1 x.2.2.2) ∧ qp.map (·.1) = qs ∧ maxD qp = (qs.map dQ).foldr max 0 ∧ z = qsX qp
 | [], _, z, hz, _ => by cases hz; exact ⟨[], (fun _ h => by cases h), rfl, rfl, rfl⟩
 | q :: r, i, z, hz, h => by
  obtain ⟨a, b, ha, hb, rfl⟩ := catX_eq hz
  obtain ⟨⟨kind, ns, e, rfl⟩, ok⟩ := h q List.mem_cons_self
  obtain ⟨p, x, hE, rfl⟩ := eq_txD (show eqX kind ns e = some a from ha) ok
  obtain ⟨qp, h1, h2, h3, rfl⟩ := qs_txD r (i + 1) hb fun y hy => h y (List.mem_cons_of_mem _ hy)
  exact ⟨(.mk kind 0 b0 [lst ns, e], dW 0 e, p, x) :: qp, fun y hy => (List.mem_cons.1 hy).elim (fun e => by rw [e]; exact hE) (h1 y), by rw [List.map_cons, h2], by rw [List.map_cons, List.foldr_cons, ← h3]; rfl, rfl⟩
theorem node_txD {n : Ex} {z : List UInt8} (h : nodeTx n = some z) (ok : NodeOk n) : ∃ P : NP, P.Fine ∧ P.ex = n ∧ maxD P.qp = dN n ∧ z = P.txt ++ [10] := by
 obtain ⟨name, ins, outs, owns, qs, rfl, o1, o2, o3, o4, o5, o6⟩ := ok.has
 have h' : nodeX name ins outs owns qs = some z := h
 rw [nodeX, opt_tx o2, opt_tx o4, ownX, opt_tx o5] at h'
 cases hq : lstX (fun _ q => eqTx q) 0 qs with
 | none =>
  rw [hq] at h'
  split at h' <;> cases h'
 | some y =>
  rw [hq] at h'
  obtain ⟨qp, h1, h2, h3, rfl⟩ := qs_txD qs 0 hq o6
  refine ⟨⟨name, ins, outs, owns, qp⟩, ⟨o1, o2, o3, o4, o5, h1⟩, by rw [NP.ex, h2], h3, ?_⟩
  by_cases ho : owns = []
  ·rw [if_pos (by rw [ho]; rfl)] at h'
   have h2 := Option.some.inj h'
   rw [← h2]
   simp only [NP.txt, NP.endT, ownT, if_pos ho, data_list]
   simp [tNode, tOpen, tShut, tReturns, tSemi, tLet, tTel]
  ·have hl : ¬ owns.length = 0 := fun h => ho (List.length_eq_zero_iff.1 h)
   rw [if_neg hl] at h'
   have h2 := Option.some.inj h'
   rw [← h2]
   simp only [NP.txt, NP.endT, ownT, if_neg ho, data_list]
   simp [tNode, tOpen, tShut, tReturns, tSemi, tLet, tTel, tVar]
theorem prog_txD : ∀ (es : List Ex) (i : Nat) {z : List UInt8}, lstX (fun _ n => nodeTx n) i es = some z → (∀ n ∈ es, NodeOk n) → ∃ ns : List NP, (∀ n ∈ ns, n.Fine) ∧ ns.map NP.ex = es ∧ ns.map (fun n => maxD n.qp) = es.map dN ∧ z = txtN ns
 | [], _, z, hz, _ => by cases hz; exact ⟨[], (fun _ h => by cases h), rfl, rfl, rfl⟩
 | n :: r, i, z, hz, h => by
  obtain ⟨a, b, ha, hb, rfl⟩ := catX_eq hz
  obtain ⟨P, h1, h2, h5, rfl⟩ := node_txD (show nodeTx n = some a from ha) (h n List.mem_cons_self)
  obtain ⟨ns, h3, h4, h6, rfl⟩ := prog_txD r (i + 1) hb fun y hy => h y (List.mem_cons_of_mem _ hy)
  exact ⟨P :: ns, fun y hy => (List.mem_cons.1 hy).elim (fun e => by rw [e]; exact h1) (h3 y), by rw [List.map_cons, h2, h4], by rw [List.map_cons, List.map_cons, h5, h6], rfl⟩
theorem prog_goesD {es : List Ex} {z : List UInt8} (h : progX es = some z) (ok : ∀ n ∈ es, NodeOk n) : ∃ (l : List Tk), Lexes (sOf z) 0 l none ∧
  ((es.length ≤ 12 ∧ (∀ n ∈ es, dN n ≤ 20) → ∃ es' j, Parse l (.nodes []) 0 0 (.ok es' j) ∧ SameNds es es') ∧ (¬ (es.length ≤ 12 ∧ (∀ n ∈ es, dN n ≤ 20)) → ∃ j, Parse l (.nodes []) 0 0 (.bad j true))) := by
 obtain ⟨ns, h1, h2, h3, rfl⟩ := prog_txD es 0 h ok
 obtain ⟨l, hl, hm⟩ := prog_lexes ns h1
 have A := AtP.drop l l.length 0 (by omega)
 rw [List.drop_zero, hm] at A
 obtain ⟨a1, ⟨k1, _⟩, _⟩ := A.split
 have he : isEnd l (0 + (toksN ns).length) = true := by
  unfold isEnd
  rw [k1, show ((kEnd, b0) : Pc).1 = kEnd from rfl, kEnd_list]
  rfl
 obtain ⟨g1, g2⟩ := nodes_goes ns [] 0 h1 a1 he (by simp)
 have hlen : ns.length = es.length := by rw [← h2, List.length_map]
 rw [List.length_nil, Nat.zero_add, hlen] at g1 g2
 have hd : (∀ n ∈ ns, maxD n.qp ≤ 20) ↔ ∀ n ∈ es, dN n ≤ 20 := by
  have a : (∀ n ∈ ns, maxD n.qp ≤ 20) ↔ ∀ k ∈ ns.map (fun n => maxD n.qp), k ≤ 20 := by simp
  have b : (∀ n ∈ es, dN n ≤ 20) ↔ ∀ k ∈ es.map dN, k ≤ 20 := by simp
  rw [a, b, h3]
 rw [hd] at g1 g2
 refine ⟨l, hl, fun hk => ⟨_, _, g1 hk, ?_⟩, g2⟩
 rw [List.nil_append, ← h2]
 refine ⟨by simp, fun m a b => ?_⟩
 simp only [List.getElem_map]
 exact NP.same (h1 _ (List.getElem_mem (by simpa using a)))
theorem prog_rightD {es es' : List Ex} {z : List UInt8} {l : List Tk} {j : Nat} (h : progX es = some z) (hl : Lexes (sOf z) 0 l none) (hP : Parse l (.nodes []) 0 0 (.ok es' j)) (hs : SameNds es es') : (∀ n ∈ es, NodeOk n) ∧ es.length ≤ 12 ∧ ∀ n ∈ es, dN n ≤ 20 := by
 have hG := Parse.okG hl.nm hP
 obtain ⟨hs1, hs2⟩ := hs
 have ok : ∀ n ∈ es, NodeOk n := fun n hn => by
  obtain ⟨m, hm, rfl⟩ := List.mem_iff_getElem.1 hn
  exact NdG.okOf (hs2 m hm (by omega)) (hG _ (List.getElem_mem (by omega)))
 obtain ⟨l', h3, _, h5⟩ := prog_goesD h ok
 refine ⟨ok, ?_⟩
 by_cases hk : es.length ≤ 12 ∧ ∀ n ∈ es, dN n ≤ 20
 ·exact hk
 ·obtain ⟨j', hj⟩ := h5 hk
  obtain ⟨rfl, _⟩ := h3.one hl
  exact absurd (hP.one hj) (by simp)
structure RightP (es : List Ex) (z : List UInt8) : Prop where
 txt : progX es = some z
 len : z.length ≤ 6000
 ok : ∀ n ∈ es, NodeOk n
 many : es.length ≤ 12
 deep : ∀ n ∈ es, dN n ≤ 20
def NoRight (es : List Ex) : Prop := ∀ z, ¬ RightP es z
theorem rvTxt_some : ∀ (vs : List Ex) (i : Nat), 0 < i → (∀ v ∈ vs, VarOk v) → lstX varX i vs = some (vs.flatMap fun u => [59, 32] ++ rOne u)
 | [], _, _, _ => rfl
 | v :: r, i, hi, h => by
  have hv := h v List.mem_cons_self
  have hk : kindX v.n = some (if v.n = 2 then [105, 110, 116] else [98, 111, 111, 108]) := by
   rcases hv.kind with e | e <;> rw [e] <;> rfl
  rw [lstX, rvTxt_some r (i + 1) (by omega) (fun u hu => h u (List.mem_cons_of_mem _ hu)), varX, sepX, if_pos hi, hk]
  simp [catX, rOne, data_list]
theorem vars_rv {vs : List Ex} (h : ∀ v ∈ vs, VarOk v) : lstX varX 0 vs = some (rvTxt vs) := by
 cases vs with
 | nil => rfl
 | cons v r =>
  have hv := h v List.mem_cons_self
  have hk : kindX v.n = some (if v.n = 2 then [105, 110, 116] else [98, 111, 111, 108]) := by
   rcases hv.kind with e | e <;> rw [e] <;> rfl
  rw [lstX, rvTxt_some r 1 (by omega) (fun u hu => h u (List.mem_cons_of_mem _ hu)), varX, sepX, if_neg (by omega), hk]
  simp [catX, rOne, data_list, rvTxt]
def telW : List UInt8 := [116, 101, 108, 10]
def hdTx (name : ByteArray) (ins outs owns : List Ex) : List UInt8 := [110, 111, 100, 101, 32] ++ name.toList ++ [40] ++ rvTxt ins ++ [41, 32, 114, 101, 116, 117, 114, 110, 115, 32, 40] ++ rvTxt outs ++ [41, 59, 10] ++ (if owns.length = 0 then [] else [118, 97, 114, 32] ++ rvTxt owns ++ [59, 10]) ++ [108, 101, 116, 10]
theorem node_hd {name : ByteArray} {ins outs owns qs : List Ex} (h1 : ∀ v ∈ ins, VarOk v) (h2 : ∀ v ∈ outs, VarOk v) (h3 : ∀ v ∈ owns, VarOk v) : nodeX name ins outs owns qs = catX (some (hdTx name ins outs owns)) (catX (lstX (fun _ q => eqTx q) 0 qs) (some telW)) := by
 rw [nodeX, vars_rv h1, vars_rv h2, ownX, vars_rv h3]
 generalize lstX (fun _ q => eqTx q) 0 qs = T
 by_cases h : owns.length = 0
 ·cases T <;> simp [catX, hdTx, h, data_list, telW]
 ·cases T <;> simp [catX, hdTx, h, data_list, telW]
structure HeadOk (name : ByteArray) (ins outs owns : List Ex) : Prop where
 nm : NmOk name
 ins : ∀ v ∈ ins, VarOk v
 some : outs ≠ []
 outs : ∀ v ∈ outs, VarOk v
 owns : ∀ v ∈ owns, VarOk v
abbrev ndOf (name : ByteArray) (ins outs owns qs : List Ex) : Ex := .mk name 0 b0 [lst ins, lst outs, lst owns, lst qs]
abbrev eqOf (kind : ByteArray) (ns : List Ex) (e : Ex) : Ex := .mk kind 0 b0 [lst ns, e]
theorem lst_inj {a b : List Ex} (h : lst a = lst b) : a = b := by injection h
theorem NodeOk.head {name : ByteArray} {ins outs owns qs : List Ex} (h : NodeOk (ndOf name ins outs owns qs)) : HeadOk name ins outs owns ∧ ∀ q ∈ qs, (∃ kind ns e, q = eqOf kind ns e) ∧ EqOk q := by
 obtain ⟨n', i', o', w', q', e, h1, h2, h3, h4, h5, h6⟩ := h.has
 injection e with e1 _ _ e2
 simp only [List.cons.injEq, and_true] at e2
 obtain ⟨e3, e4, e5, e6⟩ := e2
 cases e1; cases lst_inj e3; cases lst_inj e4; cases lst_inj e5; cases lst_inj e6
 exact ⟨⟨h1, h2, h3, h4, h5⟩, h6⟩
theorem HeadOk.node {name : ByteArray} {ins outs owns qs : List Ex} (h : HeadOk name ins outs owns) (hq : ∀ q ∈ qs, (∃ kind ns e, q = eqOf kind ns e) ∧ EqOk q) : NodeOk (ndOf name ins outs owns qs) := ⟨⟨name, ins, outs, owns, qs, rfl, h.nm, h.ins, h.some, h.outs, h.owns, hq⟩⟩
structure PrgAt (es : List Ex) (i : Nat) (out : List UInt8) (m : Nat) : Prop where
 txt : progX es = catX (some out) (lstX (fun _ n => nodeTx n) i (es.drop i))
 ok : ∀ j (hj : j < es.length), j < i → NodeOk es[j] ∧ dN es[j] ≤ 20
 len : out.length ≤ 6000
 many : es.length ≤ 12
 cnt : m ≤ out.length
structure NodAt (es : List Ex) (i : Nat) (name : ByteArray) (ins outs owns qs : List Ex) (k : Nat) (out : List UInt8) (m : Nat) : Prop where
 txt : progX es = catX (some out) (catX (lstX (fun _ q => eqTx q) k (qs.drop k)) (catX (some telW) (lstX (fun _ n => nodeTx n) (i + 1) (es.drop (i + 1)))))
 ok : ∀ j (hj : j < es.length), j < i → NodeOk es[j] ∧ dN es[j] ≤ 20
 many : es.length ≤ 12
 head : HeadOk name ins outs owns
 eqs : ∀ j (hj : j < qs.length), j < k → ((∃ kind ns e, qs[j] = eqOf kind ns e) ∧ EqOk qs[j]) ∧ dQ qs[j] ≤ 20
 cnt : m ≤ out.length
 room : m ≤ 6000
theorem catX_long {a b : Tx} {z : List UInt8} (h : catX a b = some z) {x : List UInt8} (ha : a = some x) : x.length ≤ z.length := by
 obtain ⟨y, c, hy, _, rfl⟩ := catX_eq h
 rw [ha] at hy
 cases hy
 rw [List.length_append]
 omega
theorem noRight_many {es : List Ex} (h : 12 < es.length) : NoRight es := fun _ hz => by have := hz.many; omega
theorem PrgAt.start {es : List Ex} (h : es.length ≤ 12) : PrgAt es 0 [] 0 := ⟨by rw [catX_nil, List.drop_zero]; rfl, fun j _ hj => by omega, by simp, h, by simp⟩
theorem PrgAt.done {es : List Ex} {i : Nat} {out : List UInt8} {m : Nat} (h : PrgAt es i out m) (hi : es.length ≤ i) : RightP es out := by
 refine ⟨?_, h.len, fun n hn => ?_, h.many, fun n hn => ?_⟩
 ·rw [h.txt, lstX_end _ hi, catX_end]
 ·obtain ⟨j, hj, rfl⟩ := List.mem_iff_getElem.1 hn
  exact (h.ok j hj (by omega)).1
 ·obtain ⟨j, hj, rfl⟩ := List.mem_iff_getElem.1 hn
  exact (h.ok j hj (by omega)).2
section
variable {es : List Ex} {i : Nat} {name : ByteArray} {ins outs owns qs : List Ex} {out : List UInt8} {m : Nat}
theorem PrgAt.node (h : PrgAt es i out m) (hi : i < es.length) (he : es[i] = ndOf name ins outs owns qs) (hh : HeadOk name ins outs owns) : NodAt es i name ins outs owns qs 0 (out ++ hdTx name ins outs owns) m := by
 refine ⟨?_, h.ok, h.many, hh, fun j _ hj => by omega, by rw [List.length_append]; have := h.cnt; omega, by have := h.cnt; have := h.len; omega⟩
 rw [h.txt, lstX_drop _ hi, he, List.drop_zero]
 show catX (some out) (catX (nodeX name ins outs owns qs) _) = _
 rw [node_hd hh.ins hh.outs hh.owns]
 generalize lstX (fun _ q => eqTx q) 0 qs = T
 generalize lstX (fun _ n => nodeTx n) (i + 1) (es.drop (i + 1)) = U
 cases T <;> cases U <;> simp [catX]
theorem noRight_head (hi : i < es.length) (he : es[i] = ndOf name ins outs owns qs) (hh : ¬ HeadOk name ins outs owns) : NoRight es := fun _ hz => by
 have := hz.ok _ (List.getElem_mem hi)
 rw [he] at this
 exact hh this.head.1
variable {k : Nat}
theorem NodAt.long (h : NodAt es i name ins outs owns qs k out m) (hl : 6000 < out.length) : NoRight es := fun z hz => by
 have h1 := hz.txt
 rw [h.txt] at h1
 have := catX_long h1 rfl
 have := hz.len
 omega
theorem dN_eq : dN (ndOf name ins outs owns qs) = (qs.map dQ).foldr max 0 := rfl
theorem foldr_le {ds : List Nat} {m : Nat} : ds.foldr max 0 ≤ m ↔ ∀ d ∈ ds, d ≤ m := by
 induction ds with
 | nil => simp
 | cons a r ih =>
  rw [List.foldr_cons]
  simp only [List.mem_cons, forall_eq_or_imp, ← ih]
  omega
theorem NodAt.done (h : NodAt es i name ins outs owns qs k out m) (hi : i < es.length) (he : es[i] = ndOf name ins outs owns qs) (hk : qs.length ≤ k) (hl : (out ++ telW).length ≤ 6000) : PrgAt es (i + 1) (out ++ telW) m := by
 refine ⟨?_, fun j hj hlt => ?_, hl, h.many, by rw [List.length_append]; have := h.cnt; omega⟩
 ·rw [h.txt, lstX_end _ hk, catX_nil]
  generalize lstX (fun _ n => nodeTx n) (i + 1) (es.drop (i + 1)) = U
  cases U <;> simp [catX]
 ·by_cases e : j = i
  ·subst e
   rw [he]
   refine ⟨h.head.node fun q hq => ?_, ?_⟩
   ·obtain ⟨j, hj, rfl⟩ := List.mem_iff_getElem.1 hq
    exact (h.eqs j hj (by omega)).1
   ·rw [dN_eq, foldr_le]
    intro d hd
    obtain ⟨q, hq, rfl⟩ := List.mem_map.1 hd
    obtain ⟨j, hj, rfl⟩ := List.mem_iff_getElem.1 hq
    exact (h.eqs j hj (by omega)).2
  ·exact h.ok j hj (by omega)
theorem NodAt.over (h : NodAt es i name ins outs owns qs k out m) (hk : qs.length ≤ k) (hl : 6000 < (out ++ telW).length) : NoRight es := fun z hz => by
 have h1 := hz.txt
 rw [h.txt, lstX_end _ hk, catX_nil] at h1
 obtain ⟨y, c, hy, hc, rfl⟩ := catX_eq h1
 obtain ⟨y', c', hy', _, rfl⟩ := catX_eq hc
 cases hy; cases hy'
 have := hz.len
 simp only [List.length_append] at this hl
 omega
def nmJ (ns : List Ex) : Nat → List UInt8
 | 0 => []
 | j + 1 => nmJ ns j ++ ((if 0 < j then [44, 32] else if 1 < ns.length then [40] else []) ++ (ns.getD j (lst [])).op.toList)
def nmTx (ns : List Ex) : List UInt8 := nmJ ns ns.length ++ (if 1 < ns.length then [41] else [])
theorem nmJ_at {ns : List Ex} {j : Nat} (h : j < ns.length) : nmJ ns (j + 1) = nmJ ns j ++ ((if 0 < j then [44, 32] else if 1 < ns.length then [40] else []) ++ ns[j].op.toList) := by
 rw [nmJ, List.getD_eq_getElem?_getD, List.getElem?_eq_getElem h]
 rfl
theorem nmJ_lst {ns : List Ex} : ∀ j : Nat, j ≤ ns.length → ∃ x, lstX nameX 0 ns = catX (some x) (lstX nameX j (ns.drop j)) ∧ (0 < j → nmJ ns j = (if 1 < ns.length then [40] else []) ++ x)
 | 0, _ => ⟨[], by rw [catX_nil, List.drop_zero], fun h => by omega⟩
 | j + 1, h => by
  obtain ⟨x, h1, h2⟩ := nmJ_lst (ns := ns) j (by omega)
  have hj : j < ns.length := by omega
  have hq : nameX j ns[j] = some ((if 0 < j then [44, 32] else []) ++ ns[j].op.toList) := by
   rw [nameX, sepX, data_list]
   split <;> rfl
  refine ⟨_, lst_next hj h1 hq, fun _ => ?_⟩
  rw [nmJ_at hj]
  by_cases h0 : 0 < j
  ·rw [h2 h0, if_pos h0, if_pos h0]
   simp
  ·obtain rfl : j = 0 := by omega
   have hx : x = [] := by
    rw [List.drop_zero] at h1
    cases hT : lstX nameX 0 ns with
    | none =>
     exfalso
     have hall : ∀ (l : List Ex) (i : Nat), lstX nameX i l ≠ none := by
      intro l
      induction l with
      | nil => intro i; simp [lstX]
      | cons a r ih =>
       intro i e
       rw [lstX] at e
       cases hr : lstX nameX (i + 1) r with
       | none => exact ih _ hr
       | some y =>
        rw [hr, nameX, sepX] at e
        split at e <;> simp [catX] at e
     exact hall _ _ hT
    | some y =>
     rw [hT] at h1
     have := congrArg List.length (Option.some.inj h1)
     rw [List.length_append] at this
     exact List.length_eq_zero_iff.1 (by omega)
   rw [hx]
   simp [nmJ]
theorem names_nm {ns : List Ex} (h : ns ≠ []) : namesX ns = some (nmTx ns) := by
 match ns, h with
 | [v], _ => simp [namesX, nmTx, nmJ, data_list]
 | a :: b :: r, _ =>
  obtain ⟨x, h1, h2⟩ := nmJ_lst (ns := a :: b :: r) (a :: b :: r).length (Nat.le_refl _)
  rw [lstX_end _ (Nat.le_refl _), catX_end] at h1
  show catX (some [40]) (catX (lstX nameX 0 (a :: b :: r)) (some [41])) = _
  rw [h1, nmTx, h2 (by simp)]
  simp [catX]
variable {kind : ByteArray} {ns : List Ex} {e : Ex}
def LineOk (kind : ByteArray) (ns : List Ex) : Prop := (∀ n ∈ ns, NmOk n.op) ∧ ((kind.toList = [115, 101, 116] ∧ 0 < ns.length) ∨ ((kind.toList = [97, 115, 115, 101, 114, 116] ∨ kind.toList = [99, 104, 101, 99, 107]) ∧ ns.length = 0))
def lnTx (kind : ByteArray) (ns : List Ex) : List UInt8 := [32, 32] ++ nmTx ns ++ (if kind.toList = [115, 101, 116] then [32, 61, 32] else kind.toList ++ [32])
theorem eq_line (h : LineOk kind ns) : eqX kind ns e = catX (some (lnTx kind ns)) (catX (tw 0 e) (some [59, 10])) := by
 rcases h.2 with ⟨h1, h2⟩ | ⟨h1, h2⟩
 ·rw [eqX, lnTx, if_pos h1, if_pos h1, names_nm (by intro e; rw [e] at h2; simp at h2)]
  cases tw 0 e <;> simp [catX]
 ·have h3 : ¬ kind.toList = [115, 101, 116] := by rcases h1 with h | h <;> rw [h] <;> decide
  have h4 : ns = [] := List.length_eq_zero_iff.1 h2
  rw [eqX, lnTx, if_neg h3, if_neg h3, if_pos h1, h4, data_list]
  cases tw 0 e <;> simp [catX, nmTx, nmJ]
theorem line_eq (h : LineOk kind ns) (hN : NmT e) : EqOk (eqOf kind ns e) := by
 refine ⟨fun k n x hx => ?_, fun k n x hx hk => ?_, fun k n x hx hk => ?_⟩
 all_goals
  injection hx with e1 _ _ e2
  simp only [List.cons.injEq, and_true] at e2
  obtain ⟨e3, e4⟩ := e2
  cases e1; cases lst_inj e3; cases e4
 ·exact hN
 ·rcases h.2 with ⟨_, h2⟩ | ⟨h1, _⟩
  ·exact ⟨fun g => by rw [g] at h2; simp at h2, h.1⟩
  ·exfalso; rw [hk] at h1; revert h1; decide
 ·rcases h.2 with ⟨h1, _⟩ | ⟨_, h2⟩
  ·exact absurd h1 hk
  ·exact List.length_eq_zero_iff.1 h2
theorem NodAt.next (h : NodAt es i name ins outs owns qs k out m) (hk : k < qs.length) (he : qs[k] = eqOf kind ns e) (hl : LineOk kind ns) {x : List UInt8} {K : Nat} (hx : WentT 0 e 0 m x K) : NodAt es i name ins outs owns qs (k + 1) (out ++ lnTx kind ns ++ x ++ [59, 10]) (m + K) := by
 refine ⟨?_, h.ok, h.many, h.head, fun j hj hlt => ?_, ?_, hx.room⟩
 ·rw [h.txt, lstX_drop _ hk, he]
  show catX (some out) (catX (catX (eqX kind ns e) _) _) = _
  rw [eq_line hl, hx.is]
  generalize lstX (fun _ q => eqTx q) (k + 1) (qs.drop (k + 1)) = T
  generalize lstX (fun _ n => nodeTx n) (i + 1) (es.drop (i + 1)) = U
  cases T <;> cases U <;> simp [catX]
 ·by_cases g : j = k
  ·subst g
   rw [he]
   exact ⟨⟨⟨_, _, _, rfl⟩, line_eq hl hx.nm⟩, by have := hx.deep; simpa [dQ] using this⟩
  ·exact h.eqs j hj (by omega)
 ·have h1 := h.cnt
  have h2 := hx.le
  simp only [List.length_append]
  omega
theorem NodAt.shape (hi : i < es.length) (hd : es[i] = ndOf name ins outs owns qs) (hk : k < qs.length) (he : qs[k] = eqOf kind ns e) {z : List UInt8} (hz : RightP es z) : EqOk (eqOf kind ns e) ∧ dW 0 e ≤ 20 := by
 have h1 := hz.ok _ (List.getElem_mem hi)
 rw [hd] at h1
 have h2 := (h1.head.2 _ (List.getElem_mem hk)).2
 rw [he] at h2
 have h3 := hz.deep _ (List.getElem_mem hi)
 rw [hd, dN_eq, foldr_le] at h3
 have h4 := h3 _ (List.mem_map.2 ⟨_, List.getElem_mem hk, rfl⟩)
 rw [he] at h4
 exact ⟨h2, h4⟩
theorem NodAt.tx (h : NodAt es i name ins outs owns qs k out m) (hk : k < qs.length) (he : qs[k] = eqOf kind ns e) {z : List UInt8} (hz : RightP es z) : ∃ y, eqX kind ns e = some y ∧ out.length + y.length ≤ 6000 := by
 have h1 := hz.txt
 rw [h.txt, lstX_drop _ hk, he] at h1
 obtain ⟨a, b, ha, hb, rfl⟩ := catX_eq h1
 obtain ⟨c, d, hc, hd, rfl⟩ := catX_eq hb
 obtain ⟨y, f, hy, hf, rfl⟩ := catX_eq hc
 cases ha
 have := hz.len
 simp only [List.length_append] at this
 exact ⟨y, hy, by omega⟩
theorem NodAt.wrong (h : NodAt es i name ins outs owns qs k out m) (hi : i < es.length) (hd : es[i] = ndOf name ins outs owns qs) (hk : k < qs.length) (he : qs[k] = eqOf kind ns e) (hl : ¬ LineOk kind ns) : NoRight es := fun z hz => hl (by
 obtain ⟨h1, _⟩ := NodAt.shape hi hd hk he hz
 obtain ⟨y, hy, _⟩ := h.tx hk he hz
 by_cases hs : kind.toList = [115, 101, 116]
 ·obtain ⟨h2, h3⟩ := h1.set kind ns e rfl hs
  exact ⟨h3, Or.inl ⟨hs, List.length_pos_iff.2 h2⟩⟩
 ·have h2 := h1.chk kind ns e rfl hs
  refine ⟨fun n hn => (by rw [h2] at hn; cases hn), Or.inr ⟨?_, (by rw [h2]; rfl)⟩⟩
  rw [eqX, if_neg hs] at hy
  obtain ⟨_, b, _, hb, _⟩ := catX_eq hy
  obtain ⟨c, _, hc, _, _⟩ := catX_eq hb
  split at hc
  ·assumption
  ·cases hc)
theorem NodAt.no (h : NodAt es i name ins outs owns qs k out m) (hi : i < es.length) (hd : es[i] = ndOf name ins outs owns qs) (hk : k < qs.length) (he : qs[k] = eqOf kind ns e) (hx : NoGoT 0 e 0 m) : NoRight es := fun z hz => by
 obtain ⟨h1, h2⟩ := NodAt.shape hi hd hk he hz
 obtain ⟨y, hy, hyl⟩ := h.tx hk he hz
 obtain ⟨_, b, _, hb, rfl⟩ := catX_eq hy
 obtain ⟨c, d, _, hd', rfl⟩ := catX_eq hb
 obtain ⟨x, f, hx', _, rfl⟩ := catX_eq hd'
 have h3 := hx x hx' (h1.nmt _ _ _ rfl) (by omega)
 have h4 := h.cnt
 simp only [List.length_append] at hyl
 omega
end
end Go.Proofs.YtgbpccipdcajgaaGreatDoor
