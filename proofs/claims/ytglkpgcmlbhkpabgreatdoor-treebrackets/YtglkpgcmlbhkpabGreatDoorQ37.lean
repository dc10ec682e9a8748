/-
  BRACKETS AROUND A TERM CHANGE NOTHING, IN PLAIN MATHEMATICS: the text of a node with one check, the same with brackets around its term, and how it is read.
-/
import Derived.Test.YtglkpgcmlbhkpabGreatDoorQ36
import Derived.Test.YtglkpgcmlbhkpabGreatDoorQ31
import Derived.Test.YtglkpgcmlbhkpabGreatDoorQ29
import Derived.Test.YtglkpgcmlbhkpabGreatDoorQ35
namespace Go.Proofs.YtglkpgcmlbhkpabGreatDoor

def sA : ByteArray := ⟨#[97]⟩
def sX : ByteArray := ⟨#[120]⟩
def sCheck : ByteArray := ⟨#[99, 104, 101, 99, 107]⟩
/-- A node that has one check. -/
def nodeB (e : Ex) : Ex := .mk sA 0 b0 [lst [], lst [.mk sX 1 b0 []], lst [], lst [.mk sCheck 0 b0 [lst [], e]]]
def headL : List UInt8 := [110, 111, 100, 101, 32, 97, 40, 41, 32, 114, 101, 116, 117, 114, 110, 115, 32, 40, 120, 58, 32, 98, 111, 111, 108, 41, 59, 10, 108, 101, 116, 10, 32, 32, 99, 104, 101, 99, 107, 32]
def tailL : List UInt8 := [59, 10, 116, 101, 108, 10]
theorem prog_brk {e : Ex} {z : List UInt8} (h : progX [nodeB e] = some z) : ∃ x, tw 0 e = some x ∧ z = headL ++ (x ++ tailL) := by
  have hn : progX [nodeB e] = catX (nodeX sA [] [.mk sX 1 b0 []] [] [.mk sCheck 0 b0 [lst [], e]]) (some []) := rfl
  rw [hn, catX_end, nodeX, ownX, if_pos (show ([] : List Ex).length = 0 from rfl)] at h
  have hq : lstX (fun _ q => eqTx q) 0 [.mk sCheck 0 b0 [lst [], e]] = catX (eqX sCheck [] e) (some []) := rfl
  have hk : sCheck.toList = [99, 104, 101, 99, 107] := by rw [ByteArray.toList_eq]; rfl
  rw [hq, catX_end, eqX, if_neg (by rw [hk]; decide), if_pos (by rw [hk]; decide)] at h
  cases hx : tw 0 e with
  | none => rw [hx] at h; cases h
  | some x =>
    rw [hx] at h
    refine ⟨x, rfl, ?_⟩
    have h' := Option.some.inj h
    rw [← h']
    show [110, 111, 100, 101, 32, 97, 40] ++ ([] ++ ([41, 32, 114, 101, 116, 117, 114, 110, 115, 32, 40] ++ (([] ++ (([120] ++ [58, 32]) ++ [98, 111, 111, 108])) ++ [] ++ ([41, 59, 10] ++ ([108, 101, 116, 10] ++ (([32, 32] ++ (([99, 104, 101, 99, 107] ++ [32]) ++ (x ++ [59, 10]))) ++ [116, 101, 108, 10])))))) = headL ++ (x ++ tailL)
    simp [headL, tailL]
/-- What was written of it, and read as the same: its term is as the grammar has it. -/
theorem brk_pr {e : Ex} {t : ByteArray} {l : List Tk} {es' : List Ex} {j : Nat} (h : progX [nodeB e] = some t.toList) (hl : Lexes t 0 l none) (hP : Parse l (.nodes []) 0 0 (.ok es' j)) (hs : SameNds [nodeB e] es') : ∃ k p x, t.toList = headL ++ (x ++ tailL) ∧ Pr 0 e k p x := by
  obtain ⟨x, hx, ht⟩ := prog_brk h
  have hN := Parse.nm hl.nm hP
  obtain ⟨h1, h2⟩ := hs
  have hl1 : es'.length = 1 := h1.symm
  obtain ⟨name, ins, ins', outs, outs', owns, owns', qs, qs', ha, hb, _, _, _, hq⟩ := h2 0 (by simp) (by omega)
  obtain ⟨hq1, hq2⟩ := hq
  have hqs : qs = [.mk sCheck 0 b0 [lst [], e]] := by
    have ha' : nodeB e = .mk name 0 b0 [lst ins, lst outs, lst owns, lst qs] := ha
    simp only [nodeB, Ex.mk.injEq, List.cons.injEq, lst] at ha'
    exact ha'.2.2.2.2.2.2.1.2.2.2.symm
  subst hqs
  have hq' : qs'.length = 1 := hq1.symm
  obtain ⟨kind, ns, ns', t', hc, hd, _⟩ := hq2 0 (by simp) (by omega)
  have he : t' = e := by
    have hc' : Ex.mk sCheck 0 b0 [lst [], e] = .mk kind 0 b0 [lst ns, t'] := hc
    simp only [Ex.mk.injEq, List.cons.injEq] at hc'
    exact hc'.2.2.2.2.1.symm
  subst he
  have h0 : 0 < es'.length := by omega
  have h0' : 0 < qs'.length := by omega
  have hm := hN (es'[0]'h0) (List.getElem_mem h0) (lst qs') (by rw [hb]; rfl) (qs'[0]'h0') (List.getElem_mem h0')
  rw [hd] at hm
  have hT : NmT t' := hm t' (by show t' ∈ [t']; exact List.mem_cons_self)
  obtain ⟨op, n, s, es⟩ := t'
  obtain ⟨k, p, hp⟩ := tw_pr (SizeOf.sizeOf es + 1) op n s es (by omega) hT 0 x (by omega) hx
  exact ⟨k, p, x, ht, hp⟩
/-- So many brackets around a text. -/
def brkN : Nat → List UInt8 → List UInt8
  | 0, x => x
  | m + 1, x => 40 :: (brkN m x ++ [41])
theorem brkN_pr {e : Ex} {k : Nat} {p : List Pc} {x : List UInt8} (h : Pr 0 e k p x) : ∀ m, ∃ k' p', Pr 0 e k' p' (brkN m x)
  | 0 => ⟨k, p, h⟩
  | m + 1 => by
    obtain ⟨k', p', h'⟩ := brkN_pr h m
    exact ⟨_, _, Pr.brk 0 k' e p' _ (by omega) h'⟩
theorem brkN_len (x : List UInt8) : ∀ m, (brkN m x).length = x.length + 2 * m
  | 0 => rfl
  | m + 1 => by
    have := brkN_len x m
    simp only [brkN, List.length_cons, List.length_append, List.length_nil]
    omega

theorem Lx.gaps {P Q : Int → Bool} {p q : List Pc} {x y : List UInt8} (h : Lx P p x) (g : Lx Q q y) (bl : List UInt8) (hb : ∀ c ∈ bl, c = 32 ∨ c = 10) (hp : ∃ c r, bl = c :: r ∧ P (c.toNat : Int) = true) : Lx Q (p ++ q) (x ++ (bl ++ y)) := by
  intro s l i0 i R S H st
  obtain ⟨H1, H2⟩ := H.split
  obtain ⟨H3, H4⟩ := H2.split
  obtain ⟨c, r, rfl, hc⟩ := hp
  obtain ⟨ts, R1, e1⟩ := h s l i0 i R S H1 fun _ => by rw [H3.head.2]; exact hc
  have el : i + (x ++ ((c :: r) ++ y)).length = i + x.length + (c :: r).length + y.length := by rw [List.length_append, List.length_append]; omega
  rw [el] at st ⊢
  have hsk : Skips s (i + x.length) (i + x.length + (c :: r).length) := Skips.blanks _ _ H3.le fun k hk => by
    rw [H3.at' k hk]
    rcases hb _ (List.getElem_mem hk) with h | h <;> rw [h] <;> rfl
  obtain ⟨us, R2, e2⟩ := g s _ _ _ R1 hsk H4 st
  exact ⟨ts ++ us, by rw [← List.append_assoc]; exact R2, by rw [List.map_append, e1, e2]⟩
theorem sA_ok : NmOk sA := by
  refine ⟨by decide, by decide, by decide, fun k hk => ?_, by simp [wordB, wordL, sA, ByteArray.toList_eq]⟩
  have h1 : k < 1 := hk
  obtain rfl : k = 0 := by omega
  decide
theorem sX_ok : NmOk sX := by
  refine ⟨by decide, by decide, by decide, fun k hk => ?_, by simp [wordB, wordL, sX, ByteArray.toList_eq]⟩
  have h1 : k < 1 := hk
  obtain rfl : k = 0 := by omega
  decide
def headP : List Pc := [wordP tNode, nameP sA, opP tOpen, opP tShut, wordP tReturns, opP tOpen, nameP sX, opP tColon, wordP tBool, opP tShut, opP tSemi, wordP tLet, wordP tCheck]
theorem brk_lex {p : List Pc} {x : List UInt8} (h : Lx offI p x) : Lx offI (headP ++ (p ++ [opP tSemi, wordP tTel])) (headL ++ (x ++ [59, 10, 116, 101, 108])) := by
  have o1 : ∀ {c : UInt8}, c ∈ oneL → c ≠ 60 → c ≠ 62 → c ≠ 61 → c ≠ 45 → Lx anyI [opP [c]] [c] := fun a b c d e => Lx.op1 a b c d e
  have nA : Lx offI [nameP sA] [97] := by have := Lx.name sA_ok; rwa [show sA.toList = [97] from by rw [ByteArray.toList_eq]; rfl] at this
  have nX : Lx offI [nameP sX] [120] := by have := Lx.name sX_ok; rwa [show sX.toList = [120] from by rw [ByteArray.toList_eq]; rfl] at this
  have hO : Lx anyI [opP tOpen] [40] := o1 (by decide) (by decide) (by decide) (by decide) (by decide)
  have hS : Lx anyI [opP tShut] [41] := o1 (by decide) (by decide) (by decide) (by decide) (by decide)
  have hC : Lx anyI [opP tColon] [58] := o1 (by decide) (by decide) (by decide) (by decide) (by decide)
  have hM : Lx anyI [opP tSemi] [59] := o1 (by decide) (by decide) (by decide) (by decide) (by decide)
  have w : ∀ {y : List UInt8}, y ∈ wordL → Lx offI [wordP y] y := fun h => Lx.word h
  have z : Lx offI ([opP tSemi] ++ [wordP tTel]) ([59] ++ ([10] ++ tTel)) := Lx.gaps hM (w (by decide)) [10] (by decide) ⟨_, _, rfl, rfl⟩
  have z := Lx.seq h z ⟨59, _, rfl, rfl⟩
  have z := Lx.gap (w (y := tCheck) (by decide)) z rfl
  have z := Lx.gaps (w (y := tLet) (by decide)) z [10, 32, 32] (by decide) ⟨_, _, rfl, rfl⟩
  have z := Lx.gaps hM z [10] (by decide) ⟨_, _, rfl, rfl⟩
  have z := Lx.seq hS z ⟨59, _, rfl, rfl⟩
  have z := Lx.seq (w (y := tBool) (by decide)) z ⟨41, _, rfl, rfl⟩
  have z := Lx.gap hC z rfl
  have z := Lx.seq nX z ⟨58, _, rfl, rfl⟩
  have z := Lx.seq hO z ⟨120, _, rfl, rfl⟩
  have z := Lx.gap (w (y := tReturns) (by decide)) z rfl
  have z := Lx.gap hS z rfl
  have z := Lx.seq hO z ⟨41, _, rfl, rfl⟩
  have z := Lx.seq nA z ⟨40, _, rfl, rfl⟩
  have z := Lx.gap (w (y := tNode) (by decide)) z rfl
  exact z
theorem Has.whole (x : List UInt8) : Has (sOf x) 0 x := by
  have hs : (sOf x).toList = x := sOf_list x
  refine ⟨by rw [← bytes_len, hs]; omega, fun k hk => ?_⟩
  rw [Nat.zero_add, byteI_list (by rw [hs]; exact hk)]
  simp only [hs]
/-- Such a text is these tokens, and the end. -/
theorem brk_lexes {p : List Pc} {x : List UInt8} (h : Lx offI p x) : ∃ l, Lexes (sOf (headL ++ (x ++ tailL))) 0 l none ∧ l.map (fun t => (t.kind, t.text)) = headP ++ (p ++ [opP tSemi, wordP tTel, (kEnd, b0)]) := by
  have ez : headL ++ (x ++ tailL) = (headL ++ (x ++ [59, 10, 116, 101, 108])) ++ [10] := by simp [tailL]
  have H := Has.whole (headL ++ (x ++ tailL))
  have hsz : (sOf (headL ++ (x ++ tailL))).size = (headL ++ (x ++ [59, 10, 116, 101, 108])).length + 1 := by
    rw [← bytes_len, sOf_list, ez, List.length_append]; rfl
  generalize sOf (headL ++ (x ++ tailL)) = s at H hsz ⊢
  rw [ez] at H
  obtain ⟨H1, H2⟩ := H.split
  rw [Nat.zero_add] at H2
  obtain ⟨hlt, hb⟩ := H2.head
  obtain ⟨ts, R, e⟩ := brk_lex h s [] 0 0 .start (.refl 0) H1 fun _ => by rw [Nat.zero_add, hb]; rfl
  rw [Nat.zero_add, List.nil_append] at R
  have hcom : comB s s.size = false := by
    unfold comB
    rw [decide_eq_false (by omega)]
    rfl
  have F : Lexes s (headL ++ (x ++ [59, 10, 116, 101, 108])).length [⟨kEnd, b0, s.size⟩] none := by
    refine .fin _ s.size 0 kEnd b0 ⟨.blank _ _ hlt (by rw [hb]; rfl) ?_, Nat.le_refl _, fun h => by omega⟩ hcom (.fin rfl) (by rw [kEnd_list]; rfl) (by rw [kEnd_list]; rfl)
    rw [← hsz]
    exact .refl _
  refine ⟨ts ++ [⟨kEnd, b0, s.size⟩], R.lexes F, ?_⟩
  rw [List.map_append, e]
  simp
theorem AtP.drop (l : List Tk) : ∀ (n i : Nat), i + n = l.length → AtP l i ((l.drop i).map fun t => (t.kind, t.text))
  | 0, i, h => by rw [List.drop_eq_nil_of_le (by omega)]; exact trivial
  | n + 1, i, h => by
    rw [List.drop_eq_getElem_cons (by omega), List.map_cons]
    exact ⟨⟨dif_pos (by omega), dif_pos (by omega)⟩, AtP.drop l n (i + 1) (by omega)⟩
/-- .. and is read as that node, or is too deep. -/
theorem brk_parse {e : Ex} {k : Nat} {p : List Pc} {x : List UInt8} (h : Pr 0 e k p x) {l : List Tk} (hm : l.map (fun t => (t.kind, t.text)) = headP ++ (p ++ [opP tSemi, wordP tTel, (kEnd, b0)])) : (∃ j, Parse l (.nodes []) 0 0 (.ok [nodeB e] j)) ∨ ∃ j, Parse l (.nodes []) 0 0 (.bad j true) := by
  have A := AtP.drop l l.length 0 (by omega)
  rw [List.drop_zero, hm] at A
  obtain ⟨A, At⟩ := A.split
  obtain ⟨Ap, ⟨_, a1⟩, ⟨_, a2⟩, ⟨a3, _⟩, _⟩ := At.split
  obtain ⟨⟨k0, b0'⟩, ⟨k1, b1⟩, ⟨_, b2⟩, ⟨_, b3⟩, ⟨_, b4⟩, ⟨_, b5⟩, ⟨k6, b6⟩, ⟨_, b7⟩, ⟨_, b8⟩, ⟨_, b9⟩, ⟨_, b10⟩, ⟨_, b11⟩, ⟨_, b12⟩, _⟩ := A
  have t0 : tkx l 0 = sOf tNode := b0'
  have t2 : tkx l 2 = sOf tOpen := b2
  have t3 : tkx l 3 = sOf tShut := b3
  have t4 : tkx l 4 = sOf tReturns := b4
  have t5 : tkx l 5 = sOf tOpen := b5
  have t7 : tkx l 7 = sOf tColon := b7
  have t8 : tkx l 8 = sOf tBool := b8
  have t9 : tkx l 9 = sOf tShut := b9
  have t10 : tkx l 10 = sOf tSemi := b10
  have t11 : tkx l 11 = sOf tLet := b11
  have t12 : tkx l 12 = sOf tCheck := b12
  have x1 : tkx l 1 = sA := b1
  have x6 : tkx l 6 = sX := b6
  have n1 : isName l 1 = true := (kName_yes k1).2
  have n6 : isName l 6 = true := (kName_yes k6).2
  have e0 : isEnd l 0 = false := by
    unfold isEnd
    rw [k0, show (wordP tNode).1 = kWord from rfl, ByteArray.toList_eq]
    rfl
  have hlen : (0 + headP.length) = 13 := rfl
  rw [hlen] at Ap a1 a2 a3
  have u1 : tkx l (13 + p.length) = sOf tSemi := a1
  have u2 : tkx l (13 + p.length + 1) = sOf tTel := a2
  have e3 : isEnd l (13 + p.length + 1 + 1) = true := by
    unfold isEnd
    rw [a3, show ((kEnd, b0) : Pc).1 = kEnd from rfl, kEnd_list]
    rfl
  have G := h.goes l 13 0 (by omega) Ap 0 (by omega) (Nx.of u1 (by decide))
  have is : ∀ {i : Nat} {y : List UInt8}, tkx l i = sOf y → tx l i y = true := fun h => by rw [tx_of h]; exact beq_self_eq_true _
  have no : ∀ {i : Nat} {y z : List UInt8}, tkx l i = sOf y → (y == z) = false → tx l i z = false := fun h g => by rw [tx_of h]; exact g
  have one : Parse l .one 6 0 (.ok [.mk (tkx l 6) 1 b0 []] 9) := by
    show Run l (nameA l 6 fun j => expA l j tColon fun j => if tx l j tBool then retA [.mk (tkx l 6) 1 b0 []] (j + 1) else expA l j tInt fun k => retA [.mk (tkx l 6) 2 b0 []] k) _
    refine Run.nam n6 ?_
    refine Run.exp (is t7) ?_
    refine Run.ifT (is t8) ?_
    exact Run.done
  rw [x6] at one
  have vars : Parse l (.vars [.mk sX 1 b0 []]) 9 0 (.ok [.mk sX 1 b0 []] 9) := Run.ifF (no t9 (by decide)) Run.done
  have node : ∀ {r : Res}, Run l (.call (.eqs []) 12 0 fun qs i => expA l i tTel fun i => retA [.mk sA 0 b0 [lst [], lst [.mk sX 1 b0 []], lst [], lst qs]] i) r → Parse l .node 0 0 r := fun {r} hr => by
    have hr' : Run l (.call (.eqs []) 12 0 fun qs i => expA l i tTel fun i => retA [.mk (tkx l 1) 0 b0 [lst [], lst [.mk sX 1 b0 []], lst [], lst qs]] i) r := by rw [x1]; exact hr
    show Run l (expA l 0 tNode fun i => nameA l i fun j => expA l j tOpen fun k => if tx l k tShut then bodyA l (tkx l i) [] k 0 else .call .one k 0 fun v j => .call (.vars v) j 0 fun ins j => bodyA l (tkx l i) ins j 0) r
    refine Run.exp (is t0) ?_
    refine Run.nam n1 ?_
    refine Run.exp (is t2) ?_
    refine Run.ifT (is t3) ?_
    refine Run.exp (is t3) ?_
    refine Run.exp (is t4) ?_
    refine Run.exp (is t5) ?_
    refine Run.then one ?_
    refine Run.then vars ?_
    refine Run.exp (is t9) ?_
    refine Run.exp (is t10) ?_
    refine Run.ifF (no t11 (z := tVar) (by decide)) ?_
    refine Run.exp (is t11) ?_
    exact hr'
  have noNode : (tx l 0 tNode && (([] : List Ex).length == 12)) = false := by rw [Bool.and_eq_false_iff]; exact Or.inr rfl
  have noTel : tx l 12 tTel = false := no t12 (by decide)
  have chk : txs l 12 [tAssert, tCheck] = true := txs_of t12 (by decide)
  by_cases hk : 0 + k ≤ 20
  · left
    have ot : Parse l .term 13 0 (.ok [e] (13 + p.length)) := G.ok hk
    have oq : Parse l .eq 12 0 (.ok [.mk (tkx l 12) 0 b0 (lst [] :: [e])] (13 + p.length + 1)) := Run.ifT chk (Run.then ot (Run.exp (is u1) Run.done))
    rw [t12] at oq
    have oqs : Parse l (.eqs []) 12 0 (.ok [.mk sCheck 0 b0 [lst [], e]] (13 + p.length + 1)) := Run.ifF noTel (Run.then oq (Run.tail (Run.ifT (is u2) Run.done)))
    have on : Parse l .node 0 0 (.ok [nodeB e] (13 + p.length + 1 + 1)) := node (Run.then oqs (Run.exp (is u2) Run.done))
    exact ⟨_, Run.ifF e0 (Run.ifF noNode (Run.then on (Run.tail (Run.ifT e3 Run.done))))⟩
  · right
    obtain ⟨m, hb⟩ := G.bad (by omega)
    have bq : Parse l .eq 12 0 (.bad m true) := Run.ifT chk (Run.stop hb)
    have bqs : Parse l (.eqs []) 12 0 (.bad m true) := Run.ifF noTel (Run.stop bq)
    exact ⟨m, Run.ifF e0 (Run.ifF noNode (Run.stop (node (Run.stop bqs))))⟩
/-- BRACKETS AROUND A TERM CHANGE NOTHING: it is read as that node, or is too deep. -/
theorem brk_read {e : Ex} {k : Nat} {p : List Pc} {x : List UInt8} (h : Pr 0 e k p x) (m : Nat) : ∃ l, Lexes (sOf (headL ++ (brkN m x ++ tailL))) 0 l none ∧ ((∃ j, Parse l (.nodes []) 0 0 (.ok [nodeB e] j)) ∨ ∃ j, Parse l (.nodes []) 0 0 (.bad j true)) := by
  obtain ⟨k', p', h'⟩ := brkN_pr h m
  obtain ⟨l, hl, hm⟩ := brk_lexes h'.lex
  exact ⟨l, hl, brk_parse h' hm⟩
end Go.Proofs.YtglkpgcmlbhkpabGreatDoor

/-
  package tree's WRITER: put, between, kind BY THEIR CONTRACTS, to the byte: what stands behind what was written, or why it was given up.
-/
namespace Go.Proofs.YtglkpgcmlbhkpabGreatDoor
open Go.RowKit
attribute [local go_sem ↓] Go.wp_at_zero Go.wp_at_succ

/-- It writes this text behind lx, or it gives up, for it is none or has no room. -/
def WAnyX (K : Prop) (B b d : Nat) (pS : Addr) (lx : List UInt8) (t : Tx) (w : World) (e : Ending) (w' : World) : Prop := Below B w w' ∧ Kept b w w' ∧ ((∃ l, e = .returned (.tuple #[]) ∧ WT B b l d w' ∧ l.length ≤ 6000 ∧ Ok lx t l) ∨ (WThrew pS e ∧ Rsn K lx t))
/-- A writer at work, and what it has written. -/
structure WStX (B b d : Nat) (pS : Addr) (lx : List UInt8) (w : World) : Prop where
  wt : WT B b lx d w
  len : lx.length ≤ 6000
  err : w.cell? ⟨0, 0, none⟩ = some (.iface 325 (.pointer (some pS)))
  low : 0 < B
  tab : TabAt w
  low2 : 13 < B
theorem WStX.st {B b d : Nat} {pS : Addr} {lx : List UInt8} {w : World} (h : WStX B b d pS lx w) : WSt B b d pS w := ⟨⟨lx, h.wt, h.len⟩, h.err, h.low, h.tab, h.low2⟩
theorem WStX.lt {B b d : Nat} {pS : Addr} {lx : List UInt8} {w : World} (h : WStX B b d pS lx w) : b < w.heap.size := h.wt.lt
theorem WStX.le {B b d : Nat} {pS : Addr} {lx : List UInt8} {w : World} (h : WStX B b d pS lx w) : B ≤ b := h.wt.le
theorem WStX.alloc {B b d : Nat} {pS : Addr} {lx : List UInt8} {w : World} (h : WStX B b d pS lx w) (o : Obj) : WStX B b d pS lx (w.alloc o) := by
  have h' := h.st.alloc o
  exact ⟨h.wt.alloc _, h.len, h'.err, h'.low, h'.tab, h'.low2⟩
theorem WStX.next {B b d e : Nat} {pS : Addr} {lx : List UInt8} {w w' : World} {l : List UInt8} (h : WStX B b d pS lx w) (hb : Below B w w') (h1 : WT B b l e w') (h2 : l.length ≤ 6000) : WStX B b e pS l w' := by
  have h' := h.st.next hb h1 h2
  exact ⟨h1, h2, h'.err, h'.low, h'.tab, h'.low2⟩
set_option maxRecDepth 100000 in
set_option maxHeartbeats 1000000 in
theorem put_x (K : Prop) (B b d : Nat) (pS : Addr) (lx : List UInt8) (w : World) (q : Nat) (xs : List ByteArray) (n : Nat) (hn : xs.length = n) (h : WStX B b d pS lx w) (hq : w.heap[q]? = some (.cells (xs.map Value.string).toArray 9 (0, 0))) (hqb : q ≠ b) (hn1 : n ≤ 1000) :
    Calls Tryz.prog 129 #[.pointer (some ⟨b, 0, none⟩), .slice (some ⟨q, 0, none⟩) n n] w fun e w' => WAnyX K B b d pS lx (some (flat xs)) w e w' := by
  subst hn
  have HQ : Hid (w.heap[q]? = some (.cells (xs.map Value.string).toArray 9 (0, 0))) := hq
  have hB := h.le
  have hlt := h.lt
  clear hq
  go_enter Tryz.func129, Tryz.ntmps129
  go_wp2
  go_loopw [8] (fun t wr => ∃ i : Nat, i ≤ xs.length ∧ t = .int .i64 i ∧ WStX B b d pS (lx ++ flat (xs.take i)) wr ∧ Below B w wr ∧ Kept b w wr) (fun t _ => xs.length - (intOf t).toNat)
  case atStart => exact ⟨0, Nat.zero_le _, rfl, by rw [List.take_zero]; show WStX B b d pS (lx ++ []) _; rw [List.append_nil]; exact h, Below.refl _ _, Lib.OthersKept.refl _ _ _⟩
  case round =>
    obtain ⟨i, hi, rfl, hr, hb, hk⟩ := hrel
    by_cases hlt0 : i < xs.length
    · have hqr := hk q _ HQ.out (by simpa using hqb) (by intro c fz e; injection e with _ e; exact absurd e (by decide))
      have c0 : wr.cell? ⟨q, i, none⟩ = some (.string xs[i]) := by simp [World.cell?, hqr, hlt0]
      have i0 : (0 : Int) ≤ (i : Int) := by omega
      have i1 : (i : Int) < (xs.length : Int) := by omega
      have hw := hr.wt
      have hl6 := hr.len
      obtain ⟨l, hl⟩ : ∃ l, l = lx ++ flat (xs.take i) := ⟨_, rfl⟩
      rw [← hl] at hw hl6 hr
      have HL : Hid (l = lx ++ flat (xs.take i)) := hl
      clear hl
      have hel : (Lib.byteCells l).length = l.length := Lib.byteCells_length l
      have c2 := Wr.most hw
      have hc := hr.err
      clear hqr
      by_cases h6 : 6000 < l.length + xs[i].size
      · have e5 : (6000 : Int) - ((Lib.byteCells l).length : Int) < (xs[i].size : Int) := by omega
        go_wp2_with fail
        go_quiet (exact Calls.quiet_of_same (wlen_any B b _ d _ (Wr.drewN hw _)))
        go_wp2_with fail
        refine (wfail_any b pS (wr.drewN nq) hc).mono ?_
        rintro e w3 ⟨rfl, rfl⟩
        go_wp2
        refine ⟨rfl, below_drewN hb nq, hk, Or.inr ⟨rfl, Or.inr fun x hx => ?_⟩⟩
        cases hx
        have := flat_split hlt0
        rw [HL.out, List.length_append] at h6
        rw [List.length_append]
        omega
      · have e5 : ¬ ((6000 : Int) - ((Lib.byteCells l).length : Int) < (xs[i].size : Int)) := by omega
        have hBw : B ≤ wr.heap.size := Nat.le_trans hB (Nat.le_of_lt hw.lt)
        go_wp2_with fail
        go_quiet (exact Calls.quiet_of_same (wlen_any B b _ d _ (Wr.drewN hw _)))
        go_wp2_with fail
        refine (wstr_any B b _ d xs[i] (wr.drewN nq) (Wr.drewN hw nq) (by omega) hBw).mono ?_
        rintro e w3 ⟨rfl, hr3, hb3', hk3'⟩
        have hb3 : Below B wr w3 := (below_drewN (Below.refl B wr) nq).trans hb3'
        have hk3 : Kept b wr w3 := hk3'
        have hr3' : WT B b (l ++ xs[i].data.toList) d w3 := by
          show Wr B b (Lib.byteCells (l ++ xs[i].data.toList)) d w3
          rw [byteCells_append]
          exact hr3
        have hlen : (l ++ xs[i].data.toList).length ≤ 6000 := by
          have : xs[i].data.toList.length = xs[i].size := rfl
          rw [List.length_append]; omega
        go_wp2
        exact ⟨⟨i + 1, by omega, by go_num, by rw [flat_take hlt0, ← List.append_assoc, ← HL.out]; exact hr.next hb3 hr3' hlen, hb.trans hb3, hk.trans hk3⟩, by simp [intOf]; omega⟩
    · obtain rfl : i = xs.length := by omega
      rw [List.take_length] at hr
      have hw := hr.wt
      have hl6 := hr.len
      go_wp2
      go_end0
      exact ⟨hb, hk, Or.inl ⟨_, rfl, hw, hl6, Ok.this rfl⟩⟩
theorem put_newX (K : Prop) (B b d : Nat) (pS : Addr) (lx : List UInt8) (w : World) (xs : List ByteArray) (tx : List UInt8) (htx : flat xs = tx) (q n : Nat) (hq : w.heap.size = q) (hn : xs.length = n) (h : WStX B b d pS lx w) (hn1 : n ≤ 1000) (cur : Array Value) (hc : cur = (xs.map Value.string).toArray) :
    Calls Tryz.prog 129 #[.pointer (some ⟨b, 0, none⟩), .slice (some ⟨q, 0, none⟩) n n] (w.alloc (.cells cur 9)) fun e w' => WAnyX K B b d pS lx (some tx) w e w' := by
  subst hq hc htx
  have hlt := h.lt
  have hle := h.le
  refine (put_x K B b d pS lx _ w.heap.size xs n hn (h.alloc _) (heap_alloc_new w _) (by omega) hn1).mono ?_
  rintro e w' ⟨h1, h2, h3⟩
  exact ⟨((Below.refl _ _).alloc (by omega) _).trans h1, (Kept.alloc b w _).trans h2, h3⟩
set_option maxRecDepth 100000 in
set_option maxHeartbeats 1000000 in
theorem between_x (K : Prop) (B b d : Nat) (pS : Addr) (lx : List UInt8) (w : World) (i : Nat) (s : ByteArray) (h : WStX B b d pS lx w) :
    Calls Tryz.prog 182 #[.pointer (some ⟨b, 0, none⟩), .int .i64 i, .string s] w fun e w' => WAnyX K B b d pS lx (sepX s.data.toList i) w e w' := by
  by_cases hi : 0 < i
  · have hi' : (0 : Int) < (i : Int) := by omega
    have ht0 : sepX s.data.toList i = some s.data.toList := by rw [sepX, if_pos hi]
    rw [ht0]
    clear ht0
    go_enter Tryz.func182, Tryz.ntmps182
    go_wp2_with fail
    refine (put_newX K B b d pS lx _ [s] s.data.toList (by simp [flat]) _ 1 rfl rfl h (by decide) _ rfl).mono ?_
    rintro e w' ⟨h1, h2, ⟨l, rfl, h3, h4, hq⟩ | ⟨ht, hr⟩⟩
    · go_wp2
      go_end0
      exact ⟨h1, h2, Or.inl ⟨l, rfl, h3, h4, hq⟩⟩
    · unfold WThrew at ht
      subst ht
      go_wp2
      exact ⟨rfl, h1, h2, Or.inr ⟨rfl, hr⟩⟩
  · obtain rfl : i = 0 := by omega
    have h3 := h.wt
    have h4 := h.len
    go_enter Tryz.func182, Tryz.ntmps182
    go_wp2
    go_end0
    exact ⟨Below.refl _ _, Lib.OthersKept.refl _ _ _, Or.inl ⟨_, rfl, h3, h4, Ok.nil⟩⟩
set_option maxRecDepth 100000 in
set_option maxHeartbeats 1000000 in
theorem wkind_x (K : Prop) (B b d : Nat) (pS : Addr) (lx : List UInt8) (w : World) (k : Int) (h : WStX B b d pS lx w) :
    Calls Tryz.prog 183 #[.pointer (some ⟨b, 0, none⟩), .int .i64 k] w fun e w' => WAnyX K B b d pS lx (kindX k) w e w' := by
  by_cases h1 : k = 1
  · subst h1
    go_enter Tryz.func183, Tryz.ntmps183
    go_wp2_with fail
    refine (put_newX K B b d pS lx _ [sBool] [98, 111, 111, 108] rfl _ 1 rfl rfl h (by decide) _ rfl).mono ?_
    rintro e w' ⟨h1, h2, ⟨l, rfl, h3, h4, hq⟩ | ⟨ht, hr⟩⟩
    · go_wp2
      go_end0
      exact ⟨h1, h2, Or.inl ⟨l, rfl, h3, h4, hq⟩⟩
    · unfold WThrew at ht
      subst ht
      go_wp2
      exact ⟨rfl, h1, h2, Or.inr ⟨rfl, hr⟩⟩
  · by_cases h2 : k = 2
    · subst h2
      go_enter Tryz.func183, Tryz.ntmps183
      go_wp2_with fail
      refine (put_newX K B b d pS lx _ [⟨#[105, 110, 116]⟩] [105, 110, 116] rfl _ 1 rfl rfl h (by decide) _ rfl).mono ?_
      rintro e w' ⟨h1, h2, ⟨l, rfl, h3, h4, hq⟩ | ⟨ht, hr⟩⟩
      · go_wp2
        go_end0
        exact ⟨h1, h2, Or.inl ⟨l, rfl, h3, h4, hq⟩⟩
      · unfold WThrew at ht
        subst ht
        go_wp2
        exact ⟨rfl, h1, h2, Or.inr ⟨rfl, hr⟩⟩
    · have HN : Hid (kindX k = none) := (by rw [kindX, if_neg h1, if_neg h2] : kindX k = none)
      have e1 : (k == 1) = false := by simpa using h1
      have e2 : (k == 2) = false := by simpa using h2
      have hc := h.err
      clear h1 h2
      go_enter Tryz.func183, Tryz.ntmps183
      go_wp2_with fail
      refine (wfail_any b pS _ hc).mono ?_
      rintro e w3 ⟨ht, rfl⟩
      unfold WThrew at ht
      subst ht
      go_wp2
      exact ⟨rfl, Below.refl _ _, Lib.OthersKept.refl _ _ _, Or.inr ⟨rfl, HN.out ▸ Rsn.none K lx⟩⟩
end Go.Proofs.YtglkpgcmlbhkpabGreatDoor

/-
  package tree's WRITER: vars, names BY THEIR CONTRACTS, to the byte.
-/
namespace Go.Proofs.YtglkpgcmlbhkpabGreatDoor
open Go.RowKit
attribute [local go_sem ↓] Go.wp_at_zero Go.wp_at_succ

set_option maxRecDepth 100000 in
set_option maxHeartbeats 1000000 in
theorem wvars_x (K : Prop) (B b d : Nat) (pS : Addr) (lx : List UInt8) (w : World) (o : Option Addr) (c : Nat) (vs : List Ex) (h : WStX B b d pS lx w) (hr : RowAt w (fun k => k < B) 2 (.slice o vs.length c) vs.length (varCells vs)) :
    Calls Tryz.prog 130 #[.pointer (some ⟨b, 0, none⟩), .slice o vs.length c] w fun e w' => WAnyX K B b d pS lx (lstX varX 0 vs) w e w' := by
  have hl := hr.len
  unfold maxLen at hl
  have HR : Hid (RowAt w (fun k => k < B) 2 (.slice o vs.length c) vs.length (varCells vs)) := hr
  have hle := h.le
  clear hr
  go_enter Tryz.func130, Tryz.ntmps130
  go_wp2
  go_loopw [8] (fun t wr => ∃ i : Nat, i ≤ vs.length ∧ t = .int .i64 i ∧ (∃ x, WStX B b d pS (lx ++ x) wr ∧ lstX varX 0 vs = catX (some x) (lstX varX i (vs.drop i))) ∧ Below B w wr ∧ Kept b w wr) (fun t _ => vs.length - (intOf t).toNat)
  case atStart => exact ⟨0, Nat.zero_le _, rfl, ⟨[], by rw [List.append_nil]; exact h, by rw [catX_nil]; rfl⟩, Below.refl _ _, Lib.OthersKept.refl _ _ _⟩
  case round =>
    obtain ⟨i, hi, rfl, ⟨x, hw, hx0⟩, hb, hk⟩ := hrel
    have HX : Hid (lstX varX 0 vs = catX (some x) (lstX varX i (vs.drop i))) := hx0
    clear hx0
    by_cases hlt : i < vs.length
    · have hrr := below_row HR.out hb
      obtain ⟨q, off, rfl, _, g⟩ := row_get hrr (by rw [varCells_length]; omega)
      have c0 := g _ _ (varCells_at hlt).1
      have c1 := g _ _ (varCells_at hlt).2
      rw [← Nat.add_assoc] at c1
      have i0 : (0 : Int) ≤ (i : Int) := by omega
      have i1 : (i : Int) < (vs.length : Int) := by omega
      have hwl := hw.lt
      have h0 := hw.alloc (.cells #[.string vs[i].op, .int .i64 vs[i].n] 170)
      have HN : Hid _ := heap_alloc_new wr (.cells #[.string vs[i].op, .int .i64 vs[i].n] 170)
      have bz : Below B wr (wr.alloc (.cells #[.string vs[i].op, .int .i64 vs[i].n] 170)) := (Below.refl _ _).alloc (by omega) _
      clear hrr g
      go_wp2_with fail
      refine (between_x K B b d pS _ _ i _ h0).mono ?_
      rintro e w1 ⟨b1, k1, ⟨l1, rfl, h1, g1, p1, q1, rfl⟩ | ⟨ht, hr⟩⟩
      · have s1 := h0.next b1 h1 g1
        have HN1 : Hid _ := kept_row k1 HN.out (by omega) (by intro c fz e; injection e with _ e; exact absurd e (by decide))
        obtain ⟨y0, y1, _⟩ := blk2 HN1.out
        have hl1 : wr.heap.size < w1.heap.size := lt_of_cell y0
        go_wp2_with fail
        refine (put_newX K B b d pS _ _ [vs[i].op, ⟨#[58, 32]⟩] (vs[i].op.data.toList ++ [58, 32]) (by simp [flat]) _ 2 rfl rfl s1 (by decide) _ rfl).mono ?_
        rintro e w2 ⟨b2, k2, ⟨l2, rfl, h2, g2, p2, q2, rfl⟩ | ⟨ht, hr⟩⟩
        · have s2 := s1.next b2 h2 g2
          have HN2 : Hid _ := kept_row k2 HN1.out (by omega) (by intro c fz e; injection e with _ e; exact absurd e (by decide))
          obtain ⟨z0, z1, _⟩ := blk2 HN2.out
          go_wp2_with fail
          refine (wkind_x K B b d pS _ _ _ s2).mono ?_
          rintro e w3 ⟨b3, k3, ⟨l3, rfl, h3, g3, p3, q3, rfl⟩ | ⟨ht, hr⟩⟩
          · go_wp2
            exact ⟨⟨i + 1, by omega, by go_num, ⟨x ++ (p1 ++ (p2 ++ p3)), by have := s2.next b3 h3 g3; simpa only [List.append_assoc] using this, lst_next hlt HX.out (by rw [varX, q1, q2, q3]; rfl)⟩, (((hb.trans bz).trans b1).trans b2).trans b3, (((hk.trans (Kept.alloc b wr _)).trans k1).trans k2).trans k3⟩, by simp [intOf]; omega⟩
          · unfold WThrew at ht
            subst ht
            go_wp2
            exact ⟨rfl, (((hb.trans bz).trans b1).trans b2).trans b3, (((hk.trans (Kept.alloc b wr _)).trans k1).trans k2).trans k3, Or.inr ⟨rfl, lst_rsn hlt HX.out ((hr.lift q2).lift q1)⟩⟩
        · unfold WThrew at ht
          subst ht
          go_wp2
          exact ⟨rfl, ((hb.trans bz).trans b1).trans b2, ((hk.trans (Kept.alloc b wr _)).trans k1).trans k2, Or.inr ⟨rfl, lst_rsn hlt HX.out ((hr.more _).lift q1)⟩⟩
      · unfold WThrew at ht
        subst ht
        go_wp2
        exact ⟨rfl, (hb.trans bz).trans b1, (hk.trans (Kept.alloc b wr _)).trans k1, Or.inr ⟨rfl, lst_rsn hlt HX.out (hr.more _)⟩⟩
    · have h1 := hw.wt
      have g1 := hw.len
      go_wp2
      go_end0
      exact ⟨hb, hk, Or.inl ⟨_, rfl, h1, g1, Ok.this (lst_done (by omega) HX.out)⟩⟩
set_option maxRecDepth 100000 in
set_option maxHeartbeats 1000000 in
theorem wnames_x (K : Prop) (B b d : Nat) (pS : Addr) (lx : List UInt8) (w : World) (o : Option Addr) (c : Nat) (ns : List Ex) (h : WStX B b d pS lx w) (hr : RowAt w (fun k => k < B) 1 (.slice o ns.length c) ns.length (nameCells ns)) :
    Calls Tryz.prog 184 #[.pointer (some ⟨b, 0, none⟩), .slice o ns.length c] w fun e w' => WAnyX K B b d pS lx (namesX ns) w e w' := by
  have hl := hr.len
  unfold maxLen at hl
  have HR : Hid (RowAt w (fun k => k < B) 1 (.slice o ns.length c) ns.length (nameCells ns)) := hr
  have hle := h.le
  clear hr
  by_cases h1 : ns.length = 1
  · obtain ⟨q, off, rfl, _, g⟩ := row_get HR.out (by rw [nameCells_length]; omega)
    have c0 := g 0 _ (nameCells_at (by omega))
    rw [Nat.add_zero] at c0
    clear g
    have hN : namesX ns = some ns[0].op.data.toList := by
      match ns, h1 with
      | [v], _ => rfl
    obtain ⟨v0, hv0⟩ : ∃ v, v = ns[0] := ⟨_, rfl⟩
    rw [hN, ← hv0]
    rw [← hv0] at c0
    clear hN hv0
    rw [h1]
    go_enter Tryz.func184, Tryz.ntmps184
    go_wp2_with fail
    refine (put_newX K B b d pS _ _ [v0.op] v0.op.data.toList (by simp [flat]) _ 1 rfl rfl h (by decide) _ rfl).mono ?_
    rintro e w1 ⟨b1, k1, ⟨l1, rfl, h1, g1, hq⟩ | ⟨ht, hr⟩⟩
    · go_wp2
      go_end0
      exact ⟨b1, k1, Or.inl ⟨l1, rfl, h1, g1, hq⟩⟩
    · unfold WThrew at ht
      subst ht
      go_wp2
      exact ⟨rfl, b1, k1, Or.inr ⟨rfl, hr⟩⟩
  · have h1' : ((ns.length : Int) == 1) = false := by simp; omega
    have hN : namesX ns = catX (some [40]) (catX (lstX nameX 0 ns) (some [41])) := by
      match ns, h1 with
      | [], _ => rfl
      | [_], h => exact absurd rfl h
      | _ :: _ :: _, _ => rfl
    rw [hN]
    clear hN
    go_enter Tryz.func184, Tryz.ntmps184
    go_wp2_with fail
    refine (put_newX K B b d pS _ _ [⟨#[40]⟩] [40] rfl _ 1 rfl rfl h (by decide) _ rfl).mono ?_
    rintro e w1 ⟨b1, k1, ⟨l1, rfl, h1, g1, y0, q0, rfl⟩ | ⟨ht, hr⟩⟩
    · have s1 := h.next b1 h1 g1
      clear h1
      go_wp2
      go_loopw [20] (fun t wr => ∃ i : Nat, i ≤ ns.length ∧ t = .int .i64 i ∧ (∃ x, WStX B b d pS (lx ++ y0 ++ x) wr ∧ lstX nameX 0 ns = catX (some x) (lstX nameX i (ns.drop i))) ∧ Below B w wr ∧ Kept b w wr) (fun t _ => ns.length - (intOf t).toNat)
      case atStart => exact ⟨0, Nat.zero_le _, rfl, ⟨[], by rw [List.append_nil]; exact s1, by rw [catX_nil]; rfl⟩, b1, k1⟩
      case round =>
        clear s1
        obtain ⟨i, hi, rfl, ⟨x, hw, hx0⟩, hb, hk⟩ := hrel
        have HX : Hid (lstX nameX 0 ns = catX (some x) (lstX nameX i (ns.drop i))) := hx0
        clear hx0
        by_cases hlt : i < ns.length
        · have hrr := below_row HR.out hb
          obtain ⟨q, off, rfl, _, g⟩ := row_get hrr (by rw [nameCells_length]; omega)
          have c0 := g _ _ (nameCells_at hlt)
          have i0 : (0 : Int) ≤ (i : Int) := by omega
          have i1 : (i : Int) < (ns.length : Int) := by omega
          clear hrr g
          go_wp2_with fail
          refine (between_x K B b d pS _ _ i _ hw).mono ?_
          rintro e w2 ⟨b2, k2, ⟨l2, rfl, h2, g2, y2, q2, rfl⟩ | ⟨ht, hr⟩⟩
          · have s2 := hw.next b2 h2 g2
            go_wp2_with fail
            refine (put_newX K B b d pS _ _ [ns[i].op] ns[i].op.data.toList (by simp [flat]) _ 1 rfl rfl s2 (by decide) _ rfl).mono ?_
            rintro e w3 ⟨b3, k3, ⟨l3, rfl, h3, g3, y3, q3, rfl⟩ | ⟨ht, hr⟩⟩
            · go_wp2
              exact ⟨⟨i + 1, by omega, by go_num, ⟨x ++ (y2 ++ y3), by have := s2.next b3 h3 g3; simpa only [List.append_assoc] using this, lst_next hlt HX.out (by rw [nameX, q2, q3]; rfl)⟩, (hb.trans b2).trans b3, (hk.trans k2).trans k3⟩, by simp [intOf]; omega⟩
            · unfold WThrew at ht
              subst ht
              go_wp2
              exact ⟨rfl, (hb.trans b2).trans b3, (hk.trans k2).trans k3, Or.inr ⟨rfl, ((lst_rsn hlt HX.out (hr.lift q2)).more _).lift q0⟩⟩
          · unfold WThrew at ht
            subst ht
            go_wp2
            exact ⟨rfl, hb.trans b2, hk.trans k2, Or.inr ⟨rfl, ((lst_rsn hlt HX.out (hr.more _)).more _).lift q0⟩⟩
        · go_wp2_with fail
          refine (put_newX K B b d pS _ _ [⟨#[41]⟩] [41] rfl _ 1 rfl rfl hw (by decide) _ rfl).mono ?_
          rintro e w2 ⟨b2, k2, ⟨l2, rfl, h2, g2, y2, q2, rfl⟩ | ⟨ht, hr⟩⟩
          · go_wp2
            go_end0
            exact ⟨hb.trans b2, hk.trans k2, Or.inl ⟨_, rfl, h2, g2, (Ok.lift (Ok.this q2) (lst_done (by omega) HX.out)).lift q0⟩⟩
          · unfold WThrew at ht
            subst ht
            go_wp2
            exact ⟨rfl, hb.trans b2, hk.trans k2, Or.inr ⟨rfl, (Rsn.lift hr (lst_done (by omega) HX.out)).lift q0⟩⟩
    · unfold WThrew at ht
      subst ht
      go_wp2
      exact ⟨rfl, b1, k1, Or.inr ⟨rfl, hr.more _⟩⟩
end Go.Proofs.YtglkpgcmlbhkpabGreatDoor
