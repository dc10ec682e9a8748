/-
  WHAT THE WRITER WRITES, IN PLAIN MATHEMATICS: texts that may be none, one behind the other; the text of a term, of an equation, of a node, of a program.
-/
import Derived.Test.YtgbpccipdcajgaaGreatDoorQ18
import Derived.Test.YtgbpccipdcajgaaGreatDoorQ17
import Derived.Test.YtgbpccipdcajgaaGreatDoorQ14
namespace Go.Proofs.YtgbpccipdcajgaaGreatDoor
abbrev Tx := Option (List UInt8)
def catX (a b : Tx) : Tx := a.bind fun x => b.map (x ++ ·)
def Ok (lx : List UInt8) (t : Tx) (l : List UInt8) : Prop := ∃ x, t = some x ∧ l = lx ++ x
def Rsn (K : Prop) (lx : List UInt8) (t : Tx) : Prop := K ∨ ∀ x, t = some x → 6000 < (lx ++ x).length
theorem catX_some (x y : List UInt8) : catX (some x) (some y) = some (x ++ y) := rfl
theorem catX_nil (t : Tx) : catX (some []) t = t := by cases t <;> rfl
theorem catX_end (t : Tx) : catX t (some []) = t := by cases t <;> simp [catX]
theorem catX_none (t : Tx) : catX none t = none := rfl
theorem catX_assoc (a b c : Tx) : catX (catX a b) c = catX a (catX b c) := by cases a <;> cases b <;> cases c <;> simp [catX]
theorem catX_eq {a b : Tx} {z : List UInt8} (h : catX a b = some z) : ∃ x y, a = some x ∧ b = some y ∧ z = x ++ y := by
 cases a <;> cases b <;> simp [catX] at h
 exact ⟨_, _, rfl, rfl, h.symm⟩
theorem Rsn.more {K : Prop} {lx : List UInt8} {t : Tx} (h : Rsn K lx t) (t' : Tx) : Rsn K lx (catX t t') := h.imp id fun h z hz => by
 obtain ⟨x, y, hx, _, rfl⟩ := catX_eq hz
 have := h x hx
 rw [← List.append_assoc, List.length_append]
 omega
theorem Rsn.lift {K : Prop} {lx x1 : List UInt8} {t1 t2 : Tx} (h : Rsn K (lx ++ x1) t2) (q : t1 = some x1) : Rsn K lx (catX t1 t2) := h.imp id fun h z hz => by
 obtain ⟨x, y, hx, hy, rfl⟩ := catX_eq hz
 rw [q] at hx
 cases hx
 have := h y hy
 rwa [List.append_assoc] at this
theorem Rsn.none (K : Prop) (lx : List UInt8) : Rsn K lx none := Or.inr fun _ h => by cases h
theorem Ok.lift {lx x1 l : List UInt8} {t1 t2 : Tx} (h : Ok (lx ++ x1) t2 l) (q : t1 = some x1) : Ok lx (catX t1 t2) l := by
 obtain ⟨y, hy, rfl⟩ := h
 exact ⟨x1 ++ y, by rw [q, hy]; rfl, by rw [List.append_assoc]⟩
theorem Ok.this {lx x : List UInt8} {t : Tx} (q : t = some x) : Ok lx t (lx ++ x) := ⟨x, q, rfl⟩
theorem Ok.nil {lx : List UInt8} : Ok lx (some []) lx := ⟨[], rfl, (List.append_nil _).symm⟩

def flat (xs : List ByteArray) : List UInt8 := (xs.map fun s => s.data.toList).flatten
theorem flat_take {xs : List ByteArray} {i : Nat} (h : i < xs.length) : flat (xs.take (i + 1)) = flat (xs.take i) ++ xs[i].data.toList := by
 have e : xs.take (i + 1) = xs.take i ++ [xs[i]] := by rw [List.take_add_one, List.getElem?_eq_getElem h]; rfl
 unfold flat
 rw [e]
 simp only [List.map_append, List.flatten_append, List.map_cons, List.map_nil, List.flatten_cons, List.flatten_nil, List.append_nil]
theorem flat_split {xs : List ByteArray} {i : Nat} (h : i < xs.length) : (flat (xs.take i)).length + xs[i].size ≤ (flat xs).length := by
 have e : flat xs = flat (xs.take (i + 1)) ++ flat (xs.drop (i + 1)) := by
  unfold flat
  rw [← List.flatten_append, ← List.map_append, List.take_append_drop]
 have h1 : xs[i].data.toList.length = xs[i].size := Array.length_toList
 rw [e, flat_take h, List.length_append, List.length_append, h1]
 omega
def lstX {α : Type} (f : Nat → α → Tx) : Nat → List α → Tx
 | _, [] => some []
 | i, a :: r => catX (f i a) (lstX f (i + 1) r)
theorem lstX_drop {α : Type} (f : Nat → α → Tx) {l : List α} {i : Nat} (h : i < l.length) : lstX f i (l.drop i) = catX (f i l[i]) (lstX f (i + 1) (l.drop (i + 1))) := by
 rw [List.drop_eq_getElem_cons h]; rfl
theorem lstX_end {α : Type} (f : Nat → α → Tx) {l : List α} {i : Nat} (h : l.length ≤ i) : lstX f i (l.drop i) = some [] := by
 rw [List.drop_eq_nil_of_le h]; rfl
theorem lst_next {α : Type} {f : Nat → α → Tx} {l : List α} {i : Nat} {x y : List UInt8} {t : Tx} (h : i < l.length) (e : t = catX (some x) (lstX f i (l.drop i))) (q : f i l[i] = some y) : t = catX (some (x ++ y)) (lstX f (i + 1) (l.drop (i + 1))) := by
 rw [e, lstX_drop f h, q, ← catX_assoc, catX_some]
theorem lst_rsn {K : Prop} {α : Type} {f : Nat → α → Tx} {l : List α} {i : Nat} {lx x : List UInt8} {t : Tx} (h : i < l.length) (e : t = catX (some x) (lstX f i (l.drop i))) (r : Rsn K (lx ++ x) (f i l[i])) : Rsn K lx t := by
 rw [e, lstX_drop f h]
 exact (r.more _).lift rfl
theorem lst_done {α : Type} {f : Nat → α → Tx} {l : List α} {i : Nat} {x : List UInt8} {t : Tx} (h : l.length ≤ i) (e : t = catX (some x) (lstX f i (l.drop i))) : t = some x := by
 rw [e, lstX_end f h, catX_end]

def sepX (s : List UInt8) (i : Nat) : Tx := if 0 < i then some s else some []
def kindX (k : Int) : Tx := if k = 1 then some [98, 111, 111, 108] else if k = 2 then some [105, 110, 116] else none
def varX (i : Nat) (v : Ex) : Tx := catX (sepX [59, 32] i) (catX (some (v.op.data.toList ++ [58, 32])) (kindX v.n))
def nameX (i : Nat) (v : Ex) : Tx := catX (sepX [44, 32] i) (some v.op.data.toList)
def namesX (ns : List Ex) : Tx := match ns with
 | [v] => some v.op.data.toList
 | _ => catX (some [40]) (catX (lstX nameX 0 ns) (some [41]))
def lvOf (op : List UInt8) : Nat := match shapeL.find? fun t => t.1 == op with
 | some t => t.2.1
 | none => 8
def psOf (op : List UInt8) : List Nat := match shapeL.find? fun t => t.1 == op with
 | some t => t.2.2
 | none => []
def lvsOf (op : List UInt8) (l : List Ex) : List Nat := if op = [110, 101, 103] then (match l with
 | a :: _ => if a.op.toList = [110, 101, 103] then [8] else [7]
 | [] => []) else psOf op
def argX (i : Nat) (t : Tx) : Tx := catX (sepX [44, 32] i) t
def bareX (op : ByteArray) (n : Int) (s : ByteArray) (ts : List Tx) : Tx :=
 if op.toList = [105, 110, 116] then some (Lib.itoa n)
 else if op.toList = [116, 114, 117, 101] then some op.data.toList
 else if op.toList = [102, 97, 108, 115, 101] then some op.data.toList
 else if op.toList = [110, 97, 109, 101] then some s.data.toList
 else if op.toList = [99, 97, 108, 108] then catX (some (s.data.toList ++ [40])) (catX (lstX argX 0 ts) (some [41]))
 else if op.toList = [105, 102] then catX (some [105, 102, 32]) (catX (ts.getD 0 none) (catX (some [32, 116, 104, 101, 110, 32]) (catX (ts.getD 1 none) (catX (some [32, 101, 108, 115, 101, 32]) (ts.getD 2 none)))))
 else if op.toList = [110, 101, 103] then catX (some [45]) (ts.getD 0 none)
 else if op.toList = [110, 111, 116] ∨ op.toList = [112, 114, 101] then catX (some (op.data.toList ++ [32])) (ts.getD 0 none)
 else catX (ts.getD 0 none) (catX (some (32 :: (op.data.toList ++ [32]))) (ts.getD 1 none))
def brkX (b : Bool) (t : Tx) : Tx := if b then catX (some [40]) (catX t (some [41])) else t
mutual
def tw : Nat → Ex → Tx
 | L, .mk op n s l => if formedB op.toList n s.toList l.length then brkX (decide (lvOf op.toList < L)) (bareX op n s (twP (lvsOf op.toList l) l)) else none
def twP : List Nat → List Ex → List Tx
 | _, [] => []
 | ks, e :: es => tw (ks.headD 0) e :: twP ks.tail es
end
theorem tw_mk (L : Nat) (op : ByteArray) (n : Int) (s : ByteArray) (l : List Ex) : tw L (.mk op n s l) = if formedB op.toList n s.toList l.length then brkX (decide (lvOf op.toList < L)) (bareX op n s (twP (lvsOf op.toList l) l)) else none := by rw [tw]
theorem twP_get : ∀ (l : List Ex) (ks : List Nat) (i : Nat) (h : i < l.length), (twP ks l)[i]? = some (tw (ks.getD i 0) l[i])
 | [], _, _, h => by cases h
 | e :: es, ks, 0, _ => by rw [twP]; cases ks <;> rfl
 | e :: es, ks, i + 1, h => by
  rw [twP]
  have := twP_get es ks.tail i (by simpa using h)
  simp only [List.getElem?_cons_succ, List.getElem_cons_succ]
  rw [this]
  cases ks <;> simp
theorem twP_length : ∀ (l : List Ex) (ks : List Nat), (twP ks l).length = l.length
 | [], _ => by rw [twP]; rfl
 | e :: es, ks => by rw [twP, List.length_cons, List.length_cons, twP_length es]
theorem twP_getD {l : List Ex} {ks : List Nat} {i : Nat} (h : i < l.length) : (twP ks l).getD i none = tw (ks.getD i 0) l[i] := by
 rw [List.getD_eq_getElem?_getD, twP_get l ks i h]; rfl
theorem shape_lv {t : List UInt8 × Nat × List Nat} (h : t ∈ shapeL) : lvOf t.1 = t.2.1 ∧ psOf t.1 = t.2.2 := (by decide : ∀ t ∈ shapeL, lvOf t.1 = t.2.1 ∧ psOf t.1 = t.2.2) t h
theorem shape_call : lvOf tCallL = 8 ∧ psOf tCallL = [] := by decide
mutual
def dpt : Ex → Nat
 | .mk _ _ _ l => dptL l + 1
def dptL : List Ex → Nat
 | [] => 0
 | e :: es => max (dpt e) (dptL es)
end
theorem dpt_mk (op : ByteArray) (n : Int) (s : ByteArray) (l : List Ex) : dpt (.mk op n s l) = dptL l + 1 := by rw [dpt]
theorem dpt_part : ∀ (l : List Ex) (i : Nat) (h : i < l.length), dpt l[i] ≤ dptL l
 | [], _, h => by cases h
 | e :: es, 0, _ => by rw [dptL]; exact Nat.le_max_left _ _
 | e :: es, i + 1, h => by
  rw [dptL]
  have := dpt_part es i (by simpa using h)
  simp only [List.getElem_cons_succ]
  omega
def eqX (kind : ByteArray) (ns : List Ex) (e : Ex) : Tx :=
 catX (some [32, 32]) (catX (if kind.toList = [115, 101, 116] then catX (namesX ns) (some [32, 61, 32]) else if kind.toList = [97, 115, 115, 101, 114, 116] ∨ kind.toList = [99, 104, 101, 99, 107] then some (kind.data.toList ++ [32]) else none) (catX (tw 0 e) (some [59, 10])))
theorem brkX_some {b : Bool} {t : Tx} {x : List UInt8} (h : brkX b t = some x) : ∃ y, t = some y ∧ y.length ≤ x.length ∧ x = if b then 40 :: (y ++ [41]) else y := by
 unfold brkX at h
 split at h
 ·rename_i hb
  obtain ⟨a, c, ha, hc, rfl⟩ := catX_eq h
  obtain ⟨y, z, hy, hz, rfl⟩ := catX_eq hc
  cases ha; cases hz
  exact ⟨y, hy, by simp only [List.length_append, List.length_cons, List.length_nil]; omega, by rw [if_pos hb]; rfl⟩
 ·rename_i hb
  exact ⟨x, h, Nat.le_refl _, by rw [if_neg hb]⟩
theorem lstX_part : ∀ (ts : List Tx) (i : Nat) {z : List UInt8}, lstX argX i ts = some z → ∀ k (h : k < ts.length), ∃ x, ts[k] = some x ∧ x.length ≤ z.length
 | [], _, _, _, _, h => by cases h
 | t :: r, i, z, hz, k, hk => by
  obtain ⟨a, b, ha, hb, rfl⟩ := catX_eq hz
  obtain ⟨c, x, _, hx, rfl⟩ := catX_eq ha
  match k, hk with
  | 0, _ => exact ⟨x, hx, by simp only [List.length_append]; omega⟩
  | k + 1, hk =>
   obtain ⟨y, hy, hl⟩ := lstX_part r (i + 1) hb k (by simpa using hk)
   exact ⟨y, hy, by rw [List.length_append]; omega⟩
theorem getD_at {ts : List Tx} {i : Nat} (h : i < ts.length) : ts.getD i none = ts[i] := by
 rw [List.getD_eq_getElem?_getD, List.getElem?_eq_getElem h]; rfl
theorem bareX_part {op : ByteArray} {n : Int} {s : ByteArray} {ts : List Tx} {y : List UInt8} (hf : formedB op.toList n s.toList ts.length = true) (h : bareX op n s ts = some y) : ∀ k (hk : k < ts.length), ∃ x, ts[k] = some x ∧ x.length + 1 ≤ y.length := by
 intro k hk
 unfold bareX at h
 have hof := formedB_of hf
 have leaf : op.toList = [105, 110, 116] ∨ op.toList = [116, 114, 117, 101] ∨ op.toList = [102, 97, 108, 115, 101] ∨ op.toList = [110, 97, 109, 101] → ts.length = 0 := fun hc => by
  rcases hof with hof | ⟨t, ht, ho, hl⟩
  ·exfalso; rw [hof] at hc; revert hc; decide
  ·rw [ho] at hc; rw [← hl]; revert hc; exact (by decide : ∀ t ∈ shapeL, (t.1 = [105, 110, 116] ∨ t.1 = [116, 114, 117, 101] ∨ t.1 = [102, 97, 108, 115, 101] ∨ t.1 = [110, 97, 109, 101]) → t.2.2.length = 0) t ht
 have one : op.toList = [110, 101, 103] ∨ op.toList = [110, 111, 116] ∨ op.toList = [112, 114, 101] → ts.length = 1 := fun hc => by
  rcases hof with hof | ⟨t, ht, ho, hl⟩
  ·exfalso; rw [hof] at hc; revert hc; decide
  ·rw [ho] at hc; rw [← hl]; revert hc; exact (by decide : ∀ t ∈ shapeL, (t.1 = [110, 101, 103] ∨ t.1 = [110, 111, 116] ∨ t.1 = [112, 114, 101]) → t.2.2.length = 1) t ht
 have three : op.toList = [105, 102] → ts.length = 3 := fun hc => by
  rcases hof with hof | ⟨t, ht, ho, hl⟩
  ·exfalso; rw [hof] at hc; revert hc; decide
  ·rw [ho] at hc; rw [← hl]; revert hc; exact (by decide : ∀ t ∈ shapeL, t.1 = [105, 102] → t.2.2.length = 3) t ht
 have few : op.toList ≠ [99, 97, 108, 108] → op.toList ≠ [105, 102] → ts.length ≤ 2 := fun h1 h2 => by
  rcases hof with hof | ⟨t, ht, ho, hl⟩
  ·exact absurd hof h1
  ·rw [ho] at h2; rw [← hl]; exact (by decide : ∀ t ∈ shapeL, t.1 ≠ [105, 102] → t.2.2.length ≤ 2) t ht h2
 split at h
 ·rename_i hc; have := leaf (Or.inl hc); omega
 split at h
 ·rename_i hc; have := leaf (Or.inr (Or.inl hc)); omega
 split at h
 ·rename_i hc; have := leaf (Or.inr (Or.inr (Or.inl hc))); omega
 split at h
 ·rename_i hc; have := leaf (Or.inr (Or.inr (Or.inr hc))); omega
 split at h
 ·obtain ⟨a, b, ha, hb, rfl⟩ := catX_eq h
  obtain ⟨z, c, hz, hc, rfl⟩ := catX_eq hb
  obtain ⟨x, hx, hl⟩ := lstX_part ts 0 hz k hk
  cases hc
  exact ⟨x, hx, by simp only [List.length_append, List.length_cons]; omega⟩
 rename_i hcall
 split at h
 ·rename_i hc
  have h3 := three hc
  obtain ⟨a, b, ha, hb, rfl⟩ := catX_eq h
  obtain ⟨x0, c, hx0, hc', rfl⟩ := catX_eq hb
  obtain ⟨d, f, hd, hf', rfl⟩ := catX_eq hc'
  obtain ⟨x1, g, hx1, hg, rfl⟩ := catX_eq hf'
  obtain ⟨i, x2, hi, hx2, rfl⟩ := catX_eq hg
  cases ha; cases hd; cases hi
  rw [getD_at (by omega)] at hx0 hx1 hx2
  simp only [List.length_append, List.length_cons, List.length_nil]
  have : k = 0 ∨ k = 1 ∨ k = 2 := by omega
  rcases this with rfl | rfl | rfl
  ·exact ⟨x0, hx0, by omega⟩
  ·exact ⟨x1, hx1, by omega⟩
  ·exact ⟨x2, hx2, by omega⟩
 rename_i hif
 split at h
 ·rename_i hc
  have h1 := one (Or.inl hc)
  obtain ⟨a, x0, ha, hx0, rfl⟩ := catX_eq h
  cases ha
  rw [getD_at (by omega)] at hx0
  obtain rfl : k = 0 := by omega
  exact ⟨x0, hx0, by simp only [List.length_append, List.length_cons, List.length_nil]; omega⟩
 split at h
 ·rename_i hc
  have h1 := one (Or.inr hc)
  obtain ⟨a, x0, ha, hx0, rfl⟩ := catX_eq h
  cases ha
  rw [getD_at (by omega)] at hx0
  obtain rfl : k = 0 := by omega
  exact ⟨x0, hx0, by simp only [List.length_append, List.length_cons, List.length_nil]; omega⟩
 ·have h2 := few hcall hif
  obtain ⟨x0, a, hx0, ha, rfl⟩ := catX_eq h
  obtain ⟨c, x1, hc, hx1, rfl⟩ := catX_eq ha
  cases hc
  simp only [List.length_append, List.length_cons, List.length_nil]
  have : k = 0 ∨ k = 1 := by omega
  rcases this with rfl | rfl
  ·rw [getD_at (by omega)] at hx0
   exact ⟨x0, hx0, by omega⟩
  ·rw [getD_at (by omega)] at hx1
   exact ⟨x1, hx1, by omega⟩
theorem dptL_le : ∀ (l : List Ex) (m : Nat), (∀ k (h : k < l.length), dpt l[k] ≤ m) → dptL l ≤ m
 | [], m, _ => by rw [dptL]; omega
 | e :: es, m, h => by
  rw [dptL]
  have h0 : dpt e ≤ m := h 0 (by simp)
  have h1 := dptL_le es m fun k hk => h (k + 1) (by simpa using hk)
  omega
theorem deep_long : ∀ (m : Nat) (op : ByteArray) (n : Int) (s : ByteArray) (l : List Ex), SizeOf.sizeOf l < m → ∀ (L : Nat) (x : List UInt8), tw L (.mk op n s l) = some x → dpt (.mk op n s l) ≤ x.length + 1
 | 0, _, _, _, _, h, _, _, _ => absurd h (by omega)
 | m + 1, op, n, s, l, hm, L, x, hx => by
  rw [tw_mk] at hx
  split at hx
  ·rename_i hf
   obtain ⟨y, hy, hl, _⟩ := brkX_some hx
   have hp := bareX_part (by rw [twP_length]; exact hf) hy
   rw [dpt_mk]
   have : dptL l ≤ y.length := dptL_le l _ fun k hk => by
    obtain ⟨z, hz, hzl⟩ := hp k (by rw [twP_length]; exact hk)
    have hg := twP_get l (lvsOf op.toList l) k hk
    rw [List.getElem?_eq_getElem (by rw [twP_length]; exact hk)] at hg
    rw [Option.some.inj hg] at hz
    obtain ⟨op', n', s', es, he⟩ : ∃ op n s es, l[k] = .mk op n s es := ⟨l[k].op, l[k].n, l[k].s, l[k].l, by cases l[k]; rfl⟩
    have hsz := size_part hk he
    rw [he] at hz ⊢
    have := deep_long m op' n' s' es (by omega) _ z hz
    omega
   omega
  ·cases hx
theorem Rsn.deep {K : Prop} {op : ByteArray} {n : Int} {s : ByteArray} {l : List Ex} {lb : List UInt8} (h : Rsn (6000 < 0 + dpt (.mk op n s l)) lb (tw 0 (.mk op n s l))) (hb : 1 ≤ lb.length) : Rsn K lb (tw 0 (.mk op n s l)) := Or.inr fun x hx => by
 rcases h with h | h
 ·have := deep_long (SizeOf.sizeOf l + 1) op n s l (by omega) 0 x hx
  rw [List.length_append]
  omega
 ·exact h x hx

def eqTx : Ex → Tx
 | .mk kind _ _ (a :: e :: _) => eqX kind a.l e
 | _ => none
def ownX (owns : List Ex) (t : Tx) : Tx := if owns.length = 0 then t else catX (some [118, 97, 114, 32]) (catX (lstX varX 0 owns) (catX (some [59, 10]) t))
def nodeX (name : ByteArray) (ins outs owns qs : List Ex) : Tx :=
 catX (some ([110, 111, 100, 101, 32] ++ (name.data.toList ++ [40]))) (catX (lstX varX 0 ins) (catX (some [41, 32, 114, 101, 116, 117, 114, 110, 115, 32, 40]) (catX (lstX varX 0 outs) (catX (some [41, 59, 10]) (ownX owns (catX (some [108, 101, 116, 10]) (catX (lstX (fun _ q => eqTx q) 0 qs) (some [116, 101, 108, 10]))))))))
def nodeTx : Ex → Tx
 | .mk name _ _ [a, b, c, d] => nodeX name a.l b.l c.l d.l
 | _ => none
def progX (es : List Ex) : Tx := lstX (fun _ n => nodeTx n) 0 es
def intChk (n : Nat) : Bool := let x := Lib.itoa (n : Int); !x.isEmpty && x.all (fun c => digI c.toNat) && decide (valL x ≤ 127) && !(decide (1 < x.length) && (x.head?.map (·.toNat) == some 48)) && decOf x == (n : Int)
theorem intChk_all : ∀ n, n < 128 → intChk n = true := by decide +kernel
theorem IntOk.of {n : Int} (h0 : 0 ≤ n) (h1 : n ≤ 127) : IntOk ⟨(Lib.itoa n).toArray⟩ n := by
 obtain ⟨m, rfl⟩ := Int.eq_ofNat_of_zero_le h0
 have h := intChk_all m (by omega)
 simp only [intChk, Bool.and_eq_true, decide_eq_true_eq, beq_iff_eq, Bool.not_eq_true', List.all_eq_true] at h
 obtain ⟨⟨⟨⟨a1, a2⟩, a3⟩, a4⟩, a5⟩ := h
 have hs : (⟨(Lib.itoa m).toArray⟩ : ByteArray).toList = Lib.itoa m := by rw [ByteArray.toList_eq]
 have hz : (⟨(Lib.itoa m).toArray⟩ : ByteArray).size = (Lib.itoa m).length := by rw [← bytes_len, hs]
 have hp : 0 < (Lib.itoa (m : Int)).length := by
  rcases hx : Lib.itoa (m : Int) with _ | ⟨c, r⟩
  ·rw [hx] at a1; cases a1
  ·simp
 refine ⟨by omega, fun k hk => ?_, ?_, by rw [hs]; exact a5⟩
 ·rw [byteI_list (by rw [hs]; omega)]
  simp only [hs]
  exact a2 _ (List.getElem_mem (by omega))
 ·have a3' : valL (⟨(Lib.itoa m).toArray⟩ : ByteArray).data.toList ≤ 127 := a3
  simp only [intB, a3', decide_true, Bool.true_and, hz]
  rw [Bool.not_eq_true']
  rcases Bool.and_eq_false_iff.1 a4 with h | h
  ·rw [h]; rfl
  ·rw [Bool.and_eq_false_iff]
   right
   rw [byteI_list (by rw [hs]; omega)]
   simp only [hs]
   rw [List.head?_eq_getElem?, List.getElem?_eq_getElem hp] at h
   simp only [Option.map_some, beq_eq_false_iff_ne, ne_eq, Option.some.injEq] at h
   rw [beq_eq_false_iff_ne]
   omega
theorem sOf_eq {s : ByteArray} {x : List UInt8} (h : s.toList = x) : s = sOf x := by rw [← h, sOf_bytes]
theorem data_list (s : ByteArray) : s.data.toList = s.toList := by rw [ByteArray.toList_eq]
theorem nil_of {s : ByteArray} (h : s.toList = []) : s = b0 := by rw [sOf_eq h]; rfl
theorem Pr.head45 {L k : Nat} {e : Ex} {p : List Pc} {x : List UInt8} (h : Pr L e k p x) (hL : 7 ≤ L) (hn : e.op.toList ≠ [110, 101, 103] ∨ 8 ≤ L) : x.head? ≠ some 45 := by
 have nm : ∀ {s : ByteArray} (r : List UInt8), NmOk s → (s.toList ++ r).head? ≠ some 45 := fun {s} r hs e => by
  have hl := bytes_len s
  have hp := hs.pos
  have h0 := hs.low
  rw [byteI_list (by omega)] at h0
  rcases hx : s.toList with _ | ⟨c, y⟩
  ·rw [hx] at hl; simp at hl; omega
  ·rw [hx] at e
   simp only [List.cons_append, List.head?_cons, Option.some.injEq] at e
   subst e
   simp only [hx, List.getElem_cons_zero] at h0
   cases h0
 cases h with
 | brk => intro e; cases e
 | int _ t n _ ht =>
  intro e
  have hl := bytes_len t
  have hp := ht.pos
  have h0 := ht.all 0 hp
  rw [byteI_list (by omega)] at h0
  rcases hx : t.toList with _ | ⟨c, y⟩
  ·rw [hx] at hl; simp at hl; omega
  ·rw [hx] at e
   simp only [List.head?_cons, Option.some.injEq] at e
   subst e
   simp only [hx, List.getElem_cons_zero] at h0
   cases h0
 | bool _ y _ hy =>
  simp only [List.mem_cons, List.not_mem_nil, or_false] at hy
  rcases hy with rfl | rfl <;> (intro e; cases e)
 | name _ s _ hs => have := nm [] hs; rwa [List.append_nil] at this
 | call _ s ps _ hs _ => exact nm _ hs
 | cond => omega
 | arrow => omega
 | left _ v y a b ka kb pa pb xa xb hl => exfalso; have : v.num ≤ 6 := (by cases v <;> decide); omega
 | cmp => omega
 | not => omega
 | neg =>
  rcases hn with h | h
  ·exact absurd (by rw [show Ex.op (.mk sNeg 0 b0 _) = sNeg from rfl, ByteArray.toList_eq]; rfl) h
  ·omega
 | pre => intro e; cases e
theorem Pr.loose {L M k : Nat} {e : Ex} {p : List Pc} {x : List UInt8} (h : Pr L e k p x) (hM : M ≤ L) : Pr M e k p x := by
 cases h with
 | brk _ k e p x h1 h2 => exact .brk M _ _ _ _ (by omega) h2
 | int _ t n h1 h2 => exact .int M t n (by omega) h2
 | bool _ y h1 h2 => exact .bool M _ (by omega) h2
 | name _ s h1 h2 => exact .name M s (by omega) h2
 | call _ s ps h1 h2 h3 => exact .call M s ps (by omega) h2 h3
 | cond a b c ka kb kc pa pb pc xa xb xc h1 h2 h3 =>
  obtain rfl : M = 0 := by omega
  exact .cond a b c ka kb kc pa pb pc xa xb xc h1 h2 h3
 | arrow y a b ka kb pa pb xa xb h1 h2 h3 =>
  obtain rfl : M = 0 := by omega
  exact .arrow y a b ka kb pa pb xa xb h1 h2 h3
 | left _ v y a b ka kb pa pb xa xb h0 h1 h2 h3 => exact .left M v y a b ka kb pa pb xa xb (by omega) h1 h2 h3
 | cmp _ y a b ka kb pa pb xa xb h0 h1 h2 h3 => exact .cmp M y a b ka kb pa pb xa xb (by omega) h1 h2 h3
 | not _ a k p x h0 h1 => exact .not M a _ _ _ (by omega) h1
 | neg _ a k p x h0 h1 h2 => exact .neg M a _ _ _ (by omega) h1 h2
 | pre _ a k p x h0 h1 => exact .pre M a _ _ _ (by omega) h1
theorem args_pr : ∀ (l : List Ex) (i : Nat) (z : List UInt8), lstX argX i (twP [] l) = some z → (∀ e ∈ l, ∀ x, tw 0 e = some x → ∃ k p, Pr 0 e k p x) → ∃ ps : List Part, (∀ q ∈ ps, Pr 0 q.1 q.2.1 q.2.2.1 q.2.2.2) ∧ ps.map (·.1) = l ∧ z = (if 0 < i ∧ ps ≠ [] then tComma ++ (32 :: joinX ps) else joinX ps)
 | [], i, z, hz, _ => by
  rw [twP] at hz
  cases hz
  exact ⟨[], (fun _ h => by cases h), rfl, by simp [joinX]⟩
 | e :: es, i, z, hz, ih => by
  rw [twP] at hz
  obtain ⟨a, b, ha, hb, rfl⟩ := catX_eq hz
  obtain ⟨c, x, hc, hx, rfl⟩ := catX_eq ha
  obtain ⟨k, p, hp⟩ := ih e List.mem_cons_self x hx
  obtain ⟨ps, h1, h2, rfl⟩ := args_pr es (i + 1) b hb fun e he => ih e (List.mem_cons_of_mem _ he)
  have hj : joinX ((e, k, p, x) :: ps) = x ++ (if 0 < i + 1 ∧ ps ≠ [] then tComma ++ (32 :: joinX ps) else joinX ps) := by
   match ps with
   | [] => simp [joinX]
   | q :: r => simp [joinX]
  refine ⟨(e, k, p, x) :: ps, fun q hq => (List.mem_cons.1 hq).elim (fun h => by rw [h]; exact hp) (h1 q), by simp [h2], ?_⟩
  rw [hj]
  unfold sepX at hc
  by_cases hi : 0 < i
  ·rw [if_pos hi] at hc
   cases hc
   rw [if_pos (show 0 < i ∧ ((e, k, p, x) :: ps) ≠ [] from ⟨hi, by simp⟩)]
   simp [tComma]
  ·rw [if_neg hi] at hc
   cases hc
   rw [if_neg (show ¬ (0 < i ∧ ((e, k, p, x) :: ps) ≠ []) from fun h => hi h.1)]
   simp
theorem NmT.part {op : ByteArray} {n : Int} {s : ByteArray} {l : List Ex} (h : NmT (.mk op n s l)) : (op.toList = [110, 97, 109, 101] ∨ op.toList = [99, 97, 108, 108] → NmOk s) ∧ ∀ e ∈ l, NmT e := by
 cases h with
 | mk _ _ _ _ h1 h2 => exact ⟨h1, h2⟩
theorem form_zero {op : ByteArray} {n : Int} {s : ByteArray} {m : Nat} (h : formedB op.toList n s.toList m = true) : (op.toList ≠ [105, 110, 116] → n = 0) ∧ (op.toList ≠ [110, 97, 109, 101] → op.toList ≠ [99, 97, 108, 108] → s = b0) ∧ (op.toList = [105, 110, 116] → 0 ≤ n ∧ n ≤ 127) := by
 simp only [formedB, Bool.and_eq_true] at h
 obtain ⟨_, h⟩ := h
 by_cases h1 : (op.toList == tIntL) = true
 ·rw [if_pos h1] at h
  have e1 : op.toList = [105, 110, 116] := beq_iff_eq.1 h1
  simp only [Bool.and_eq_true, decide_eq_true_eq, beq_iff_eq] at h
  exact ⟨fun g => absurd e1 g, fun _ _ => nil_of h.2, fun _ => h.1⟩
 ·rw [if_neg h1] at h
  have e1 : op.toList ≠ [105, 110, 116] := fun e => h1 (beq_iff_eq.2 e)
  by_cases h2 : (op.toList == tNameL || op.toList == tCallL) = true
  ·rw [if_pos h2] at h
   have e2 : op.toList = [110, 97, 109, 101] ∨ op.toList = [99, 97, 108, 108] := (Bool.or_eq_true _ _ ▸ h2 : (op.toList == tNameL) = true ∨ (op.toList == tCallL) = true).imp (fun h => beq_iff_eq.1 h) (fun h => beq_iff_eq.1 h)
   exact ⟨fun _ => by simpa using h, fun g1 g2 => (e2.elim (fun e => absurd e g1) (fun e => absurd e g2)), fun g => absurd g e1⟩
  ·rw [if_neg h2] at h
   simp only [Bool.and_eq_true, beq_iff_eq] at h
   exact ⟨fun _ => h.1, fun _ _ => nil_of h.2, fun g => absurd g e1⟩
theorem form_len {op : ByteArray} {n : Int} {s : ByteArray} {m : Nat} (h : formedB op.toList n s.toList m = true) (hc : op.toList ≠ [99, 97, 108, 108]) : ∃ t ∈ shapeL, op.toList = t.1 ∧ t.2.2.length = m := (formedB_of h).resolve_left hc
theorem tw_pr : ∀ (m : Nat) (op : ByteArray) (n : Int) (s : ByteArray) (l : List Ex), SizeOf.sizeOf l < m → NmT (.mk op n s l) → ∀ (L : Nat) (x : List UInt8), L ≤ 8 → tw L (.mk op n s l) = some x → ∃ k p, Pr L (.mk op n s l) k p x
 | 0, _, _, _, _, h, _, _, _, _, _ => absurd h (by omega)
 | m + 1, op, n, s, l, hm, hN, L, x, hL, hx => by
  rw [tw_mk] at hx
  split at hx
  rotate_left
  ·cases hx
  rename_i hf
  obtain ⟨y, hy, _, hxy⟩ := brkX_some hx
  obtain ⟨hN1, hN2⟩ := hN.part
  obtain ⟨fz, fs, fi⟩ := form_zero hf
  have ih : ∀ (i : Nat) (hi : i < l.length) (M : Nat) (z : List UInt8), M ≤ 8 → tw M l[i] = some z → ∃ k p, Pr M l[i] k p z := fun i hi M z hM hz => by
   obtain ⟨op', n', s', es, he⟩ : ∃ op n s es, l[i] = .mk op n s es := ⟨l[i].op, l[i].n, l[i].s, l[i].l, by cases l[i]; rfl⟩
   have hsz := size_part hi he
   have hn := hN2 l[i] (List.getElem_mem hi)
   rw [he] at hz hn ⊢
   exact tw_pr m op' n' s' es (by omega) hn M z hM hz
  suffices hall : ∀ M, M ≤ lvOf op.toList → ∃ k p, Pr M (.mk op n s l) k p y by
   by_cases hlt : lvOf op.toList < L
   ·obtain ⟨k, p, hp⟩ := hall 0 (by omega)
    rw [if_pos (by simpa using hlt)] at hxy
    rw [hxy]
    exact ⟨_, _, Pr.brk L k _ p y hL hp⟩
   ·rw [if_neg (by simpa using hlt)] at hxy
    rw [hxy]
    exact hall L (by omega)
  intro M hM
  by_cases hcall : op.toList = [99, 97, 108, 108]
  ·have hlv : lvOf op.toList = 8 := by rw [hcall]; decide
   have hv : lvsOf op.toList l = [] := by unfold lvsOf; rw [if_neg (by rw [hcall]; decide), hcall]; decide
   rw [bareX, if_neg (by rw [hcall]; decide), if_neg (by rw [hcall]; decide), if_neg (by rw [hcall]; decide), if_neg (by rw [hcall]; decide), if_pos hcall, hv] at hy
   obtain ⟨a, b, ha, hb, rfl⟩ := catX_eq hy
   obtain ⟨z, c, hz, hc, rfl⟩ := catX_eq hb
   cases ha; cases hc
   obtain ⟨ps, h1, h2, rfl⟩ := args_pr l 0 z hz fun e he x hx => by
    obtain ⟨i, hi, rfl⟩ := List.mem_iff_getElem.1 he
    exact ih i hi 0 x (by omega) hx
   have := Pr.call M s ps (by omega) (hN1 (Or.inr hcall)) h1
   rw [h2] at this
   obtain rfl : n = 0 := fz (by rw [hcall]; decide)
   rw [show op = sCall from (sOf_eq hcall)]
   rw [if_neg (by simp)]
   have e : s.data.toList ++ [40] ++ (joinX ps ++ [41]) = s.toList ++ (tOpen ++ (joinX ps ++ tShut)) := by rw [data_list, List.append_assoc]; rfl
   rw [e]
   exact ⟨_, _, this⟩
  ·obtain ⟨t, ht, hop, hlen⟩ := form_len hf hcall
   have hlv : lvOf op.toList = t.2.1 := by rw [hop]; exact (shape_lv ht).1
   have hv : op.toList ≠ [110, 101, 103] → lvsOf op.toList l = t.2.2 := fun hne => by unfold lvsOf; rw [if_neg hne, hop]; exact (shape_lv ht).2
   have eop : op = sOf t.1 := sOf_eq hop
   rw [hlv] at hM
   have two : ∀ {y' : List UInt8} {M1 M2 : Nat}, t.1 = y' → t.2.2 = [M1, M2] → M1 ≤ 8 → M2 ≤ 8 → op.toList ≠ [105, 110, 116] → op.toList ≠ [116, 114, 117, 101] → op.toList ≠ [102, 97, 108, 115, 101] → op.toList ≠ [110, 97, 109, 101] → op.toList ≠ [105, 102] → op.toList ≠ [110, 101, 103] → op.toList ≠ [110, 111, 116] → op.toList ≠ [112, 114, 101] → ∃ (a b : Ex) (ka kb : Nat) (pa pb : List Pc) (xa xb : List UInt8), l = [a, b] ∧ Pr M1 a ka pa xa ∧ Pr M2 b kb pb xb ∧ y = xa ++ (32 :: (y' ++ (32 :: xb))) ∧ n = 0 ∧ s = b0 ∧ op = sOf y' := by
    intro y' M1 M2 hy' hps hM1 hM2 n1 n2 n3 n4 n5 n6 n7 n8
    rw [hps] at hlen
    match l, hlen, ih, hy, hv, fz, fs with
    | [a, b], _, ih, hy, hv, fz, fs =>
     rw [hv n6, hps, bareX, if_neg n1, if_neg n2, if_neg n3, if_neg n4, if_neg hcall, if_neg n5, if_neg n6, if_neg (fun h => h.elim n7 n8)] at hy
     obtain ⟨xa, r, hxa, hr, rfl⟩ := catX_eq hy
     obtain ⟨c, xb, hc, hxb, rfl⟩ := catX_eq hr
     cases hc
     have hxa' : tw M1 a = some xa := by rw [← hxa, twP]; rfl
     have hxb' : tw M2 b = some xb := by rw [← hxb, twP, twP]; rfl
     obtain ⟨ka, pa, ha⟩ := ih 0 (by simp) M1 xa hM1 hxa'
     obtain ⟨kb, pb, hb⟩ := ih 1 (by simp) M2 xb hM2 hxb'
     refine ⟨a, b, ka, kb, pa, pb, xa, xb, rfl, ha, hb, ?_, fz n1, fs n4 hcall, by rw [eop, hy']⟩
     rw [data_list, hop, hy']
     simp
   have one : ∀ {M1 : Nat} (pre : List UInt8), M1 ≤ 8 → l.length = 1 → (lvsOf op.toList l).getD 0 0 = M1 → bareX op n s (twP (lvsOf op.toList l) l) = catX (some pre) ((twP (lvsOf op.toList l) l).getD 0 none) → ∃ (a : Ex) (k : Nat) (p : List Pc) (x : List UInt8), l = [a] ∧ Pr M1 a k p x ∧ y = pre ++ x := by
    intro M1 pre hM1 h1 hlv1 hb
    rw [hb] at hy
    obtain ⟨c, x, hc, hx, rfl⟩ := catX_eq hy
    cases hc
    rw [twP_getD (by omega), hlv1] at hx
    obtain ⟨k, p, hp⟩ := ih 0 (by omega) M1 x hM1 hx
    match l, h1, hp with
    | [a], _, hp => exact ⟨a, k, p, x, rfl, hp, rfl⟩
   have leaf : t.2.2 = [] → l = [] := fun h => by rw [h] at hlen; exact List.length_eq_zero_iff.1 hlen.symm
   have hM8 : M ≤ 8 := by
    have : t.2.1 ≤ 8 := (by decide : ∀ t ∈ shapeL, t.2.1 ≤ 8) t ht
    omega
   simp only [shapeL, List.mem_cons, List.not_mem_nil, or_false] at ht
   rcases ht with rfl | rfl | rfl | rfl | rfl | rfl | rfl | rfl | rfl | rfl | rfl | rfl | rfl | rfl | rfl | rfl | rfl | rfl | rfl | rfl | rfl | rfl | rfl | rfl | rfl
   ·obtain rfl := leaf rfl
    rw [bareX, if_pos hop] at hy
    cases hy
    obtain rfl : s = b0 := fs (by rw [hop]; decide) hcall
    obtain ⟨i0, i1⟩ := fi hop
    have h1 := Pr.int M _ n hM8 (IntOk.of i0 i1)
    rw [show (⟨(Lib.itoa n).toArray⟩ : ByteArray).toList = Lib.itoa n from by rw [ByteArray.toList_eq]] at h1
    rw [eop]
    exact ⟨_, _, h1⟩
   ·obtain rfl := leaf rfl
    rw [bareX, if_neg (by rw [hop]; decide), if_pos hop] at hy
    cases hy
    obtain rfl : s = b0 := fs (by rw [hop]; decide) hcall
    obtain rfl : n = 0 := fz (by rw [hop]; decide)
    have h1 := Pr.bool M [116, 114, 117, 101] hM8 (by decide)
    rw [data_list, hop, eop]
    exact ⟨_, _, h1⟩
   ·obtain rfl := leaf rfl
    rw [bareX, if_neg (by rw [hop]; decide), if_neg (by rw [hop]; decide), if_pos hop] at hy
    cases hy
    obtain rfl : s = b0 := fs (by rw [hop]; decide) hcall
    obtain rfl : n = 0 := fz (by rw [hop]; decide)
    have h1 := Pr.bool M [102, 97, 108, 115, 101] hM8 (by decide)
    rw [data_list, hop, eop]
    exact ⟨_, _, h1⟩
   ·obtain rfl := leaf rfl
    rw [bareX, if_neg (by rw [hop]; decide), if_neg (by rw [hop]; decide), if_neg (by rw [hop]; decide), if_pos hop] at hy
    cases hy
    obtain rfl : n = 0 := fz (by rw [hop]; decide)
    have h1 := Pr.name M s hM8 (hN1 (Or.inl hop))
    rw [data_list, eop]
    exact ⟨_, _, h1⟩
   ·obtain rfl : M = 0 := by simpa using hM
    obtain rfl : s = b0 := fs (by rw [hop]; decide) hcall
    obtain rfl : n = 0 := fz (by rw [hop]; decide)
    match l, hlen, ih, hy, hv with
    | [a, b, c], _, ih, hy, hv =>
     rw [hv (by rw [hop]; decide), bareX, if_neg (by rw [hop]; decide), if_neg (by rw [hop]; decide), if_neg (by rw [hop]; decide), if_neg (by rw [hop]; decide), if_neg (by rw [hop]; decide), if_pos hop] at hy
     obtain ⟨c1, r1, hc1, hr1, rfl⟩ := catX_eq hy
     obtain ⟨xa, r2, hxa, hr2, rfl⟩ := catX_eq hr1
     obtain ⟨c2, r3, hc2, hr3, rfl⟩ := catX_eq hr2
     obtain ⟨xb, r4, hxb, hr4, rfl⟩ := catX_eq hr3
     obtain ⟨c3, xc, hc3, hxc, rfl⟩ := catX_eq hr4
     cases hc1; cases hc2; cases hc3
     obtain ⟨ka, pa, ha⟩ := ih 0 (by simp) 0 xa (by omega) (by rw [← hxa, twP]; rfl)
     obtain ⟨kb, pb, hb⟩ := ih 1 (by simp) 0 xb (by omega) (by rw [← hxb, twP, twP]; rfl)
     obtain ⟨kc, pc, hc⟩ := ih 2 (by simp) 0 xc (by omega) (by rw [← hxc, twP, twP, twP]; rfl)
     rw [eop]
     exact ⟨_, _, Pr.cond a b c ka kb kc pa pb pc xa xb xc ha hb hc⟩
   ·obtain ⟨a, b, ka, kb, pa, pb, xa, xb, rfl, ha, hb, rfl, rfl, rfl, rfl⟩ := two rfl rfl (by omega) (by omega) (by rw [hop]; decide) (by rw [hop]; decide) (by rw [hop]; decide) (by rw [hop]; decide) (by rw [hop]; decide) (by rw [hop]; decide) (by rw [hop]; decide) (by rw [hop]; decide)
    obtain rfl : M = 0 := by simpa using hM
    exact ⟨_, _, Pr.arrow [45, 62] a b ka kb pa pb xa xb (by decide) ha hb⟩
   ·obtain ⟨a, b, ka, kb, pa, pb, xa, xb, rfl, ha, hb, rfl, rfl, rfl, rfl⟩ := two rfl rfl (by omega) (by omega) (by rw [hop]; decide) (by rw [hop]; decide) (by rw [hop]; decide) (by rw [hop]; decide) (by rw [hop]; decide) (by rw [hop]; decide) (by rw [hop]; decide) (by rw [hop]; decide)
    obtain rfl : M = 0 := by simpa using hM
    exact ⟨_, _, Pr.arrow [102, 98, 121] a b ka kb pa pb xa xb (by decide) ha hb⟩
   ·obtain ⟨a, b, ka, kb, pa, pb, xa, xb, rfl, ha, hb, rfl, rfl, rfl, rfl⟩ := two rfl rfl (by omega) (by omega) (by rw [hop]; decide) (by rw [hop]; decide) (by rw [hop]; decide) (by rw [hop]; decide) (by rw [hop]; decide) (by rw [hop]; decide) (by rw [hop]; decide) (by rw [hop]; decide)
    exact ⟨_, _, Pr.left M .or [111, 114] a b ka kb pa pb xa xb hM (by decide) ha hb⟩
   ·obtain ⟨a, b, ka, kb, pa, pb, xa, xb, rfl, ha, hb, rfl, rfl, rfl, rfl⟩ := two rfl rfl (by omega) (by omega) (by rw [hop]; decide) (by rw [hop]; decide) (by rw [hop]; decide) (by rw [hop]; decide) (by rw [hop]; decide) (by rw [hop]; decide) (by rw [hop]; decide) (by rw [hop]; decide)
    exact ⟨_, _, Pr.left M .or [120, 111, 114] a b ka kb pa pb xa xb hM (by decide) ha hb⟩
   ·obtain ⟨a, b, ka, kb, pa, pb, xa, xb, rfl, ha, hb, rfl, rfl, rfl, rfl⟩ := two rfl rfl (by omega) (by omega) (by rw [hop]; decide) (by rw [hop]; decide) (by rw [hop]; decide) (by rw [hop]; decide) (by rw [hop]; decide) (by rw [hop]; decide) (by rw [hop]; decide) (by rw [hop]; decide)
    exact ⟨_, _, Pr.left M .and [97, 110, 100] a b ka kb pa pb xa xb hM (by decide) ha hb⟩
   ·obtain rfl : s = b0 := fs (by rw [hop]; decide) hcall
    obtain rfl : n = 0 := fz (by rw [hop]; decide)
    obtain ⟨a, k, p, x, rfl, hp, rfl⟩ := one (M1 := 3) (op.data.toList ++ [32]) (by omega) hlen.symm (by rw [hv (by rw [hop]; decide)]; rfl) (by rw [bareX, if_neg (by rw [hop]; decide), if_neg (by rw [hop]; decide), if_neg (by rw [hop]; decide), if_neg (by rw [hop]; decide), if_neg (by rw [hop]; decide), if_neg (by rw [hop]; decide), if_neg (by rw [hop]; decide), if_pos (by rw [hop]; decide)])
    have h1 := Pr.not M a k p x hM hp
    rw [data_list, hop, eop]
    exact ⟨_, _, h1⟩
   ·obtain ⟨a, b, ka, kb, pa, pb, xa, xb, rfl, ha, hb, rfl, rfl, rfl, rfl⟩ := two rfl rfl (by omega) (by omega) (by rw [hop]; decide) (by rw [hop]; decide) (by rw [hop]; decide) (by rw [hop]; decide) (by rw [hop]; decide) (by rw [hop]; decide) (by rw [hop]; decide) (by rw [hop]; decide)
    exact ⟨_, _, Pr.cmp M [61] a b ka kb pa pb xa xb hM (by decide) ha hb⟩
   ·obtain ⟨a, b, ka, kb, pa, pb, xa, xb, rfl, ha, hb, rfl, rfl, rfl, rfl⟩ := two rfl rfl (by omega) (by omega) (by rw [hop]; decide) (by rw [hop]; decide) (by rw [hop]; decide) (by rw [hop]; decide) (by rw [hop]; decide) (by rw [hop]; decide) (by rw [hop]; decide) (by rw [hop]; decide)
    exact ⟨_, _, Pr.cmp M [60, 62] a b ka kb pa pb xa xb hM (by decide) ha hb⟩
   ·obtain ⟨a, b, ka, kb, pa, pb, xa, xb, rfl, ha, hb, rfl, rfl, rfl, rfl⟩ := two rfl rfl (by omega) (by omega) (by rw [hop]; decide) (by rw [hop]; decide) (by rw [hop]; decide) (by rw [hop]; decide) (by rw [hop]; decide) (by rw [hop]; decide) (by rw [hop]; decide) (by rw [hop]; decide)
    exact ⟨_, _, Pr.cmp M [60] a b ka kb pa pb xa xb hM (by decide) ha hb⟩
   ·obtain ⟨a, b, ka, kb, pa, pb, xa, xb, rfl, ha, hb, rfl, rfl, rfl, rfl⟩ := two rfl rfl (by omega) (by omega) (by rw [hop]; decide) (by rw [hop]; decide) (by rw [hop]; decide) (by rw [hop]; decide) (by rw [hop]; decide) (by rw [hop]; decide) (by rw [hop]; decide) (by rw [hop]; decide)
    exact ⟨_, _, Pr.cmp M [60, 61] a b ka kb pa pb xa xb hM (by decide) ha hb⟩
   ·obtain ⟨a, b, ka, kb, pa, pb, xa, xb, rfl, ha, hb, rfl, rfl, rfl, rfl⟩ := two rfl rfl (by omega) (by omega) (by rw [hop]; decide) (by rw [hop]; decide) (by rw [hop]; decide) (by rw [hop]; decide) (by rw [hop]; decide) (by rw [hop]; decide) (by rw [hop]; decide) (by rw [hop]; decide)
    exact ⟨_, _, Pr.cmp M [62] a b ka kb pa pb xa xb hM (by decide) ha hb⟩
   ·obtain ⟨a, b, ka, kb, pa, pb, xa, xb, rfl, ha, hb, rfl, rfl, rfl, rfl⟩ := two rfl rfl (by omega) (by omega) (by rw [hop]; decide) (by rw [hop]; decide) (by rw [hop]; decide) (by rw [hop]; decide) (by rw [hop]; decide) (by rw [hop]; decide) (by rw [hop]; decide) (by rw [hop]; decide)
    exact ⟨_, _, Pr.cmp M [62, 61] a b ka kb pa pb xa xb hM (by decide) ha hb⟩
   ·obtain ⟨a, b, ka, kb, pa, pb, xa, xb, rfl, ha, hb, rfl, rfl, rfl, rfl⟩ := two rfl rfl (by omega) (by omega) (by rw [hop]; decide) (by rw [hop]; decide) (by rw [hop]; decide) (by rw [hop]; decide) (by rw [hop]; decide) (by rw [hop]; decide) (by rw [hop]; decide) (by rw [hop]; decide)
    exact ⟨_, _, Pr.cmp M [61, 62] a b ka kb pa pb xa xb hM (by decide) ha hb⟩
   ·obtain ⟨a, b, ka, kb, pa, pb, xa, xb, rfl, ha, hb, rfl, rfl, rfl, rfl⟩ := two rfl rfl (by omega) (by omega) (by rw [hop]; decide) (by rw [hop]; decide) (by rw [hop]; decide) (by rw [hop]; decide) (by rw [hop]; decide) (by rw [hop]; decide) (by rw [hop]; decide) (by rw [hop]; decide)
    exact ⟨_, _, Pr.left M .sum [43] a b ka kb pa pb xa xb hM (by decide) ha hb⟩
   ·obtain ⟨a, b, ka, kb, pa, pb, xa, xb, rfl, ha, hb, rfl, rfl, rfl, rfl⟩ := two rfl rfl (by omega) (by omega) (by rw [hop]; decide) (by rw [hop]; decide) (by rw [hop]; decide) (by rw [hop]; decide) (by rw [hop]; decide) (by rw [hop]; decide) (by rw [hop]; decide) (by rw [hop]; decide)
    exact ⟨_, _, Pr.left M .sum [45] a b ka kb pa pb xa xb hM (by decide) ha hb⟩
   ·obtain ⟨a, b, ka, kb, pa, pb, xa, xb, rfl, ha, hb, rfl, rfl, rfl, rfl⟩ := two rfl rfl (by omega) (by omega) (by rw [hop]; decide) (by rw [hop]; decide) (by rw [hop]; decide) (by rw [hop]; decide) (by rw [hop]; decide) (by rw [hop]; decide) (by rw [hop]; decide) (by rw [hop]; decide)
    exact ⟨_, _, Pr.left M .prod [42] a b ka kb pa pb xa xb hM (by decide) ha hb⟩
   ·obtain ⟨a, b, ka, kb, pa, pb, xa, xb, rfl, ha, hb, rfl, rfl, rfl, rfl⟩ := two rfl rfl (by omega) (by omega) (by rw [hop]; decide) (by rw [hop]; decide) (by rw [hop]; decide) (by rw [hop]; decide) (by rw [hop]; decide) (by rw [hop]; decide) (by rw [hop]; decide) (by rw [hop]; decide)
    exact ⟨_, _, Pr.left M .prod [47] a b ka kb pa pb xa xb hM (by decide) ha hb⟩
   ·obtain ⟨a, b, ka, kb, pa, pb, xa, xb, rfl, ha, hb, rfl, rfl, rfl, rfl⟩ := two rfl rfl (by omega) (by omega) (by rw [hop]; decide) (by rw [hop]; decide) (by rw [hop]; decide) (by rw [hop]; decide) (by rw [hop]; decide) (by rw [hop]; decide) (by rw [hop]; decide) (by rw [hop]; decide)
    exact ⟨_, _, Pr.left M .prod [109, 111, 100] a b ka kb pa pb xa xb hM (by decide) ha hb⟩
   ·obtain rfl : s = b0 := fs (by rw [hop]; decide) hcall
    obtain rfl : n = 0 := fz (by rw [hop]; decide)
    have h1 : l.length = 1 := hlen.symm
    have hg : (lvsOf op.toList l).getD 0 0 = if (l[0]'(by omega)).op.toList = [110, 101, 103] then 8 else 7 := by
     match l, h1 with
     | [a], _ =>
      unfold lvsOf
      rw [if_pos hop]
      show (if a.op.toList = [110, 101, 103] then [8] else [7] : List Nat).getD 0 0 = _
      split
      ·rename_i h; show 8 = _; rw [if_pos (by exact h)]
      ·rename_i h; show 7 = _; rw [if_neg (by exact h)]
    obtain ⟨a, k, p, x, rfl, hp, rfl⟩ := one [45] (by split <;> omega) h1 hg (by rw [bareX, if_neg (by rw [hop]; decide), if_neg (by rw [hop]; decide), if_neg (by rw [hop]; decide), if_neg (by rw [hop]; decide), if_neg (by rw [hop]; decide), if_neg (by rw [hop]; decide), if_pos hop])
    have hp7 : ∃ k' p', Pr 7 a k' p' x ∧ x.head? ≠ some 45 := by
     change Pr (if a.op.toList = [110, 101, 103] then 8 else 7) a k p x at hp
     split at hp
     ·exact ⟨k, p, hp.loose (by omega), hp.head45 (by omega) (Or.inr (by omega))⟩
     ·rename_i hne; exact ⟨k, p, hp, hp.head45 (by omega) (Or.inl hne)⟩
    obtain ⟨k', p', hp', h45⟩ := hp7
    rw [eop]
    exact ⟨_, _, Pr.neg M a k' p' x hM h45 hp'⟩
   ·obtain rfl : s = b0 := fs (by rw [hop]; decide) hcall
    obtain rfl : n = 0 := fz (by rw [hop]; decide)
    obtain ⟨a, k, p, x, rfl, hp, rfl⟩ := one (M1 := 7) (op.data.toList ++ [32]) (by omega) hlen.symm (by rw [hv (by rw [hop]; decide)]; rfl) (by rw [bareX, if_neg (by rw [hop]; decide), if_neg (by rw [hop]; decide), if_neg (by rw [hop]; decide), if_neg (by rw [hop]; decide), if_neg (by rw [hop]; decide), if_neg (by rw [hop]; decide), if_neg (by rw [hop]; decide), if_pos (by rw [hop]; decide)])
    have h1 := Pr.pre M a k p x hM hp
    rw [data_list, hop, eop]
    exact ⟨_, _, h1⟩
end Go.Proofs.YtgbpccipdcajgaaGreatDoor
