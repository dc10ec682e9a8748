/-
  WHAT THE WRITER WRITES, IN PLAIN MATHEMATICS: texts that may be none, one behind the other; the text of a term, of an equation, of a node, of a program.
-/
import Derived.Test.YtglkpgcmlbhkpabGreatDoorQ30
import Derived.Test.YtglkpgcmlbhkpabGreatDoorQ20
namespace Go.Proofs.YtglkpgcmlbhkpabGreatDoor

/-- A text, or none. -/
abbrev Tx := Option (List UInt8)
def catX (a b : Tx) : Tx := a.bind fun x => b.map (x ++ ·)
/-- Behind lx stands this text. -/
def Ok (lx : List UInt8) (t : Tx) (l : List UInt8) : Prop := ∃ x, t = some x ∧ l = lx ++ x
/-- Behind lx it has no room, or is none (or K). -/
def Rsn (K : Prop) (lx : List UInt8) (t : Tx) : Prop := K ∨ ∀ x, t = some x → 6000 < (lx ++ x).length
theorem catX_some (x y : List UInt8) : catX (some x) (some y) = some (x ++ y) := rfl
theorem catX_nil (t : Tx) : catX (some []) t = t := by cases t <;> rfl
theorem catX_end (t : Tx) : catX t (some []) = t := by cases t <;> simp [catX]
theorem catX_none (t : Tx) : catX none t = none := rfl
theorem catX_assoc (a b c : Tx) : catX (catX a b) c = catX a (catX b c) := by cases a <;> cases b <;> cases c <;> simp [catX]
theorem catX_eq {a b : Tx} {z : List UInt8} (h : catX a b = some z) : ∃ x y, a = some x ∧ b = some y ∧ z = x ++ y := by
  cases a <;> cases b <;> simp [catX] at h
  exact ⟨_, _, rfl, rfl, h.symm⟩
theorem Rsn.more {K : Prop} {lx : List UInt8} {t : Tx} (h : Rsn K lx t) (t' : Tx) : Rsn K lx (catX t t') := h.imp id fun h z hz => by
  obtain ⟨x, y, hx, _, rfl⟩ := catX_eq hz
  have := h x hx
  rw [← List.append_assoc, List.length_append]
  omega
theorem Rsn.lift {K : Prop} {lx x1 : List UInt8} {t1 t2 : Tx} (h : Rsn K (lx ++ x1) t2) (q : t1 = some x1) : Rsn K lx (catX t1 t2) := h.imp id fun h z hz => by
  obtain ⟨x, y, hx, hy, rfl⟩ := catX_eq hz
  rw [q] at hx
  cases hx
  have := h y hy
  rwa [List.append_assoc] at this
theorem Rsn.none (K : Prop) (lx : List UInt8) : Rsn K lx none := Or.inr fun _ h => by cases h
theorem Ok.lift {lx x1 l : List UInt8} {t1 t2 : Tx} (h : Ok (lx ++ x1) t2 l) (q : t1 = some x1) : Ok lx (catX t1 t2) l := by
  obtain ⟨y, hy, rfl⟩ := h
  exact ⟨x1 ++ y, by rw [q, hy]; rfl, by rw [List.append_assoc]⟩
theorem Ok.this {lx x : List UInt8} {t : Tx} (q : t = some x) : Ok lx t (lx ++ x) := ⟨x, q, rfl⟩
theorem Ok.nil {lx : List UInt8} : Ok lx (some []) lx := ⟨[], rfl, (List.append_nil _).symm⟩

/-- Texts, one behind the other. -/
def flat (xs : List ByteArray) : List UInt8 := (xs.map fun s => s.data.toList).flatten
theorem flat_take {xs : List ByteArray} {i : Nat} (h : i < xs.length) : flat (xs.take (i + 1)) = flat (xs.take i) ++ xs[i].data.toList := by
  have e : xs.take (i + 1) = xs.take i ++ [xs[i]] := by rw [List.take_add_one, List.getElem?_eq_getElem h]; rfl
  unfold flat
  rw [e]
  simp only [List.map_append, List.flatten_append, List.map_cons, List.map_nil, List.flatten_cons, List.flatten_nil, List.append_nil]
theorem flat_split {xs : List ByteArray} {i : Nat} (h : i < xs.length) : (flat (xs.take i)).length + xs[i].size ≤ (flat xs).length := by
  have e : flat xs = flat (xs.take (i + 1)) ++ flat (xs.drop (i + 1)) := by
    unfold flat
    rw [← List.flatten_append, ← List.map_append, List.take_append_drop]
  have h1 : xs[i].data.toList.length = xs[i].size := Array.length_toList
  rw [e, flat_take h, List.length_append, List.length_append, h1]
  omega
/-- The texts of a list, from its i-th on. -/
def lstX {α : Type} (f : Nat → α → Tx) : Nat → List α → Tx
  | _, [] => some []
  | i, a :: r => catX (f i a) (lstX f (i + 1) r)
theorem lstX_drop {α : Type} (f : Nat → α → Tx) {l : List α} {i : Nat} (h : i < l.length) : lstX f i (l.drop i) = catX (f i l[i]) (lstX f (i + 1) (l.drop (i + 1))) := by
  rw [List.drop_eq_getElem_cons h]; rfl
theorem lstX_end {α : Type} (f : Nat → α → Tx) {l : List α} {i : Nat} (h : l.length ≤ i) : lstX f i (l.drop i) = some [] := by
  rw [List.drop_eq_nil_of_le h]; rfl
/-- So far x was written; the whole is still to come. -/
theorem lst_next {α : Type} {f : Nat → α → Tx} {l : List α} {i : Nat} {x y : List UInt8} {t : Tx} (h : i < l.length) (e : t = catX (some x) (lstX f i (l.drop i))) (q : f i l[i] = some y) : t = catX (some (x ++ y)) (lstX f (i + 1) (l.drop (i + 1))) := by
  rw [e, lstX_drop f h, q, ← catX_assoc, catX_some]
theorem lst_rsn {K : Prop} {α : Type} {f : Nat → α → Tx} {l : List α} {i : Nat} {lx x : List UInt8} {t : Tx} (h : i < l.length) (e : t = catX (some x) (lstX f i (l.drop i))) (r : Rsn K (lx ++ x) (f i l[i])) : Rsn K lx t := by
  rw [e, lstX_drop f h]
  exact (r.more _).lift rfl
theorem lst_done {α : Type} {f : Nat → α → Tx} {l : List α} {i : Nat} {x : List UInt8} {t : Tx} (h : l.length ≤ i) (e : t = catX (some x) (lstX f i (l.drop i))) : t = some x := by
  rw [e, lstX_end f h, catX_end]

def sepX (s : List UInt8) (i : Nat) : Tx := if 0 < i then some s else some []
def kindX (k : Int) : Tx := if k = 1 then some [98, 111, 111, 108] else if k = 2 then some [105, 110, 116] else none
def varX (i : Nat) (v : Ex) : Tx := catX (sepX [59, 32] i) (catX (some (v.op.data.toList ++ [58, 32])) (kindX v.n))
def nameX (i : Nat) (v : Ex) : Tx := catX (sepX [44, 32] i) (some v.op.data.toList)
def namesX (ns : List Ex) : Tx := match ns with
  | [v] => some v.op.data.toList
  | _ => catX (some [40]) (catX (lstX nameX 0 ns) (some [41]))
def lvOf (op : List UInt8) : Nat := match shapeL.find? fun t => t.1 == op with
  | some t => t.2.1
  | none => 8
def psOf (op : List UInt8) : List Nat := match shapeL.find? fun t => t.1 == op with
  | some t => t.2.2
  | none => []
def lvsOf (op : List UInt8) (l : List Ex) : List Nat := if op = [110, 101, 103] then (match l with
  | a :: _ => if a.op.toList = [110, 101, 103] then [8] else [7]
  | [] => []) else psOf op
def argX (i : Nat) (t : Tx) : Tx := catX (sepX [44, 32] i) t
/-- A term's text, of its parts'. -/
def bareX (op : ByteArray) (n : Int) (s : ByteArray) (ts : List Tx) : Tx :=
  if op.toList = [105, 110, 116] then some (Lib.itoa n)
  else if op.toList = [116, 114, 117, 101] then some op.data.toList
  else if op.toList = [102, 97, 108, 115, 101] then some op.data.toList
  else if op.toList = [110, 97, 109, 101] then some s.data.toList
  else if op.toList = [99, 97, 108, 108] then catX (some (s.data.toList ++ [40])) (catX (lstX argX 0 ts) (some [41]))
  else if op.toList = [105, 102] then catX (some [105, 102, 32]) (catX (ts.getD 0 none) (catX (some [32, 116, 104, 101, 110, 32]) (catX (ts.getD 1 none) (catX (some [32, 101, 108, 115, 101, 32]) (ts.getD 2 none)))))
  else if op.toList = [110, 101, 103] then catX (some [45]) (ts.getD 0 none)
  else if op.toList = [110, 111, 116] ∨ op.toList = [112, 114, 101] then catX (some (op.data.toList ++ [32])) (ts.getD 0 none)
  else catX (ts.getD 0 none) (catX (some (32 :: (op.data.toList ++ [32]))) (ts.getD 1 none))
def brkX (b : Bool) (t : Tx) : Tx := if b then catX (some [40]) (catX t (some [41])) else t
mutual
/-- The text of a term where terms of this level may stand. -/
def tw : Nat → Ex → Tx
  | L, .mk op n s l => if formedB op.toList n s.toList l.length then brkX (decide (lvOf op.toList < L)) (bareX op n s (twP (lvsOf op.toList l) l)) else none
def twP : List Nat → List Ex → List Tx
  | _, [] => []
  | ks, e :: es => tw (ks.headD 0) e :: twP ks.tail es
end
theorem tw_mk (L : Nat) (op : ByteArray) (n : Int) (s : ByteArray) (l : List Ex) : tw L (.mk op n s l) = if formedB op.toList n s.toList l.length then brkX (decide (lvOf op.toList < L)) (bareX op n s (twP (lvsOf op.toList l) l)) else none := by rw [tw]
theorem twP_get : ∀ (l : List Ex) (ks : List Nat) (i : Nat) (h : i < l.length), (twP ks l)[i]? = some (tw (ks.getD i 0) l[i])
  | [], _, _, h => by cases h
  | e :: es, ks, 0, _ => by rw [twP]; cases ks <;> rfl
  | e :: es, ks, i + 1, h => by
    rw [twP]
    have := twP_get es ks.tail i (by simpa using h)
    simp only [List.getElem?_cons_succ, List.getElem_cons_succ]
    rw [this]
    cases ks <;> simp
theorem twP_length : ∀ (l : List Ex) (ks : List Nat), (twP ks l).length = l.length
  | [], _ => by rw [twP]; rfl
  | e :: es, ks => by rw [twP, List.length_cons, List.length_cons, twP_length es]
theorem twP_getD {l : List Ex} {ks : List Nat} {i : Nat} (h : i < l.length) : (twP ks l).getD i none = tw (ks.getD i 0) l[i] := by
  rw [List.getD_eq_getElem?_getD, twP_get l ks i h]; rfl
theorem shape_lv {t : List UInt8 × Nat × List Nat} (h : t ∈ shapeL) : lvOf t.1 = t.2.1 ∧ psOf t.1 = t.2.2 := (by decide : ∀ t ∈ shapeL, lvOf t.1 = t.2.1 ∧ psOf t.1 = t.2.2) t h
theorem shape_call : lvOf tCallL = 8 ∧ psOf tCallL = [] := by decide
mutual
/-- How deep a term goes. -/
def dpt : Ex → Nat
  | .mk _ _ _ l => dptL l + 1
def dptL : List Ex → Nat
  | [] => 0
  | e :: es => max (dpt e) (dptL es)
end
theorem dpt_mk (op : ByteArray) (n : Int) (s : ByteArray) (l : List Ex) : dpt (.mk op n s l) = dptL l + 1 := by rw [dpt]
theorem dpt_part : ∀ (l : List Ex) (i : Nat) (h : i < l.length), dpt l[i] ≤ dptL l
  | [], _, h => by cases h
  | e :: es, 0, _ => by rw [dptL]; exact Nat.le_max_left _ _
  | e :: es, i + 1, h => by
    rw [dptL]
    have := dpt_part es i (by simpa using h)
    simp only [List.getElem_cons_succ]
    omega
/-- An equation: its kind, its names, its term. -/
def eqX (kind : ByteArray) (ns : List Ex) (e : Ex) : Tx :=
  catX (some [32, 32]) (catX (if kind.toList = [115, 101, 116] then catX (namesX ns) (some [32, 61, 32]) else if kind.toList = [97, 115, 115, 101, 114, 116] ∨ kind.toList = [99, 104, 101, 99, 107] then some (kind.data.toList ++ [32]) else none) (catX (tw 0 e) (some [59, 10])))
end Go.Proofs.YtglkpgcmlbhkpabGreatDoor

/-
  HOW LONG A TEXT IS, IN PLAIN MATHEMATICS: a term that goes deep has a long text. The texts of equations, nodes, programs.
-/
namespace Go.Proofs.YtglkpgcmlbhkpabGreatDoor

theorem brkX_some {b : Bool} {t : Tx} {x : List UInt8} (h : brkX b t = some x) : ∃ y, t = some y ∧ y.length ≤ x.length ∧ x = if b then 40 :: (y ++ [41]) else y := by
  unfold brkX at h
  split at h
  · rename_i hb
    obtain ⟨a, c, ha, hc, rfl⟩ := catX_eq h
    obtain ⟨y, z, hy, hz, rfl⟩ := catX_eq hc
    cases ha; cases hz
    exact ⟨y, hy, by simp only [List.length_append, List.length_cons, List.length_nil]; omega, by rw [if_pos hb]; rfl⟩
  · rename_i hb
    exact ⟨x, h, Nat.le_refl _, by rw [if_neg hb]⟩
theorem lstX_part : ∀ (ts : List Tx) (i : Nat) {z : List UInt8}, lstX argX i ts = some z → ∀ k (h : k < ts.length), ∃ x, ts[k] = some x ∧ x.length ≤ z.length
  | [], _, _, _, _, h => by cases h
  | t :: r, i, z, hz, k, hk => by
    obtain ⟨a, b, ha, hb, rfl⟩ := catX_eq hz
    obtain ⟨c, x, _, hx, rfl⟩ := catX_eq ha
    match k, hk with
    | 0, _ => exact ⟨x, hx, by simp only [List.length_append]; omega⟩
    | k + 1, hk =>
      obtain ⟨y, hy, hl⟩ := lstX_part r (i + 1) hb k (by simpa using hk)
      exact ⟨y, hy, by rw [List.length_append]; omega⟩
theorem getD_at {ts : List Tx} {i : Nat} (h : i < ts.length) : ts.getD i none = ts[i] := by
  rw [List.getD_eq_getElem?_getD, List.getElem?_eq_getElem h]; rfl
/-- A part's text is shorter than the whole's. -/
theorem bareX_part {op : ByteArray} {n : Int} {s : ByteArray} {ts : List Tx} {y : List UInt8} (hf : formedB op.toList n s.toList ts.length = true) (h : bareX op n s ts = some y) : ∀ k (hk : k < ts.length), ∃ x, ts[k] = some x ∧ x.length + 1 ≤ y.length := by
  intro k hk
  unfold bareX at h
  have hof := formedB_of hf
  have leaf : op.toList = [105, 110, 116] ∨ op.toList = [116, 114, 117, 101] ∨ op.toList = [102, 97, 108, 115, 101] ∨ op.toList = [110, 97, 109, 101] → ts.length = 0 := fun hc => by
    rcases hof with hof | ⟨t, ht, ho, hl⟩
    · exfalso; rw [hof] at hc; revert hc; decide
    · rw [ho] at hc; rw [← hl]; revert hc; exact (by decide : ∀ t ∈ shapeL, (t.1 = [105, 110, 116] ∨ t.1 = [116, 114, 117, 101] ∨ t.1 = [102, 97, 108, 115, 101] ∨ t.1 = [110, 97, 109, 101]) → t.2.2.length = 0) t ht
  have one : op.toList = [110, 101, 103] ∨ op.toList = [110, 111, 116] ∨ op.toList = [112, 114, 101] → ts.length = 1 := fun hc => by
    rcases hof with hof | ⟨t, ht, ho, hl⟩
    · exfalso; rw [hof] at hc; revert hc; decide
    · rw [ho] at hc; rw [← hl]; revert hc; exact (by decide : ∀ t ∈ shapeL, (t.1 = [110, 101, 103] ∨ t.1 = [110, 111, 116] ∨ t.1 = [112, 114, 101]) → t.2.2.length = 1) t ht
  have three : op.toList = [105, 102] → ts.length = 3 := fun hc => by
    rcases hof with hof | ⟨t, ht, ho, hl⟩
    · exfalso; rw [hof] at hc; revert hc; decide
    · rw [ho] at hc; rw [← hl]; revert hc; exact (by decide : ∀ t ∈ shapeL, t.1 = [105, 102] → t.2.2.length = 3) t ht
  have few : op.toList ≠ [99, 97, 108, 108] → op.toList ≠ [105, 102] → ts.length ≤ 2 := fun h1 h2 => by
    rcases hof with hof | ⟨t, ht, ho, hl⟩
    · exact absurd hof h1
    · rw [ho] at h2; rw [← hl]; exact (by decide : ∀ t ∈ shapeL, t.1 ≠ [105, 102] → t.2.2.length ≤ 2) t ht h2
  split at h
  · rename_i hc; have := leaf (Or.inl hc); omega
  split at h
  · rename_i hc; have := leaf (Or.inr (Or.inl hc)); omega
  split at h
  · rename_i hc; have := leaf (Or.inr (Or.inr (Or.inl hc))); omega
  split at h
  · rename_i hc; have := leaf (Or.inr (Or.inr (Or.inr hc))); omega
  split at h
  · obtain ⟨a, b, ha, hb, rfl⟩ := catX_eq h
    obtain ⟨z, c, hz, hc, rfl⟩ := catX_eq hb
    obtain ⟨x, hx, hl⟩ := lstX_part ts 0 hz k hk
    cases hc
    exact ⟨x, hx, by simp only [List.length_append, List.length_cons]; omega⟩
  rename_i hcall
  split at h
  · rename_i hc
    have h3 := three hc
    obtain ⟨a, b, ha, hb, rfl⟩ := catX_eq h
    obtain ⟨x0, c, hx0, hc', rfl⟩ := catX_eq hb
    obtain ⟨d, f, hd, hf', rfl⟩ := catX_eq hc'
    obtain ⟨x1, g, hx1, hg, rfl⟩ := catX_eq hf'
    obtain ⟨i, x2, hi, hx2, rfl⟩ := catX_eq hg
    cases ha; cases hd; cases hi
    rw [getD_at (by omega)] at hx0 hx1 hx2
    simp only [List.length_append, List.length_cons, List.length_nil]
    have : k = 0 ∨ k = 1 ∨ k = 2 := by omega
    rcases this with rfl | rfl | rfl
    · exact ⟨x0, hx0, by omega⟩
    · exact ⟨x1, hx1, by omega⟩
    · exact ⟨x2, hx2, by omega⟩
  rename_i hif
  split at h
  · rename_i hc
    have h1 := one (Or.inl hc)
    obtain ⟨a, x0, ha, hx0, rfl⟩ := catX_eq h
    cases ha
    rw [getD_at (by omega)] at hx0
    obtain rfl : k = 0 := by omega
    exact ⟨x0, hx0, by simp only [List.length_append, List.length_cons, List.length_nil]; omega⟩
  split at h
  · rename_i hc
    have h1 := one (Or.inr hc)
    obtain ⟨a, x0, ha, hx0, rfl⟩ := catX_eq h
    cases ha
    rw [getD_at (by omega)] at hx0
    obtain rfl : k = 0 := by omega
    exact ⟨x0, hx0, by simp only [List.length_append, List.length_cons, List.length_nil]; omega⟩
  · have h2 := few hcall hif
    obtain ⟨x0, a, hx0, ha, rfl⟩ := catX_eq h
    obtain ⟨c, x1, hc, hx1, rfl⟩ := catX_eq ha
    cases hc
    simp only [List.length_append, List.length_cons, List.length_nil]
    have : k = 0 ∨ k = 1 := by omega
    rcases this with rfl | rfl
    · rw [getD_at (by omega)] at hx0
      exact ⟨x0, hx0, by omega⟩
    · rw [getD_at (by omega)] at hx1
      exact ⟨x1, hx1, by omega⟩
theorem dptL_le : ∀ (l : List Ex) (m : Nat), (∀ k (h : k < l.length), dpt l[k] ≤ m) → dptL l ≤ m
  | [], m, _ => by rw [dptL]; omega
  | e :: es, m, h => by
    rw [dptL]
    have h0 : dpt e ≤ m := h 0 (by simp)
    have h1 := dptL_le es m fun k hk => h (k + 1) (by simpa using hk)
    omega
/-- A term that goes deep has a long text. -/
theorem deep_long : ∀ (m : Nat) (op : ByteArray) (n : Int) (s : ByteArray) (l : List Ex), SizeOf.sizeOf l < m → ∀ (L : Nat) (x : List UInt8), tw L (.mk op n s l) = some x → dpt (.mk op n s l) ≤ x.length + 1
  | 0, _, _, _, _, h, _, _, _ => absurd h (by omega)
  | m + 1, op, n, s, l, hm, L, x, hx => by
    rw [tw_mk] at hx
    split at hx
    · rename_i hf
      obtain ⟨y, hy, hl, _⟩ := brkX_some hx
      have hp := bareX_part (by rw [twP_length]; exact hf) hy
      rw [dpt_mk]
      have : dptL l ≤ y.length := dptL_le l _ fun k hk => by
        obtain ⟨z, hz, hzl⟩ := hp k (by rw [twP_length]; exact hk)
        have hg := twP_get l (lvsOf op.toList l) k hk
        rw [List.getElem?_eq_getElem (by rw [twP_length]; exact hk)] at hg
        rw [Option.some.inj hg] at hz
        obtain ⟨op', n', s', es, he⟩ : ∃ op n s es, l[k] = .mk op n s es := ⟨l[k].op, l[k].n, l[k].s, l[k].l, by cases l[k]; rfl⟩
        have hsz := size_part hk he
        rw [he] at hz ⊢
        have := deep_long m op' n' s' es (by omega) _ z hz
        omega
      omega
    · cases hx
theorem Rsn.deep {K : Prop} {op : ByteArray} {n : Int} {s : ByteArray} {l : List Ex} {lb : List UInt8} (h : Rsn (6000 < 0 + dpt (.mk op n s l)) lb (tw 0 (.mk op n s l))) (hb : 1 ≤ lb.length) : Rsn K lb (tw 0 (.mk op n s l)) := Or.inr fun x hx => by
  rcases h with h | h
  · have := deep_long (SizeOf.sizeOf l + 1) op n s l (by omega) 0 x hx
    rw [List.length_append]
    omega
  · exact h x hx

def eqTx : Ex → Tx
  | .mk kind _ _ (a :: e :: _) => eqX kind a.l e
  | _ => none
def ownX (owns : List Ex) (t : Tx) : Tx := if owns.length = 0 then t else catX (some [118, 97, 114, 32]) (catX (lstX varX 0 owns) (catX (some [59, 10]) t))
def nodeX (name : ByteArray) (ins outs owns qs : List Ex) : Tx :=
  catX (some ([110, 111, 100, 101, 32] ++ (name.data.toList ++ [40]))) (catX (lstX varX 0 ins) (catX (some [41, 32, 114, 101, 116, 117, 114, 110, 115, 32, 40]) (catX (lstX varX 0 outs) (catX (some [41, 59, 10]) (ownX owns (catX (some [108, 101, 116, 10]) (catX (lstX (fun _ q => eqTx q) 0 qs) (some [116, 101, 108, 10]))))))))
def nodeTx : Ex → Tx
  | .mk name _ _ [a, b, c, d] => nodeX name a.l b.l c.l d.l
  | _ => none
/-- The text of a program. -/
def progX (es : List Ex) : Tx := lstX (fun _ n => nodeTx n) 0 es
end Go.Proofs.YtglkpgcmlbhkpabGreatDoor
