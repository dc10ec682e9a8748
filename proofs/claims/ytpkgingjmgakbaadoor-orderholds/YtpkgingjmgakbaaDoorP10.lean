/-
  TERMS, VARIABLES, NAMES IN MEMORY: which cells hold them.
-/
import Derived.Test.YtpkgingjmgakbaaDoorP04
import Derived.Below
import Derived.Laws.AppendOwn
import Derived.Laws.Rows
import Derived.OwnWalk
import Derived.Deep.AppendLies
import Derived.Test.YtpkgingjmgakbaaDoorP09
import Derived.Laws.EntriesVeiled
import Derived.Deep.DeepCutAuto
namespace Go.Proofs.YtpkgingjmgakbaaDoor
open Go.RowKit
/-- n elements of so many cells each lie behind v, in blocks of such numbers: these cells. -/
def RowAt (w : World) (S : Nat → Prop) (size : Nat) (v : Value) (n : Nat) (xs : List Value) : Prop :=
  xs.length = n * size ∧ n ≤ maxLen ∧ ∃ o c, v = .slice o n c ∧ (∀ k x, xs[k]? = some x → ∃ b off, o = some ⟨b, off, none⟩ ∧ S b ∧ w.cell? ⟨b, off + k, none⟩ = some x) ∧ n ≤ c
/-- Blocks from there on. -/
def From (base : Nat) : Nat → Prop := fun b => base ≤ b
/-- What lies in such blocks stays. -/
def Stays (S S' : Nat → Prop) (w w' : World) : Prop := ∀ b, S b → b < w.heap.size → S' b ∧ w'.heap[b]? = w.heap[b]?
theorem blk_of_cell {w : World} {p : Addr} {v : Value} (hc : w.cell? p = some v) : p.block < w.heap.size := by
  rcases Nat.lt_or_ge p.block w.heap.size with h | h
  · exact h
  · simp [World.cell?, Array.getElem?_eq_none h] at hc
theorem RowAt.keep {w w' : World} {S S' : Nat → Prop} {size n : Nat} {v : Value} {xs : List Value} (h : RowAt w S size v n xs) (hs : Stays S S' w w') : RowAt w' S' size v n xs := by
  obtain ⟨h1, h2, o, c, rfl, h3, h4⟩ := h
  refine ⟨h1, h2, o, c, rfl, fun k x hx => ?_, h4⟩
  obtain ⟨b, off, rfl, hb, hc⟩ := h3 k x hx
  have hs' := hs b hb (blk_of_cell hc)
  exact ⟨b, off, rfl, hs'.1, by rw [World.cell?_of_block (w := w) hs'.2]; exact hc⟩
theorem RowAt.of_owns {w : World} {base size n : Nat} {e : TypeId} {v : Value} {xs : List Value} (h : w.ownsRow base e size v n xs) : RowAt w (From base) size v n xs := by
  obtain ⟨h1, h2⟩ := h
  rcases h2 with ⟨rfl, rfl⟩ | ⟨g, cap, cur, rfl, hg, hh, hc1, hc2, hc3, hc4⟩
  · have : xs = [] := List.eq_nil_of_length_eq_zero (by omega)
    subst this
    exact ⟨by simp, by unfold maxLen; omega, none, 0, rfl, fun k x hx => by simp at hx, Nat.le_refl _⟩
  · refine ⟨h1, by omega, _, cap, rfl, fun k x hx => ⟨g, 0, rfl, hg, ?_⟩, hc1⟩
    rw [Nat.zero_add, cell_of_row w g k cur e (0, 0) hh]
    rw [← hc4, List.getElem?_take] at hx
    split at hx
    · simpa using hx
    · cases hx
theorem RowAt.at {w : World} {S : Nat → Prop} {size n : Nat} {v : Value} {xs : List Value} (h : RowAt w S size v n xs) (hp : 0 < xs.length) : ∃ b off c, v = .slice (some ⟨b, off, none⟩) n c ∧ S b ∧ b < w.heap.size ∧ ∀ k x, xs[k]? = some x → w.cell? ⟨b, off + k, none⟩ = some x := by
  obtain ⟨h1, h2, o, c, rfl, h3, _⟩ := h
  obtain ⟨b, off, rfl, hb, hc⟩ := h3 0 xs[0] (List.getElem?_eq_getElem hp)
  refine ⟨b, off, c, rfl, hb, blk_of_cell hc, fun k x hx => ?_⟩
  obtain ⟨b', off', e, _, hc'⟩ := h3 k x hx
  injection e with e; injection e with e1 e2; subst e1 e2
  exact hc'

/-- Terms in memory, their cells one behind the other. -/
inductive ExIn (w : World) (S : Nat → Prop) : List Ex → List Value → Prop
  | nil : ExIn w S [] []
  | cons (op : ByteArray) (n : Int) (s : ByteArray) (l es : List Ex) (lv : Value) (xs ys : List Value) : RowAt w S 4 lv l.length xs → ExIn w S l xs → ExIn w S es ys → ExIn w S (.mk op n s l :: es) (.string op :: .int .i64 n :: .string s :: lv :: ys)
theorem ExIn.keep {w w' : World} {S S' : Nat → Prop} {es : List Ex} {xs : List Value} (h : ExIn w S es xs) (hs : Stays S S' w w') : ExIn w' S' es xs := by
  induction h with
  | nil => exact .nil
  | cons op n s l es lv xs ys h1 _ _ ih1 ih2 => exact .cons op n s l es lv xs ys (h1.keep hs) ih1 ih2
theorem ExIn.length {w : World} {S : Nat → Prop} {es : List Ex} {xs : List Value} (h : ExIn w S es xs) : xs.length = es.length * 4 := by
  induction h with
  | nil => rfl
  | cons op n s l es lv xs ys h1 _ _ _ ih2 => simp only [List.length_cons, ih2]; omega
theorem ExIn.append {w : World} {S : Nat → Prop} {es fs : List Ex} {xs ys : List Value} (h : ExIn w S es xs) (g : ExIn w S fs ys) : ExIn w S (es ++ fs) (xs ++ ys) := by
  induction h with
  | nil => exact g
  | cons op n s l es lv xs ys h1 h2 _ _ ih2 => exact .cons op n s l _ lv xs _ h1 h2 ih2
theorem ExIn.one {w : World} {S : Nat → Prop} {e : Ex} {xs : List Value} (h : ExIn w S [e] xs) : ∃ op n s l lv ys, e = .mk op n s l ∧ xs = [.string op, .int .i64 n, .string s, lv] ∧ RowAt w S 4 lv l.length ys ∧ ExIn w S l ys := by
  cases h with
  | cons op n s l es lv xs ys h1 h2 h3 =>
    cases h3
    exact ⟨op, n, s, l, lv, xs, rfl, rfl, h1, h2⟩
theorem ExIn.one' {w : World} {S : Nat → Prop} {e : Ex} {xs : List Value} (h : ExIn w S [e] xs) : ∃ op n s l o c ys, e = .mk op n s l ∧ xs = [.string op, .int .i64 n, .string s, .slice o l.length c] ∧ RowAt w S 4 (.slice o l.length c) l.length ys ∧ ExIn w S l ys := by
  obtain ⟨op, n, s, l, lv, ys, rfl, rfl, h1, h2⟩ := h.one
  obtain ⟨a1, a2, o, c, rfl, a3⟩ := h1
  exact ⟨op, n, s, l, o, c, ys, rfl, rfl, ⟨a1, a2, o, c, rfl, a3⟩, h2⟩
/-- A term in memory by its value. -/
def ExV (w : World) (S : Nat → Prop) (e : Ex) (v : Value) : Prop := ∃ xs, v = .agg xs ∧ ExIn w S [e] xs.toList
theorem ExV.keep {w w' : World} {S S' : Nat → Prop} {e : Ex} {v : Value} (h : ExV w S e v) (hs : Stays S S' w w') : ExV w' S' e v := by
  obtain ⟨xs, rfl, h⟩ := h
  exact ⟨xs, rfl, h.keep hs⟩
theorem ExV.one {w : World} {S : Nat → Prop} {e : Ex} {v : Value} (h : ExV w S e v) : ∃ op n s l o c ys, e = .mk op n s l ∧ v = .agg #[.string op, .int .i64 n, .string s, .slice o l.length c] ∧ RowAt w S 4 (.slice o l.length c) l.length ys ∧ ExIn w S l ys := by
  obtain ⟨xs, rfl, h⟩ := h
  obtain ⟨op, n, s, l, o, c, ys, rfl, hx, h1, h2⟩ := h.one'
  refine ⟨op, n, s, l, o, c, ys, rfl, ?_, h1, h2⟩
  congr 1
  apply Array.ext'
  rw [hx]
theorem ExV.mk {w : World} {S : Nat → Prop} {op : ByteArray} {n : Int} {s : ByteArray} {l : List Ex} {lv : Value} {ys : List Value} (h1 : RowAt w S 4 lv l.length ys) (h2 : ExIn w S l ys) : ExV w S (.mk op n s l) (.agg #[.string op, .int .i64 n, .string s, lv]) :=
  ⟨_, rfl, .cons op n s l [] lv ys [] h1 h2 .nil⟩
theorem ExV.leaf {w : World} {S : Nat → Prop} {op : ByteArray} {n : Int} {s : ByteArray} : ExV w S (.mk op n s []) (.agg #[.string op, .int .i64 n, .string s, .slice none 0 0]) :=
  .mk (ys := []) ⟨rfl, by unfold maxLen; simp, none, 0, rfl, fun k x hx => by simp at hx, Nat.le_refl _⟩ .nil

def varCells (l : List Ex) : List Value := l.flatMap fun e => [.string e.op, .int .i64 e.n]
def nameCells (l : List Ex) : List Value := l.map fun e => .string e.op
theorem RowAt.form {w : World} {S : Nat → Prop} {size n : Nat} {v : Value} {xs : List Value} (h : RowAt w S size v n xs) : ∃ o c, v = .slice o n c := by
  obtain ⟨_, _, o, c, h, _⟩ := h; exact ⟨o, c, h⟩

theorem row_get {w : World} {S : Nat → Prop} {size n m : Nat} {o : Option Addr} {c : Nat} {xs : List Value} (h : RowAt w S size (.slice o m c) n xs) (hn : 0 < xs.length) : ∃ b off, o = some ⟨b, off, none⟩ ∧ b < w.heap.size ∧ ∀ k x, xs[k]? = some x → w.cell? ⟨b, off + k, none⟩ = some x := by
  obtain ⟨b, off, c', e, hb, hl, hc⟩ := h.at hn
  injection e with e
  exact ⟨b, off, e, hl, hc⟩
theorem RowAt.cap {w : World} {S : Nat → Prop} {size n c : Nat} {o : Option Addr} {xs : List Value} (h : RowAt w S size (.slice o n c) n xs) : n ≤ c := by
  obtain ⟨_, _, o', c', e, _, h4⟩ := h
  injection e with e1 e2 e3
  omega
theorem RowAt.len {w : World} {S : Nat → Prop} {size n : Nat} {v : Value} {xs : List Value} (h : RowAt w S size v n xs) : n ≤ maxLen := h.2.1
theorem nameCells_at {ns : List Ex} {i : Nat} (hi : i < ns.length) : (nameCells ns)[i]? = some (.string ns[i].op) := by
  simp [nameCells, hi]
theorem varCells_at : ∀ {vs : List Ex} {i : Nat} (hi : i < vs.length), (varCells vs)[i * 2]? = some (.string vs[i].op) ∧ (varCells vs)[i * 2 + 1]? = some (.int .i64 vs[i].n)
  | [], i, hi => by simp at hi
  | v :: vs, 0, _ => ⟨rfl, rfl⟩
  | v :: vs, i + 1, hi => by
    have := varCells_at (vs := vs) (i := i) (by simpa using hi)
    have e : varCells (v :: vs) = .string v.op :: .int .i64 v.n :: varCells vs := rfl
    rw [e, show (i + 1) * 2 = i * 2 + 1 + 1 from by omega, List.getElem?_cons_succ, List.getElem?_cons_succ, List.getElem?_cons_succ, List.getElem?_cons_succ]
    exact this
theorem varCells_length : ∀ (vs : List Ex), (varCells vs).length = vs.length * 2
  | [] => rfl
  | v :: vs => by have := varCells_length vs; simp only [varCells, List.flatMap_cons, List.length_append, List.length_cons, List.length_nil] at this ⊢; omega
theorem nameCells_length (ns : List Ex) : (nameCells ns).length = ns.length := by simp [nameCells]
theorem ExIn.at {w : World} {S : Nat → Prop} {l : List Ex} {xs : List Value} (h : ExIn w S l xs) : ∀ {i : Nat} (hi : i < l.length), ∃ op n s es o c ys, l[i] = .mk op n s es ∧ xs[i * 4]? = some (.string op) ∧ xs[i * 4 + 1]? = some (.int .i64 n) ∧ xs[i * 4 + 2]? = some (.string s) ∧ xs[i * 4 + 3]? = some (.slice o es.length c) ∧ RowAt w S 4 (.slice o es.length c) es.length ys ∧ ExIn w S es ys := by
  induction h with
  | nil => intro i hi; simp at hi
  | cons op n s l es lv xs ys h1 h2 h3 _ ih =>
    intro i hi
    cases i with
    | zero =>
      obtain ⟨o, c, rfl⟩ := h1.form
      exact ⟨op, n, s, l, o, c, xs, rfl, rfl, rfl, rfl, rfl, h1, h2⟩
    | succ i =>
      obtain ⟨op', n', s', l', o, c, zs, e, a0, a1, a2, a3, a4, a5⟩ := ih (i := i) (by simpa using hi)
      refine ⟨op', n', s', l', o, c, zs, by simpa using e, ?_, ?_, ?_, ?_, a4, a5⟩
      · rw [show (i + 1) * 4 = i * 4 + 1 + 1 + 1 + 1 from by omega]; simpa using a0
      · rw [show (i + 1) * 4 + 1 = i * 4 + 1 + 1 + 1 + 1 + 1 from by omega]; simpa using a1
      · rw [show (i + 1) * 4 + 2 = i * 4 + 2 + 1 + 1 + 1 + 1 from by omega]; simpa using a2
      · rw [show (i + 1) * 4 + 3 = i * 4 + 3 + 1 + 1 + 1 + 1 from by omega]; simpa using a3
theorem size_part {l : List Ex} {i : Nat} (hi : i < l.length) {op : ByteArray} {n : Int} {s : ByteArray} {es : List Ex} (e : l[i] = .mk op n s es) : SizeOf.sizeOf es < SizeOf.sizeOf l := by
  have h := List.sizeOf_lt_of_mem (List.getElem_mem hi)
  rw [e] at h
  simp only [Ex.mk.sizeOf_spec] at h
  omega
theorem blk4 {w : World} {b : Nat} {x y z u : Value} {t : TypeId} (h : w.heap[b]? = some (.cells #[x, y, z, u] t (0, 0))) : w.cell? ⟨b, 0, none⟩ = some x ∧ w.cell? ⟨b, 1, none⟩ = some y ∧ w.cell? ⟨b, 2, none⟩ = some z ∧ w.cell? ⟨b, 3, none⟩ = some u ∧ ∀ k, w.frozen? ⟨b, k, none⟩ = false :=
  ⟨by simp [World.cell?, h], by simp [World.cell?, h], by simp [World.cell?, h], by simp [World.cell?, h], fun k => by simp [World.frozen?, h]⟩
abbrev teObj (op : ByteArray) (n : Int) (s : ByteArray) (v : Value) : Obj := .cells #[.string op, .int .i64 n, .string s, v] 32
theorem two_new (w : World) (o1 o2 : Obj) : ((w.alloc o1).alloc o2).heap[w.heap.size + 1]? = some o2 := by
  have := heap_alloc_new (w.alloc o1) o2
  rw [World.size_alloc] at this; exact this

theorem Tryd.infoVar : (Tryd.prog.info? 86).map (fun i => (i.zero, i.size, i.bytes)) = some (some (.agg #[.string ⟨#[]⟩, .int .i64 0]), 2, 24) := by kernel_rfl
end Go.Proofs.YtpkgingjmgakbaaDoor

/-
  package types: Result BY CONTRACT: the type of what an operator makes of parts of such types, or an error.
-/
namespace Go.Proofs.YtpkgingjmgakbaaDoor
open Go.RowKit Go.Maps

/-- No type of the language. -/
def noKind (k : Int) : Bool := k != 1 && k != 2
end Go.Proofs.YtpkgingjmgakbaaDoor

/-
  package types: caught, Result BY CONTRACT.
-/
namespace Go.Proofs.YtpkgingjmgakbaaDoor
open Go.RowKit Go.Maps

theorem cell_blk {w : World} {p : Addr} {v : Value} (hc : w.cell? p = some v) : p.block < w.heap.size := by
  rcases Nat.lt_or_ge p.block w.heap.size with h | h
  · exact h
  · simp [World.cell?, Array.getElem?_eq_none h] at hc
end Go.Proofs.YtpkgingjmgakbaaDoor

/-
  package types: Result BY CONTRACT.
-/
namespace Go.Proofs.YtpkgingjmgakbaaDoor
open Go.RowKit Go.Maps

/-- The type of what an operator makes of parts of such types. -/
def resK (op : List UInt8) (ps : List Int) : Option Int :=
  match signRow op with
  | none => none
  | some (tk, gv) => if ps.length = tk.length then (if ps.any noKind = true then none else (fitK tk ps 0).map fun f => (giveK gv f).headD 0) else none
theorem zero_sign (w : World) : (zeroValue 143).run Tryd.prog w = .ok (.agg #[.slice none 0 0, .slice none 0 0]) w := by kernel_rfl
end Go.Proofs.YtpkgingjmgakbaaDoor
