/-
  A GRAPH IN MEMORY: which blocks hold it, which gates it has; how memory moves where a graph, or a model of one, is worked on.
-/
import Derived.Test.YtpkgingjmgakbaaDoorP06
import Derived.Deep.AppendLies
import Derived.Below
import Derived.WalkKit
import Derived.Deep.QuietTactic
import Derived.BigQuiet
import Derived.WalkSmall
import Derived.LoopTactic
import Derived.Deep.RegionLaw
import Derived.Test.YtpkgingjmgakbaaDoorP03
import Derived.Test.YtpkgingjmgakbaaDoorP04
import Derived.OwnWalk
namespace Go.Proofs.YtpkgingjmgakbaaDoor
open Go.RowKit Go.Maps

/-- THE WORLD HAS MOVED: of the old blocks those of F alone have turned; F' is F and new blocks. -/
structure Mvd (F F' : Nat → Prop) (w w' : World) : Prop where
  os : w'.os = w.os
  tape : w'.tape = w.tape
  output : w'.output = w.output
  size : w.heap.size ≤ w'.heap.size
  block : ∀ k, k < w.heap.size → ¬ F k → w'.heap[k]? = w.heap[k]?
  more : ∀ k, F' k → F k ∨ (w.heap.size ≤ k ∧ k < w'.heap.size)
theorem Mvd.refl (F : Nat → Prop) (w : World) : Mvd F F w w := ⟨rfl, rfl, rfl, Nat.le_refl _, fun _ _ _ => rfl, fun _ h => .inl h⟩
theorem Mvd.trans {F F' F'' : Nat → Prop} {a b c : World} (h : Mvd F F' a b) (k : Mvd F' F'' b c) : Mvd F F'' a c := by
  refine ⟨k.os.trans h.os, k.tape.trans h.tape, k.output.trans h.output, Nat.le_trans h.size k.size, fun i hi hn => ?_, fun i hi => ?_⟩
  · refine (k.block i (Nat.lt_of_lt_of_le hi h.size) (fun hf => ?_)).trans (h.block i hi hn)
    rcases h.more i hf with h1 | h1
    · exact hn h1
    · omega
  · rcases k.more i hi with h1 | h1
    · rcases h.more i h1 with h2 | h2
      · exact .inl h2
      · exact .inr ⟨h2.1, Nat.lt_of_lt_of_le h2.2 k.size⟩
    · exact .inr ⟨Nat.le_trans h.size h1.1, h1.2⟩
theorem Mvd.of_below {F : Nat → Prop} {w w' : World} (h : Below w.heap.size w w') : Mvd F F w w' := ⟨h.os, h.tape, h.output, h.size, fun k hk _ => h.block k hk, fun _ h => .inl h⟩
theorem Mvd.below {F F' : Nat → Prop} {W w w' : World} (h : Mvd F F' w w') {B : Nat} (hb : Below B W w) (hB : B ≤ w.heap.size) (hF : ∀ k, F k → B ≤ k) : Below B W w' :=
  hb.trans ⟨h.os, h.tape, h.output, h.size, fun k hk => h.block k (by omega) (fun hf => by have := hF k hf; omega)⟩
/-- F and the new blocks. -/
def With (F : Nat → Prop) (w w' : World) : Nat → Prop := fun k => F k ∨ (w.heap.size ≤ k ∧ k < w'.heap.size)

/-- The cells of such pairs. -/
def pcells (gs : List (Int × Int)) : List Value := gs.flatMap fun p => [.int .i64 p.1, .int .i64 p.2]
theorem pcells_length (gs : List (Int × Int)) : (pcells gs).length = gs.length * 2 := by
  induction gs with
  | nil => rfl
  | cons p r ih => simp only [pcells, List.flatMap_cons] at ih ⊢; simp [ih]; omega
theorem pcells_app (gs : List (Int × Int)) (p : Int × Int) : pcells (gs ++ [p]) = pcells gs ++ [.int .i64 p.1, .int .i64 p.2] := by simp [pcells]
theorem pcells_at : ∀ (gs : List (Int × Int)) (i : Nat) (p : Int × Int), gs[i]? = some p → (pcells gs)[2 * i]? = some (.int .i64 p.1) ∧ (pcells gs)[2 * i + 1]? = some (.int .i64 p.2)
  | [], i, p, h => by simp at h
  | q :: r, 0, p, h => by simp at h; subst h; simp [pcells]
  | q :: r, i + 1, p, h => by
    have ih := pcells_at r i p (by simpa using h)
    have e : pcells (q :: r) = .int .i64 q.1 :: .int .i64 q.2 :: pcells r := by simp [pcells]
    rw [e, show 2 * (i + 1) = 2 * i + 1 + 1 by omega, show 2 * i + 1 + 1 + 1 = (2 * i + 1) + 1 + 1 by omega]
    simpa using ih
theorem owns_keep {w w' : World} {base size n : Nat} {e : TypeId} {v : Value} {xs : List Value} (h : w.ownsRow base e size v n xs) (hk : ∀ k, v.ownBlock = some k → w'.heap[k]? = w.heap[k]?) : w'.ownsRow base e size v n xs := by
  obtain ⟨h1, h2⟩ := h
  refine ⟨h1, ?_⟩
  rcases h2 with h2 | ⟨g, cap, cur, rfl, hb, hg, r⟩
  · exact .inl h2
  · exact .inr ⟨g, cap, cur, rfl, hb, by rw [hk g rfl]; exact hg, r⟩
theorem map_keep {w w' : World} {k : TypeId} {R : Value → Option (DataW Unit × List MemPlace)} {b n : Nat} {D : DataW Unit} (h : w.ownsMap Tryd.prog k R b n D) (hk : w'.heap[b]? = w.heap[b]?) : w'.ownsMap Tryd.prog k R b n D := by
  obtain ⟨es, clock, hb, r⟩ := h
  exact ⟨es, clock, by rw [hk]; exact hb, r⟩
theorem Mvd.apart {E F F' : Nat → Prop} {w w' : World} (hm : Mvd F F' w w') (hE : ∀ k, E k → k < w.heap.size) (hd : ∀ k, E k → ¬ F k) : ∀ k, E k → ¬ F' k := fun k hk hf => by
  rcases hm.more k hf with h | h
  · exact hd k hk h
  · have := hE k hk; omega
theorem frozen_row {w : World} {G i : Nat} {cs : Array Value} {t : TypeId} (h : w.heap[G]? = some (.cells cs t (0, 0))) : w.frozen? ⟨G, i, none⟩ = false := by simp [World.frozen?, h]
theorem heap_setCell_at {w : World} {G i : Nat} {cs : Array Value} {t : TypeId} {fr : Nat × Nat} (h : w.heap[G]? = some (.cells cs t fr)) (u : Value) : (w.setCell ⟨G, i, none⟩ u).heap[G]? = some (.cells (cs.setIfInBounds i u) t fr) := by
  simp only [World.setCell, Array.getElem?_modify, if_true, h, Option.map_some]
  rfl
/-- What a slice of gates looks like. -/
theorem owns_form {w : World} {base size n : Nat} {e : TypeId} {v : Value} {xs : List Value} (h : w.ownsRow base e size v n xs) : ∃ o c, v = .slice o n c ∧ n ≤ maxLen := by
  obtain ⟨_, h2⟩ := h
  rcases h2 with ⟨rfl, rfl⟩ | ⟨g, cap, cur, rfl, _, _, h1, h2, _⟩
  · exact ⟨_, _, rfl, by unfold maxLen; omega⟩
  · exact ⟨_, _, rfl, by omega⟩
theorem Mvd.rowKept {F F' : Nat → Prop} {w w' : World} (h : Mvd F F' w w') {k : Nat} {o : Obj} (hk : w.heap[k]? = some o) (hn : ¬ F k) : w'.heap[k]? = some o ∧ ¬ F' k := by
  have hl := (Array.getElem?_eq_some_iff.1 hk).1
  refine ⟨by rw [h.block k hl hn]; exact hk, fun hf => ?_⟩
  rcases h.more k hf with h1 | h1
  · exact hn h1
  · omega
theorem Mvd.cell {F F' : Nat → Prop} {w w' : World} (h : Mvd F F' w w') {p : Addr} {v : Value} (hc : w.cell? p = some v) (hn : ¬ F p.block) : w'.cell? p = some v ∧ ¬ F' p.block := by
  have hl : p.block < w.heap.size := by
    rcases Nat.lt_or_ge p.block w.heap.size with h | h
    · exact h
    · simp [World.cell?, Array.getElem?_eq_none h] at hc
  have e : w'.cell? p = w.cell? p := by simp only [World.cell?, h.block _ hl hn]
  refine ⟨by rw [e]; exact hc, fun hf => ?_⟩
  rcases h.more _ hf with h1 | h1
  · exact hn h1
  · omega
theorem size_setCell (w : World) (a : Addr) (u : Value) : (w.setCell a u).heap.size = w.heap.size := by simp [World.setCell]
theorem Mvd.alloc {F F' : Nat → Prop} {w w' : World} (h : Mvd F F' w w') (o : Obj) : Mvd F F' w (w'.alloc o) :=
  h.trans (Mvd.of_below ((Below.refl _ _).alloc (Nat.le_refl _) _))
theorem Mvd.set {F F' : Nat → Prop} {w w' : World} (h : Mvd F F' w w') {V i : Nat} (hV : w.heap.size ≤ V) (u : Value) : Mvd F F' w (w'.setCell ⟨V, i, none⟩ u) :=
  ⟨h.os, h.tape, h.output, by rw [size_setCell]; exact h.size, fun k hk hn => by rw [Below.heap_setCell _ _ _ _ (fun e => by have : k = V := e; omega)]; exact h.block k hk hn, fun k hk => by rw [size_setCell]; exact h.more k hk⟩
theorem owns_move {w w' : World} {F F' : Nat → Prop} {base size n : Nat} {e : TypeId} {v : Value} {xs : List Value} (h : w.ownsRow base e size v n xs) (hm : Mvd F F' w w') (hn : ∀ k, v.ownBlock = some k → ¬ F k) : w'.ownsRow base e size v n xs ∧ ∀ k, v.ownBlock = some k → ¬ F' k := by
  have hlt : ∀ k, v.ownBlock = some k → k < w.heap.size := fun k hk => by
    obtain ⟨_, h2⟩ := h
    rcases h2 with ⟨rfl, _⟩ | ⟨g, cap, cur, rfl, _, hg, _⟩
    · simp [Value.ownBlock] at hk
    · simp [Value.ownBlock] at hk; subst hk; exact (Array.getElem?_eq_some_iff.1 hg).1
  refine ⟨owns_keep h (fun k hk => hm.block k (hlt k hk) (hn k hk)), fun k hk hf => ?_⟩
  rcases hm.more k hf with h1 | h1
  · exact hn k hk h1
  · have := hlt k hk; omega
end Go.Proofs.YtpkgingjmgakbaaDoor

/-
  package graph: Gates, Inputs, Not, BY CONTRACT.
-/
namespace Go.Proofs.YtpkgingjmgakbaaDoor
open Go.RowKit Go.Maps
theorem xor_one (n : Nat) : n ^^^ 1 = if n % 2 = 0 then n + 1 else n - 1 := by
  have h1 : (n ^^^ 1) / 2 = n / 2 := by rw [Nat.xor_div_two]; simp
  have h2 : (n ^^^ 1) % 2 = (n % 2 + 1) % 2 := by have := Nat.xor_mod_two_eq_one (a := n) (b := 1); omega
  split <;> omega
theorem bits_turn {a : Int} (ha : I64 a) : bits .xor .i64 a 1 = turnL a := by
  unfold I64 at ha
  have h1 : ((BitVec.ofInt 64 a).toNat : Int) = a % 18446744073709551616 := by simp [BitVec.toNat_ofInt]; omega
  show IntKind.i64.wrap ((BitVec.ofInt 64 a ^^^ BitVec.ofInt 64 1).toNat : Int) = _
  have h2 : (BitVec.ofInt 64 (1 : Int)).toNat = 1 := by decide
  rw [BitVec.toNat_xor, h2, xor_one, IntKind.wrap_i64]
  unfold turnL
  split <;> split <;> omega
/-- Numbers one behind the other. -/
def IntsAt (w : World) (v : Value) (l : List Int) : Prop := l.length ≤ maxLen ∧ ∃ o c, v = .slice o l.length c ∧ ∀ k x, l[k]? = some x → ∃ b off, o = some ⟨b, off, none⟩ ∧ w.cell? ⟨b, off + k, none⟩ = some (.int .i64 x)
end Go.Proofs.YtpkgingjmgakbaaDoor

/-
  package graph: add BY ITS CONTRACT (where there is room: fewer gates than may be).
-/
namespace Go.Proofs.YtpkgingjmgakbaaDoor
open Go.RowKit Go.Maps
theorem heap_grown {w w' : World} {row : Option Nat} (hg : w.grownBy w' row) {b : Nat} {o : Obj} (hne : row ≠ some b) (h : w.heap[b]? = some o) : w'.heap[b]? = some o := by
  rw [hg.block b (Array.getElem?_eq_some_iff.1 h).1 (fun e => hne e.symm)]; exact h
theorem alloc_row {w : World} (o : Obj) {k : Nat} {x : Obj} (h : w.heap[k]? = some x) : (w.alloc o).heap[k]? = some x := by
  rw [Below.heap_alloc w o k (Array.getElem?_eq_some_iff.1 h).1]; exact h

end Go.Proofs.YtpkgingjmgakbaaDoor

/-
  package graph: gate BY ITS CONTRACT: the one that is there, or a new one.
-/
namespace Go.Proofs.YtpkgingjmgakbaaDoor
open Go.RowKit Go.Maps

theorem Mvd.row {F F' : Nat → Prop} {w w' : World} (h : Mvd F F' w w') {k : Nat} {o : Obj} (hk : w.heap[k]? = some o) (hn : ¬ F k) : w'.heap[k]? = some o := by
  rw [h.block k (Array.getElem?_eq_some_iff.1 hk).1 hn]; exact hk

end Go.Proofs.YtpkgingjmgakbaaDoor

/-
  package graph: And BY CONTRACT.
-/
namespace Go.Proofs.YtpkgingjmgakbaaDoor
open Go.RowKit Go.Maps

theorem has_two (gs : List (Int × Int)) (a b : Int) : ([a, b].all fun x => hasB gs x) = (hasB gs a && hasB gs b) := by simp

/-- Of a lesser literal and a greater one. -/
def andX (gs : List (Int × Int)) (x y : Int) : Int := if x = 0 ∨ x = turnL y then 0 else if x = 1 ∨ x = y then y else 2 * (gs.idxOf (x, y) : Int) + 2
def andY (gs : List (Int × Int)) (x y : Int) : List (Int × Int) := if x = 0 ∨ x = turnL y then gs else if x = 1 ∨ x = y then gs else if (x, y) ∈ gs then gs else gs ++ [(x, y)]
theorem below_drewM {B : Nat} {a w : World} (h : Below B a w) (n : Nat) : Below B a (w.drewN n) := ⟨h.os, h.tape, h.output, h.size, h.block⟩
theorem off_iff {x y : Int} (h : x ≤ y) : (x = 0 ∨ x = turnL y) ↔ (x = 0 ∨ (y = x + 1 ∧ x % 2 = 0)) := by
  have := (turnL_eq y).2.2
  omega
theorem andX_eq (gs : List (Int × Int)) (a b : Int) : andX gs (min a b) (max a b) = andL gs a b := by
  have h := off_iff (x := min a b) (y := max a b) (by omega)
  unfold andX andL offB oneB
  simp only [h, Bool.or_eq_true, Bool.and_eq_true, decide_eq_true_eq]
theorem andY_eq (gs : List (Int × Int)) (a b : Int) : andY gs (min a b) (max a b) = andG gs a b := by
  have h := off_iff (x := min a b) (y := max a b) (by omega)
  unfold andY andG offB oneB
  simp only [h, Bool.or_eq_true, Bool.and_eq_true, decide_eq_true_eq]

end Go.Proofs.YtpkgingjmgakbaaDoor

/-
  package graph: Or, either, Xor, If, Input, Parts BY CONTRACT.
-/
namespace Go.Proofs.YtpkgingjmgakbaaDoor
open Go.RowKit Go.Maps

theorem HasL.i64 {gs : List (Int × Int)} {a : Int} (h : HasL gs a) (hl : gs.length ≤ 90010) : I64 a := by unfold HasL at h; unfold I64; omega
theorem I64.turn {a : Int} (h : I64 a) : I64 (turnL a) := by
  have := (turnL_eq a).2.2
  unfold I64 at *
  omega

end Go.Proofs.YtpkgingjmgakbaaDoor

/-
  package graph: Xor, If, Input, Parts BY CONTRACT.
-/
namespace Go.Proofs.YtpkgingjmgakbaaDoor
open Go.RowKit Go.Maps
def xorL (gs : List (Int × Int)) (a b : Int) : Int := eitherL gs a (turnL b) (turnL a) b
def xorG (gs : List (Int × Int)) (a b : Int) : List (Int × Int) := eitherG gs a (turnL b) (turnL a) b
def ifL (gs : List (Int × Int)) (c a b : Int) : Int := eitherL gs c a (turnL c) b
def ifG (gs : List (Int × Int)) (c a b : Int) : List (Int × Int) := eitherG gs c a (turnL c) b

theorem results_tmp4 {fn : Func} {t u v x : Tmp} (h : fn.results = #[.tmp t, .tmp u, .tmp v, .tmp x]) (tmps : Array Value) (P : Program) (w : World) :
    (results fn tmps).run P w = .ok (.tuple #[tmps.getD t undef, tmps.getD u undef, tmps.getD v undef, tmps.getD x undef]) w := by
  simp [results, h]
/-- An input's pair. -/
def inpB (p : Int × Int) : Bool := decide (p = (0, 0))
theorem Gs.i64 {gs : List (Int × Int)} (h : Gs gs) (hl : gs.length ≤ 90000) {i : Nat} {p : Int × Int} (hi : gs[i]? = some p) : I64 p.1 ∧ I64 p.2 := by
  have hlt : i < gs.length := (List.getElem?_eq_some_iff.1 hi).1
  rcases h.each i p hi with rfl | ⟨h1, h2, h3⟩
  · unfold I64; simp
  · unfold I64; omega

end Go.Proofs.YtpkgingjmgakbaaDoor

/-
  WHAT GATES COME TO, AS MATHEMATICS; rows of bools in memory; package graph's holds BY CONTRACT.
-/
namespace Go.Proofs.YtpkgingjmgakbaaDoor
open Go.RowKit Go.Maps

/-- A literal, gates having such values. -/
def litV (vs : List Bool) (x : Int) : Bool := (vs.getD (x / 2).toNat false) != (x % 2 == 1)
/-- The values of so many gates, from gate 0 on; how many inputs were taken. -/
def valsTo (gs : List (Int × Int)) (inp : List Bool) : Nat → List Bool × Nat
  | 0 => ([false], 0)
  | n + 1 =>
    match gs[n]? with
    | some p => if inpB p = true then ((valsTo gs inp n).1 ++ [inp.getD (valsTo gs inp n).2 false], (valsTo gs inp n).2 + 1) else ((valsTo gs inp n).1 ++ [litV (valsTo gs inp n).1 p.1 && litV (valsTo gs inp n).1 p.2], (valsTo gs inp n).2)
    | none => ((valsTo gs inp n).1 ++ [false], (valsTo gs inp n).2)
/-- How many inputs there are among these. -/
def cntI (gs : List (Int × Int)) : Nat := (gs.filter inpB).length
theorem valsTo_length (gs : List (Int × Int)) (inp : List Bool) : ∀ n, (valsTo gs inp n).1.length = n + 1
  | 0 => rfl
  | n + 1 => by
    unfold valsTo
    split
    · split <;> simp [valsTo_length gs inp n]
    · simp [valsTo_length gs inp n]
theorem valsTo_cnt (gs : List (Int × Int)) (inp : List Bool) : ∀ n, n ≤ gs.length → (valsTo gs inp n).2 = cntI (gs.take n)
  | 0, _ => by simp [valsTo, cntI]
  | n + 1, h => by
    have ih := valsTo_cnt gs inp n (by omega)
    have hg : gs[n]? = some gs[n] := List.getElem?_eq_getElem (by omega)
    unfold valsTo
    rw [hg]
    simp only
    have e : cntI (gs.take (n + 1)) = cntI (gs.take n) + if inpB gs[n] = true then 1 else 0 := by
      unfold cntI
      rw [List.take_add_one, hg]
      simp only [Option.toList_some, List.filter_append, List.length_append]
      by_cases hp : inpB gs[n] = true
      · simp [hp]
      · simp [hp]
    rw [e]
    split
    · rw [ih]
    · rw [ih]; rfl
theorem cntI_take_le (gs : List (Int × Int)) (n : Nat) : cntI (gs.take n) ≤ cntI gs := by
  unfold cntI
  exact ((List.take_sublist n gs).filter _).length_le
/-- An input is taken that is there. -/
theorem valsTo_in {gs : List (Int × Int)} {inp : List Bool} {n : Nat} {p : Int × Int} (hp : gs[n]? = some p) (hi : inpB p = true) (hc : cntI gs = inp.length) : (valsTo gs inp n).2 < inp.length := by
  have hn : n < gs.length := (List.getElem?_eq_some_iff.1 hp).1
  have h1 := valsTo_cnt gs inp (n + 1) (by omega)
  have h2 := cntI_take_le gs (n + 1)
  unfold valsTo at h1
  rw [hp] at h1
  simp only [hi, if_true] at h1
  omega
/-- The values so far, the rest false. -/
def rowN (gs : List (Int × Int)) (inp : List Bool) (n : Nat) : List Bool := (valsTo gs inp n).1 ++ List.replicate (gs.length - n) false
theorem rowN_length {gs : List (Int × Int)} {inp : List Bool} {n : Nat} (h : n ≤ gs.length) : (rowN gs inp n).length = gs.length + 1 := by
  unfold rowN
  rw [List.length_append, valsTo_length, List.length_replicate]
  omega
theorem rowN_set {gs : List (Int × Int)} {inp : List Bool} {n : Nat} (h : n < gs.length) (b : Bool) (hb : (valsTo gs inp (n + 1)).1 = (valsTo gs inp n).1 ++ [b]) : rowN gs inp (n + 1) = (rowN gs inp n).set (n + 1) b := by
  unfold rowN
  rw [hb]
  have hl := valsTo_length gs inp n
  rw [List.set_append_right _ _ (by omega), hl, Nat.sub_self]
  have : gs.length - n = (gs.length - (n + 1)) + 1 := by omega
  rw [this, List.replicate_succ]
  simp
theorem rowN_lit {gs : List (Int × Int)} {inp : List Bool} {n : Nat} {x : Int} (hx : x < 2 * ((n : Int) + 1)) : litV (rowN gs inp n) x = litV (valsTo gs inp n).1 x := by
  unfold litV rowN
  have hl := valsTo_length gs inp n
  have : (x / 2).toNat < (valsTo gs inp n).1.length := by omega
  simp only [List.getD_eq_getElem?_getD]
  rw [List.getElem?_append_left this]

/-- A row of bools. -/
def rowB (l : List Bool) : Array Value := (l.map Value.bool).toArray
theorem rowB_get {l : List Bool} {k : Nat} {b : Bool} (h : l[k]? = some b) : (rowB l)[k]? = some (.bool b) := by simp [rowB, h]
theorem rowB_set (l : List Bool) (k : Nat) (b : Bool) : (rowB l).setIfInBounds k (.bool b) = rowB (l.set k b) := by simp [rowB, List.map_set]
def BoolsAt (w : World) (v : Value) (l : List Bool) : Prop := l.length ≤ maxLen ∧ ∃ o c, v = .slice o l.length c ∧ ∀ k x, l[k]? = some x → ∃ b off, o = some ⟨b, off, none⟩ ∧ w.cell? ⟨b, off + k, none⟩ = some (.bool x)
theorem BoolsAt.below {w w' : World} {v : Value} {l : List Bool} (h : BoolsAt w v l) (hb : Below w.heap.size w w') : BoolsAt w' v l := by
  obtain ⟨hl, o, c, rfl, h⟩ := h
  refine ⟨hl, o, c, rfl, fun k x hk => ?_⟩
  obtain ⟨b, off, e, hc⟩ := h k x hk
  exact ⟨b, off, e, cell_keep hb hc⟩
theorem bits_low {a : Int} (h0 : 0 ≤ a) (h1 : a ≤ 9223372036854775807) : bits .and .i64 a 1 = a % 2 := by
  have h2 : (BitVec.ofInt 64 a).toNat = a.toNat := by simp [BitVec.toNat_ofInt]; omega
  show IntKind.i64.wrap ((BitVec.ofInt 64 a &&& BitVec.ofInt 64 1).toNat : Int) = _
  have h3 : (BitVec.ofInt 64 (1 : Int)).toNat = 1 := by decide
  rw [BitVec.toNat_and, h3, h2, Nat.and_one_is_mod, IntKind.wrap_i64]
  omega
end Go.Proofs.YtpkgingjmgakbaaDoor

/-
  package graph: values BY ITS CONTRACT: what all gates come to.
-/
namespace Go.Proofs.YtpkgingjmgakbaaDoor
open Go.RowKit Go.Maps

theorem Tryd.infoBool : (Tryd.prog.info? 4).map (fun i => (i.zero, i.size, i.bytes)) = some (some (.bool false), 1, 1) := by kernel_rfl
theorem made_bools {w : World} {V n : Nat} (h : w.ownsRow 0 4 1 (.slice (some ⟨V, 0, none⟩) n n) n (madeCells (Value.bool false).cells (n * 1)).toList) : w.heap[V]? = some (.cells (rowB (List.replicate n false)) 4 (0, 0)) := by
  obtain ⟨_, h2⟩ := h
  rcases h2 with ⟨h2, _⟩ | ⟨g, cap, cur, e, _, hg, _, _, hs, ht⟩
  · cases h2
  · obtain ⟨rfl, rfl⟩ : V = g ∧ n = cap := by simpa using e
    rw [hg]
    have e1 : (madeCells (Value.bool false).cells (n * 1)).toList = List.replicate n (.bool false) := by rw [Nat.mul_one]; exact toList_madeCells_one _ _
    rw [e1] at ht
    have e2 : cur.toList = List.replicate n (.bool false) := by rw [← ht, List.take_of_length_le (by simp [hs])]
    have : cur = rowB (List.replicate n false) := by
      apply Array.toList_inj.1
      rw [e2]
      simp [rowB]
    rw [this]
theorem rowN_zero (gs : List (Int × Int)) (inp : List Bool) : rowN gs inp 0 = List.replicate (gs.length + 1) false := by
  unfold rowN valsTo
  rw [List.replicate_succ]
  rfl
/-- All gates' values. -/
def valsOf (gs : List (Int × Int)) (inp : List Bool) : List Bool := (valsTo gs inp gs.length).1
theorem rowN_all (gs : List (Int × Int)) (inp : List Bool) : rowN gs inp gs.length = valsOf gs inp := by unfold rowN valsOf; simp
theorem Gs.lits {gs : List (Int × Int)} (h : Gs gs) {i : Nat} {p : Int × Int} (hi : gs[i]? = some p) (hn : inpB p = false) : 0 ≤ p.1 ∧ p.1 < 2 * ((i : Int) + 1) ∧ 0 ≤ p.2 ∧ p.2 < 2 * ((i : Int) + 1) := by
  have hp := (h.each i p hi).resolve_left (fun e => by rw [e] at hn; exact absurd hn (by decide))
  omega

theorem row_store {w : World} {V : Nat} {gs : List (Int × Int)} {inp : List Bool} {j : Nat} {t : TypeId} (hV : w.heap[V]? = some (.cells (rowB (rowN gs inp j)) t (0, 0))) (hj : j < gs.length) (b : Bool) (hb : (valsTo gs inp (j + 1)).1 = (valsTo gs inp j).1 ++ [b]) :
    (w.setCell ⟨V, j + 1, none⟩ (.bool b)).heap[V]? = some (.cells (rowB (rowN gs inp (j + 1))) t (0, 0)) := by
  rw [heap_setCell_at hV, rowB_set, ← rowN_set hj b hb]
end Go.Proofs.YtpkgingjmgakbaaDoor
