/-
  MAPS OF FUNCTIONS BY NAMES: made, written, looked up, ranged over.
-/
import Derived.Test.YtmmfodiagcnjeaaDoorOprA
import Derived.Maps.OwnSet
import Derived.Maps.RangeWalk
import Derived.StringKeys
namespace Go.Proofs.YtmmfodiagcnjeaaDoor
open Go.RowKit Go.Maps

/-- A value reads as itself. -/
def heldE : Value → Option (DataW Value × List MemPlace) := fun v => some (.held v, [])
def fset (f : List UInt8 → Option Value) (k : List UInt8) (v : Value) : List UInt8 → Option Value := fun x => if x = k then some v else f x
def fnone : List UInt8 → Option Value := fun _ => none
/-- The map in block b has at most n entries, and they are these. -/
def FnAt (w : World) (b n : Nat) (f : List UInt8 → Option Value) : Prop := ∃ D : DataW Value, w.ownsMap Tryd.prog 9 heldE b n D ∧ ∀ k, Maps.has D (.string k) = (f k).isSome ∧ ∀ v z, f k = some v → D.atKey (.string k) z = .held v
theorem strKeyed : Keyed Tryd.prog 9 := string_keyed Tryd.underlying9
theorem FnAt.lt {w : World} {b n : Nat} {f : List UInt8 → Option Value} (h : FnAt w b n f) : b < w.heap.size := by
  obtain ⟨D, h, _⟩ := h
  exact h.lt
theorem FnAt.kept {w w' : World} {b n : Nat} {f : List UInt8 → Option Value} (h : FnAt w b n f) (e : w'.heap[b]? = w.heap[b]?) : FnAt w' b n f := by
  obtain ⟨D, ⟨es, clock, hb, r⟩, k⟩ := h
  exact ⟨D, ⟨es, clock, by rw [e]; exact hb, r⟩, k⟩
theorem FnAt.made (w : World) : FnAt (w.alloc (.map #[] 0)) w.heap.size 0 fnone :=
  ⟨.map [], World.ownsMap_made w _ _ _, fun k => ⟨rfl, fun v z h => by simp [fnone] at h⟩⟩
theorem fn_put {D : DataW Value} {f : List UInt8 → Option Value} (hD : IsMap D) (h : ∀ k, Maps.has D (.string k) = (f k).isSome ∧ ∀ v z, f k = some v → D.atKey (.string k) z = .held v) (s : List UInt8) (val : Value) :
    ∀ k, Maps.has (D.put (.string s) (.held val)) (.string k) = (fset f s val k).isSome ∧ ∀ v z, fset f s val k = some v → (D.put (.string s) (.held val)).atKey (.string k) z = .held v := by
  intro k
  unfold fset
  by_cases e : k = s
  · subst e
    rw [if_pos rfl]
    exact ⟨has_put_same hD (show WideAt.IsKeyLit (.string k) from trivial) _, fun v z hv => by rw [atKey_put_same hD (show WideAt.IsKeyLit (.string k) from trivial)]; simpa using hv⟩
  · have hne : Lit.string k ≠ Lit.string s := fun q => e (by simpa using q)
    rw [if_neg e, has_put_other hne]
    exact ⟨(h k).1, fun v z hv => by rw [atKey_put_other hne]; exact (h k).2 v z hv⟩
theorem FnAt.put {w : World} {b n : Nat} {f : List UInt8 → Option Value} (h : FnAt w b n f) {t e : TypeId} (ht : Tryd.prog.underlying t = some (.map 9 e)) (hn : n < maxLen) (s : ByteArray) (hs : s.size ≤ maxLen) (val : Value) :
    ∃ w', (Instr.mapUpdate t (.map (some b)) (.string s) val).run Tryd.prog w = .ok () w' ∧ FnAt w' b (n + 1) (fset f s.data.toList val) ∧ w.grownBy w' (some b) := by
  obtain ⟨D, h, k⟩ := h
  obtain ⟨w', r1, r2, r3⟩ := h.update strKeyed ht hn (WideMaps.keyOf_string_mk Tryd.underlying9 hs) (show heldE val = some (.held val, []) from rfl)
  exact ⟨w', r1, ⟨_, r2, fn_put h.isMap k _ _⟩, r3⟩
/-- An entry of a map that is written out. -/
theorem wpList_insert_fn {ops : Array Oper} {rest : List Oper} {o : Oper} {a : Act} {Q : Exit → Act → World → Prop} (w : World) (hg : o.guard = none) (m x v : Operand) (t e : TypeId) (hop : o.op = Op.insert t m x v) (ht : Tryd.prog.underlying t = some (.map 9 e)) (b n : Nat) (f : List UInt8 → Option Value)
    (hm : a.eval m = .map (some b)) (h : FnAt w b n f) (hn : n < maxLen) (s : ByteArray) (hs : s.size ≤ maxLen) (hx : a.eval x = .string s) (val : Value) (hv : a.eval v = val)
    (hK : ∀ w', FnAt w' b (n + 1) (fset f s.data.toList val) → w.grownBy w' (some b) → wpList Tryd.prog ops Q rest (a.put o.dst undef) w') : wpList Tryd.prog ops Q (o :: rest) a w := by
  refine wpList_plain hg fun K' hK' => ?_
  obtain ⟨w', hrun, r1, r2⟩ := h.put ht hn s hs val
  unfold Oper.wp
  simp [execOp, hop, hm, hx, hv, hrun, Result.andThen]
  exact hK' _ _ (hK w' r1 r2)
/-- A function without what it captures. -/
def fnV (f : FuncId) : Value := .func (.func f) #[] #[]
theorem grown_trans {a b c : World} {row : Option Nat} (h : a.grownBy b row) (k : b.grownBy c row) : a.grownBy c row :=
  ⟨k.os.trans h.os, k.tape.trans h.tape, k.output.trans h.output, Nat.le_trans h.size k.size, fun i hi hr => by rw [k.block i (Nat.lt_of_lt_of_le hi h.size) hr, h.block i hi hr]⟩
theorem heap_grown' {w w' : World} {row : Option Nat} (hg : w.grownBy w' row) {b : Nat} {o : Obj} (hne : row ≠ some b) (h : w.heap[b]? = some o) : w'.heap[b]? = some o := by
  rw [hg.block b (Array.getElem?_eq_some_iff.1 h).1 (fun e => hne e.symm)]; exact h
theorem alloc_row' {w : World} (o : Obj) {k : Nat} {x : Obj} (h : w.heap[k]? = some x) : (w.alloc o).heap[k]? = some x := by
  rw [Below.heap_alloc w o k (Array.getElem?_eq_some_iff.1 h).1]; exact h
end Go.Proofs.YtmmfodiagcnjeaaDoor
