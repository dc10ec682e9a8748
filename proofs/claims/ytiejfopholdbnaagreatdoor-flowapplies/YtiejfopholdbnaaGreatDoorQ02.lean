/-
  MAPS OF FUNCTIONS BY NAMES: made, written, looked up, ranged over.
-/
import Derived.Test.YtiejfopholdbnaaGreatDoorQ01
import Derived.Maps.OwnSet
import Derived.Maps.RangeWalk
import Derived.StringKeys
import Derived.DeepKeys4
import Derived.Deep.AppendLies
import Derived.Below
import Derived.WalkKit
namespace Go.Proofs.YtiejfopholdbnaaGreatDoor
open Go.RowKit Go.Maps
def heldE : Value → Option (DataW Value × List MemPlace) := fun v => some (.held v, [])
def fset (f : List UInt8 → Option Value) (k : List UInt8) (v : Value) : List UInt8 → Option Value := fun x => if x = k then some v else f x
def fnone : List UInt8 → Option Value := fun _ => none
def FnAt (w : World) (b n : Nat) (f : List UInt8 → Option Value) : Prop := ∃ D : DataW Value, w.ownsMap Tryz.prog 9 heldE b n D ∧ ∀ k, Maps.has D (.string k) = (f k).isSome ∧ ∀ v z, f k = some v → D.atKey (.string k) z = .held v
theorem strKeyed : Keyed Tryz.prog 9 := string_keyed Tryz.underlying9
theorem FnAt.lt {w : World} {b n : Nat} {f : List UInt8 → Option Value} (h : FnAt w b n f) : b < w.heap.size := by
 obtain ⟨D, h, _⟩ := h
 exact h.lt
theorem FnAt.kept {w w' : World} {b n : Nat} {f : List UInt8 → Option Value} (h : FnAt w b n f) (e : w'.heap[b]? = w.heap[b]?) : FnAt w' b n f := by
 obtain ⟨D, ⟨es, clock, hb, r⟩, k⟩ := h
 exact ⟨D, ⟨es, clock, by rw [e]; exact hb, r⟩, k⟩
theorem FnAt.made (w : World) : FnAt (w.alloc (.map #[] 0)) w.heap.size 0 fnone :=
 ⟨.map [], World.ownsMap_made w _ _ _, fun k => ⟨rfl, fun v z h => by simp [fnone] at h⟩⟩
theorem fn_put {D : DataW Value} {f : List UInt8 → Option Value} (hD : IsMap D) (h : ∀ k, Maps.has D (.string k) = (f k).isSome ∧ ∀ v z, f k = some v → D.atKey (.string k) z = .held v) (s : List UInt8) (val : Value) :
  ∀ k, Maps.has (D.put (.string s) (.held val)) (.string k) = (fset f s val k).isSome ∧ ∀ v z, fset f s val k = some v → (D.put (.string s) (.held val)).atKey (.string k) z = .held v := by
 intro k
 unfold fset
 by_cases e : k = s
 ·subst e
  rw [if_pos rfl]
  exact ⟨has_put_same hD (show WideAt.IsKeyLit (.string k) from trivial) _, fun v z hv => by rw [atKey_put_same hD (show WideAt.IsKeyLit (.string k) from trivial)]; simpa using hv⟩
 ·have hne : Lit.string k ≠ Lit.string s := fun q => e (by simpa using q)
  rw [if_neg e, has_put_other hne]
  exact ⟨(h k).1, fun v z hv => by rw [atKey_put_other hne]; exact (h k).2 v z hv⟩
theorem FnAt.put {w : World} {b n : Nat} {f : List UInt8 → Option Value} (h : FnAt w b n f) {t e : TypeId} (ht : Tryz.prog.underlying t = some (.map 9 e)) (hn : n < maxLen) (s : ByteArray) (hs : s.size ≤ maxLen) (val : Value) :
  ∃ w', (Instr.mapUpdate t (.map (some b)) (.string s) val).run Tryz.prog w = .ok () w' ∧ FnAt w' b (n + 1) (fset f s.data.toList val) ∧ w.grownBy w' (some b) := by
 obtain ⟨D, h, k⟩ := h
 obtain ⟨w', r1, r2, r3⟩ := h.update strKeyed ht hn (WideMaps.keyOf_string_mk Tryz.underlying9 hs) (show heldE val = some (.held val, []) from rfl)
 exact ⟨w', r1, ⟨_, r2, fn_put h.isMap k _ _⟩, r3⟩
theorem wpList_insert_fn {ops : Array Oper} {rest : List Oper} {o : Oper} {a : Act} {Q : Exit → Act → World → Prop} (w : World) (hg : o.guard = none) (m x v : Operand) (t e : TypeId) (hop : o.op = Op.insert t m x v) (ht : Tryz.prog.underlying t = some (.map 9 e)) (b n : Nat) (f : List UInt8 → Option Value)
  (hm : a.eval m = .map (some b)) (h : FnAt w b n f) (hn : n < maxLen) (s : ByteArray) (hs : s.size ≤ maxLen) (hx : a.eval x = .string s) (val : Value) (hv : a.eval v = val)
  (hK : ∀ w', FnAt w' b (n + 1) (fset f s.data.toList val) → w.grownBy w' (some b) → wpList Tryz.prog ops Q rest (a.put o.dst undef) w') : wpList Tryz.prog ops Q (o :: rest) a w := by
 refine wpList_plain hg fun K' hK' => ?_
 obtain ⟨w', hrun, r1, r2⟩ := h.put ht hn s hs val
 unfold Oper.wp
 simp [execOp, hop, hm, hx, hv, hrun, Result.andThen]
 exact hK' _ _ (hK w' r1 r2)
def fnV (f : FuncId) : Value := .func (.func f) #[] #[]
theorem grown_trans {a b c : World} {row : Option Nat} (h : a.grownBy b row) (k : b.grownBy c row) : a.grownBy c row :=
 ⟨k.os.trans h.os, k.tape.trans h.tape, k.output.trans h.output, Nat.le_trans h.size k.size, fun i hi hr => by rw [k.block i (Nat.lt_of_lt_of_le hi h.size) hr, h.block i hi hr]⟩
theorem heap_grown' {w w' : World} {row : Option Nat} (hg : w.grownBy w' row) {b : Nat} {o : Obj} (hne : row ≠ some b) (h : w.heap[b]? = some o) : w'.heap[b]? = some o := by
 rw [hg.block b (Array.getElem?_eq_some_iff.1 h).1 (fun e => hne e.symm)]; exact h
theorem alloc_row' {w : World} (o : Obj) {k : Nat} {x : Obj} (h : w.heap[k]? = some x) : (w.alloc o).heap[k]? = some x := by
 rw [Below.heap_alloc w o k (Array.getElem?_eq_some_iff.1 h).1]; exact h
structure Mvd (F F' : Nat → Prop) (w w' : World) : Prop where
 os : w'.os = w.os
 tape : w'.tape = w.tape
 output : w'.output = w.output
 size : w.heap.size ≤ w'.heap.size
 block : ∀ k, k < w.heap.size → ¬ F k → w'.heap[k]? = w.heap[k]?
 more : ∀ k, F' k → F k ∨ (w.heap.size ≤ k ∧ k < w'.heap.size)
theorem Mvd.trans {F F' F'' : Nat → Prop} {a b c : World} (h : Mvd F F' a b) (k : Mvd F' F'' b c) : Mvd F F'' a c := by
 refine ⟨k.os.trans h.os, k.tape.trans h.tape, k.output.trans h.output, Nat.le_trans h.size k.size, fun i hi hn => ?_, fun i hi => ?_⟩
 ·refine (k.block i (Nat.lt_of_lt_of_le hi h.size) (fun hf => ?_)).trans (h.block i hi hn)
  rcases h.more i hf with h1 | h1
  ·exact hn h1
  ·omega
 ·rcases k.more i hi with h1 | h1
  ·rcases h.more i h1 with h2 | h2
   ·exact .inl h2
   ·exact .inr ⟨h2.1, Nat.lt_of_lt_of_le h2.2 k.size⟩
  ·exact .inr ⟨Nat.le_trans h.size h1.1, h1.2⟩
theorem Mvd.of_below {F : Nat → Prop} {w w' : World} (h : Below w.heap.size w w') : Mvd F F w w' := ⟨h.os, h.tape, h.output, h.size, fun k hk _ => h.block k hk, fun _ h => .inl h⟩
theorem Mvd.below {F F' : Nat → Prop} {W w w' : World} (h : Mvd F F' w w') {B : Nat} (hb : Below B W w) (hB : B ≤ w.heap.size) (hF : ∀ k, F k → B ≤ k) : Below B W w' :=
 hb.trans ⟨h.os, h.tape, h.output, h.size, fun k hk => h.block k (by omega) (fun hf => by have := hF k hf; omega)⟩
theorem owns_keep {w w' : World} {base size n : Nat} {e : TypeId} {v : Value} {xs : List Value} (h : w.ownsRow base e size v n xs) (hk : ∀ k, v.ownBlock = some k → w'.heap[k]? = w.heap[k]?) : w'.ownsRow base e size v n xs := by
 obtain ⟨h1, h2⟩ := h
 refine ⟨h1, ?_⟩
 rcases h2 with h2 | ⟨g, cap, cur, rfl, hb, hg, r⟩
 ·exact .inl h2
 ·exact .inr ⟨g, cap, cur, rfl, hb, by rw [hk g rfl]; exact hg, r⟩
theorem Mvd.apart {E F F' : Nat → Prop} {w w' : World} (hm : Mvd F F' w w') (hE : ∀ k, E k → k < w.heap.size) (hd : ∀ k, E k → ¬ F k) : ∀ k, E k → ¬ F' k := fun k hk hf => by
 rcases hm.more k hf with h | h
 ·exact hd k hk h
 ·have := hE k hk; omega
theorem frozen_row {w : World} {G i : Nat} {cs : Array Value} {t : TypeId} (h : w.heap[G]? = some (.cells cs t (0, 0))) : w.frozen? ⟨G, i, none⟩ = false := by simp [World.frozen?, h]
theorem heap_setCell_at {w : World} {G i : Nat} {cs : Array Value} {t : TypeId} {fr : Nat × Nat} (h : w.heap[G]? = some (.cells cs t fr)) (u : Value) : (w.setCell ⟨G, i, none⟩ u).heap[G]? = some (.cells (cs.setIfInBounds i u) t fr) := by
 simp only [World.setCell, Array.getElem?_modify, if_true, h, Option.map_some]
 rfl
theorem Mvd.rowKept {F F' : Nat → Prop} {w w' : World} (h : Mvd F F' w w') {k : Nat} {o : Obj} (hk : w.heap[k]? = some o) (hn : ¬ F k) : w'.heap[k]? = some o ∧ ¬ F' k := by
 have hl := (Array.getElem?_eq_some_iff.1 hk).1
 refine ⟨by rw [h.block k hl hn]; exact hk, fun hf => ?_⟩
 rcases h.more k hf with h1 | h1
 ·exact hn h1
 ·omega
theorem Mvd.cell {F F' : Nat → Prop} {w w' : World} (h : Mvd F F' w w') {p : Addr} {v : Value} (hc : w.cell? p = some v) (hn : ¬ F p.block) : w'.cell? p = some v ∧ ¬ F' p.block := by
 have hl : p.block < w.heap.size := by
  rcases Nat.lt_or_ge p.block w.heap.size with h | h
  ·exact h
  ·simp [World.cell?, Array.getElem?_eq_none h] at hc
 have e : w'.cell? p = w.cell? p := by simp only [World.cell?, h.block _ hl hn]
 refine ⟨by rw [e]; exact hc, fun hf => ?_⟩
 rcases h.more _ hf with h1 | h1
 ·exact hn h1
 ·omega
theorem size_setCell (w : World) (a : Addr) (u : Value) : (w.setCell a u).heap.size = w.heap.size := by simp [World.setCell]
theorem Mvd.set {F F' : Nat → Prop} {w w' : World} (h : Mvd F F' w w') {V i : Nat} (hV : w.heap.size ≤ V) (u : Value) : Mvd F F' w (w'.setCell ⟨V, i, none⟩ u) :=
 ⟨h.os, h.tape, h.output, by rw [size_setCell]; exact h.size, fun k hk hn => by rw [Below.heap_setCell _ _ _ _ (fun e => by have : k = V := e; omega)]; exact h.block k hk hn, fun k hk => by rw [size_setCell]; exact h.more k hk⟩
theorem owns_move {w w' : World} {F F' : Nat → Prop} {base size n : Nat} {e : TypeId} {v : Value} {xs : List Value} (h : w.ownsRow base e size v n xs) (hm : Mvd F F' w w') (hn : ∀ k, v.ownBlock = some k → ¬ F k) : w'.ownsRow base e size v n xs ∧ ∀ k, v.ownBlock = some k → ¬ F' k := by
 have hlt : ∀ k, v.ownBlock = some k → k < w.heap.size := fun k hk => by
  obtain ⟨_, h2⟩ := h
  rcases h2 with ⟨rfl, _⟩ | ⟨g, cap, cur, rfl, _, hg, _⟩
  ·simp [Value.ownBlock] at hk
  ·simp [Value.ownBlock] at hk; subst hk; exact (Array.getElem?_eq_some_iff.1 hg).1
 refine ⟨owns_keep h (fun k hk => hm.block k (hlt k hk) (hn k hk)), fun k hk hf => ?_⟩
 rcases hm.more k hf with h1 | h1
 ·exact hn k hk h1
 ·have := hlt k hk; omega
end Go.Proofs.YtiejfopholdbnaaGreatDoor
namespace Go.Proofs.YtiejfopholdbnaaGreatDoor
open Go.RowKit
set_option maxRecDepth 100000

def opL : List (List UInt8 × Int) := [([105, 110, 116], 0), ([116, 114, 117, 101], 0), ([102, 97, 108, 115, 101], 0), ([110, 97, 109, 101], 0), ([105, 102], 3), ([45, 62], 2), ([102, 98, 121], 2), ([111, 114], 2), ([120, 111, 114], 2), ([97, 110, 100], 2), ([110, 111, 116], 1), ([61], 2), ([60, 62], 2), ([60], 2), ([60, 61], 2), ([62], 2), ([62, 61], 2), ([61, 62], 2), ([43], 2), ([45], 2), ([42], 2), ([47], 2), ([109, 111, 100], 2), ([110, 101, 103], 1), ([112, 114, 101], 1), ([99, 97, 108, 108], -1)]
theorem oarity_1 (op : ByteArray) (w : World) (ht : op.toList = [105, 110, 116]) : Calls Tryz.prog 68 #[.string op] w fun e w' => e = .returned (.tuple #[.int .i64 (0), .bool true]) ∧ w' = w := by
 go_enter Tryz.func68, Tryz.ntmps68
 go_wp2
 go_ret2
 exact ⟨rfl, rfl⟩
theorem oarity_2 (op : ByteArray) (w : World) (ht : op.toList = [116, 114, 117, 101]) : Calls Tryz.prog 68 #[.string op] w fun e w' => e = .returned (.tuple #[.int .i64 (0), .bool true]) ∧ w' = w := by
 go_enter Tryz.func68, Tryz.ntmps68
 go_wp2
 go_ret2
 exact ⟨rfl, rfl⟩
theorem oarity_3 (op : ByteArray) (w : World) (ht : op.toList = [102, 97, 108, 115, 101]) : Calls Tryz.prog 68 #[.string op] w fun e w' => e = .returned (.tuple #[.int .i64 (0), .bool true]) ∧ w' = w := by
 go_enter Tryz.func68, Tryz.ntmps68
 go_wp2
 go_ret2
 exact ⟨rfl, rfl⟩
theorem oarity_4 (op : ByteArray) (w : World) (ht : op.toList = [110, 97, 109, 101]) : Calls Tryz.prog 68 #[.string op] w fun e w' => e = .returned (.tuple #[.int .i64 (0), .bool true]) ∧ w' = w := by
 go_enter Tryz.func68, Tryz.ntmps68
 go_wp2
 go_ret2
 exact ⟨rfl, rfl⟩
theorem oarity_5 (op : ByteArray) (w : World) (ht : op.toList = [105, 102]) : Calls Tryz.prog 68 #[.string op] w fun e w' => e = .returned (.tuple #[.int .i64 (3), .bool true]) ∧ w' = w := by
 go_enter Tryz.func68, Tryz.ntmps68
 go_wp2
 go_ret2
 exact ⟨rfl, rfl⟩
theorem oarity_6 (op : ByteArray) (w : World) (ht : op.toList = [45, 62]) : Calls Tryz.prog 68 #[.string op] w fun e w' => e = .returned (.tuple #[.int .i64 (2), .bool true]) ∧ w' = w := by
 go_enter Tryz.func68, Tryz.ntmps68
 go_wp2
 go_ret2
 exact ⟨rfl, rfl⟩
theorem oarity_7 (op : ByteArray) (w : World) (ht : op.toList = [102, 98, 121]) : Calls Tryz.prog 68 #[.string op] w fun e w' => e = .returned (.tuple #[.int .i64 (2), .bool true]) ∧ w' = w := by
 go_enter Tryz.func68, Tryz.ntmps68
 go_wp2
 go_ret2
 exact ⟨rfl, rfl⟩
theorem oarity_8 (op : ByteArray) (w : World) (ht : op.toList = [111, 114]) : Calls Tryz.prog 68 #[.string op] w fun e w' => e = .returned (.tuple #[.int .i64 (2), .bool true]) ∧ w' = w := by
 go_enter Tryz.func68, Tryz.ntmps68
 go_wp2
 go_ret2
 exact ⟨rfl, rfl⟩
theorem oarity_9 (op : ByteArray) (w : World) (ht : op.toList = [120, 111, 114]) : Calls Tryz.prog 68 #[.string op] w fun e w' => e = .returned (.tuple #[.int .i64 (2), .bool true]) ∧ w' = w := by
 go_enter Tryz.func68, Tryz.ntmps68
 go_wp2
 go_ret2
 exact ⟨rfl, rfl⟩
theorem oarity_10 (op : ByteArray) (w : World) (ht : op.toList = [97, 110, 100]) : Calls Tryz.prog 68 #[.string op] w fun e w' => e = .returned (.tuple #[.int .i64 (2), .bool true]) ∧ w' = w := by
 go_enter Tryz.func68, Tryz.ntmps68
 go_wp2
 go_ret2
 exact ⟨rfl, rfl⟩
theorem oarity_11 (op : ByteArray) (w : World) (ht : op.toList = [110, 111, 116]) : Calls Tryz.prog 68 #[.string op] w fun e w' => e = .returned (.tuple #[.int .i64 (1), .bool true]) ∧ w' = w := by
 go_enter Tryz.func68, Tryz.ntmps68
 go_wp2
 go_ret2
 exact ⟨rfl, rfl⟩
theorem oarity_12 (op : ByteArray) (w : World) (ht : op.toList = [61]) : Calls Tryz.prog 68 #[.string op] w fun e w' => e = .returned (.tuple #[.int .i64 (2), .bool true]) ∧ w' = w := by
 go_enter Tryz.func68, Tryz.ntmps68
 go_wp2
 go_ret2
 exact ⟨rfl, rfl⟩
theorem oarity_13 (op : ByteArray) (w : World) (ht : op.toList = [60, 62]) : Calls Tryz.prog 68 #[.string op] w fun e w' => e = .returned (.tuple #[.int .i64 (2), .bool true]) ∧ w' = w := by
 go_enter Tryz.func68, Tryz.ntmps68
 go_wp2
 go_ret2
 exact ⟨rfl, rfl⟩
theorem oarity_14 (op : ByteArray) (w : World) (ht : op.toList = [60]) : Calls Tryz.prog 68 #[.string op] w fun e w' => e = .returned (.tuple #[.int .i64 (2), .bool true]) ∧ w' = w := by
 go_enter Tryz.func68, Tryz.ntmps68
 go_wp2
 go_ret2
 exact ⟨rfl, rfl⟩
theorem oarity_15 (op : ByteArray) (w : World) (ht : op.toList = [60, 61]) : Calls Tryz.prog 68 #[.string op] w fun e w' => e = .returned (.tuple #[.int .i64 (2), .bool true]) ∧ w' = w := by
 go_enter Tryz.func68, Tryz.ntmps68
 go_wp2
 go_ret2
 exact ⟨rfl, rfl⟩
theorem oarity_16 (op : ByteArray) (w : World) (ht : op.toList = [62]) : Calls Tryz.prog 68 #[.string op] w fun e w' => e = .returned (.tuple #[.int .i64 (2), .bool true]) ∧ w' = w := by
 go_enter Tryz.func68, Tryz.ntmps68
 go_wp2
 go_ret2
 exact ⟨rfl, rfl⟩
theorem oarity_17 (op : ByteArray) (w : World) (ht : op.toList = [62, 61]) : Calls Tryz.prog 68 #[.string op] w fun e w' => e = .returned (.tuple #[.int .i64 (2), .bool true]) ∧ w' = w := by
 go_enter Tryz.func68, Tryz.ntmps68
 go_wp2
 go_ret2
 exact ⟨rfl, rfl⟩
theorem oarity_18 (op : ByteArray) (w : World) (ht : op.toList = [61, 62]) : Calls Tryz.prog 68 #[.string op] w fun e w' => e = .returned (.tuple #[.int .i64 (2), .bool true]) ∧ w' = w := by
 go_enter Tryz.func68, Tryz.ntmps68
 go_wp2
 go_ret2
 exact ⟨rfl, rfl⟩
theorem oarity_19 (op : ByteArray) (w : World) (ht : op.toList = [43]) : Calls Tryz.prog 68 #[.string op] w fun e w' => e = .returned (.tuple #[.int .i64 (2), .bool true]) ∧ w' = w := by
 go_enter Tryz.func68, Tryz.ntmps68
 go_wp2
 go_ret2
 exact ⟨rfl, rfl⟩
theorem oarity_20 (op : ByteArray) (w : World) (ht : op.toList = [45]) : Calls Tryz.prog 68 #[.string op] w fun e w' => e = .returned (.tuple #[.int .i64 (2), .bool true]) ∧ w' = w := by
 go_enter Tryz.func68, Tryz.ntmps68
 go_wp2
 go_ret2
 exact ⟨rfl, rfl⟩
theorem oarity_21 (op : ByteArray) (w : World) (ht : op.toList = [42]) : Calls Tryz.prog 68 #[.string op] w fun e w' => e = .returned (.tuple #[.int .i64 (2), .bool true]) ∧ w' = w := by
 go_enter Tryz.func68, Tryz.ntmps68
 go_wp2
 go_ret2
 exact ⟨rfl, rfl⟩
theorem oarity_22 (op : ByteArray) (w : World) (ht : op.toList = [47]) : Calls Tryz.prog 68 #[.string op] w fun e w' => e = .returned (.tuple #[.int .i64 (2), .bool true]) ∧ w' = w := by
 go_enter Tryz.func68, Tryz.ntmps68
 go_wp2
 go_ret2
 exact ⟨rfl, rfl⟩
theorem oarity_23 (op : ByteArray) (w : World) (ht : op.toList = [109, 111, 100]) : Calls Tryz.prog 68 #[.string op] w fun e w' => e = .returned (.tuple #[.int .i64 (2), .bool true]) ∧ w' = w := by
 go_enter Tryz.func68, Tryz.ntmps68
 go_wp2
 go_ret2
 exact ⟨rfl, rfl⟩
theorem oarity_24 (op : ByteArray) (w : World) (ht : op.toList = [110, 101, 103]) : Calls Tryz.prog 68 #[.string op] w fun e w' => e = .returned (.tuple #[.int .i64 (1), .bool true]) ∧ w' = w := by
 go_enter Tryz.func68, Tryz.ntmps68
 go_wp2
 go_ret2
 exact ⟨rfl, rfl⟩
theorem oarity_25 (op : ByteArray) (w : World) (ht : op.toList = [112, 114, 101]) : Calls Tryz.prog 68 #[.string op] w fun e w' => e = .returned (.tuple #[.int .i64 (1), .bool true]) ∧ w' = w := by
 go_enter Tryz.func68, Tryz.ntmps68
 go_wp2
 go_ret2
 exact ⟨rfl, rfl⟩
theorem oarity_26 (op : ByteArray) (w : World) (ht : op.toList = [99, 97, 108, 108]) : Calls Tryz.prog 68 #[.string op] w fun e w' => e = .returned (.tuple #[.int .i64 (-1), .bool true]) ∧ w' = w := by
 go_enter Tryz.func68, Tryz.ntmps68
 go_wp2
 go_ret2
 exact ⟨rfl, rfl⟩
theorem oarity_none (op : ByteArray) (w : World) (h1 : (op.toList == [105, 110, 116]) = false) (h2 : (op.toList == [116, 114, 117, 101]) = false) (h3 : (op.toList == [102, 97, 108, 115, 101]) = false) (h4 : (op.toList == [110, 97, 109, 101]) = false) (h5 : (op.toList == [105, 102]) = false) (h6 : (op.toList == [45, 62]) = false) (h7 : (op.toList == [102, 98, 121]) = false) (h8 : (op.toList == [111, 114]) = false) (h9 : (op.toList == [120, 111, 114]) = false) (h10 : (op.toList == [97, 110, 100]) = false) (h11 : (op.toList == [110, 111, 116]) = false) (h12 : (op.toList == [61]) = false) (h13 : (op.toList == [60, 62]) = false) (h14 : (op.toList == [60]) = false) (h15 : (op.toList == [60, 61]) = false) (h16 : (op.toList == [62]) = false) (h17 : (op.toList == [62, 61]) = false) (h18 : (op.toList == [61, 62]) = false) (h19 : (op.toList == [43]) = false) (h20 : (op.toList == [45]) = false) (h21 : (op.toList == [42]) = false) (h22 : (op.toList == [47]) = false) (h23 : (op.toList == [109, 111, 100]) = false) (h24 : (op.toList == [110, 101, 103]) = false) (h25 : (op.toList == [112, 114, 101]) = false) (h26 : (op.toList == [99, 97, 108, 108]) = false) : Calls Tryz.prog 68 #[.string op] w fun e w' => e = .returned (.tuple #[.int .i64 0, .bool false]) ∧ w' = w := by
 go_enter Tryz.func68, Tryz.ntmps68
 go_wp2
 go_ret2
 exact ⟨rfl, rfl⟩
theorem oarity_in (op : ByteArray) (w : World) (t : List UInt8 × Int) (h : t ∈ opL) (ht : op.toList = t.1) : Calls Tryz.prog 68 #[.string op] w fun e w' => e = .returned (.tuple #[.int .i64 t.2, .bool true]) ∧ w' = w := by
 simp only [opL, List.mem_cons, List.not_mem_nil, or_false] at h
 rcases h with rfl | rfl | rfl | rfl | rfl | rfl | rfl | rfl | rfl | rfl | rfl | rfl | rfl | rfl | rfl | rfl | rfl | rfl | rfl | rfl | rfl | rfl | rfl | rfl | rfl | rfl
 ·exact oarity_1 op w ht
 ·exact oarity_2 op w ht
 ·exact oarity_3 op w ht
 ·exact oarity_4 op w ht
 ·exact oarity_5 op w ht
 ·exact oarity_6 op w ht
 ·exact oarity_7 op w ht
 ·exact oarity_8 op w ht
 ·exact oarity_9 op w ht
 ·exact oarity_10 op w ht
 ·exact oarity_11 op w ht
 ·exact oarity_12 op w ht
 ·exact oarity_13 op w ht
 ·exact oarity_14 op w ht
 ·exact oarity_15 op w ht
 ·exact oarity_16 op w ht
 ·exact oarity_17 op w ht
 ·exact oarity_18 op w ht
 ·exact oarity_19 op w ht
 ·exact oarity_20 op w ht
 ·exact oarity_21 op w ht
 ·exact oarity_22 op w ht
 ·exact oarity_23 op w ht
 ·exact oarity_24 op w ht
 ·exact oarity_25 op w ht
 ·exact oarity_26 op w ht
theorem oarity_out (op : ByteArray) (w : World) (h : ∀ t ∈ opL, op.toList ≠ t.1) : Calls Tryz.prog 68 #[.string op] w fun e w' => e = .returned (.tuple #[.int .i64 0, .bool false]) ∧ w' = w :=
 have g : ∀ y c, (y, c) ∈ opL → (op.toList == y) = false := fun y c hm => beq_eq_false_iff_ne.2 (h _ hm)
 oarity_none op w (g _ 0 (by decide)) (g _ 0 (by decide)) (g _ 0 (by decide)) (g _ 0 (by decide)) (g _ 3 (by decide)) (g _ 2 (by decide)) (g _ 2 (by decide)) (g _ 2 (by decide)) (g _ 2 (by decide)) (g _ 2 (by decide)) (g _ 1 (by decide)) (g _ 2 (by decide)) (g _ 2 (by decide)) (g _ 2 (by decide)) (g _ 2 (by decide)) (g _ 2 (by decide)) (g _ 2 (by decide)) (g _ 2 (by decide)) (g _ 2 (by decide)) (g _ 2 (by decide)) (g _ 2 (by decide)) (g _ 2 (by decide)) (g _ 2 (by decide)) (g _ 1 (by decide)) (g _ 1 (by decide)) (g _ (-1) (by decide))
end Go.Proofs.YtiejfopholdbnaaGreatDoor
