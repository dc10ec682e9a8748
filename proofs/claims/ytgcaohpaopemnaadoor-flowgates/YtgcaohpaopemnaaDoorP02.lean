/-
  MAPS OF FUNCTIONS BY NAMES: made, written, looked up, ranged over.
-/
import Derived.Test.YtgcaohpaopemnaaDoorP01
import Derived.Maps.OwnSet
import Derived.Maps.RangeWalk
import Derived.StringKeys
namespace Go.Proofs.YtgcaohpaopemnaaDoor
open Go.RowKit Go.Maps

/-- A value reads as itself. -/
def heldE : Value → Option (DataW Value × List MemPlace) := fun v => some (.held v, [])
def fset (f : List UInt8 → Option Value) (k : List UInt8) (v : Value) : List UInt8 → Option Value := fun x => if x = k then some v else f x
def fnone : List UInt8 → Option Value := fun _ => none
/-- The map in block b has at most n entries, and they are these. -/
def FnAt (w : World) (b n : Nat) (f : List UInt8 → Option Value) : Prop := ∃ D : DataW Value, w.ownsMap Tryd.prog 9 heldE b n D ∧ ∀ k, Maps.has D (.string k) = (f k).isSome ∧ ∀ v z, f k = some v → D.atKey (.string k) z = .held v
theorem strKeyed : Keyed Tryd.prog 9 := string_keyed Tryd.underlying9
theorem FnAt.lt {w : World} {b n : Nat} {f : List UInt8 → Option Value} (h : FnAt w b n f) : b < w.heap.size := by
  obtain ⟨D, h, _⟩ := h
  exact h.lt
theorem FnAt.kept {w w' : World} {b n : Nat} {f : List UInt8 → Option Value} (h : FnAt w b n f) (e : w'.heap[b]? = w.heap[b]?) : FnAt w' b n f := by
  obtain ⟨D, ⟨es, clock, hb, r⟩, k⟩ := h
  exact ⟨D, ⟨es, clock, by rw [e]; exact hb, r⟩, k⟩
theorem FnAt.made (w : World) : FnAt (w.alloc (.map #[] 0)) w.heap.size 0 fnone :=
  ⟨.map [], World.ownsMap_made w _ _ _, fun k => ⟨rfl, fun v z h => by simp [fnone] at h⟩⟩
theorem fn_put {D : DataW Value} {f : List UInt8 → Option Value} (hD : IsMap D) (h : ∀ k, Maps.has D (.string k) = (f k).isSome ∧ ∀ v z, f k = some v → D.atKey (.string k) z = .held v) (s : List UInt8) (val : Value) :
    ∀ k, Maps.has (D.put (.string s) (.held val)) (.string k) = (fset f s val k).isSome ∧ ∀ v z, fset f s val k = some v → (D.put (.string s) (.held val)).atKey (.string k) z = .held v := by
  intro k
  unfold fset
  by_cases e : k = s
  · subst e
    rw [if_pos rfl]
    exact ⟨has_put_same hD (show WideAt.IsKeyLit (.string k) from trivial) _, fun v z hv => by rw [atKey_put_same hD (show WideAt.IsKeyLit (.string k) from trivial)]; simpa using hv⟩
  · have hne : Lit.string k ≠ Lit.string s := fun q => e (by simpa using q)
    rw [if_neg e, has_put_other hne]
    exact ⟨(h k).1, fun v z hv => by rw [atKey_put_other hne]; exact (h k).2 v z hv⟩
theorem FnAt.put {w : World} {b n : Nat} {f : List UInt8 → Option Value} (h : FnAt w b n f) {t e : TypeId} (ht : Tryd.prog.underlying t = some (.map 9 e)) (hn : n < maxLen) (s : ByteArray) (hs : s.size ≤ maxLen) (val : Value) :
    ∃ w', (Instr.mapUpdate t (.map (some b)) (.string s) val).run Tryd.prog w = .ok () w' ∧ FnAt w' b (n + 1) (fset f s.data.toList val) ∧ w.grownBy w' (some b) := by
  obtain ⟨D, h, k⟩ := h
  obtain ⟨w', r1, r2, r3⟩ := h.update strKeyed ht hn (WideMaps.keyOf_string_mk Tryd.underlying9 hs) (show heldE val = some (.held val, []) from rfl)
  exact ⟨w', r1, ⟨_, r2, fn_put h.isMap k _ _⟩, r3⟩
/-- An entry of a map that is written out. -/
theorem wpList_insert_fn {ops : Array Oper} {rest : List Oper} {o : Oper} {a : Act} {Q : Exit → Act → World → Prop} (w : World) (hg : o.guard = none) (m x v : Operand) (t e : TypeId) (hop : o.op = Op.insert t m x v) (ht : Tryd.prog.underlying t = some (.map 9 e)) (b n : Nat) (f : List UInt8 → Option Value)
    (hm : a.eval m = .map (some b)) (h : FnAt w b n f) (hn : n < maxLen) (s : ByteArray) (hs : s.size ≤ maxLen) (hx : a.eval x = .string s) (val : Value) (hv : a.eval v = val)
    (hK : ∀ w', FnAt w' b (n + 1) (fset f s.data.toList val) → w.grownBy w' (some b) → wpList Tryd.prog ops Q rest (a.put o.dst undef) w') : wpList Tryd.prog ops Q (o :: rest) a w := by
  refine wpList_plain hg fun K' hK' => ?_
  obtain ⟨w', hrun, r1, r2⟩ := h.put ht hn s hs val
  unfold Oper.wp
  simp [execOp, hop, hm, hx, hv, hrun, Result.andThen]
  exact hK' _ _ (hK w' r1 r2)
/-- A function without what it captures. -/
def fnV (f : FuncId) : Value := .func (.func f) #[] #[]
theorem grown_trans {a b c : World} {row : Option Nat} (h : a.grownBy b row) (k : b.grownBy c row) : a.grownBy c row :=
  ⟨k.os.trans h.os, k.tape.trans h.tape, k.output.trans h.output, Nat.le_trans h.size k.size, fun i hi hr => by rw [k.block i (Nat.lt_of_lt_of_le hi h.size) hr, h.block i hi hr]⟩
theorem heap_grown' {w w' : World} {row : Option Nat} (hg : w.grownBy w' row) {b : Nat} {o : Obj} (hne : row ≠ some b) (h : w.heap[b]? = some o) : w'.heap[b]? = some o := by
  rw [hg.block b (Array.getElem?_eq_some_iff.1 h).1 (fun e => hne e.symm)]; exact h
theorem alloc_row' {w : World} (o : Obj) {k : Nat} {x : Obj} (h : w.heap[k]? = some x) : (w.alloc o).heap[k]? = some x := by
  rw [Below.heap_alloc w o k (Array.getElem?_eq_some_iff.1 h).1]; exact h
end Go.Proofs.YtgcaohpaopemnaaDoor

/-
  THE MAPS OF FUNCTIONS THAT package flow MAKES.
-/
namespace Go.Proofs.YtgcaohpaopemnaaDoor
open Go.RowKit Go.Maps

/-- The map that reckonings makes. -/
def reckoningsF : List UInt8 → Option Value := fset (fset (fset (fnone) [43] (fnV 59)) [45] (fnV 60)) [42] (fnV 61)
set_option maxRecDepth 100000 in
theorem reckonings_any (w : World) : Calls Tryd.prog 30 #[] w fun e w' => e = .returned (.map (some w.heap.size)) ∧ FnAt w' w.heap.size 3 reckoningsF ∧ Below w.heap.size w w' := by
  have hmm := @run_makeMap Tryd.prog
  have H0 : Hid (FnAt (w.alloc (.map #[] 0)) w.heap.size 0 fnone) := FnAt.made w
  have hb0 : Below w.heap.size w (w.alloc (.map #[] 0)) := (Below.refl _ _).alloc (Nat.le_refl _) _
  have HB0 : Hid (Below w.heap.size w (w.alloc (.map #[] 0))) := hb0
  clear hb0
  go_enter Tryd.func30, Tryd.ntmps30
  go_wp2_with (first
    | (refine wpList_insert_fn _ rfl _ _ _ _ _ rfl Tryd.underlying73 w.heap.size 2 _ rfl H2.out (by decide) _ (by decide) rfl _ rfl ?_; intro w3 h3 g3; have H3 : Hid (FnAt w3 w.heap.size 3 _) := h3; clear h3)
    | (refine wpList_insert_fn _ rfl _ _ _ _ _ rfl Tryd.underlying73 w.heap.size 1 _ rfl H1.out (by decide) _ (by decide) rfl _ rfl ?_; intro w2 h2 g2; have H2 : Hid (FnAt w2 w.heap.size 2 _) := h2; clear h2)
    | (refine wpList_insert_fn _ rfl _ _ _ _ _ rfl Tryd.underlying73 w.heap.size 0 _ rfl H0.out (by decide) _ (by decide) rfl _ rfl ?_; intro w1 h1 g1; have H1 : Hid (FnAt w1 w.heap.size 1 _) := h1; clear h1)
    | go_in)
  have hb0 := HB0.out
  have hb1 := hb0.grown g1 hb0.size (fun k hk => by obtain rfl := Option.some.inj hk; exact Nat.le_refl _)
  have hb2 := hb1.grown g2 hb1.size (fun k hk => by obtain rfl := Option.some.inj hk; exact Nat.le_refl _)
  have hb3 := hb2.grown g3 hb2.size (fun k hk => by obtain rfl := Option.some.inj hk; exact Nat.le_refl _)
  go_ret
  exact ⟨rfl, H3.out, hb3⟩
/-- The map that divisions makes. -/
def divisionsF : List UInt8 → Option Value := fset (fset (fnone) [47] (fnV 62)) [109, 111, 100] (fnV 63)
set_option maxRecDepth 100000 in
theorem divisions_any (w : World) : Calls Tryd.prog 32 #[] w fun e w' => e = .returned (.map (some w.heap.size)) ∧ FnAt w' w.heap.size 2 divisionsF ∧ Below w.heap.size w w' := by
  have hmm := @run_makeMap Tryd.prog
  have H0 : Hid (FnAt (w.alloc (.map #[] 0)) w.heap.size 0 fnone) := FnAt.made w
  have hb0 : Below w.heap.size w (w.alloc (.map #[] 0)) := (Below.refl _ _).alloc (Nat.le_refl _) _
  have HB0 : Hid (Below w.heap.size w (w.alloc (.map #[] 0))) := hb0
  clear hb0
  go_enter Tryd.func32, Tryd.ntmps32
  go_wp2_with (first
    | (refine wpList_insert_fn _ rfl _ _ _ _ _ rfl Tryd.underlying73 w.heap.size 1 _ rfl H1.out (by decide) _ (by decide) rfl _ rfl ?_; intro w2 h2 g2; have H2 : Hid (FnAt w2 w.heap.size 2 _) := h2; clear h2)
    | (refine wpList_insert_fn _ rfl _ _ _ _ _ rfl Tryd.underlying73 w.heap.size 0 _ rfl H0.out (by decide) _ (by decide) rfl _ rfl ?_; intro w1 h1 g1; have H1 : Hid (FnAt w1 w.heap.size 1 _) := h1; clear h1)
    | go_in)
  have hb0 := HB0.out
  have hb1 := hb0.grown g1 hb0.size (fun k hk => by obtain rfl := Option.some.inj hk; exact Nat.le_refl _)
  have hb2 := hb1.grown g2 hb1.size (fun k hk => by obtain rfl := Option.some.inj hk; exact Nat.le_refl _)
  go_ret
  exact ⟨rfl, H2.out, hb2⟩
/-- The map that truths makes. -/
def truthsF : List UInt8 → Option Value := fset (fset (fset (fset (fset (fset (fset (fset (fset (fset (fnone) [97, 110, 100] (fnV 64)) [111, 114] (fnV 65)) [120, 111, 114] (fnV 66)) [61, 62] (fnV 67)) [61] (fnV 68)) [60, 62] (fnV 69)) [60] (fnV 70)) [60, 61] (fnV 71)) [62] (fnV 72)) [62, 61] (fnV 73)
set_option maxRecDepth 100000 in
theorem truths_any (w : World) : Calls Tryd.prog 34 #[] w fun e w' => e = .returned (.map (some w.heap.size)) ∧ FnAt w' w.heap.size 10 truthsF ∧ Below w.heap.size w w' := by
  have hmm := @run_makeMap Tryd.prog
  have H0 : Hid (FnAt (w.alloc (.map #[] 0)) w.heap.size 0 fnone) := FnAt.made w
  have hb0 : Below w.heap.size w (w.alloc (.map #[] 0)) := (Below.refl _ _).alloc (Nat.le_refl _) _
  have HB0 : Hid (Below w.heap.size w (w.alloc (.map #[] 0))) := hb0
  clear hb0
  go_enter Tryd.func34, Tryd.ntmps34
  go_wp2_with (first
    | (refine wpList_insert_fn _ rfl _ _ _ _ _ rfl Tryd.underlying75 w.heap.size 9 _ rfl H9.out (by decide) _ (by decide) rfl _ rfl ?_; intro w10 h10 g10; have H10 : Hid (FnAt w10 w.heap.size 10 _) := h10; clear h10)
    | (refine wpList_insert_fn _ rfl _ _ _ _ _ rfl Tryd.underlying75 w.heap.size 8 _ rfl H8.out (by decide) _ (by decide) rfl _ rfl ?_; intro w9 h9 g9; have H9 : Hid (FnAt w9 w.heap.size 9 _) := h9; clear h9)
    | (refine wpList_insert_fn _ rfl _ _ _ _ _ rfl Tryd.underlying75 w.heap.size 7 _ rfl H7.out (by decide) _ (by decide) rfl _ rfl ?_; intro w8 h8 g8; have H8 : Hid (FnAt w8 w.heap.size 8 _) := h8; clear h8)
    | (refine wpList_insert_fn _ rfl _ _ _ _ _ rfl Tryd.underlying75 w.heap.size 6 _ rfl H6.out (by decide) _ (by decide) rfl _ rfl ?_; intro w7 h7 g7; have H7 : Hid (FnAt w7 w.heap.size 7 _) := h7; clear h7)
    | (refine wpList_insert_fn _ rfl _ _ _ _ _ rfl Tryd.underlying75 w.heap.size 5 _ rfl H5.out (by decide) _ (by decide) rfl _ rfl ?_; intro w6 h6 g6; have H6 : Hid (FnAt w6 w.heap.size 6 _) := h6; clear h6)
    | (refine wpList_insert_fn _ rfl _ _ _ _ _ rfl Tryd.underlying75 w.heap.size 4 _ rfl H4.out (by decide) _ (by decide) rfl _ rfl ?_; intro w5 h5 g5; have H5 : Hid (FnAt w5 w.heap.size 5 _) := h5; clear h5)
    | (refine wpList_insert_fn _ rfl _ _ _ _ _ rfl Tryd.underlying75 w.heap.size 3 _ rfl H3.out (by decide) _ (by decide) rfl _ rfl ?_; intro w4 h4 g4; have H4 : Hid (FnAt w4 w.heap.size 4 _) := h4; clear h4)
    | (refine wpList_insert_fn _ rfl _ _ _ _ _ rfl Tryd.underlying75 w.heap.size 2 _ rfl H2.out (by decide) _ (by decide) rfl _ rfl ?_; intro w3 h3 g3; have H3 : Hid (FnAt w3 w.heap.size 3 _) := h3; clear h3)
    | (refine wpList_insert_fn _ rfl _ _ _ _ _ rfl Tryd.underlying75 w.heap.size 1 _ rfl H1.out (by decide) _ (by decide) rfl _ rfl ?_; intro w2 h2 g2; have H2 : Hid (FnAt w2 w.heap.size 2 _) := h2; clear h2)
    | (refine wpList_insert_fn _ rfl _ _ _ _ _ rfl Tryd.underlying75 w.heap.size 0 _ rfl H0.out (by decide) _ (by decide) rfl _ rfl ?_; intro w1 h1 g1; have H1 : Hid (FnAt w1 w.heap.size 1 _) := h1; clear h1)
    | go_in)
  have hb0 := HB0.out
  have hb1 := hb0.grown g1 hb0.size (fun k hk => by obtain rfl := Option.some.inj hk; exact Nat.le_refl _)
  have hb2 := hb1.grown g2 hb1.size (fun k hk => by obtain rfl := Option.some.inj hk; exact Nat.le_refl _)
  have hb3 := hb2.grown g3 hb2.size (fun k hk => by obtain rfl := Option.some.inj hk; exact Nat.le_refl _)
  have hb4 := hb3.grown g4 hb3.size (fun k hk => by obtain rfl := Option.some.inj hk; exact Nat.le_refl _)
  have hb5 := hb4.grown g5 hb4.size (fun k hk => by obtain rfl := Option.some.inj hk; exact Nat.le_refl _)
  have hb6 := hb5.grown g6 hb5.size (fun k hk => by obtain rfl := Option.some.inj hk; exact Nat.le_refl _)
  have hb7 := hb6.grown g7 hb6.size (fun k hk => by obtain rfl := Option.some.inj hk; exact Nat.le_refl _)
  have hb8 := hb7.grown g8 hb7.size (fun k hk => by obtain rfl := Option.some.inj hk; exact Nat.le_refl _)
  have hb9 := hb8.grown g9 hb8.size (fun k hk => by obtain rfl := Option.some.inj hk; exact Nat.le_refl _)
  have hb10 := hb9.grown g10 hb9.size (fun k hk => by obtain rfl := Option.some.inj hk; exact Nat.le_refl _)
  go_ret
  exact ⟨rfl, H10.out, hb10⟩
end Go.Proofs.YtgcaohpaopemnaaDoor
