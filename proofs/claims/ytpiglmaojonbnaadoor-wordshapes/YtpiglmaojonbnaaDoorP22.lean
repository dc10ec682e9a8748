/-
  THE DOCUMENT's OPERATORS (lustrumref2): Around, Truth, Right BY CONTRACT; values in memory.
-/
import Derived.Test.YtpiglmaojonbnaaDoorP10
import Derived.Handy
import Derived.Deep.QuietTactic
import Derived.BigQuiet
import Derived.WalkSmall
import Derived.LoopTactic
import Derived.Deep.RegionLaw
import Derived.Maps.OwnSet
import Derived.Maps.RangeWalk
import Derived.StringKeys
namespace Go.Proofs.YtpiglmaojonbnaaDoor
open Go.RowKit

/-- An int of eight bits. -/
def aroundI (n : Int) : Int := (n + 128) % 256 - 128
theorem aroundI_of (n : Int) : aroundI n = (let r := n.tmod 256; let s := if r < 0 then r + 256 else r; if 127 < s then s - 256 else s) := by
  have h : n.tmod 256 = n % 256 ∨ n.tmod 256 = n % 256 - 256 ∧ n % 256 ≠ 0 := by
    rcases Int.lt_or_le n 0 with h | h
    · have e : n.tmod 256 = -((-n) % 256) := by
        have := Int.neg_tmod (-n) 256
        rw [Int.neg_neg] at this
        rw [this, Int.tmod_eq_emod_of_nonneg (by omega)]
      rw [e]
      omega
    · exact .inl (Int.tmod_eq_emod_of_nonneg h)
  unfold aroundI
  simp only
  split <;> split <;> omega
/-- A bool's value. -/
def truthI (b : Bool) : Int := if b = true then 1 else 0
/-- Is it a value of that kind? -/
def rightB (k n kind : Int) : Bool := if k = kind then (if kind = 1 then (decide (n = 0) || decide (n = 1)) else (decide (kind = 2) && (decide (-129 < n) && decide (n < 128)))) else false
set_option maxRecDepth 100000 in
theorem right_any (k n kind : Int) (w : World) : Calls Tryd.prog 14 #[.agg #[.int .i64 k, .int .i64 n], .int .i64 kind] w fun e w' => e = .returned (.bool (rightB k n kind)) ∧ Below w.heap.size w w' := by
  have hb : Below w.heap.size w (w.alloc (.cells #[.int .i64 k, .int .i64 n] 33)) := (Below.refl _ _).alloc (Nat.le_refl _) _
  by_cases h1 : k = kind
  · subst h1
    by_cases h2 : k = 1
    · subst h2
      by_cases h3 : n = 0
      · subst h3
        go_enter Tryd.func14, Tryd.ntmps14
        go_wp2
        go_ret
        exact ⟨rfl, hb⟩
      · have d3 : (n == 0) = false := beq_eq_false_iff_ne.2 h3
        by_cases h4 : n = 1
        · subst h4
          go_enter Tryd.func14, Tryd.ntmps14
          go_wp2
          go_ret
          exact ⟨rfl, hb⟩
        · have d4 : (n == 1) = false := beq_eq_false_iff_ne.2 h4
          have E : Hid (rightB 1 n 1 = false) := by unfold Hid rightB; simp [h3, h4]
          clear h3 h4
          go_enter Tryd.func14, Tryd.ntmps14
          go_wp2
          go_ret
          exact ⟨by rw [E.out]; rfl, hb⟩
    · have d2 : (k == 1) = false := beq_eq_false_iff_ne.2 h2
      by_cases h3 : k = 2
      · subst h3
        by_cases h4 : -129 < n
        · have d4 : ((-129 : Int) < n) = True := eq_true h4
          by_cases h5 : n < 128
          · have d5 : (n < 128) = True := eq_true h5
            have E : Hid (rightB 2 n 2 = true) := by unfold Hid rightB; simp [h4, h5]
            clear h4 h5 h2 d2
            go_enter Tryd.func14, Tryd.ntmps14
            go_wp2
            go_ret
            exact ⟨by rw [E.out]; rfl, hb⟩
          · have d5 : (n < 128) = False := eq_false h5
            have E : Hid (rightB 2 n 2 = false) := by unfold Hid rightB; simp [h5]
            clear h4 h5 h2 d2
            go_enter Tryd.func14, Tryd.ntmps14
            go_wp2
            go_ret
            exact ⟨by rw [E.out]; rfl, hb⟩
        · have d4 : ((-129 : Int) < n) = False := eq_false h4
          have E : Hid (rightB 2 n 2 = false) := by unfold Hid rightB; simp [h4]
          clear h4 h2 d2
          go_enter Tryd.func14, Tryd.ntmps14
          go_wp2
          go_ret
          exact ⟨by rw [E.out]; rfl, hb⟩
      · have d3 : (k == 2) = false := beq_eq_false_iff_ne.2 h3
        have E : Hid (rightB k n k = false) := by unfold Hid rightB; simp [h2, h3]
        clear h2 h3
        go_enter Tryd.func14, Tryd.ntmps14
        go_wp2
        go_ret
        exact ⟨by rw [E.out]; rfl, hb⟩
  · have d1 : (k == kind) = false := beq_eq_false_iff_ne.2 h1
    have d1' : (k != kind) = true := by simp [h1]
    have E : Hid (rightB k n kind = false) := by unfold Hid rightB; rw [if_neg h1]
    clear h1
    go_enter Tryd.func14, Tryd.ntmps14
    go_wp2
    go_ret
    exact ⟨by rw [E.out]; rfl, hb⟩

theorem cell_lt {w : World} {p : Addr} {v : Value} (hc : w.cell? p = some v) : p.block < w.heap.size := by
  rcases Nat.lt_or_ge p.block w.heap.size with h | h
  · exact h
  · simp [World.cell?, Array.getElem?_eq_none h] at hc
/-- Values one behind the other. -/
def ValsAt (w : World) (v : Value) (l : List (Int × Int)) : Prop := l.length ≤ maxLen ∧ ∃ o c, v = .slice o l.length c ∧ ∀ k x, l[k]? = some x → ∃ b off, o = some ⟨b, off, none⟩ ∧ w.cell? ⟨b, off + k * 2, none⟩ = some (.int .i64 x.1) ∧ w.cell? ⟨b, off + k * 2 + 1, none⟩ = some (.int .i64 x.2)
theorem ValsAt.below {w w' : World} {v : Value} {l : List (Int × Int)} (h : ValsAt w v l) (hb : Below w.heap.size w w') : ValsAt w' v l := by
  obtain ⟨hl, o, c, rfl, h⟩ := h
  refine ⟨hl, o, c, rfl, fun k x hk => ?_⟩
  obtain ⟨b, off, e, c0, c1⟩ := h k x hk
  exact ⟨b, off, e, cell_keep hb c0, cell_keep hb c1⟩
end Go.Proofs.YtpiglmaojonbnaaDoor

/-
  MAPS OF FUNCTIONS BY NAMES: made, written, looked up, ranged over.
-/
namespace Go.Proofs.YtpiglmaojonbnaaDoor
open Go.RowKit Go.Maps

/-- A value reads as itself. -/
def heldE : Value → Option (DataW Value × List MemPlace) := fun v => some (.held v, [])
def fset (f : List UInt8 → Option Value) (k : List UInt8) (v : Value) : List UInt8 → Option Value := fun x => if x = k then some v else f x
def fnone : List UInt8 → Option Value := fun _ => none
/-- The map in block b has at most n entries, and they are these. -/
def FnAt (w : World) (b n : Nat) (f : List UInt8 → Option Value) : Prop := ∃ D : DataW Value, w.ownsMap Tryd.prog 9 heldE b n D ∧ ∀ k, Maps.has D (.string k) = (f k).isSome ∧ ∀ v z, f k = some v → D.atKey (.string k) z = .held v
theorem strKeyed : Keyed Tryd.prog 9 := string_keyed Tryd.underlying9
theorem FnAt.lt {w : World} {b n : Nat} {f : List UInt8 → Option Value} (h : FnAt w b n f) : b < w.heap.size := by
  obtain ⟨D, h, _⟩ := h
  exact h.lt
theorem FnAt.kept {w w' : World} {b n : Nat} {f : List UInt8 → Option Value} (h : FnAt w b n f) (e : w'.heap[b]? = w.heap[b]?) : FnAt w' b n f := by
  obtain ⟨D, ⟨es, clock, hb, r⟩, k⟩ := h
  exact ⟨D, ⟨es, clock, by rw [e]; exact hb, r⟩, k⟩
theorem FnAt.made (w : World) : FnAt (w.alloc (.map #[] 0)) w.heap.size 0 fnone :=
  ⟨.map [], World.ownsMap_made w _ _ _, fun k => ⟨rfl, fun v z h => by simp [fnone] at h⟩⟩
theorem fn_put {D : DataW Value} {f : List UInt8 → Option Value} (hD : IsMap D) (h : ∀ k, Maps.has D (.string k) = (f k).isSome ∧ ∀ v z, f k = some v → D.atKey (.string k) z = .held v) (s : List UInt8) (val : Value) :
    ∀ k, Maps.has (D.put (.string s) (.held val)) (.string k) = (fset f s val k).isSome ∧ ∀ v z, fset f s val k = some v → (D.put (.string s) (.held val)).atKey (.string k) z = .held v := by
  intro k
  unfold fset
  by_cases e : k = s
  · subst e
    rw [if_pos rfl]
    exact ⟨has_put_same hD (show WideAt.IsKeyLit (.string k) from trivial) _, fun v z hv => by rw [atKey_put_same hD (show WideAt.IsKeyLit (.string k) from trivial)]; simpa using hv⟩
  · have hne : Lit.string k ≠ Lit.string s := fun q => e (by simpa using q)
    rw [if_neg e, has_put_other hne]
    exact ⟨(h k).1, fun v z hv => by rw [atKey_put_other hne]; exact (h k).2 v z hv⟩
theorem FnAt.put {w : World} {b n : Nat} {f : List UInt8 → Option Value} (h : FnAt w b n f) {t e : TypeId} (ht : Tryd.prog.underlying t = some (.map 9 e)) (hn : n < maxLen) (s : ByteArray) (hs : s.size ≤ maxLen) (val : Value) :
    ∃ w', (Instr.mapUpdate t (.map (some b)) (.string s) val).run Tryd.prog w = .ok () w' ∧ FnAt w' b (n + 1) (fset f s.data.toList val) ∧ w.grownBy w' (some b) := by
  obtain ⟨D, h, k⟩ := h
  obtain ⟨w', r1, r2, r3⟩ := h.update strKeyed ht hn (WideMaps.keyOf_string_mk Tryd.underlying9 hs) (show heldE val = some (.held val, []) from rfl)
  exact ⟨w', r1, ⟨_, r2, fn_put h.isMap k _ _⟩, r3⟩
/-- An entry of a map that is written out. -/
theorem wpList_insert_fn {ops : Array Oper} {rest : List Oper} {o : Oper} {a : Act} {Q : Exit → Act → World → Prop} (w : World) (hg : o.guard = none) (m x v : Operand) (t e : TypeId) (hop : o.op = Op.insert t m x v) (ht : Tryd.prog.underlying t = some (.map 9 e)) (b n : Nat) (f : List UInt8 → Option Value)
    (hm : a.eval m = .map (some b)) (h : FnAt w b n f) (hn : n < maxLen) (s : ByteArray) (hs : s.size ≤ maxLen) (hx : a.eval x = .string s) (val : Value) (hv : a.eval v = val)
    (hK : ∀ w', FnAt w' b (n + 1) (fset f s.data.toList val) → w.grownBy w' (some b) → wpList Tryd.prog ops Q rest (a.put o.dst undef) w') : wpList Tryd.prog ops Q (o :: rest) a w := by
  refine wpList_plain hg fun K' hK' => ?_
  obtain ⟨w', hrun, r1, r2⟩ := h.put ht hn s hs val
  unfold Oper.wp
  simp [execOp, hop, hm, hx, hv, hrun, Result.andThen]
  exact hK' _ _ (hK w' r1 r2)
/-- A function without what it captures. -/
def fnV (f : FuncId) : Value := .func (.func f) #[] #[]
theorem grown_trans {a b c : World} {row : Option Nat} (h : a.grownBy b row) (k : b.grownBy c row) : a.grownBy c row :=
  ⟨k.os.trans h.os, k.tape.trans h.tape, k.output.trans h.output, Nat.le_trans h.size k.size, fun i hi hr => by rw [k.block i (Nat.lt_of_lt_of_le hi h.size) hr, h.block i hi hr]⟩
theorem heap_grown' {w w' : World} {row : Option Nat} (hg : w.grownBy w' row) {b : Nat} {o : Obj} (hne : row ≠ some b) (h : w.heap[b]? = some o) : w'.heap[b]? = some o := by
  rw [hg.block b (Array.getElem?_eq_some_iff.1 h).1 (fun e => hne e.symm)]; exact h
theorem alloc_row' {w : World} (o : Obj) {k : Nat} {x : Obj} (h : w.heap[k]? = some x) : (w.alloc o).heap[k]? = some x := by
  rw [Below.heap_alloc w o k (Array.getElem?_eq_some_iff.1 h).1]; exact h
end Go.Proofs.YtpiglmaojonbnaaDoor
