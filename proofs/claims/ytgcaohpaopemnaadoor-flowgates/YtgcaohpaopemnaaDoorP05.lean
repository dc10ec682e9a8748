/-
  THE DOCUMENT's OPERATORS: ApplyOf BY CONTRACT, operator by operator.
-/
import Derived.Test.YtgcaohpaopemnaaDoorP01
import Derived.Deep.RegionHeld
import Derived.Deep.AppendLies
import Derived.OwnWalk
namespace Go.Proofs.YtgcaohpaopemnaaDoor
open Go.RowKit

/-- A value's number is small. -/
def Sm (n : Int) : Prop := -129 < n ∧ n < 129
theorem mul_small {x y : Int} (hx : -129 < x ∧ x < 129) (hy : -129 < y ∧ y < 129) : -16641 < x * y ∧ x * y < 16641 := by
  have h1 : x.natAbs * y.natAbs ≤ 128 * 128 := Nat.mul_le_mul (by omega) (by omega)
  have h2 : (x * y).natAbs = x.natAbs * y.natAbs := Int.natAbs_mul x y
  omega
end Go.Proofs.YtgcaohpaopemnaaDoor

/-
  THE DOCUMENT's OPERATORS: ApplyOf BY CONTRACT, mod.
-/
namespace Go.Proofs.YtgcaohpaopemnaaDoor
open Go.RowKit

theorem orow {w : World} (o : Obj) {k : Nat} {x : Obj} (h : w.heap[k]? = some x) : (w.alloc o).heap[k]? = some x := by
  rw [Below.heap_alloc w o k (Array.getElem?_eq_some_iff.1 h).1]; exact h
theorem cell_far2 (w : World) (p q a : Addr) (u v : Value) (h : p.block ≠ a.block) (h' : q.block ≠ a.block) : ((w.setCell p u).setCell q v).drew.cell? a = w.cell? a := by
  have e : ((w.setCell p u).setCell q v).drew.cell? a = ((w.setCell p u).setCell q v).cell? a := by simp
  rw [e, World.cell?_setCell_far _ _ _ _ h', World.cell?_setCell_far _ _ _ _ h]
end Go.Proofs.YtgcaohpaopemnaaDoor

/-
  THE DOCUMENT's OPERATORS: Arity BY CONTRACT.
-/
namespace Go.Proofs.YtgcaohpaopemnaaDoor
open Go.RowKit

/-- The operators, how many parts they have (-1: any). -/
def opL : List (List UInt8 × Int) := [([105, 110, 116], 0), ([116, 114, 117, 101], 0), ([102, 97, 108, 115, 101], 0), ([110, 97, 109, 101], 0), ([105, 102], 3), ([45, 62], 2), ([102, 98, 121], 2), ([111, 114], 2), ([120, 111, 114], 2), ([97, 110, 100], 2), ([110, 111, 116], 1), ([61], 2), ([60, 62], 2), ([60], 2), ([60, 61], 2), ([62], 2), ([62, 61], 2), ([61, 62], 2), ([43], 2), ([45], 2), ([42], 2), ([47], 2), ([109, 111, 100], 2), ([110, 101, 103], 1), ([112, 114, 101], 1), ([99, 97, 108, 108], -1)]
end Go.Proofs.YtgcaohpaopemnaaDoor

/-
  THE DOCUMENT's OPERATORS: lustrumref1.Result BY CONTRACT, of the operators that are applied, of right kinds.
-/
namespace Go.Proofs.YtgcaohpaopemnaaDoor
open Go.RowKit

/-- Kinds one behind the other. -/
def KindsAt (w : World) (v : Value) (l : List Int) : Prop := l.length ≤ maxLen ∧ ∃ o c, v = .slice o l.length c ∧ ∀ k x, l[k]? = some x → ∃ b off, o = some ⟨b, off, none⟩ ∧ w.cell? ⟨b, off + k, none⟩ = some (.int .i64 x)
theorem below_drewO {B : Nat} {a w : World} (h : Below B a w) (n : Nat) : Below B a (w.drewN n) := ⟨h.os, h.tape, h.output, h.size, h.block⟩
/-- Of one kind, to a kind. -/
def sameI (x y a b : Int) : Int := if a = b ∧ (x = 0 ∨ b = x) then y else 0
/-- An 'if'. -/
def ifI (a b c : Int) : Int := if a = 1 ∧ b = c then c else 0
end Go.Proofs.YtgcaohpaopemnaaDoor

/-
  THE DOCUMENT's OPERATORS: lustrumref2.IsApply BY CONTRACT: what is told at once.
-/
namespace Go.Proofs.YtgcaohpaopemnaaDoor
open Go.RowKit

end Go.Proofs.YtgcaohpaopemnaaDoor

/-
  THE DOCUMENT's OPERATORS: lustrumref2.IsApply BY CONTRACT: its loop.
-/
namespace Go.Proofs.YtgcaohpaopemnaaDoor
open Go.RowKit

theorem owns_keepO {w w' : World} {base size n : Nat} {e : TypeId} {v : Value} {xs : List Value} (h : w.ownsRow base e size v n xs) (hk : Below w.heap.size w w') : w'.ownsRow base e size v n xs := by
  have hl := h.lt
  obtain ⟨h1, h2⟩ := h
  refine ⟨h1, ?_⟩
  rcases h2 with h2 | ⟨g, cap, cur, rfl, hb, hg, r⟩
  · exact .inl h2
  · exact .inr ⟨g, cap, cur, rfl, hb, by rw [hk.block g (hl g rfl).2]; exact hg, r⟩
theorem Tryd.infoI : (Tryd.prog.info? 3).map (fun i => (i.zero, i.size, i.bytes)) = some (some (.int .i64 0), 1, 8) := by kernel_rfl
theorem kinds_of_owns {w : World} {base n : Nat} {o : Option Addr} {c : Nat} {l : List Int} (h : w.ownsRow base 3 1 (.slice o n c) n (l.map (Value.int .i64))) (hn : l.length = n) (hm : n ≤ maxLen) : KindsAt w (.slice o n c) l := by
  subst hn
  refine ⟨hm, o, c, rfl, fun k x hk => ?_⟩
  have hlt := (List.getElem?_eq_some_iff.1 hk).1
  obtain ⟨g, cap, e, _, _⟩ := h.form (by omega)
  obtain ⟨rfl, rfl⟩ : o = some ⟨g, 0, none⟩ ∧ c = cap := by simpa using e
  have hadd' : ∀ j, (⟨g, 0, none⟩ : Addr).add j = ⟨g, 0 + j, none⟩ := fun j => by unfold Addr.add; split <;> simp_all
  refine ⟨g, 0, rfl, ?_⟩
  rw [← hadd']
  exact h.cells (g := g) rfl k _ (by simp [hk])
/-- What IsApply tells. -/
def isAns (ok : Bool) (res : Int) : Int := if ok = true then (if res = 0 then 5 else 0) else 5
/-- All are right values. -/
def allR (l : List (Int × Int)) : Bool := l.all fun x => rightB x.1 x.2 x.1

end Go.Proofs.YtgcaohpaopemnaaDoor

/-
  THE DOCUMENT's OPERATORS: IsApply, ApplyOf BY CONTRACT, of any operator and any values.
-/
namespace Go.Proofs.YtgcaohpaopemnaaDoor
open Go.RowKit

/-- The operators that are applied: how many parts; of which kind (0: any), to which kind. -/
def sigL : List (List UInt8 × Nat × Int × Int) := [([110, 111, 116], 1, 1, 1), ([110, 101, 103], 1, 2, 2), ([105, 102], 3, 0, 0), ([97, 110, 100], 2, 1, 1), ([111, 114], 2, 1, 1), ([120, 111, 114], 2, 1, 1), ([61, 62], 2, 1, 1), ([61], 2, 0, 1), ([60, 62], 2, 0, 1), ([60], 2, 2, 1), ([60, 61], 2, 2, 1), ([62], 2, 2, 1), ([62, 61], 2, 2, 1), ([43], 2, 2, 2), ([45], 2, 2, 2), ([42], 2, 2, 2), ([47], 2, 2, 2), ([109, 111, 100], 2, 2, 2)]
/-- The kind that an operator of kinds comes to (0: none). -/
def resI (t : List UInt8 × Nat × Int × Int) (l : List Int) : Int :=
  match l with
  | [a] => sameI t.2.2.1 t.2.2.2 a a
  | [a, b] => sameI t.2.2.1 t.2.2.2 a b
  | [a, b, d] => ifI a b d
  | _ => 0
/-- An error's number of an operator and values. -/
def isI (op : List UInt8) (l : List (Int × Int)) : Int :=
  match sigL.find? (fun t => t.1 == op) with
  | none => 3
  | some t => if t.2.1 = l.length then isAns (allR l) (resI t (l.map (·.1))) else 3
/-- What an operator comes to of values; does it trap? -/
def appT (op : List UInt8) (l : List (Int × Int)) : (Int × Int) × Bool :=
  match l with
  | [a] => if op = [110, 111, 116] then ((1, truthI (a.2 == 0)), false) else ((2, aroundI (256 - a.2)), false)
  | [a, b] => if op = [97, 110, 100] then ((1, truthI (a.2 + b.2 == 2)), false) else if op = [111, 114] then ((1, truthI (decide (0 < a.2 + b.2))), false) else if op = [120, 111, 114] then ((1, truthI (a.2 + b.2 == 1)), false) else if op = [61, 62] then ((1, truthI (decide (a.2 ≤ b.2))), false) else if op = [61] then ((1, truthI (a.2 == b.2)), false) else if op = [60, 62] then ((1, truthI (a.2 != b.2)), false) else if op = [60] then ((1, truthI (decide (a.2 < b.2))), false) else if op = [60, 61] then ((1, truthI (decide (a.2 ≤ b.2))), false) else if op = [62] then ((1, truthI (decide (b.2 < a.2))), false) else if op = [62, 61] then ((1, truthI (decide (b.2 ≤ a.2))), false) else if op = [43] then ((2, aroundI (a.2 + b.2)), false) else if op = [45] then ((2, aroundI (a.2 - b.2)), false) else if op = [42] then ((2, aroundI (a.2 * b.2)), false) else if b.2 = 0 then ((0, 0), true) else if op = [47] then ((2, aroundI (a.2.tdiv b.2)), false) else ((2, aroundI (a.2 - a.2.tdiv b.2 * b.2)), false)
  | [a, b, d] => (if a.2 = 1 then b else d, false)
  | _ => ((0, 0), true)
theorem right_kind {k n : Int} (h : rightB k n k = true) : (k = 1 ∨ k = 2) ∧ Sm n := by
  unfold rightB at h
  rw [if_pos rfl] at h
  by_cases h1 : k = 1
  · rw [if_pos h1] at h
    simp at h
    exact ⟨.inl h1, by unfold Sm; omega⟩
  · rw [if_neg h1] at h
    simp at h
    exact ⟨.inr h.1, by unfold Sm; omega⟩
theorem allR_get {l : List (Int × Int)} (h : allR l = true) {x : Int × Int} (hx : x ∈ l) : (x.1 = 1 ∨ x.1 = 2) ∧ Sm x.2 := by
  unfold allR at h
  exact right_kind (List.all_eq_true.1 h x hx)
theorem len_one {l : List (Int × Int)} (h : 1 = l.length) : ∃ a, l = [a] := by
  match l, h with
  | [a], _ => exact ⟨a, rfl⟩
theorem len_two {l : List (Int × Int)} (h : 2 = l.length) : ∃ a b, l = [a, b] := by
  match l, h with
  | [a, b], _ => exact ⟨a, b, rfl⟩
theorem len_three {l : List (Int × Int)} (h : 3 = l.length) : ∃ a b d, l = [a, b, d] := by
  match l, h with
  | [a, b, d], _ => exact ⟨a, b, d, rfl⟩
theorem isI_of {op : List UInt8} {l : List (Int × Int)} (t : List UInt8 × Nat × Int × Int) (h : sigL.find? (fun t => t.1 == op) = some t) : isI op l = if t.2.1 = l.length then isAns (allR l) (resI t (l.map (·.1))) else 3 := by
  unfold isI
  rw [h]
theorem isI_out {op : List UInt8} (l : List (Int × Int)) (h : sigL.find? (fun t => t.1 == op) = none) : isI op l = 3 := by
  unfold isI
  rw [h]
theorem isI_zero {op : List UInt8} {l : List (Int × Int)} (h : isI op l = 0) : ∃ t ∈ sigL, op = t.1 ∧ t.2.1 = l.length ∧ allR l = true ∧ resI t (l.map (·.1)) ≠ 0 := by
  unfold isI at h
  split at h
  · exact absurd h (by decide)
  · rename_i t ht
    have h1 := List.mem_of_find?_eq_some ht
    have h2 := List.find?_some ht
    by_cases hn : t.2.1 = l.length
    · rw [if_pos hn] at h
      unfold isAns at h
      by_cases hr : allR l = true
      · rw [if_pos hr] at h
        by_cases h0 : resI t (l.map (·.1)) = 0
        · rw [if_pos h0] at h; exact absurd h (by decide)
        · exact ⟨t, h1, (beq_iff_eq.1 h2).symm, hn, hr, h0⟩
      · rw [if_neg hr] at h; exact absurd h (by decide)
    · rw [if_neg hn] at h; exact absurd h (by decide)
end Go.Proofs.YtgcaohpaopemnaaDoor
