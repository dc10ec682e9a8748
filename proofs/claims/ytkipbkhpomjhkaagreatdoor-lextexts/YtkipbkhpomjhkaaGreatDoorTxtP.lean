/-
  TOKENS OF ANY MAKE IN MEMORY, AND THE TEXT THAT ONE BLANK BETWEEN THEM MAKES, IN PLAIN MATHEMATICS.
-/
import Derived.Test.YtkipbkhpomjhkaaGreatDoorCoded
import Derived.Test.YtkipbkhpomjhkaaGreatDoorBld
import Derived.WalkKit
namespace Go.Proofs.YtkipbkhpomjhkaaGreatDoor
open Go.RowKit

/-- n tokens lie behind ao: kinds K, texts X, places Z. -/
def Toks (w : World) (ao : Option Addr) (n : Nat) (K X : Nat → ByteArray) (Z : Nat → Int) : Prop :=
  ∀ i, i < n → ∃ b off, ao = some ⟨b, off, none⟩ ∧ w.cell? ⟨b, off + i * 3, none⟩ = some (.string (K i)) ∧ w.cell? ⟨b, off + i * 3 + 1, none⟩ = some (.string (X i)) ∧ w.cell? ⟨b, off + i * 3 + 2, none⟩ = some (.int .i64 (Z i))
theorem Toks.keep {w w' : World} {ao : Option Addr} {n : Nat} {K X : Nat → ByteArray} {Z : Nat → Int} (T : Toks w ao n K X Z) (hb : Below w.heap.size w w') : Toks w' ao n K X Z := fun i hi => by
  obtain ⟨b, off, h, h0, h1, h2⟩ := T i hi
  exact ⟨b, off, h, cell_keep hb h0, cell_keep hb h1, cell_keep hb h2⟩
theorem Toks.less {w : World} {ao : Option Addr} {n m : Nat} {K X : Nat → ByteArray} {Z : Nat → Int} (T : Toks w ao n K X Z) (h : m ≤ n) : Toks w ao m K X Z := fun i hi => T i (by omega)

/-- The first m texts, one blank between. -/
def joinT (X : Nat → ByteArray) : Nat → ByteArray
  | 0 => ⟨#[]⟩
  | m + 1 => (if 0 < m then joinT X m ++ ⟨#[32]⟩ else joinT X m) ++ X m
theorem size_app (a b : ByteArray) : (a ++ b).size = a.size + b.size := ByteArray.size_append
theorem joinT_step (X : Nat → ByteArray) (m : Nat) : (joinT X (m + 1)).size = (joinT X m).size + (if 0 < m then 1 else 0) + (X m).size := by
  show ((if 0 < m then joinT X m ++ ⟨#[32]⟩ else joinT X m) ++ X m).size = _
  rw [size_app]
  split
  · rw [size_app]; rfl
  · rfl
theorem joinT_mono (X : Nat → ByteArray) {m k : Nat} (h : m ≤ k) : (joinT X m).size ≤ (joinT X k).size := by
  induction h with
  | refl => exact Nat.le_refl _
  | step _ ih => rw [joinT_step]; omega
theorem joinT_one (X : Nat → ByteArray) : joinT X 1 = joinT X 0 ++ X 0 := rfl
theorem joinT_more (X : Nat → ByteArray) {m : Nat} (h : 0 < m) : joinT X (m + 1) = joinT X m ++ ⟨#[32]⟩ ++ X m := by
  show (if 0 < m then joinT X m ++ ⟨#[32]⟩ else joinT X m) ++ X m = _
  rw [if_pos h]
theorem strCells_app (a b : ByteArray) : Lib.strCells (a ++ b) = Lib.strCells a ++ Lib.strCells b := by
  rw [Lib.strCells, Lib.strCells, Lib.strCells, ← List.map_append, ByteArray.data_append, Array.toList_append]
theorem empty_app (a : ByteArray) : (⟨#[]⟩ : ByteArray) ++ a = a := by
  apply ByteArray.ext
  rw [ByteArray.data_append]; simp

/-- The same kinds and texts. -/
def Same (n m : Nat) (K X K' X' : Nat → ByteArray) : Prop := n = m ∧ ∀ i, i < n → K i = K' i ∧ X i = X' i
theorem list_inj {s t : ByteArray} (h : s.toList = t.toList) : s = t := by
  rw [ByteArray.toList_eq, ByteArray.toList_eq] at h
  exact ByteArray.ext (Array.toList_inj.1 h)
end Go.Proofs.YtkipbkhpomjhkaaGreatDoor
