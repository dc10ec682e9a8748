/-
  WHAT IS READ OF OLD MEMORY IS READ OF IT LATER.
-/
import Derived.Test.YtgbpccipdcajgaaGreatDoorChecked
import Derived.LoopTactic
import Derived.Below
import Derived.WalkKit
import Derived.Test.YtgbpccipdcajgaaGreatDoorQ01
import Derived.Lib.Strings
namespace Go.Proofs.YtgbpccipdcajgaaGreatDoor
open Go.RowKit
theorem cell_keep {w w' : World} (hb : Below w.heap.size w w') {p : Addr} {v : Value} (hc : w.cell? p = some v) : w'.cell? p = some v := by
 have hp : p.block < w.heap.size := by
  rcases Nat.lt_or_ge p.block w.heap.size with h | h
  ·exact h
  ·simp [World.cell?, Array.getElem?_eq_none h] at hc
 rw [hb.cell hp]; exact hc
theorem row_keep {w w' : World} (hb : Below w.heap.size w w') {k : Nat} {o : Obj} (hc : w.heap[k]? = some o) : w'.heap[k]? = some o := by
 have hp : k < w.heap.size := by
  rcases Nat.lt_or_ge k w.heap.size with h | h
  ·exact h
  ·simp [Array.getElem?_eq_none h] at hc
 rw [hb.block k hp]; exact hc
end Go.Proofs.YtgbpccipdcajgaaGreatDoor
namespace Go.Proofs.YtgbpccipdcajgaaGreatDoor
def comB (s : ByteArray) (i : Nat) : Bool := decide (i + 1 < s.size) && (byteI s i == 45) && (byteI s (i + 1) == 45)
inductive Skips (s : ByteArray) : Nat → Nat → Prop
 | refl (i : Nat) : Skips s i i
 | blank (i j : Nat) : i < s.size → blankI (byteI s i) = true → Skips s (i + 1) j → Skips s i j
 | comment (i n j : Nat) : comB s i = true → blankI (byteI s i) = false → IsRun notNlI s i n → Skips s (i + n) j → Skips s i j
theorem Skips.trans {s : ByteArray} {i j k : Nat} (h : Skips s i j) (g : Skips s j k) : Skips s i k := by
 induction h with
 | refl => exact g
 | blank i j h1 h2 _ ih => exact .blank i k h1 h2 (ih g)
 | comment i n j h1 h2 h3 _ ih => exact .comment i n k h1 h2 h3 (ih g)
theorem Skips.blanks {s : ByteArray} : ∀ (n i : Nat), i + n ≤ s.size → (∀ k, k < n → blankI (byteI s (i + k)) = true) → Skips s i (i + n)
 | 0, i, _, _ => .refl i
 | n + 1, i, hl, h => by
  refine .blank i _ (by omega) (by simpa using h 0 (by omega)) ?_
  have e : i + (n + 1) = (i + 1) + n := by omega
  rw [e]
  exact Skips.blanks n (i + 1) (by omega) (fun k hk => by have := h (k + 1) (by omega); rwa [show i + (k + 1) = i + 1 + k from by omega] at this)
structure Stands (s : ByteArray) (i j : Nat) : Prop where
 skips : Skips s i j
 le : j ≤ s.size
 blank : j < s.size → blankI (byteI s j) = false
theorem com_first {s : ByteArray} {i n : Nat} (h : comB s i = true) (r : IsRun notNlI s i n) : 2 ≤ n := by
 simp only [comB, Bool.and_eq_true, decide_eq_true_eq, beq_iff_eq] at h
 obtain ⟨⟨h1, h2⟩, h3⟩ := h
 rcases Nat.lt_or_ge n 2 with hn | hn
 ·have hs := r.stop (by omega)
  have : n = 0 ∨ n = 1 := by omega
  rcases this with rfl | rfl
  ·rw [Nat.add_zero, h2] at hs; cases hs
  ·rw [h3] at hs; cases hs
 ·exact hn
theorem byte_toNat {c : UInt8} {n : Nat} (hn : n < 256) : (c == UInt8.ofNat n) = ((c.toNat : Int) == (n : Int)) := by
 rw [Bool.eq_iff_iff, beq_iff_eq, beq_iff_eq, ← UInt8.toNat_inj, UInt8.toNat_ofNat']
 omega
theorem com_prefix (s : ByteArray) (i : Nat) (_h : i ≤ s.size) : Lib.hasPrefix (s.extract i s.size).data.toList [45, 45] = comB s i := by
 have hl : s.data.toList.length = s.size := Array.length_toList
 rw [Lib.extract_data, List.take_of_length_le (by rw [List.length_drop, hl]; omega)]
 unfold Lib.hasPrefix comB
 by_cases h2 : i + 1 < s.size
 ·have h1 : i < s.size := by omega
  rw [List.drop_eq_getElem_cons (by omega), List.drop_eq_getElem_cons (by omega)]
  rw [byteI_data s i h1, byteI_data s (i + 1) h2]
  simp only [h2, decide_true, Bool.true_and, List.isPrefixOf, Bool.and_true]
  have e1 : ∀ c : UInt8, ((45 : UInt8) == c) = ((c.toNat : Int) == 45) := fun c => by
   rw [Bool.beq_comm]; exact byte_toNat (n := 45) (by decide)
  rw [e1, e1]
 ·have h3 : ¬ i + 1 < s.size := h2
  simp only [h3, decide_false, Bool.false_and]
  have hd : (s.data.toList.drop i).length ≤ 1 := by rw [List.length_drop, hl]; omega
  rcases hx : s.data.toList.drop i with _ | ⟨c, _ | ⟨d, r⟩⟩
  ·rfl
  ·simp [List.isPrefixOf]
  ·rw [hx] at hd; simp at hd
end Go.Proofs.YtgbpccipdcajgaaGreatDoor
