/-
  THE DOCUMENT's OPERATORS: IsApply, ApplyOf BY CONTRACT, of any operator and any values.
-/
import Derived.Test.YtiejfopholdbnaaGreatDoorQ11
import Derived.Test.YtiejfopholdbnaaGreatDoorQ06
namespace Go.Proofs.YtiejfopholdbnaaGreatDoor
open Go.RowKit
def sigL : List (List UInt8 × Nat × Int × Int) := [([110, 111, 116], 1, 1, 1), ([110, 101, 103], 1, 2, 2), ([105, 102], 3, 0, 0), ([97, 110, 100], 2, 1, 1), ([111, 114], 2, 1, 1), ([120, 111, 114], 2, 1, 1), ([61, 62], 2, 1, 1), ([61], 2, 0, 1), ([60, 62], 2, 0, 1), ([60], 2, 2, 1), ([60, 61], 2, 2, 1), ([62], 2, 2, 1), ([62, 61], 2, 2, 1), ([43], 2, 2, 2), ([45], 2, 2, 2), ([42], 2, 2, 2), ([47], 2, 2, 2), ([109, 111, 100], 2, 2, 2)]
def resI (t : List UInt8 × Nat × Int × Int) (l : List Int) : Int :=
 match l with
 | [a] => sameI t.2.2.1 t.2.2.2 a a
 | [a, b] => sameI t.2.2.1 t.2.2.2 a b
 | [a, b, d] => ifI a b d
 | _ => 0
def isI (op : List UInt8) (l : List (Int × Int)) : Int :=
 match sigL.find? (fun t => t.1 == op) with
 | none => 3
 | some t => if t.2.1 = l.length then isAns (allR l) (resI t (l.map (·.1))) else 3
def appT (op : List UInt8) (l : List (Int × Int)) : (Int × Int) × Bool :=
 match l with
 | [a] => if op = [110, 111, 116] then ((1, truthI (a.2 == 0)), false) else ((2, aroundI (256 - a.2)), false)
 | [a, b] => if op = [97, 110, 100] then ((1, truthI (a.2 + b.2 == 2)), false) else if op = [111, 114] then ((1, truthI (decide (0 < a.2 + b.2))), false) else if op = [120, 111, 114] then ((1, truthI (a.2 + b.2 == 1)), false) else if op = [61, 62] then ((1, truthI (decide (a.2 ≤ b.2))), false) else if op = [61] then ((1, truthI (a.2 == b.2)), false) else if op = [60, 62] then ((1, truthI (a.2 != b.2)), false) else if op = [60] then ((1, truthI (decide (a.2 < b.2))), false) else if op = [60, 61] then ((1, truthI (decide (a.2 ≤ b.2))), false) else if op = [62] then ((1, truthI (decide (b.2 < a.2))), false) else if op = [62, 61] then ((1, truthI (decide (b.2 ≤ a.2))), false) else if op = [43] then ((2, aroundI (a.2 + b.2)), false) else if op = [45] then ((2, aroundI (a.2 - b.2)), false) else if op = [42] then ((2, aroundI (a.2 * b.2)), false) else if b.2 = 0 then ((0, 0), true) else if op = [47] then ((2, aroundI (a.2.tdiv b.2)), false) else ((2, aroundI (a.2 - a.2.tdiv b.2 * b.2)), false)
 | [a, b, d] => (if a.2 = 1 then b else d, false)
 | _ => ((0, 0), true)
theorem right_kind {k n : Int} (h : rightB k n k = true) : (k = 1 ∨ k = 2) ∧ Sm n := by
 unfold rightB at h
 rw [if_pos rfl] at h
 by_cases h1 : k = 1
 ·rw [if_pos h1] at h
  simp at h
  exact ⟨.inl h1, by unfold Sm; omega⟩
 ·rw [if_neg h1] at h
  simp at h
  exact ⟨.inr h.1, by unfold Sm; omega⟩
theorem allR_get {l : List (Int × Int)} (h : allR l = true) {x : Int × Int} (hx : x ∈ l) : (x.1 = 1 ∨ x.1 = 2) ∧ Sm x.2 := by
 unfold allR at h
 exact right_kind (List.all_eq_true.1 h x hx)
theorem len_one {l : List (Int × Int)} (h : 1 = l.length) : ∃ a, l = [a] := by
 match l, h with
 | [a], _ => exact ⟨a, rfl⟩
theorem len_two {l : List (Int × Int)} (h : 2 = l.length) : ∃ a b, l = [a, b] := by
 match l, h with
 | [a, b], _ => exact ⟨a, b, rfl⟩
theorem len_three {l : List (Int × Int)} (h : 3 = l.length) : ∃ a b d, l = [a, b, d] := by
 match l, h with
 | [a, b, d], _ => exact ⟨a, b, d, rfl⟩
theorem isI_of {op : List UInt8} {l : List (Int × Int)} (t : List UInt8 × Nat × Int × Int) (h : sigL.find? (fun t => t.1 == op) = some t) : isI op l = if t.2.1 = l.length then isAns (allR l) (resI t (l.map (·.1))) else 3 := by
 unfold isI
 rw [h]
theorem isI_out {op : List UInt8} (l : List (Int × Int)) (h : sigL.find? (fun t => t.1 == op) = none) : isI op l = 3 := by
 unfold isI
 rw [h]
def IsOk (op : ByteArray) (l : List (Int × Int)) : Prop := ∀ v w, ValsAt w v l → Calls Tryz.prog 28 #[.string op, v] w fun e w' => e = .returned (.int .i64 (isI op.toList l)) ∧ Below w.heap.size w w'
theorem isOk_three {op : ByteArray} {l : List (Int × Int)} (h : ∀ o c w, Calls Tryz.prog 28 #[.string op, .slice o l.length c] w fun e w' => e = .returned (.int .i64 3) ∧ Below w.heap.size w w') (h3 : isI op.toList l = 3) : IsOk op l := by
 intro v w hv
 obtain ⟨_, o, c, rfl, _⟩ := hv
 rw [h3]
 exact h o c w
theorem isOk_not (op : ByteArray) (l : List (Int × Int)) (hs : l.length ≤ 10) (ht : op.toList = [110, 111, 116]) (hA : ArityIs op 1 true) : IsOk op l := by
 have hf := isI_of (l := l) ([110, 111, 116], 1, 1, 1) (op := [110, 111, 116]) (by decide)
 by_cases hn : 1 = l.length
 ·intro v w hv
  rw [if_pos hn] at hf
  rw [ht, hf]
  obtain ⟨a, rfl⟩ := len_one hn
  refine isApply_goes op _ _ v w hv hs hA (by simp) (by rw [ht]; decide) (by rw [ht]; decide) (by rw [ht]; decide) (fun hr w v hk => ?_)
  exact (result_not op w ht v a.1 hk (allR_get hr (x := a) (by simp)).1).mono (fun e w' h => ⟨h.1, by rw [h.2]; exact Below.refl _ _⟩)
 ·rw [if_neg hn] at hf
  exact isOk_three (fun o c w => isApply_len op 1 hA o l.length c (by decide) (fun e => hn (by omega)) w) (by rw [ht]; exact hf)
theorem isOk_neg (op : ByteArray) (l : List (Int × Int)) (hs : l.length ≤ 10) (ht : op.toList = [110, 101, 103]) (hA : ArityIs op 1 true) : IsOk op l := by
 have hf := isI_of (l := l) ([110, 101, 103], 1, 2, 2) (op := [110, 101, 103]) (by decide)
 by_cases hn : 1 = l.length
 ·intro v w hv
  rw [if_pos hn] at hf
  rw [ht, hf]
  obtain ⟨a, rfl⟩ := len_one hn
  refine isApply_goes op _ _ v w hv hs hA (by simp) (by rw [ht]; decide) (by rw [ht]; decide) (by rw [ht]; decide) (fun hr w v hk => ?_)
  exact (result_neg op w ht v a.1 hk (allR_get hr (x := a) (by simp)).1).mono (fun e w' h => ⟨h.1, by rw [h.2]; exact Below.refl _ _⟩)
 ·rw [if_neg hn] at hf
  exact isOk_three (fun o c w => isApply_len op 1 hA o l.length c (by decide) (fun e => hn (by omega)) w) (by rw [ht]; exact hf)
theorem isOk_if (op : ByteArray) (l : List (Int × Int)) (hs : l.length ≤ 10) (ht : op.toList = [105, 102]) (hA : ArityIs op 3 true) : IsOk op l := by
 have hf := isI_of (l := l) ([105, 102], 3, 0, 0) (op := [105, 102]) (by decide)
 by_cases hn : 3 = l.length
 ·intro v w hv
  rw [if_pos hn] at hf
  rw [ht, hf]
  obtain ⟨a, b, d, rfl⟩ := len_three hn
  refine isApply_goes op _ _ v w hv hs hA (by simp) (by rw [ht]; decide) (by rw [ht]; decide) (by rw [ht]; decide) (fun hr w v hk => ?_)
  exact (result_if op w ht v a.1 b.1 d.1 hk (allR_get hr (x := a) (by simp)).1 (allR_get hr (x := b) (by simp)).1 (allR_get hr (x := d) (by simp)).1)
 ·rw [if_neg hn] at hf
  exact isOk_three (fun o c w => isApply_len op 3 hA o l.length c (by decide) (fun e => hn (by omega)) w) (by rw [ht]; exact hf)
theorem isOk_and (op : ByteArray) (l : List (Int × Int)) (hs : l.length ≤ 10) (ht : op.toList = [97, 110, 100]) (hA : ArityIs op 2 true) : IsOk op l := by
 have hf := isI_of (l := l) ([97, 110, 100], 2, 1, 1) (op := [97, 110, 100]) (by decide)
 by_cases hn : 2 = l.length
 ·intro v w hv
  rw [if_pos hn] at hf
  rw [ht, hf]
  obtain ⟨a, b, rfl⟩ := len_two hn
  refine isApply_goes op _ _ v w hv hs hA (by simp) (by rw [ht]; decide) (by rw [ht]; decide) (by rw [ht]; decide) (fun hr w v hk => ?_)
  exact (result_and op w ht v a.1 b.1 hk (allR_get hr (x := a) (by simp)).1 (allR_get hr (x := b) (by simp)).1).mono (fun e w' h => ⟨h.1, by rw [h.2]; exact Below.refl _ _⟩)
 ·rw [if_neg hn] at hf
  exact isOk_three (fun o c w => isApply_len op 2 hA o l.length c (by decide) (fun e => hn (by omega)) w) (by rw [ht]; exact hf)
theorem isOk_or (op : ByteArray) (l : List (Int × Int)) (hs : l.length ≤ 10) (ht : op.toList = [111, 114]) (hA : ArityIs op 2 true) : IsOk op l := by
 have hf := isI_of (l := l) ([111, 114], 2, 1, 1) (op := [111, 114]) (by decide)
 by_cases hn : 2 = l.length
 ·intro v w hv
  rw [if_pos hn] at hf
  rw [ht, hf]
  obtain ⟨a, b, rfl⟩ := len_two hn
  refine isApply_goes op _ _ v w hv hs hA (by simp) (by rw [ht]; decide) (by rw [ht]; decide) (by rw [ht]; decide) (fun hr w v hk => ?_)
  exact (result_or op w ht v a.1 b.1 hk (allR_get hr (x := a) (by simp)).1 (allR_get hr (x := b) (by simp)).1).mono (fun e w' h => ⟨h.1, by rw [h.2]; exact Below.refl _ _⟩)
 ·rw [if_neg hn] at hf
  exact isOk_three (fun o c w => isApply_len op 2 hA o l.length c (by decide) (fun e => hn (by omega)) w) (by rw [ht]; exact hf)
theorem isOk_xor (op : ByteArray) (l : List (Int × Int)) (hs : l.length ≤ 10) (ht : op.toList = [120, 111, 114]) (hA : ArityIs op 2 true) : IsOk op l := by
 have hf := isI_of (l := l) ([120, 111, 114], 2, 1, 1) (op := [120, 111, 114]) (by decide)
 by_cases hn : 2 = l.length
 ·intro v w hv
  rw [if_pos hn] at hf
  rw [ht, hf]
  obtain ⟨a, b, rfl⟩ := len_two hn
  refine isApply_goes op _ _ v w hv hs hA (by simp) (by rw [ht]; decide) (by rw [ht]; decide) (by rw [ht]; decide) (fun hr w v hk => ?_)
  exact (result_xor op w ht v a.1 b.1 hk (allR_get hr (x := a) (by simp)).1 (allR_get hr (x := b) (by simp)).1).mono (fun e w' h => ⟨h.1, by rw [h.2]; exact Below.refl _ _⟩)
 ·rw [if_neg hn] at hf
  exact isOk_three (fun o c w => isApply_len op 2 hA o l.length c (by decide) (fun e => hn (by omega)) w) (by rw [ht]; exact hf)
theorem isOk_imp (op : ByteArray) (l : List (Int × Int)) (hs : l.length ≤ 10) (ht : op.toList = [61, 62]) (hA : ArityIs op 2 true) : IsOk op l := by
 have hf := isI_of (l := l) ([61, 62], 2, 1, 1) (op := [61, 62]) (by decide)
 by_cases hn : 2 = l.length
 ·intro v w hv
  rw [if_pos hn] at hf
  rw [ht, hf]
  obtain ⟨a, b, rfl⟩ := len_two hn
  refine isApply_goes op _ _ v w hv hs hA (by simp) (by rw [ht]; decide) (by rw [ht]; decide) (by rw [ht]; decide) (fun hr w v hk => ?_)
  exact (result_imp op w ht v a.1 b.1 hk (allR_get hr (x := a) (by simp)).1 (allR_get hr (x := b) (by simp)).1).mono (fun e w' h => ⟨h.1, by rw [h.2]; exact Below.refl _ _⟩)
 ·rw [if_neg hn] at hf
  exact isOk_three (fun o c w => isApply_len op 2 hA o l.length c (by decide) (fun e => hn (by omega)) w) (by rw [ht]; exact hf)
theorem isOk_eq (op : ByteArray) (l : List (Int × Int)) (hs : l.length ≤ 10) (ht : op.toList = [61]) (hA : ArityIs op 2 true) : IsOk op l := by
 have hf := isI_of (l := l) ([61], 2, 0, 1) (op := [61]) (by decide)
 by_cases hn : 2 = l.length
 ·intro v w hv
  rw [if_pos hn] at hf
  rw [ht, hf]
  obtain ⟨a, b, rfl⟩ := len_two hn
  refine isApply_goes op _ _ v w hv hs hA (by simp) (by rw [ht]; decide) (by rw [ht]; decide) (by rw [ht]; decide) (fun hr w v hk => ?_)
  exact (result_eq op w ht v a.1 b.1 hk (allR_get hr (x := a) (by simp)).1 (allR_get hr (x := b) (by simp)).1).mono (fun e w' h => ⟨h.1, by rw [h.2]; exact Below.refl _ _⟩)
 ·rw [if_neg hn] at hf
  exact isOk_three (fun o c w => isApply_len op 2 hA o l.length c (by decide) (fun e => hn (by omega)) w) (by rw [ht]; exact hf)
theorem isOk_ne (op : ByteArray) (l : List (Int × Int)) (hs : l.length ≤ 10) (ht : op.toList = [60, 62]) (hA : ArityIs op 2 true) : IsOk op l := by
 have hf := isI_of (l := l) ([60, 62], 2, 0, 1) (op := [60, 62]) (by decide)
 by_cases hn : 2 = l.length
 ·intro v w hv
  rw [if_pos hn] at hf
  rw [ht, hf]
  obtain ⟨a, b, rfl⟩ := len_two hn
  refine isApply_goes op _ _ v w hv hs hA (by simp) (by rw [ht]; decide) (by rw [ht]; decide) (by rw [ht]; decide) (fun hr w v hk => ?_)
  exact (result_ne op w ht v a.1 b.1 hk (allR_get hr (x := a) (by simp)).1 (allR_get hr (x := b) (by simp)).1).mono (fun e w' h => ⟨h.1, by rw [h.2]; exact Below.refl _ _⟩)
 ·rw [if_neg hn] at hf
  exact isOk_three (fun o c w => isApply_len op 2 hA o l.length c (by decide) (fun e => hn (by omega)) w) (by rw [ht]; exact hf)
theorem isOk_lt (op : ByteArray) (l : List (Int × Int)) (hs : l.length ≤ 10) (ht : op.toList = [60]) (hA : ArityIs op 2 true) : IsOk op l := by
 have hf := isI_of (l := l) ([60], 2, 2, 1) (op := [60]) (by decide)
 by_cases hn : 2 = l.length
 ·intro v w hv
  rw [if_pos hn] at hf
  rw [ht, hf]
  obtain ⟨a, b, rfl⟩ := len_two hn
  refine isApply_goes op _ _ v w hv hs hA (by simp) (by rw [ht]; decide) (by rw [ht]; decide) (by rw [ht]; decide) (fun hr w v hk => ?_)
  exact (result_lt op w ht v a.1 b.1 hk (allR_get hr (x := a) (by simp)).1 (allR_get hr (x := b) (by simp)).1).mono (fun e w' h => ⟨h.1, by rw [h.2]; exact Below.refl _ _⟩)
 ·rw [if_neg hn] at hf
  exact isOk_three (fun o c w => isApply_len op 2 hA o l.length c (by decide) (fun e => hn (by omega)) w) (by rw [ht]; exact hf)
theorem isOk_le (op : ByteArray) (l : List (Int × Int)) (hs : l.length ≤ 10) (ht : op.toList = [60, 61]) (hA : ArityIs op 2 true) : IsOk op l := by
 have hf := isI_of (l := l) ([60, 61], 2, 2, 1) (op := [60, 61]) (by decide)
 by_cases hn : 2 = l.length
 ·intro v w hv
  rw [if_pos hn] at hf
  rw [ht, hf]
  obtain ⟨a, b, rfl⟩ := len_two hn
  refine isApply_goes op _ _ v w hv hs hA (by simp) (by rw [ht]; decide) (by rw [ht]; decide) (by rw [ht]; decide) (fun hr w v hk => ?_)
  exact (result_le op w ht v a.1 b.1 hk (allR_get hr (x := a) (by simp)).1 (allR_get hr (x := b) (by simp)).1).mono (fun e w' h => ⟨h.1, by rw [h.2]; exact Below.refl _ _⟩)
 ·rw [if_neg hn] at hf
  exact isOk_three (fun o c w => isApply_len op 2 hA o l.length c (by decide) (fun e => hn (by omega)) w) (by rw [ht]; exact hf)
theorem isOk_gt (op : ByteArray) (l : List (Int × Int)) (hs : l.length ≤ 10) (ht : op.toList = [62]) (hA : ArityIs op 2 true) : IsOk op l := by
 have hf := isI_of (l := l) ([62], 2, 2, 1) (op := [62]) (by decide)
 by_cases hn : 2 = l.length
 ·intro v w hv
  rw [if_pos hn] at hf
  rw [ht, hf]
  obtain ⟨a, b, rfl⟩ := len_two hn
  refine isApply_goes op _ _ v w hv hs hA (by simp) (by rw [ht]; decide) (by rw [ht]; decide) (by rw [ht]; decide) (fun hr w v hk => ?_)
  exact (result_gt op w ht v a.1 b.1 hk (allR_get hr (x := a) (by simp)).1 (allR_get hr (x := b) (by simp)).1).mono (fun e w' h => ⟨h.1, by rw [h.2]; exact Below.refl _ _⟩)
 ·rw [if_neg hn] at hf
  exact isOk_three (fun o c w => isApply_len op 2 hA o l.length c (by decide) (fun e => hn (by omega)) w) (by rw [ht]; exact hf)
theorem isOk_ge (op : ByteArray) (l : List (Int × Int)) (hs : l.length ≤ 10) (ht : op.toList = [62, 61]) (hA : ArityIs op 2 true) : IsOk op l := by
 have hf := isI_of (l := l) ([62, 61], 2, 2, 1) (op := [62, 61]) (by decide)
 by_cases hn : 2 = l.length
 ·intro v w hv
  rw [if_pos hn] at hf
  rw [ht, hf]
  obtain ⟨a, b, rfl⟩ := len_two hn
  refine isApply_goes op _ _ v w hv hs hA (by simp) (by rw [ht]; decide) (by rw [ht]; decide) (by rw [ht]; decide) (fun hr w v hk => ?_)
  exact (result_ge op w ht v a.1 b.1 hk (allR_get hr (x := a) (by simp)).1 (allR_get hr (x := b) (by simp)).1).mono (fun e w' h => ⟨h.1, by rw [h.2]; exact Below.refl _ _⟩)
 ·rw [if_neg hn] at hf
  exact isOk_three (fun o c w => isApply_len op 2 hA o l.length c (by decide) (fun e => hn (by omega)) w) (by rw [ht]; exact hf)
theorem isOk_add (op : ByteArray) (l : List (Int × Int)) (hs : l.length ≤ 10) (ht : op.toList = [43]) (hA : ArityIs op 2 true) : IsOk op l := by
 have hf := isI_of (l := l) ([43], 2, 2, 2) (op := [43]) (by decide)
 by_cases hn : 2 = l.length
 ·intro v w hv
  rw [if_pos hn] at hf
  rw [ht, hf]
  obtain ⟨a, b, rfl⟩ := len_two hn
  refine isApply_goes op _ _ v w hv hs hA (by simp) (by rw [ht]; decide) (by rw [ht]; decide) (by rw [ht]; decide) (fun hr w v hk => ?_)
  exact (result_add op w ht v a.1 b.1 hk (allR_get hr (x := a) (by simp)).1 (allR_get hr (x := b) (by simp)).1).mono (fun e w' h => ⟨h.1, by rw [h.2]; exact Below.refl _ _⟩)
 ·rw [if_neg hn] at hf
  exact isOk_three (fun o c w => isApply_len op 2 hA o l.length c (by decide) (fun e => hn (by omega)) w) (by rw [ht]; exact hf)
theorem isOk_sub (op : ByteArray) (l : List (Int × Int)) (hs : l.length ≤ 10) (ht : op.toList = [45]) (hA : ArityIs op 2 true) : IsOk op l := by
 have hf := isI_of (l := l) ([45], 2, 2, 2) (op := [45]) (by decide)
 by_cases hn : 2 = l.length
 ·intro v w hv
  rw [if_pos hn] at hf
  rw [ht, hf]
  obtain ⟨a, b, rfl⟩ := len_two hn
  refine isApply_goes op _ _ v w hv hs hA (by simp) (by rw [ht]; decide) (by rw [ht]; decide) (by rw [ht]; decide) (fun hr w v hk => ?_)
  exact (result_sub op w ht v a.1 b.1 hk (allR_get hr (x := a) (by simp)).1 (allR_get hr (x := b) (by simp)).1).mono (fun e w' h => ⟨h.1, by rw [h.2]; exact Below.refl _ _⟩)
 ·rw [if_neg hn] at hf
  exact isOk_three (fun o c w => isApply_len op 2 hA o l.length c (by decide) (fun e => hn (by omega)) w) (by rw [ht]; exact hf)
theorem isOk_mul (op : ByteArray) (l : List (Int × Int)) (hs : l.length ≤ 10) (ht : op.toList = [42]) (hA : ArityIs op 2 true) : IsOk op l := by
 have hf := isI_of (l := l) ([42], 2, 2, 2) (op := [42]) (by decide)
 by_cases hn : 2 = l.length
 ·intro v w hv
  rw [if_pos hn] at hf
  rw [ht, hf]
  obtain ⟨a, b, rfl⟩ := len_two hn
  refine isApply_goes op _ _ v w hv hs hA (by simp) (by rw [ht]; decide) (by rw [ht]; decide) (by rw [ht]; decide) (fun hr w v hk => ?_)
  exact (result_mul op w ht v a.1 b.1 hk (allR_get hr (x := a) (by simp)).1 (allR_get hr (x := b) (by simp)).1).mono (fun e w' h => ⟨h.1, by rw [h.2]; exact Below.refl _ _⟩)
 ·rw [if_neg hn] at hf
  exact isOk_three (fun o c w => isApply_len op 2 hA o l.length c (by decide) (fun e => hn (by omega)) w) (by rw [ht]; exact hf)
theorem isOk_div (op : ByteArray) (l : List (Int × Int)) (hs : l.length ≤ 10) (ht : op.toList = [47]) (hA : ArityIs op 2 true) : IsOk op l := by
 have hf := isI_of (l := l) ([47], 2, 2, 2) (op := [47]) (by decide)
 by_cases hn : 2 = l.length
 ·intro v w hv
  rw [if_pos hn] at hf
  rw [ht, hf]
  obtain ⟨a, b, rfl⟩ := len_two hn
  refine isApply_goes op _ _ v w hv hs hA (by simp) (by rw [ht]; decide) (by rw [ht]; decide) (by rw [ht]; decide) (fun hr w v hk => ?_)
  exact (result_div op w ht v a.1 b.1 hk (allR_get hr (x := a) (by simp)).1 (allR_get hr (x := b) (by simp)).1).mono (fun e w' h => ⟨h.1, by rw [h.2]; exact Below.refl _ _⟩)
 ·rw [if_neg hn] at hf
  exact isOk_three (fun o c w => isApply_len op 2 hA o l.length c (by decide) (fun e => hn (by omega)) w) (by rw [ht]; exact hf)
theorem isOk_mod (op : ByteArray) (l : List (Int × Int)) (hs : l.length ≤ 10) (ht : op.toList = [109, 111, 100]) (hA : ArityIs op 2 true) : IsOk op l := by
 have hf := isI_of (l := l) ([109, 111, 100], 2, 2, 2) (op := [109, 111, 100]) (by decide)
 by_cases hn : 2 = l.length
 ·intro v w hv
  rw [if_pos hn] at hf
  rw [ht, hf]
  obtain ⟨a, b, rfl⟩ := len_two hn
  refine isApply_goes op _ _ v w hv hs hA (by simp) (by rw [ht]; decide) (by rw [ht]; decide) (by rw [ht]; decide) (fun hr w v hk => ?_)
  exact (result_mod op w ht v a.1 b.1 hk (allR_get hr (x := a) (by simp)).1 (allR_get hr (x := b) (by simp)).1).mono (fun e w' h => ⟨h.1, by rw [h.2]; exact Below.refl _ _⟩)
 ·rw [if_neg hn] at hf
  exact isOk_three (fun o c w => isApply_len op 2 hA o l.length c (by decide) (fun e => hn (by omega)) w) (by rw [ht]; exact hf)
theorem isApply_any (op : ByteArray) (l : List (Int × Int)) (hs : l.length ≤ 10) : IsOk op l := by
 by_cases h : ∃ t ∈ opL, op.toList = t.1
 ·obtain ⟨t, hm, ht⟩ := h
  have hA : ArityIs op t.2 true := fun w => oarity_in op w t hm ht
  simp only [opL, List.mem_cons, List.not_mem_nil, or_false] at hm
  rcases hm with rfl | rfl | rfl | rfl | rfl | rfl | rfl | rfl | rfl | rfl | rfl | rfl | rfl | rfl | rfl | rfl | rfl | rfl | rfl | rfl | rfl | rfl | rfl | rfl | rfl | rfl
  ·exact isOk_three (fun o c w => isApply_few op _ hA o l.length c (by decide) w) (by rw [ht]; exact isI_out l (by decide))
  ·exact isOk_three (fun o c w => isApply_few op _ hA o l.length c (by decide) w) (by rw [ht]; exact isI_out l (by decide))
  ·exact isOk_three (fun o c w => isApply_few op _ hA o l.length c (by decide) w) (by rw [ht]; exact isI_out l (by decide))
  ·exact isOk_three (fun o c w => isApply_few op _ hA o l.length c (by decide) w) (by rw [ht]; exact isI_out l (by decide))
  ·exact isOk_if op l hs ht hA
  ·refine isOk_three (fun o c w => ?_) (by rw [ht]; exact isI_out l (by decide))
   by_cases hn : 2 = l.length
   ·refine isApply_arrow op o l.length c ?_ (by omega) ht w
    rw [← hn]; exact hA
   ·exact isApply_len op _ hA o l.length c (by decide) (fun e => hn (by simp only at e; omega)) w
  ·refine isOk_three (fun o c w => ?_) (by rw [ht]; exact isI_out l (by decide))
   by_cases hn : 2 = l.length
   ·refine isApply_fby op o l.length c ?_ (by omega) ht w
    rw [← hn]; exact hA
   ·exact isApply_len op _ hA o l.length c (by decide) (fun e => hn (by simp only at e; omega)) w
  ·exact isOk_or op l hs ht hA
  ·exact isOk_xor op l hs ht hA
  ·exact isOk_and op l hs ht hA
  ·exact isOk_not op l hs ht hA
  ·exact isOk_eq op l hs ht hA
  ·exact isOk_ne op l hs ht hA
  ·exact isOk_lt op l hs ht hA
  ·exact isOk_le op l hs ht hA
  ·exact isOk_gt op l hs ht hA
  ·exact isOk_ge op l hs ht hA
  ·exact isOk_imp op l hs ht hA
  ·exact isOk_add op l hs ht hA
  ·exact isOk_sub op l hs ht hA
  ·exact isOk_mul op l hs ht hA
  ·exact isOk_div op l hs ht hA
  ·exact isOk_mod op l hs ht hA
  ·exact isOk_neg op l hs ht hA
  ·refine isOk_three (fun o c w => ?_) (by rw [ht]; exact isI_out l (by decide))
   by_cases hn : 1 = l.length
   ·refine isApply_pre op o l.length c ?_ (by omega) ht w
    rw [← hn]; exact hA
   ·exact isApply_len op _ hA o l.length c (by decide) (fun e => hn (by simp only at e; omega)) w
  ·exact isOk_three (fun o c w => isApply_few op _ hA o l.length c (by decide) w) (by rw [ht]; exact isI_out l (by decide))
 ·have hA : ArityIs op 0 false := fun w => oarity_out op w (fun t hm e => h ⟨t, hm, e⟩)
  refine isOk_three (fun o c w => isApply_no op _ hA o l.length c w) (isI_out l ?_)
  rw [List.find?_eq_none]
  intro t hm
  have hi : ∃ a, (t.1, a) ∈ opL := (by decide : ∀ t ∈ sigL, (opL.any fun x => x.1 == t.1) = true) t hm |> fun q => by
   obtain ⟨x, hx, e⟩ := List.any_eq_true.1 q
   exact ⟨x.2, by have := beq_iff_eq.1 e; rw [← this]; exact hx⟩
  obtain ⟨a, ha⟩ := hi
  intro e
  exact h ⟨(t.1, a), ha, (beq_iff_eq.1 e).symm⟩
theorem isI_zero {op : List UInt8} {l : List (Int × Int)} (h : isI op l = 0) : ∃ t ∈ sigL, op = t.1 ∧ t.2.1 = l.length ∧ allR l = true ∧ resI t (l.map (·.1)) ≠ 0 := by
 unfold isI at h
 split at h
 ·exact absurd h (by decide)
 ·rename_i t ht
  have h1 := List.mem_of_find?_eq_some ht
  have h2 := List.find?_some ht
  by_cases hn : t.2.1 = l.length
  ·rw [if_pos hn] at h
   unfold isAns at h
   by_cases hr : allR l = true
   ·rw [if_pos hr] at h
    by_cases h0 : resI t (l.map (·.1)) = 0
    ·rw [if_pos h0] at h; exact absurd h (by decide)
    ·exact ⟨t, h1, (beq_iff_eq.1 h2).symm, hn, hr, h0⟩
   ·rw [if_neg hr] at h; exact absurd h (by decide)
  ·rw [if_neg hn] at h; exact absurd h (by decide)
def ApOk (op : ByteArray) (l : List (Int × Int)) : Prop := ∀ v w, ValsAt w v l → Calls Tryz.prog 30 #[.string op, v] w fun e w' => e = .returned (.tuple #[.agg #[.int .i64 (appT op.toList l).1.1, .int .i64 (appT op.toList l).1.2], .bool (appT op.toList l).2]) ∧ Below w.heap.size w w'
theorem ap_eq {op : ByteArray} {l : List (Int × Int)} (x : (Int × Int) × Bool) (e : appT op.toList l = x) (h : ∀ v w, ValsAt w v l → Calls Tryz.prog 30 #[.string op, v] w fun e w' => e = .returned (.tuple #[.agg #[.int .i64 x.1.1, .int .i64 x.1.2], .bool x.2]) ∧ Below w.heap.size w w') : ApOk op l := by
 subst e
 exact h
theorem applyOf_any (op : ByteArray) (l : List (Int × Int)) (h : isI op.toList l = 0) : ApOk op l := by
 obtain ⟨t, hm, ht, hn, hr, h0⟩ := isI_zero h
 clear h
 simp only [sigL, List.mem_cons, List.not_mem_nil, or_false] at hm
 rcases hm with rfl | rfl | rfl | rfl | rfl | rfl | rfl | rfl | rfl | rfl | rfl | rfl | rfl | rfl | rfl | rfl | rfl | rfl
 ·obtain ⟨a, rfl⟩ := len_one hn
  exact ap_eq ((1, truthI (a.2 == 0)), false) (by rw [ht]; rfl) (fun v w hv => apply_not op w ht v a hv (allR_get hr (x := a) (by simp)).2)
 ·obtain ⟨a, rfl⟩ := len_one hn
  exact ap_eq ((2, aroundI (256 - a.2)), false) (by rw [ht]; rfl) (fun v w hv => apply_neg op w ht v a hv (allR_get hr (x := a) (by simp)).2)
 ·obtain ⟨a, b, d, rfl⟩ := len_three hn
  refine ap_eq (if a.2 = 1 then b else d, false) (by rw [ht]; rfl) (fun v w hv => (apply_if op w ht v a b d hv).mono (fun e w' h => ⟨?_, h.2⟩))
  rw [h.1]
  by_cases h1 : a.2 = 1
  ·rw [if_pos h1, if_pos h1]
  ·rw [if_neg h1, if_neg h1]
 ·obtain ⟨a, b, rfl⟩ := len_two hn
  exact ap_eq ((1, truthI (a.2 + b.2 == 2)), false) (by rw [ht]; rfl) (fun v w hv => apply_and op w ht v a b hv (allR_get hr (x := a) (by simp)).2 (allR_get hr (x := b) (by simp)).2)
 ·obtain ⟨a, b, rfl⟩ := len_two hn
  exact ap_eq ((1, truthI (decide (0 < a.2 + b.2))), false) (by rw [ht]; rfl) (fun v w hv => apply_or op w ht v a b hv (allR_get hr (x := a) (by simp)).2 (allR_get hr (x := b) (by simp)).2)
 ·obtain ⟨a, b, rfl⟩ := len_two hn
  exact ap_eq ((1, truthI (a.2 + b.2 == 1)), false) (by rw [ht]; rfl) (fun v w hv => apply_xor op w ht v a b hv (allR_get hr (x := a) (by simp)).2 (allR_get hr (x := b) (by simp)).2)
 ·obtain ⟨a, b, rfl⟩ := len_two hn
  exact ap_eq ((1, truthI (decide (a.2 ≤ b.2))), false) (by rw [ht]; rfl) (fun v w hv => apply_imp op w ht v a b hv (allR_get hr (x := a) (by simp)).2 (allR_get hr (x := b) (by simp)).2)
 ·obtain ⟨a, b, rfl⟩ := len_two hn
  exact ap_eq ((1, truthI (a.2 == b.2)), false) (by rw [ht]; rfl) (fun v w hv => apply_eq op w ht v a b hv (allR_get hr (x := a) (by simp)).2 (allR_get hr (x := b) (by simp)).2)
 ·obtain ⟨a, b, rfl⟩ := len_two hn
  exact ap_eq ((1, truthI (a.2 != b.2)), false) (by rw [ht]; rfl) (fun v w hv => apply_ne op w ht v a b hv (allR_get hr (x := a) (by simp)).2 (allR_get hr (x := b) (by simp)).2)
 ·obtain ⟨a, b, rfl⟩ := len_two hn
  exact ap_eq ((1, truthI (decide (a.2 < b.2))), false) (by rw [ht]; rfl) (fun v w hv => apply_lt op w ht v a b hv (allR_get hr (x := a) (by simp)).2 (allR_get hr (x := b) (by simp)).2)
 ·obtain ⟨a, b, rfl⟩ := len_two hn
  exact ap_eq ((1, truthI (decide (a.2 ≤ b.2))), false) (by rw [ht]; rfl) (fun v w hv => apply_le op w ht v a b hv (allR_get hr (x := a) (by simp)).2 (allR_get hr (x := b) (by simp)).2)
 ·obtain ⟨a, b, rfl⟩ := len_two hn
  exact ap_eq ((1, truthI (decide (b.2 < a.2))), false) (by rw [ht]; rfl) (fun v w hv => apply_gt op w ht v a b hv (allR_get hr (x := a) (by simp)).2 (allR_get hr (x := b) (by simp)).2)
 ·obtain ⟨a, b, rfl⟩ := len_two hn
  exact ap_eq ((1, truthI (decide (b.2 ≤ a.2))), false) (by rw [ht]; rfl) (fun v w hv => apply_ge op w ht v a b hv (allR_get hr (x := a) (by simp)).2 (allR_get hr (x := b) (by simp)).2)
 ·obtain ⟨a, b, rfl⟩ := len_two hn
  exact ap_eq ((2, aroundI (a.2 + b.2)), false) (by rw [ht]; rfl) (fun v w hv => apply_add op w ht v a b hv (allR_get hr (x := a) (by simp)).2 (allR_get hr (x := b) (by simp)).2)
 ·obtain ⟨a, b, rfl⟩ := len_two hn
  exact ap_eq ((2, aroundI (a.2 - b.2)), false) (by rw [ht]; rfl) (fun v w hv => apply_sub op w ht v a b hv (allR_get hr (x := a) (by simp)).2 (allR_get hr (x := b) (by simp)).2)
 ·obtain ⟨a, b, rfl⟩ := len_two hn
  exact ap_eq ((2, aroundI (a.2 * b.2)), false) (by rw [ht]; rfl) (fun v w hv => apply_mul op w ht v a b hv (allR_get hr (x := a) (by simp)).2 (allR_get hr (x := b) (by simp)).2)
 ·obtain ⟨a, b, rfl⟩ := len_two hn
  by_cases hz : b.2 = 0
  ·exact ap_eq ((0, 0), true) (by rw [ht]; simp [appT, hz]) (fun v w hv => apply_div0 op w ht v a b hv (allR_get hr (x := a) (by simp)).2 (allR_get hr (x := b) (by simp)).2 hz)
  ·exact ap_eq ((2, aroundI (a.2.tdiv b.2)), false) (by rw [ht]; simp [appT, hz]) (fun v w hv => apply_div op w ht v a b hv (allR_get hr (x := a) (by simp)).2 (allR_get hr (x := b) (by simp)).2 hz)
 ·obtain ⟨a, b, rfl⟩ := len_two hn
  by_cases hz : b.2 = 0
  ·exact ap_eq ((0, 0), true) (by rw [ht]; simp [appT, hz]) (fun v w hv => apply_mod0 op w ht v a b hv (allR_get hr (x := a) (by simp)).2 (allR_get hr (x := b) (by simp)).2 hz)
  ·exact ap_eq ((2, aroundI (a.2 - a.2.tdiv b.2 * b.2)), false) (by rw [ht]; simp [appT, hz]) (fun v w hv => apply_mod op w ht v a b hv (allR_get hr (x := a) (by simp)).2 (allR_get hr (x := b) (by simp)).2 hz)
end Go.Proofs.YtiejfopholdbnaaGreatDoor
