/-
  WHAT GATES COME TO, AS MATHEMATICS; rows of bools in memory; package graph's holds BY CONTRACT.
-/
import Derived.Test.YtlclbidjdhlklaaGreatDoorGrG
import Derived.OwnWalk
namespace Go.Proofs.YtlclbidjdhlklaaGreatDoor
open Go.RowKit Go.Maps

/-- A literal, gates having such values. -/
def litV (vs : List Bool) (x : Int) : Bool := (vs.getD (x / 2).toNat false) != (x % 2 == 1)
/-- The values of so many gates, from gate 0 on; how many inputs were taken. -/
def valsTo (gs : List (Int × Int)) (inp : List Bool) : Nat → List Bool × Nat
  | 0 => ([false], 0)
  | n + 1 =>
    match gs[n]? with
    | some p => if inpB p = true then ((valsTo gs inp n).1 ++ [inp.getD (valsTo gs inp n).2 false], (valsTo gs inp n).2 + 1) else ((valsTo gs inp n).1 ++ [litV (valsTo gs inp n).1 p.1 && litV (valsTo gs inp n).1 p.2], (valsTo gs inp n).2)
    | none => ((valsTo gs inp n).1 ++ [false], (valsTo gs inp n).2)
/-- How many inputs there are among these. -/
def cntI (gs : List (Int × Int)) : Nat := (gs.filter inpB).length
theorem valsTo_length (gs : List (Int × Int)) (inp : List Bool) : ∀ n, (valsTo gs inp n).1.length = n + 1
  | 0 => rfl
  | n + 1 => by
    unfold valsTo
    split
    · split <;> simp [valsTo_length gs inp n]
    · simp [valsTo_length gs inp n]
theorem valsTo_cnt (gs : List (Int × Int)) (inp : List Bool) : ∀ n, n ≤ gs.length → (valsTo gs inp n).2 = cntI (gs.take n)
  | 0, _ => by simp [valsTo, cntI]
  | n + 1, h => by
    have ih := valsTo_cnt gs inp n (by omega)
    have hg : gs[n]? = some gs[n] := List.getElem?_eq_getElem (by omega)
    unfold valsTo
    rw [hg]
    simp only
    have e : cntI (gs.take (n + 1)) = cntI (gs.take n) + if inpB gs[n] = true then 1 else 0 := by
      unfold cntI
      rw [List.take_add_one, hg]
      simp only [Option.toList_some, List.filter_append, List.length_append]
      by_cases hp : inpB gs[n] = true
      · simp [hp]
      · simp [hp]
    rw [e]
    split
    · rw [ih]
    · rw [ih]; rfl
theorem cntI_take_le (gs : List (Int × Int)) (n : Nat) : cntI (gs.take n) ≤ cntI gs := by
  unfold cntI
  exact ((List.take_sublist n gs).filter _).length_le
/-- An input is taken that is there. -/
theorem valsTo_in {gs : List (Int × Int)} {inp : List Bool} {n : Nat} {p : Int × Int} (hp : gs[n]? = some p) (hi : inpB p = true) (hc : cntI gs = inp.length) : (valsTo gs inp n).2 < inp.length := by
  have hn : n < gs.length := (List.getElem?_eq_some_iff.1 hp).1
  have h1 := valsTo_cnt gs inp (n + 1) (by omega)
  have h2 := cntI_take_le gs (n + 1)
  unfold valsTo at h1
  rw [hp] at h1
  simp only [hi, if_true] at h1
  omega
/-- The values so far, the rest false. -/
def rowN (gs : List (Int × Int)) (inp : List Bool) (n : Nat) : List Bool := (valsTo gs inp n).1 ++ List.replicate (gs.length - n) false
theorem rowN_length {gs : List (Int × Int)} {inp : List Bool} {n : Nat} (h : n ≤ gs.length) : (rowN gs inp n).length = gs.length + 1 := by
  unfold rowN
  rw [List.length_append, valsTo_length, List.length_replicate]
  omega
theorem rowN_set {gs : List (Int × Int)} {inp : List Bool} {n : Nat} (h : n < gs.length) (b : Bool) (hb : (valsTo gs inp (n + 1)).1 = (valsTo gs inp n).1 ++ [b]) : rowN gs inp (n + 1) = (rowN gs inp n).set (n + 1) b := by
  unfold rowN
  rw [hb]
  have hl := valsTo_length gs inp n
  rw [List.set_append_right _ _ (by omega), hl, Nat.sub_self]
  have : gs.length - n = (gs.length - (n + 1)) + 1 := by omega
  rw [this, List.replicate_succ]
  simp
theorem rowN_lit {gs : List (Int × Int)} {inp : List Bool} {n : Nat} {x : Int} (hx : x < 2 * ((n : Int) + 1)) : litV (rowN gs inp n) x = litV (valsTo gs inp n).1 x := by
  unfold litV rowN
  have hl := valsTo_length gs inp n
  have : (x / 2).toNat < (valsTo gs inp n).1.length := by omega
  simp only [List.getD_eq_getElem?_getD]
  rw [List.getElem?_append_left this]

/-- A row of bools. -/
def rowB (l : List Bool) : Array Value := (l.map Value.bool).toArray
theorem rowB_get {l : List Bool} {k : Nat} {b : Bool} (h : l[k]? = some b) : (rowB l)[k]? = some (.bool b) := by simp [rowB, h]
theorem rowB_set (l : List Bool) (k : Nat) (b : Bool) : (rowB l).setIfInBounds k (.bool b) = rowB (l.set k b) := by simp [rowB, List.map_set]
def BoolsAt (w : World) (v : Value) (l : List Bool) : Prop := l.length ≤ maxLen ∧ ∃ o c, v = .slice o l.length c ∧ ∀ k x, l[k]? = some x → ∃ b off, o = some ⟨b, off, none⟩ ∧ w.cell? ⟨b, off + k, none⟩ = some (.bool x)
theorem BoolsAt.below {w w' : World} {v : Value} {l : List Bool} (h : BoolsAt w v l) (hb : Below w.heap.size w w') : BoolsAt w' v l := by
  obtain ⟨hl, o, c, rfl, h⟩ := h
  refine ⟨hl, o, c, rfl, fun k x hk => ?_⟩
  obtain ⟨b, off, e, hc⟩ := h k x hk
  exact ⟨b, off, e, cell_keep hb hc⟩
theorem bits_low {a : Int} (h0 : 0 ≤ a) (h1 : a ≤ 9223372036854775807) : bits .and .i64 a 1 = a % 2 := by
  have h2 : (BitVec.ofInt 64 a).toNat = a.toNat := by simp [BitVec.toNat_ofInt]; omega
  show IntKind.i64.wrap ((BitVec.ofInt 64 a &&& BitVec.ofInt 64 1).toNat : Int) = _
  have h3 : (BitVec.ofInt 64 (1 : Int)).toNat = 1 := by decide
  rw [BitVec.toNat_and, h3, h2, Nat.and_one_is_mod, IntKind.wrap_i64]
  omega
end Go.Proofs.YtlclbidjdhlklaaGreatDoor
