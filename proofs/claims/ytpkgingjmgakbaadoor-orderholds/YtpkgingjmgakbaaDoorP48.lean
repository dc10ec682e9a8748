/-
  BOOLS, INTS AND VALUES THAT ARE HANDED IN, OPENED.
-/
import Derived.Test.YtpkgingjmgakbaaDoorP07
import Derived.Test.YtpkgingjmgakbaaDoorRows
import Derived.Deep.Strs
namespace Go.Proofs.YtpkgingjmgakbaaDoor
open Go.RowKit Go.Deep Go.WideShapes Go.ChangeShapes

theorem cells_int : Tryd.prog.cellsOf 3 = 1 := by kernel_rfl
theorem i64_of {a : Int} (h : (Lit.int .i64 a).wf = true) : I64 a := by
  simp [Lit.wf, IntKind.min, IntKind.max, IntKind.signed, IntKind.bits] at h
  unfold I64
  omega
theorem cells_bool : Tryd.prog.cellsOf 4 = 1 := by kernel_rfl
theorem list1 {l : List Value} (h : l.length = 1) : ∃ x, l = [x] := by
  match l, h with
  | [x], _ => exact ⟨x, rfl⟩
set_option maxRecDepth 100000 in
theorem open_bools {H : Type} {enc : TypeId × Value → H} {W : World} {sp : Nat → Bool} {fuel : Nat} {cs : List Value} {x : DataW H × List MemPlace} (h : DataW.trod enc Tryd.prog W 0 sp true fuel 94 cs = some x) :
    ∃ (v : Value) (l : List Bool), cs = [v] ∧ BoolsAt W v l := by
  rcases open_slice Tryd.underlying94 h with ⟨rfl, rfl⟩ | ⟨a, len, cap, m, n, D, Pl, rfl, hb, hl, hm, hmm, rfl, hx⟩
  · exact ⟨_, [], rfl, by simp [maxLen], none, 0, rfl, fun i x hi => by simp at hi⟩
  have hlm : len ≤ m := by rw [hmm]; split <;> omega
  have each : ∀ i, i < len → ∃ q : Bool, W.cell? (a.add i) = some (.bool q) := by
    intro i hi
    obtain ⟨cs', h1, h2⟩ := hx i (by omega)
    rw [cells_bool] at h1
    obtain ⟨_, hlen, hcell⟩ := World.cells?_some h1
    obtain ⟨v0, rfl⟩ := list1 hlen
    obtain ⟨p0, e0, _⟩ := DataW.trod_bool Tryd.underlying4 h2
    simp only [List.cons.injEq, and_true] at e0
    subst e0
    have c0 := hcell 0 (by omega)
    rw [add_add] at c0
    exact ⟨p0, by simpa using c0⟩
  obtain ⟨q, hq⟩ := choose_lt each
  have hql : ((List.range len).map q).length = len := by simp
  refine ⟨_, (List.range len).map q, rfl, by rw [hql]; omega, some a, cap, by rw [hql], fun i x hi => ?_⟩
  have hil : i < len := by
    have := (List.getElem?_eq_some_iff.1 hi).1
    omega
  have e : x = q i := by
    rw [List.getElem?_map, List.getElem?_range hil] at hi
    simpa using hi.symm
  subst e
  have a0 := hq i hil
  have z0 := hq 0 (by omega)
  obtain ⟨b, off, spot⟩ := a
  cases spot with
  | some k => simp [Addr.add, World.cell?] at z0; split at z0 <;> simp at z0
  | none =>
    rw [add_plain] at a0
    exact ⟨b, off, rfl, a0⟩
set_option maxRecDepth 100000 in
theorem open_ints64 {H : Type} {enc : TypeId × Value → H} {W : World} {sp : Nat → Bool} {fuel : Nat} {cs : List Value} {x : DataW H × List MemPlace} (h : DataW.trod enc Tryd.prog W 0 sp true fuel 22 cs = some x) :
    ∃ (v : Value) (l : List Int), cs = [v] ∧ IntsAt W v l ∧ ∀ x ∈ l, I64 x := by
  rcases open_slice Tryd.underlying22 h with ⟨rfl, rfl⟩ | ⟨a, len, cap, m, n, D, Pl, rfl, hb, hl, hm, hmm, rfl, hx⟩
  · exact ⟨_, [], rfl, ⟨by simp [maxLen], none, 0, rfl, fun i x hi => by simp at hi⟩, fun x hx => by simp at hx⟩
  have hlm : len ≤ m := by rw [hmm]; split <;> omega
  have each : ∀ i, i < len → ∃ q : Int, I64 q ∧ W.cell? (a.add i) = some (.int .i64 q) := by
    intro i hi
    obtain ⟨cs', h1, h2⟩ := hx i (by omega)
    rw [cells_int] at h1
    obtain ⟨_, hlen, hcell⟩ := World.cells?_some h1
    obtain ⟨v0, rfl⟩ := list1 hlen
    obtain ⟨p0, e0, _, z0⟩ := DataW.trod_int Tryd.underlying3 h2
    simp only [List.cons.injEq, and_true] at e0
    subst e0
    have c0 := hcell 0 (by omega)
    rw [add_add] at c0
    exact ⟨p0, i64_of z0, by simpa using c0⟩
  obtain ⟨q, hq⟩ := choose_lt each
  have hql : ((List.range len).map q).length = len := by simp
  refine ⟨_, (List.range len).map q, rfl, ⟨by rw [hql]; omega, some a, cap, by rw [hql], fun i x hi => ?_⟩, fun x hx => ?_⟩
  · have hil : i < len := by
      have := (List.getElem?_eq_some_iff.1 hi).1
      omega
    have e : x = q i := by
      rw [List.getElem?_map, List.getElem?_range hil] at hi
      simpa using hi.symm
    subst e
    have a0 := (hq i hil).2
    have z0 := (hq 0 (by omega)).2
    obtain ⟨b, off, spot⟩ := a
    cases spot with
    | some k => simp [Addr.add, World.cell?] at z0; split at z0 <;> simp at z0
    | none =>
      rw [add_plain] at a0
      exact ⟨b, off, rfl, a0⟩
  · obtain ⟨i, hi, rfl⟩ := List.mem_map.1 hx
    exact (hq i (List.mem_range.1 hi)).1
end Go.Proofs.YtpkgingjmgakbaaDoor
