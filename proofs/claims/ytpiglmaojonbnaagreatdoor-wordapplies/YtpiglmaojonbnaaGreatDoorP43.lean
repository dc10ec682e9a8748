/-
  BOOLS, INTS AND VALUES THAT ARE HANDED IN, OPENED.
-/
import Derived.Test.YtpiglmaojonbnaaGreatDoorP08
import Derived.Test.YtpiglmaojonbnaaGreatDoorRows
import Derived.Deep.Strs
import Derived.Test.YtpiglmaojonbnaaGreatDoorP12
namespace Go.Proofs.YtpiglmaojonbnaaGreatDoor
open Go.RowKit Go.Deep Go.WideShapes Go.ChangeShapes

theorem cells_int : Tryz.prog.cellsOf 3 = 1 := by kernel_rfl
theorem i64_of {a : Int} (h : (Lit.int .i64 a).wf = true) : I64 a := by
  simp [Lit.wf, IntKind.min, IntKind.max, IntKind.signed, IntKind.bits] at h
  unfold I64
  omega
theorem cells_bool : Tryz.prog.cellsOf 4 = 1 := by kernel_rfl
theorem list1 {l : List Value} (h : l.length = 1) : ∃ x, l = [x] := by
  match l, h with
  | [x], _ => exact ⟨x, rfl⟩
set_option maxRecDepth 100000 in
theorem open_bools {H : Type} {enc : TypeId × Value → H} {W : World} {sp : Nat → Bool} {fuel : Nat} {cs : List Value} {x : DataW H × List MemPlace} (h : DataW.trod enc Tryz.prog W 0 sp true fuel 33 cs = some x) :
    ∃ (v : Value) (l : List Bool), cs = [v] ∧ BoolsAt W v l := by
  rcases open_slice Tryz.underlying33 h with ⟨rfl, rfl⟩ | ⟨a, len, cap, m, n, D, Pl, rfl, hb, hl, hm, hmm, rfl, hx⟩
  · exact ⟨_, [], rfl, by simp [maxLen], none, 0, rfl, fun i x hi => by simp at hi⟩
  have hlm : len ≤ m := by rw [hmm]; split <;> omega
  have each : ∀ i, i < len → ∃ q : Bool, W.cell? (a.add i) = some (.bool q) := by
    intro i hi
    obtain ⟨cs', h1, h2⟩ := hx i (by omega)
    rw [cells_bool] at h1
    obtain ⟨_, hlen, hcell⟩ := World.cells?_some h1
    obtain ⟨v0, rfl⟩ := list1 hlen
    obtain ⟨p0, e0, _⟩ := DataW.trod_bool Tryz.underlying4 h2
    simp only [List.cons.injEq, and_true] at e0
    subst e0
    have c0 := hcell 0 (by omega)
    rw [add_add] at c0
    exact ⟨p0, by simpa using c0⟩
  obtain ⟨q, hq⟩ := choose_lt each
  have hql : ((List.range len).map q).length = len := by simp
  refine ⟨_, (List.range len).map q, rfl, by rw [hql]; omega, some a, cap, by rw [hql], fun i x hi => ?_⟩
  have hil : i < len := by
    have := (List.getElem?_eq_some_iff.1 hi).1
    omega
  have e : x = q i := by
    rw [List.getElem?_map, List.getElem?_range hil] at hi
    simpa using hi.symm
  subst e
  have a0 := hq i hil
  have z0 := hq 0 (by omega)
  obtain ⟨b, off, spot⟩ := a
  cases spot with
  | some k => simp [Addr.add, World.cell?] at z0; split at z0 <;> simp at z0
  | none =>
    rw [add_plain] at a0
    exact ⟨b, off, rfl, a0⟩
set_option maxRecDepth 100000 in
theorem open_ints64 {H : Type} {enc : TypeId × Value → H} {W : World} {sp : Nat → Bool} {fuel : Nat} {cs : List Value} {x : DataW H × List MemPlace} (h : DataW.trod enc Tryz.prog W 0 sp true fuel 67 cs = some x) :
    ∃ (v : Value) (l : List Int), cs = [v] ∧ IntsAt W v l ∧ ∀ x ∈ l, I64 x := by
  rcases open_slice Tryz.underlying67 h with ⟨rfl, rfl⟩ | ⟨a, len, cap, m, n, D, Pl, rfl, hb, hl, hm, hmm, rfl, hx⟩
  · exact ⟨_, [], rfl, ⟨by simp [maxLen], none, 0, rfl, fun i x hi => by simp at hi⟩, fun x hx => by simp at hx⟩
  have hlm : len ≤ m := by rw [hmm]; split <;> omega
  have each : ∀ i, i < len → ∃ q : Int, I64 q ∧ W.cell? (a.add i) = some (.int .i64 q) := by
    intro i hi
    obtain ⟨cs', h1, h2⟩ := hx i (by omega)
    rw [cells_int] at h1
    obtain ⟨_, hlen, hcell⟩ := World.cells?_some h1
    obtain ⟨v0, rfl⟩ := list1 hlen
    obtain ⟨p0, e0, _, z0⟩ := DataW.trod_int Tryz.underlying3 h2
    simp only [List.cons.injEq, and_true] at e0
    subst e0
    have c0 := hcell 0 (by omega)
    rw [add_add] at c0
    exact ⟨p0, i64_of z0, by simpa using c0⟩
  obtain ⟨q, hq⟩ := choose_lt each
  have hql : ((List.range len).map q).length = len := by simp
  refine ⟨_, (List.range len).map q, rfl, ⟨by rw [hql]; omega, some a, cap, by rw [hql], fun i x hi => ?_⟩, fun x hx => ?_⟩
  · have hil : i < len := by
      have := (List.getElem?_eq_some_iff.1 hi).1
      omega
    have e : x = q i := by
      rw [List.getElem?_map, List.getElem?_range hil] at hi
      simpa using hi.symm
    subst e
    have a0 := (hq i hil).2
    have z0 := (hq 0 (by omega)).2
    obtain ⟨b, off, spot⟩ := a
    cases spot with
    | some k => simp [Addr.add, World.cell?] at z0; split at z0 <;> simp at z0
    | none =>
      rw [add_plain] at a0
      exact ⟨b, off, rfl, a0⟩
  · obtain ⟨i, hi, rfl⟩ := List.mem_map.1 hx
    exact (hq i (List.mem_range.1 hi)).1
end Go.Proofs.YtpiglmaojonbnaaGreatDoor

/-
  A VALUE THAT IS HANDED IN, OPENED.
-/
namespace Go.Proofs.YtpiglmaojonbnaaGreatDoor
open Go.RowKit Go.Deep Go.WideShapes Go.ChangeShapes

theorem cells_value : Tryz.prog.cellsOf 26 = 2 := by kernel_rfl
theorem list2 {l : List Value} (h : l.length = 2) : ∃ x y, l = [x, y] := by
  match l, h with
  | [x, y], _ => exact ⟨x, y, rfl⟩
theorem trod_struct2 {H : Type} {enc : TypeId × Value → H} {P : Program} {w : World} {base : Nat} {spare : Nat → Bool} {held : Bool} {t : TypeId} {f0 f1 : Field} {fuel : Nat} {cs : List Value} {x : DataW H × List MemPlace} (ht : P.underlying t = some (.struct #[f0, f1])) (h : DataW.trod enc P w base spare held fuel t cs = some x) :
    ∃ y0 y1 n, DataW.trod enc P w base spare held n f0.type ((cs.drop f0.offset).take (P.cellsOf f0.type)) = some y0 ∧ DataW.trod enc P w base spare held n f1.type ((cs.drop f1.offset).take (P.cellsOf f1.type)) = some y1 := by
  obtain ⟨xs, n, _, rfl, hl, hlen, hf⟩ := DataW.trod_struct ht h
  match xs, hlen with
  | [y0, y1], _ => exact ⟨y0, y1, n, by simpa using hf 0 f0 rfl, by simpa using hf 1 f1 rfl⟩
set_option maxRecDepth 100000 in
theorem open_value {H : Type} {enc : TypeId × Value → H} {W : World} {sp : Nat → Bool} {fuel : Nat} {cs : Array Value} {x : DataW H × List MemPlace} (hn : cs.size = Tryz.prog.cellsOf 26) (h : DataW.trod enc Tryz.prog W 0 sp true fuel 26 (Value.agg cs).cells.toList = some x) :
    ∃ k n : Int, cs = #[.int .i64 k, .int .i64 n] ∧ I64 k ∧ I64 n := by
  rw [cells_value] at hn
  obtain ⟨l⟩ := cs
  obtain ⟨v0, v1, rfl⟩ := list2 (l := l) hn
  obtain ⟨y0, y1, k, u0, u1⟩ := trod_struct2 Tryz.underlying26 h
  simp only [cells_int, Value.cells, List.drop, List.take] at u0 u1
  obtain ⟨p0, e0, _, z0⟩ := DataW.trod_int Tryz.underlying3 u0
  obtain ⟨p1, e1, _, z1⟩ := DataW.trod_int Tryz.underlying3 u1
  simp only [List.cons.injEq, and_true] at e0 e1
  subst e0; subst e1
  exact ⟨p0, p1, rfl, i64_of z0, i64_of z1⟩
end Go.Proofs.YtpiglmaojonbnaaGreatDoor

/-
  VALUES THAT ARE HANDED IN, OPENED: a slice of structs of two ints.
-/
namespace Go.Proofs.YtpiglmaojonbnaaGreatDoor
open Go.RowKit Go.Deep Go.WideShapes Go.ChangeShapes

set_option maxRecDepth 100000 in
theorem open_values {H : Type} {enc : TypeId × Value → H} {W : World} {sp : Nat → Bool} {fuel : Nat} {cs : List Value} {x : DataW H × List MemPlace} (h : DataW.trod enc Tryz.prog W 0 sp true fuel 22 cs = some x) :
    ∃ (v : Value) (l : List (Int × Int)), cs = [v] ∧ ValsAt W v l := by
  rcases open_slice Tryz.underlying22 h with ⟨rfl, rfl⟩ | ⟨a, len, cap, m, n, D, Pl, rfl, hb, hl, hm, hmm, rfl, hx⟩
  · exact ⟨_, [], rfl, by simp [maxLen], none, 0, rfl, fun i x hi => by simp at hi⟩
  have hlm : len ≤ m := by rw [hmm]; split <;> omega
  have each : ∀ i, i < len → ∃ q : Int × Int, W.cell? (a.add (i * 2)) = some (.int .i64 q.1) ∧ W.cell? (a.add (i * 2 + 1)) = some (.int .i64 q.2) := by
    intro i hi
    obtain ⟨cs', h1, h2⟩ := hx i (by omega)
    rw [cells_value] at h1
    obtain ⟨_, hlen, hcell⟩ := World.cells?_some h1
    obtain ⟨y0, y1, k, u0, u1⟩ := trod_struct2 Tryz.underlying26 h2
    obtain ⟨v0, v1, rfl⟩ := list2 hlen
    simp only [cells_int, List.drop, List.take] at u0 u1
    obtain ⟨p0, e0, _, z0⟩ := DataW.trod_int Tryz.underlying3 u0
    obtain ⟨p1, e1, _, z1⟩ := DataW.trod_int Tryz.underlying3 u1
    simp only [List.cons.injEq, and_true] at e0 e1
    subst e0; subst e1
    have c0 := hcell 0 (by omega)
    have c1 := hcell 1 (by omega)
    rw [add_add] at c0 c1
    exact ⟨(p0, p1), by simpa using c0, by simpa using c1⟩
  obtain ⟨q, hq⟩ := choose_lt each
  have hql : ((List.range len).map q).length = len := by simp
  refine ⟨_, (List.range len).map q, rfl, by rw [hql]; omega, some a, cap, by rw [hql], fun i x hi => ?_⟩
  have hil : i < len := by
    have := (List.getElem?_eq_some_iff.1 hi).1
    omega
  have e : x = q i := by
    rw [List.getElem?_map, List.getElem?_range hil] at hi
    simpa using hi.symm
  subst e
  obtain ⟨a0, a1⟩ := hq i hil
  have z0 := (hq 0 (by omega)).1
  obtain ⟨b, off, spot⟩ := a
  cases spot with
  | some k => simp [Addr.add, World.cell?] at z0; split at z0 <;> simp at z0
  | none =>
    rw [add_plain] at a0 a1
    exact ⟨b, off, rfl, a0, by rw [Nat.add_assoc]; exact a1⟩
end Go.Proofs.YtpiglmaojonbnaaGreatDoor
