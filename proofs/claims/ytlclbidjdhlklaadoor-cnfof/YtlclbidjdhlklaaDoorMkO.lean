/-
  WHAT A STATEMENT's INPUT NAMES, handed in, OPENED: a slice of structs of four ints.
-/
import Derived.Test.YtlclbidjdhlklaaDoorLwB
import Derived.Test.YtlclbidjdhlklaaDoorMkB
namespace Go.Proofs.YtlclbidjdhlklaaDoor
open Go.RowKit Go.Deep Go.WideShapes Go.ChangeShapes

theorem trod_struct4 {H : Type} {enc : TypeId × Value → H} {P : Program} {w : World} {base : Nat} {spare : Nat → Bool} {held : Bool} {t : TypeId} {f0 f1 f2 f3 : Field} {fuel : Nat} {cs : List Value} {x : DataW H × List MemPlace} (ht : P.underlying t = some (.struct #[f0, f1, f2, f3])) (h : DataW.trod enc P w base spare held fuel t cs = some x) :
    ∃ y0 y1 y2 y3 n, DataW.trod enc P w base spare held n f0.type ((cs.drop f0.offset).take (P.cellsOf f0.type)) = some y0 ∧ DataW.trod enc P w base spare held n f1.type ((cs.drop f1.offset).take (P.cellsOf f1.type)) = some y1 ∧
      DataW.trod enc P w base spare held n f2.type ((cs.drop f2.offset).take (P.cellsOf f2.type)) = some y2 ∧ DataW.trod enc P w base spare held n f3.type ((cs.drop f3.offset).take (P.cellsOf f3.type)) = some y3 := by
  obtain ⟨xs, n, _, rfl, hl, hlen, hf⟩ := DataW.trod_struct ht h
  match xs, hlen with
  | [y0, y1, y2, y3], _ => exact ⟨y0, y1, y2, y3, n, by simpa using hf 0 f0 rfl, by simpa using hf 1 f1 rfl, by simpa using hf 2 f2 rfl, by simpa using hf 3 f3 rfl⟩
theorem cells_make : Tryd.prog.cellsOf 56 = 4 := by kernel_rfl
theorem list4 {l : List Value} (h : l.length = 4) : ∃ x y z u, l = [x, y, z, u] := by
  match l, h with
  | [x, y, z, u], _ => exact ⟨x, y, z, u, rfl⟩
set_option maxRecDepth 100000 in
theorem open_makes {H : Type} {enc : TypeId × Value → H} {W : World} {sp : Nat → Bool} {fuel : Nat} {cs : List Value} {x : DataW H × List MemPlace} (h : DataW.trod enc Tryd.prog W 0 sp true fuel 22 cs = some x) :
    ∃ (v : Value) (l : List Mk), cs = [v] ∧ MakesAt W v l ∧ l.length ≤ maxLen := by
  rcases open_slice Tryd.underlying22 h with ⟨rfl, rfl⟩ | ⟨a, len, cap, m, n, D, Pl, rfl, hb, hl, hm, hmm, rfl, hx⟩
  · exact ⟨_, [], rfl, ⟨none, 0, rfl, fun i x hi => by simp at hi⟩, by simp [maxLen]⟩
  have hlm : len ≤ m := by rw [hmm]; split <;> omega
  have each : ∀ i, i < len → ∃ q : Mk, I64 q.k ∧ I64 q.a ∧ I64 q.b ∧ I64 q.c ∧ W.cell? (a.add (i * 4)) = some (.int .i64 q.k) ∧ W.cell? (a.add (i * 4 + 1)) = some (.int .i64 q.a) ∧ W.cell? (a.add (i * 4 + 2)) = some (.int .i64 q.b) ∧ W.cell? (a.add (i * 4 + 3)) = some (.int .i64 q.c) := by
    intro i hi
    obtain ⟨cs', h1, h2⟩ := hx i (by omega)
    rw [cells_make] at h1
    obtain ⟨_, hlen, hcell⟩ := World.cells?_some h1
    obtain ⟨y0, y1, y2, y3, k, u0, u1, u2, u3⟩ := trod_struct4 Tryd.underlying56 h2
    obtain ⟨v0, v1, v2, v3, rfl⟩ := list4 hlen
    simp only [cells_int, List.drop, List.take] at u0 u1 u2 u3
    obtain ⟨p0, e0, _, z0⟩ := DataW.trod_int Tryd.underlying3 u0
    obtain ⟨p1, e1, _, z1⟩ := DataW.trod_int Tryd.underlying3 u1
    obtain ⟨p2, e2, _, z2⟩ := DataW.trod_int Tryd.underlying3 u2
    obtain ⟨p3, e3, _, z3⟩ := DataW.trod_int Tryd.underlying3 u3
    simp only [List.cons.injEq, and_true] at e0 e1 e2 e3
    subst e0; subst e1; subst e2; subst e3
    have c0 := hcell 0 (by omega)
    have c1 := hcell 1 (by omega)
    have c2 := hcell 2 (by omega)
    have c3 := hcell 3 (by omega)
    rw [add_add] at c0 c1 c2 c3
    exact ⟨⟨p0, p1, p2, p3⟩, i64_of z0, i64_of z1, i64_of z2, i64_of z3, by simpa using c0, by simpa using c1, by simpa using c2, by simpa using c3⟩
  have : Inhabited Mk := ⟨⟨0, 0, 0, 0⟩⟩
  obtain ⟨q, hq⟩ := choose_lt each
  have hql : ((List.range len).map q).length = len := by simp
  refine ⟨_, (List.range len).map q, rfl, ⟨some a, cap, by rw [hql], fun i x hi => ?_⟩, by rw [hql]; omega⟩
  have hil : i < len := by
    have := (List.getElem?_eq_some_iff.1 hi).1
    omega
  have e : x = q i := by
    rw [List.getElem?_map, List.getElem?_range hil] at hi
    simpa using hi.symm
  subst e
  obtain ⟨k0, k1, k2, k3, a0, a1, a2, a3⟩ := hq i hil
  have z0 := (hq 0 (by omega)).2.2.2.2.1
  obtain ⟨b, off, spot⟩ := a
  cases spot with
  | some k => simp [Addr.add, World.cell?] at z0; split at z0 <;> simp at z0
  | none =>
    rw [add_plain] at a0 a1 a2 a3
    exact ⟨k0, k1, k2, k3, b, off, rfl, a0, by rw [Nat.add_assoc]; exact a1, by rw [Nat.add_assoc]; exact a2, by rw [Nat.add_assoc]; exact a3⟩
end Go.Proofs.YtlclbidjdhlklaaDoor
