/-
  A SLICE OF TOKENS THAT IS HANDED IN, OPENED: kinds, texts and places by their index; the texts' bytes together are at most the bulk.
-/
import Derived.Test.YtkipbkhpomjhkaaGreatDoorTxtP
import Derived.Test.YtkipbkhpomjhkaaGreatDoorRows
import Derived.Deep.Strs
namespace Go.Proofs.YtkipbkhpomjhkaaGreatDoor
open Go.RowKit Go.Deep Go.WideShapes Go.ChangeShapes

theorem bulk_append {H : Type} (l r : List (DataW H)) : Rows.uptoBulkAll (l ++ r) = Rows.uptoBulkAll l + Rows.uptoBulkAll r := by
  induction l with
  | nil => simp [Rows.uptoBulkAll]
  | cons x l ih => simp only [List.cons_append, Rows.uptoBulkAll, ih]; omega
theorem bulk_map {H : Type} (X : Nat → ByteArray) (D : Nat → DataW H) (n : Nat) (h : ∀ i, i < n → (X i).size + 1 ≤ Rows.uptoBulk (D i)) : joinN X n ≤ Rows.uptoBulkAll ((List.range n).map D) := by
  induction n with
  | zero => exact Nat.zero_le _
  | succ n ih =>
    rw [List.range_succ, List.map_append, bulk_append, joinN_step]
    have h1 := ih (fun i hi => h i (by omega))
    have h2 := h n (by omega)
    simp only [List.map_cons, List.map_nil, Rows.uptoBulkAll]
    omega
theorem cells_list : Tryz.prog.cellsOf 25 = 3 := by kernel_rfl
theorem cells_str : Tryz.prog.cellsOf 9 = 1 := by kernel_rfl
theorem cells_int : Tryz.prog.cellsOf 3 = 1 := by kernel_rfl
theorem list3 {l : List Value} (h : l.length = 3) : ∃ x y z, l = [x, y, z] := by
  match l, h with
  | [x, y, z], _ => exact ⟨x, y, z, rfl⟩
set_option maxRecDepth 100000 in
theorem open_toks {H : Type} {enc : TypeId × Value → H} {W : World} {sp : Nat → Bool} {fuel : Nat} {cs : List Value} {x : DataW H × List MemPlace} (h : DataW.trod enc Tryz.prog W 0 sp true fuel 22 cs = some x) :
    ∃ (ao : Option Addr) (n c : Nat) (K X : Nat → ByteArray) (Z : Nat → Int), cs = [.slice ao n c] ∧ Toks W ao n K X Z ∧ joinN X n ≤ Rows.uptoBulk x.1 := by
  rcases open_slice Tryz.underlying22 h with ⟨rfl, rfl⟩ | ⟨a, len, cap, m, n, D, Pl, rfl, hb, hl, hm, hmm, rfl, hx⟩
  · exact ⟨none, 0, 0, fun _ => ⟨#[]⟩, fun _ => ⟨#[]⟩, fun _ => 0, rfl, fun i hi => absurd hi (Nat.not_lt_zero _), Nat.zero_le _⟩
  have hlm : len ≤ m := by rw [hmm]; split <;> omega
  have each : ∀ i, i < len → ∃ q : ByteArray × ByteArray × Int, W.cell? (a.add (i * 3)) = some (.string q.1) ∧ W.cell? (a.add (i * 3 + 1)) = some (.string q.2.1) ∧ W.cell? (a.add (i * 3 + 2)) = some (.int .i64 q.2.2) ∧ q.2.1.size + 1 ≤ Rows.uptoBulk (D i) := by
    intro i hi
    obtain ⟨cs', h1, h2⟩ := hx i (by omega)
    rw [cells_list] at h1
    obtain ⟨_, hlen, hcell⟩ := World.cells?_some h1
    obtain ⟨y0, y1, y2, k, hxy, _, u0, u1, u2⟩ := trod_struct3 Tryz.underlying25 h2
    obtain ⟨v0, v1, v2, rfl⟩ := list3 hlen
    simp only [cells_str, cells_int, List.drop, List.take] at u0 u1 u2
    obtain ⟨s, e0, d0, _⟩ := DataW.trod_string Tryz.underlying9 u0
    obtain ⟨q, e1, d1, _⟩ := DataW.trod_string Tryz.underlying9 u1
    obtain ⟨p, e2, d2, _⟩ := DataW.trod_int Tryz.underlying3 u2
    simp only [List.cons.injEq, and_true] at e0 e1 e2
    subst e0; subst e1; subst e2
    have c0 := hcell 0 (by omega)
    have c1 := hcell 1 (by omega)
    have c2 := hcell 2 (by omega)
    rw [add_add] at c0 c1 c2
    simp only [Prod.mk.injEq] at hxy
    refine ⟨(s, q, p), by simpa using c0, by simpa using c1, by simpa using c2, ?_⟩
    rw [hxy.1, d0, d1, d2]
    simp only [Rows.uptoBulk, Rows.uptoBulkAll, Array.length_toList]
    have : q.size = q.data.size := rfl
    omega
  have : Inhabited (ByteArray × ByteArray × Int) := ⟨(⟨#[]⟩, ⟨#[]⟩, 0)⟩
  obtain ⟨q, hq⟩ := choose_lt each
  refine ⟨some a, len, cap, fun i => (q i).1, fun i => (q i).2.1, fun i => (q i).2.2, rfl, fun i hi => ?_, ?_⟩
  · have c0 := (hq 0 (by omega)).1
    obtain ⟨b, off, spot⟩ := a
    cases spot with
    | some k => simp [Addr.add, World.cell?] at c0; split at c0 <;> simp at c0
    | none =>
      obtain ⟨a0, a1, a2, _⟩ := hq i hi
      rw [add_plain] at a0 a1 a2
      exact ⟨b, off, rfl, a0, a1, a2⟩
  · have h1 := bulk_map (fun i => (q i).2.1) D len (fun i hi => (hq i hi).2.2.2)
    simp only [Rows.uptoBulk]
    omega
end Go.Proofs.YtkipbkhpomjhkaaGreatDoor
