/-
  A SLICE OF TOKENS THAT IS HANDED IN, OPENED: kinds, texts and places by their index; so many tokens, and so many bytes in each text, as the form's own reach allows.
-/
import Derived.Test.YtkipbkhpomjhkaaGreatDoorTxtP
import Derived.Test.YtkipbkhpomjhkaaGreatDoorRows
import Derived.Deep.Strs
import Derived.SizedLaws
namespace Go.Proofs.YtkipbkhpomjhkaaGreatDoor
open Go.RowKit Go.Deep Go.WideShapes Go.ChangeShapes

theorem weightsAll_mem {H : Type} {P : Program} {e : TypeId} {d : DataW H} {k : Nat} (hk : k ∈ d.weights P e) : ∀ {l : List (DataW H)}, d ∈ l → k ∈ DataW.weightsAll P e l
  | x :: l, h => by
    simp only [DataW.weightsAll, List.mem_append]
    rcases List.mem_cons.1 h with e | h
    · subst e; exact Or.inl hk
    · exact Or.inr (weightsAll_mem hk h)
theorem bytes_tok : Tryz.prog.bytesOf 25 = 40 := by kernel_rfl
theorem cells_list : Tryz.prog.cellsOf 25 = 3 := by kernel_rfl
theorem cells_str : Tryz.prog.cellsOf 9 = 1 := by kernel_rfl
theorem cells_int : Tryz.prog.cellsOf 3 = 1 := by kernel_rfl
theorem list3 {l : List Value} (h : l.length = 3) : ∃ x y z, l = [x, y, z] := by
  match l, h with
  | [x, y, z], _ => exact ⟨x, y, z, rfl⟩
set_option maxRecDepth 100000 in
theorem open_toks {H : Type} {enc : TypeId × Value → H} {W : World} {sp : Nat → Bool} {fuel : Nat} {cs : List Value} {x : DataW H × List MemPlace} (h : DataW.trod enc Tryz.prog W 0 sp true fuel 22 cs = some x) :
    ∃ (ao : Option Addr) (n c : Nat) (K X : Nat → ByteArray) (Z : Nat → Int), cs = [.slice ao n c] ∧ Toks W ao n K X Z ∧ ((∀ k ∈ x.1.weights Tryz.prog 22, k ≤ reachBytes) → n * 40 ≤ reachBytes ∧ ∀ i, i < n → (X i).size ≤ reachBytes) := by
  rcases open_slice Tryz.underlying22 h with ⟨rfl, rfl⟩ | ⟨a, len, cap, m, n, D, Pl, rfl, hb, hl, hm, hmm, rfl, hx⟩
  · exact ⟨none, 0, 0, fun _ => ⟨#[]⟩, fun _ => ⟨#[]⟩, fun _ => 0, rfl, fun i hi => absurd hi (Nat.not_lt_zero _), fun _ => ⟨Nat.zero_le _, fun i hi => absurd hi (Nat.not_lt_zero _)⟩⟩
  have hlm : len ≤ m := by rw [hmm]; split <;> omega
  have each : ∀ i, i < len → ∃ q : ByteArray × ByteArray × Int, W.cell? (a.add (i * 3)) = some (.string q.1) ∧ W.cell? (a.add (i * 3 + 1)) = some (.string q.2.1) ∧ W.cell? (a.add (i * 3 + 2)) = some (.int .i64 q.2.2) ∧ q.2.1.size ∈ (D i).weights Tryz.prog 25 := by
    intro i hi
    obtain ⟨cs', h1, h2⟩ := hx i (by omega)
    rw [cells_list] at h1
    obtain ⟨_, hlen, hcell⟩ := World.cells?_some h1
    obtain ⟨y0, y1, y2, k, hxy, _, u0, u1, u2⟩ := trod_struct3 Tryz.underlying25 h2
    obtain ⟨v0, v1, v2, rfl⟩ := list3 hlen
    simp only [cells_str, cells_int, List.drop, List.take] at u0 u1 u2
    obtain ⟨s, e0, d0, _⟩ := DataW.trod_string Tryz.underlying9 u0
    obtain ⟨q, e1, d1, _⟩ := DataW.trod_string Tryz.underlying9 u1
    obtain ⟨p, e2, d2, _⟩ := DataW.trod_int Tryz.underlying3 u2
    simp only [List.cons.injEq, and_true] at e0 e1 e2
    subst e0; subst e1; subst e2
    have c0 := hcell 0 (by omega)
    have c1 := hcell 1 (by omega)
    have c2 := hcell 2 (by omega)
    rw [add_add] at c0 c1 c2
    simp only [Prod.mk.injEq] at hxy
    refine ⟨(s, q, p), by simpa using c0, by simpa using c1, by simpa using c2, ?_⟩
    rw [hxy.1, d0, d1, d2]
    simp only [DataW.weights, Tryz.underlying25, DataW.weightsEach, List.map, List.mem_append, List.mem_cons, Array.length_toList]
    exact Or.inr (Or.inl (Or.inl rfl))
  have : Inhabited (ByteArray × ByteArray × Int) := ⟨(⟨#[]⟩, ⟨#[]⟩, 0)⟩
  obtain ⟨q, hq⟩ := choose_lt each
  refine ⟨some a, len, cap, fun i => (q i).1, fun i => (q i).2.1, fun i => (q i).2.2, rfl, fun i hi => ?_, ?_⟩
  · have c0 := (hq 0 (by omega)).1
    obtain ⟨b, off, spot⟩ := a
    cases spot with
    | some k => simp [Addr.add, World.cell?] at c0; split at c0 <;> simp at c0
    | none =>
      obtain ⟨a0, a1, a2, _⟩ := hq i hi
      rw [add_plain] at a0 a1 a2
      exact ⟨b, off, rfl, a0, a1, a2⟩
  · intro hw
    simp only [DataW.weights, Tryz.underlying22, bytes_tok, List.mem_cons, List.mem_append] at hw
    refine ⟨?_, fun i hi => hw _ (Or.inr (Or.inl (weightsAll_mem (hq i hi).2.2.2 (List.mem_map.2 ⟨i, List.mem_range.2 hi, rfl⟩))))⟩
    have h1 := hw _ (Or.inl rfl)
    simp only [List.length_map, List.length_range] at h1
    omega
end Go.Proofs.YtkipbkhpomjhkaaGreatDoor
