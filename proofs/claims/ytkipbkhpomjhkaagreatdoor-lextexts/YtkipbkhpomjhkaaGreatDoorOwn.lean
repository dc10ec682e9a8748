/-
  lustrumlaw1.one BY ITS CONTRACT, and what a list of tokens in memory holds cell by cell.
-/
import Derived.Test.YtkipbkhpomjhkaaGreatDoorRefE
import Derived.Test.YtkipbkhpomjhkaaGreatDoorCoded
namespace Go.Proofs.YtkipbkhpomjhkaaGreatDoor
open Go.RowKit

/-- A row of tokens, told by its cells. -/
theorem own_cells {w : World} {base : Nat} {e : TypeId} {v : Value} {l : List Tk} (h : w.ownsRow base e 3 v l.length (tkCells l)) (hn : 0 < l.length) :
    ∃ g cap, v = .slice (some ⟨g, 0, none⟩) l.length cap ∧ ∀ i (hi : i < l.length), w.cell? ⟨g, i * 3, none⟩ = some (.string l[i].kind) ∧ w.cell? ⟨g, i * 3 + 1, none⟩ = some (.string l[i].text) ∧ w.cell? ⟨g, i * 3 + 2, none⟩ = some (.int .i64 l[i].pos) := by
  obtain ⟨h1, h2⟩ := h
  rcases h2 with ⟨_, h0⟩ | ⟨g, cap, cur, hv, hg, hh, hc1, hc2, hc3, hc4⟩
  · omega
  · refine ⟨g, cap, hv, fun i hi => ?_⟩
    have f : ∀ k x, (tkCells l)[k]? = some x → w.cell? ⟨g, k, none⟩ = some x := by
      intro k x hx
      rw [cell_of_row w g k cur e (0, 0) hh]
      rw [← hc4, List.getElem?_take] at hx
      split at hx
      · simpa using hx
      · cases hx
    obtain ⟨a, b, c⟩ := tkCells_at l i hi
    exact ⟨f _ _ a, f _ _ b, f _ _ c⟩
theorem Lexes.ne {s : ByteArray} {i : Nat} {l : List Tk} (h : Lexes s i l none) : 0 < l.length := by
  cases h <;> simp

theorem Lexes.len {s : ByteArray} {i : Nat} {l : List Tk} {r : Option Nat} (h : Lexes s i l r) {N : Nat} (hN : s.size ≤ N) : l.length ≤ N + 1 := by
  have : ∀ {i : Nat} {l : List Tk} {r : Option Nat}, Lexes s i l r → i ≤ s.size → l.length + i ≤ s.size + 1 := by
    intro i l r h
    induction h with
    | fin i j n kind text => intro hi; simp only [List.length_cons, List.length_nil]; omega
    | bad i j n kind text => intro hi; simp only [List.length_nil]; omega
    | tok i j n kind text l r S c T h0 h1 _ ih =>
      intro hi
      have h2 := T.pos h0 h1
      have h3 := T.le S.le
      have h4 := S.skips.le
      have := ih h3
      simp only [List.length_cons]; omega
  rcases Nat.lt_or_ge s.size i with h1 | h1
  · have hij : ∀ {j}, Stands s i j → False := fun S => by have := S.skips.le; have := S.le; omega
    cases h with
    | fin _ _ _ _ _ S => exact (hij S).elim
    | bad _ _ _ _ _ S => exact (hij S).elim
    | tok _ _ _ _ _ _ _ S => exact (hij S).elim
  · have := this h h1; omega
def strA : ByteArray := ⟨#[97]⟩
theorem lexesA : Lexes strA 0 [⟨kName, strA, 0⟩, ⟨kEnd, ⟨#[]⟩, 1⟩] none := by
  have r : IsRun nameI strA 0 1 := ⟨by decide, first_of (by decide), fun h => absurd h (by decide)⟩
  have hw : wordB strA = false := by
    rw [wordB, show strA.toList = [97] from by rw [ByteArray.toList_eq]; rfl]; decide
  have hk : nameK (strA.extract 0 (0 + 1)) = kName := by
    rw [show strA.extract 0 (0 + 1) = strA from extract_all strA, nameK, if_neg (by decide), if_neg (by rw [hw]; exact Bool.false_ne_true)]
  have T := TokAt.low (s := strA) (j := 0) 1 (by decide) (by decide) r
  rw [hk, show strA.extract 0 (0 + 1) = strA from extract_all strA] at T
  refine .tok 0 0 1 kName strA _ _ ⟨.refl 0, by decide, fun _ => by decide⟩ (by decide) T kName_some (not_end (Or.inr (Or.inr (Or.inl rfl)))) ?_
  exact .fin 1 1 0 kEnd ⟨#[]⟩ ⟨.refl 1, by decide, fun h => absurd h (by decide)⟩ (by decide) (.fin rfl) (by rw [kEnd_list]; rfl) (by rw [kEnd_list]; rfl)

set_option maxRecDepth 100000 in
set_option maxHeartbeats 1000000 in
theorem one_any (w : World) (pT : Addr) (ev : Value) (hT : w.cell? ⟨2, 0, none⟩ = some (.iface 126 (.pointer (some pT)))) (hv : w.cell? ⟨11, 0, none⟩ = some ev) (hev : ev = .nilIface ∨ ∃ te pe, ev = .iface te pe) :
    Calls Tryz.prog 4 #[] w fun e w' => e = .returned (.bool true) ∧ Below w.heap.size w w' := by
  go_enter Tryz.func4, Tryz.ntmps4
  go_wp2_with fail
  refine (lex_any strA w pT ev (by decide) hT hv hev).mono ?_
  rintro e w1 ⟨hb, h⟩
  rcases h with ⟨l, v, hl, rfl, hown⟩ | ⟨l, j, p, hl, rfl, _, _⟩
  · obtain ⟨rfl, _⟩ := hl.one lexesA
    obtain ⟨g, cap, rfl, hc⟩ := own_cells hown (by decide)
    have c0 : w1.cell? ⟨g, 0, none⟩ = some (.string kName) := (hc 0 (by decide)).1
    have c3 : w1.cell? ⟨g, 3, none⟩ = some (.string kEnd) := (hc 1 (by decide)).1
    have n0 : kName.toList = [110, 97, 109, 101] := by rw [ByteArray.toList_eq]; rfl
    have n1 := kEnd_list
    clear hc hown hl
    simp only [List.length_cons, List.length_nil, Nat.zero_add]
    go_wp2
    go_ret
    exact ⟨rfl, hb⟩
  · exact absurd (hl.one lexesA).2 (by simp)
end Go.Proofs.YtkipbkhpomjhkaaGreatDoor
