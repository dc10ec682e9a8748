/-
  package graph: values BY ITS CONTRACT: what all gates come to.
-/
import Derived.Test.YtpiglmaojonbnaaDoorP11
namespace Go.Proofs.YtpiglmaojonbnaaDoor
open Go.RowKit Go.Maps

theorem Tryd.infoBool : (Tryd.prog.info? 4).map (fun i => (i.zero, i.size, i.bytes)) = some (some (.bool false), 1, 1) := by kernel_rfl
theorem made_bools {w : World} {V n : Nat} (h : w.ownsRow 0 4 1 (.slice (some ⟨V, 0, none⟩) n n) n (madeCells (Value.bool false).cells (n * 1)).toList) : w.heap[V]? = some (.cells (rowB (List.replicate n false)) 4 (0, 0)) := by
  obtain ⟨_, h2⟩ := h
  rcases h2 with ⟨h2, _⟩ | ⟨g, cap, cur, e, _, hg, _, _, hs, ht⟩
  · cases h2
  · obtain ⟨rfl, rfl⟩ : V = g ∧ n = cap := by simpa using e
    rw [hg]
    have e1 : (madeCells (Value.bool false).cells (n * 1)).toList = List.replicate n (.bool false) := by rw [Nat.mul_one]; exact toList_madeCells_one _ _
    rw [e1] at ht
    have e2 : cur.toList = List.replicate n (.bool false) := by rw [← ht, List.take_of_length_le (by simp [hs])]
    have : cur = rowB (List.replicate n false) := by
      apply Array.toList_inj.1
      rw [e2]
      simp [rowB]
    rw [this]
theorem rowN_zero (gs : List (Int × Int)) (inp : List Bool) : rowN gs inp 0 = List.replicate (gs.length + 1) false := by
  unfold rowN valsTo
  rw [List.replicate_succ]
  rfl
/-- All gates' values. -/
def valsOf (gs : List (Int × Int)) (inp : List Bool) : List Bool := (valsTo gs inp gs.length).1
theorem rowN_all (gs : List (Int × Int)) (inp : List Bool) : rowN gs inp gs.length = valsOf gs inp := by unfold rowN valsOf; simp
theorem Gs.lits {gs : List (Int × Int)} (h : Gs gs) {i : Nat} {p : Int × Int} (hi : gs[i]? = some p) (hn : inpB p = false) : 0 ≤ p.1 ∧ p.1 < 2 * ((i : Int) + 1) ∧ 0 ≤ p.2 ∧ p.2 < 2 * ((i : Int) + 1) := by
  have hp := (h.each i p hi).resolve_left (fun e => by rw [e] at hn; exact absurd hn (by decide))
  omega

theorem row_store {w : World} {V : Nat} {gs : List (Int × Int)} {inp : List Bool} {j : Nat} {t : TypeId} (hV : w.heap[V]? = some (.cells (rowB (rowN gs inp j)) t (0, 0))) (hj : j < gs.length) (b : Bool) (hb : (valsTo gs inp (j + 1)).1 = (valsTo gs inp j).1 ++ [b]) :
    (w.setCell ⟨V, j + 1, none⟩ (.bool b)).heap[V]? = some (.cells (rowB (rowN gs inp (j + 1))) t (0, 0)) := by
  rw [heap_setCell_at hV, rowB_set, ← rowN_set hj b hb]
end Go.Proofs.YtpiglmaojonbnaaDoor

/-
  GATES AS MATHEMATICS: what was made once is found again.
-/
namespace Go.Proofs.YtpiglmaojonbnaaDoor

theorem andG_pre (gs : List (Int × Int)) (a b : Int) : ∃ t, andG gs a b = gs ++ t := by
  unfold andG
  split
  · exact ⟨[], by simp⟩
  · split
    · exact ⟨[], by simp⟩
    · split
      · exact ⟨[], by simp⟩
      · exact ⟨_, rfl⟩
theorem andG_mem {gs : List (Int × Int)} {a b : Int} (h1 : ¬ offB a b = true) (h2 : ¬ oneB a b = true) : (min a b, max a b) ∈ andG gs a b := by
  unfold andG
  rw [if_neg h1, if_neg h2]
  split
  · assumption
  · simp
theorem andG_same {hs : List (Int × Int)} {a b : Int} (h : offB a b = true ∨ oneB a b = true ∨ (min a b, max a b) ∈ hs) : andG hs a b = hs := by
  unfold andG
  by_cases h1 : offB a b = true
  · rw [if_pos h1]
  · rw [if_neg h1]
    by_cases h2 : oneB a b = true
    · rw [if_pos h2]
    · rw [if_neg h2, if_pos ((h.resolve_left h1).resolve_left h2)]
/-- Made again, among more gates: the same. -/
theorem and_again (gs t : List (Int × Int)) (a b : Int) : andL (andG gs a b ++ t) a b = andL gs a b ∧ andG (andG gs a b ++ t) a b = andG gs a b ++ t := by
  by_cases h1 : offB a b = true
  · exact ⟨by unfold andL; rw [if_pos h1, if_pos h1], andG_same (.inl h1)⟩
  · by_cases h2 : oneB a b = true
    · exact ⟨by unfold andL; rw [if_neg h1, if_pos h2, if_neg h1, if_pos h2], andG_same (.inr (.inl h2))⟩
    · have hm := andG_mem (gs := gs) h1 h2
      refine ⟨?_, andG_same (.inr (.inr (List.mem_append_left _ hm)))⟩
      unfold andL
      rw [if_neg h1, if_neg h2, if_neg h1, if_neg h2, idx_app hm]
      unfold andG
      rw [if_neg h1, if_neg h2]
      by_cases h3 : (min a b, max a b) ∈ gs
      · rw [if_pos h3]
      · rw [if_neg h3, idx_new h3, idx_out h3]
theorem and_comm (gs : List (Int × Int)) (a b : Int) : andL gs b a = andL gs a b ∧ andG gs b a = andG gs a b := by
  have e1 : min b a = min a b := by omega
  have e2 : max b a = max a b := by omega
  constructor
  · unfold andL offB oneB; rw [e1, e2]
  · unfold andG offB oneB; rw [e1, e2]
theorem or_again (gs t : List (Int × Int)) (a b : Int) : orL (orG gs a b ++ t) a b = orL gs a b ∧ orG (orG gs a b ++ t) a b = orG gs a b ++ t := by
  have h := and_again gs t (turnL a) (turnL b)
  exact ⟨by unfold orL orG; rw [h.1], h.2⟩
theorem either_again (gs : List (Int × Int)) (a b c d : Int) : eitherL (eitherG gs a b c d) a b c d = eitherL gs a b c d := by
  obtain ⟨t2, e2⟩ := andG_pre (andG gs a b) c d
  obtain ⟨t3, e3⟩ := andG_pre (andG (andG gs a b) c d) (turnL (andL gs a b)) (turnL (andL (andG gs a b) c d))
  have hE : eitherG gs a b c d = andG (andG gs a b) c d ++ t3 := e3
  have hE' : eitherG gs a b c d = andG gs a b ++ (t2 ++ t3) := by rw [hE, e2, List.append_assoc]
  have h1 := and_again gs (t2 ++ t3) a b
  rw [← hE'] at h1
  have h2 := and_again (andG gs a b) t3 c d
  rw [← hE] at h2
  have h3 := or_again (andG (andG gs a b) c d) [] (andL gs a b) (andL (andG gs a b) c d)
  rw [List.append_nil] at h3
  have h3' : orL (eitherG gs a b c d) (andL gs a b) (andL (andG gs a b) c d) = orL (andG (andG gs a b) c d) (andL gs a b) (andL (andG gs a b) c d) := h3.1
  show orL (andG (andG (eitherG gs a b c d) a b) c d) (andL (eitherG gs a b c d) a b) (andL (andG (eitherG gs a b c d) a b) c d) = _
  rw [h1.2, h1.1, h2.2, h2.1, h3']
  rfl
end Go.Proofs.YtpiglmaojonbnaaDoor
