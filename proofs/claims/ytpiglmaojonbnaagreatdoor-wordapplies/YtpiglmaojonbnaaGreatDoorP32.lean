/-
  What an operator of words asks of them (mathematics alone).
-/
import Derived.Test.YtpiglmaojonbnaaGreatDoorP16
namespace Go.Proofs.YtpiglmaojonbnaaGreatDoor

/-- Do these words fit. -/
def fitsT (tk : List Int) (ls : List (List Int)) : Bool := decide (ls.length = tk.length) && !(ls.map kindL).any noKind && (fitK tk (ls.map kindL) 0).isSome
theorem ask_row {op : List UInt8} {ls : List (List Int)} (h : askB op ls = true) : ∃ tk gv, signRow op = some (tk, gv) ∧ fitsT tk ls = true ∧ ls ≠ [] := by
  unfold askB resK at h
  simp only [Bool.and_eq_true, Bool.not_eq_true', List.isEmpty_eq_false_iff] at h
  obtain ⟨h1, h2⟩ := h
  cases hr : signRow op with
  | none => rw [hr] at h1; cases h1
  | some p =>
    obtain ⟨tk, gv⟩ := p
    rw [hr] at h1
    refine ⟨tk, gv, rfl, ?_, h2⟩
    simp only at h1
    by_cases e1 : (ls.map kindL).length = tk.length
    · rw [if_pos e1] at h1
      by_cases e2 : (ls.map kindL).any noKind = true
      · rw [if_pos e2] at h1; cases h1
      · rw [if_neg e2] at h1
        unfold fitsT
        rw [List.length_map] at e1
        simp only [Bool.and_eq_true, decide_eq_true_eq, Bool.not_eq_true']
        refine ⟨⟨e1, by simpa using e2⟩, by simpa using h1⟩
    · rw [if_neg e1] at h1; cases h1
theorem kind_len {l : List Int} : (kindL l = 1 ↔ l.length = 1) ∧ (kindL l = 2 ↔ l.length = 8) := by
  unfold kindL
  constructor
  · split
    · simp_all
    · split <;> simp_all
  · split
    · simp_all
    · split <;> simp_all
theorem no_kind {l : List Int} (h : noKind (kindL l) = false) : l.length = 1 ∨ l.length = 8 := by
  unfold noKind kindL at h
  split at h
  · left; assumption
  · split at h
    · right; assumption
    · simp at h
theorem fits_one {k : Int} {ls : List (List Int)} (hk : k ≠ 0) (h : fitsT [k] ls = true) : ∃ a, ls = [a] ∧ kindL a = k := by
  unfold fitsT at h
  simp only [Bool.and_eq_true, decide_eq_true_eq] at h
  match ls, h.1.1 with
  | [a], _ =>
    refine ⟨a, rfl, ?_⟩
    have := h.2
    simp only [List.map_cons, List.map_nil, fitK, if_neg hk] at this
    by_cases e : kindL a = k
    · exact e
    · rw [if_neg e] at this; cases this
theorem fits_any {ls : List (List Int)} (h : fitsT [0] ls = true) : ∃ a, ls = [a] := by
  unfold fitsT at h
  simp only [Bool.and_eq_true, decide_eq_true_eq] at h
  match ls, h.1.1 with
  | [a], _ => exact ⟨a, rfl⟩
theorem fits_two {k : Int} {ls : List (List Int)} (hk : k ≠ 0) (h : fitsT [k, k] ls = true) : ∃ a b, ls = [a, b] ∧ kindL a = k ∧ kindL b = k := by
  unfold fitsT at h
  simp only [Bool.and_eq_true, decide_eq_true_eq] at h
  match ls, h.1.1 with
  | [a, b], _ =>
    refine ⟨a, b, rfl, ?_⟩
    have := h.2
    simp only [List.map_cons, List.map_nil, fitK, if_neg hk] at this
    by_cases e : kindL a = k
    · rw [if_pos e] at this
      by_cases e2 : kindL b = k
      · exact ⟨e, e2⟩
      · rw [if_neg e2] at this; cases this
    · rw [if_neg e] at this; cases this
theorem fits_same {ls : List (List Int)} (h : fitsT [0, 0] ls = true) : ∃ a b, ls = [a, b] ∧ ((a.length = 1 ∧ b.length = 1) ∨ (a.length = 8 ∧ b.length = 8)) := by
  unfold fitsT at h
  simp only [Bool.and_eq_true, decide_eq_true_eq, Bool.not_eq_true'] at h
  match ls, h.1.1 with
  | [a, b], _ =>
    refine ⟨a, b, rfl, ?_⟩
    have h1 := h.1.2
    have h2 := h.2
    simp only [List.map_cons, List.map_nil, List.any_cons, List.any_nil, Bool.or_false, Bool.or_eq_false_iff] at h1
    have ka := no_kind h1.1
    have kb := no_kind h1.2
    have hne : kindL a ≠ 0 := fun e => by rw [e] at h1; simp [noKind] at h1
    simp only [List.map_cons, List.map_nil, fitK, if_pos, if_neg hne] at h2
    by_cases e : kindL b = kindL a
    · rcases ka with ka | ka
      · exact .inl ⟨ka, kind_len.1.1 (by rw [e]; exact kind_len.1.2 ka)⟩
      · exact .inr ⟨ka, kind_len.2.1 (by rw [e]; exact kind_len.2.2 ka)⟩
    · rw [if_neg e] at h2; cases h2
theorem fits_if {ls : List (List Int)} (h : fitsT [1, 0, 0] ls = true) : ∃ t a b, ls = [t, a, b] ∧ t.length = 1 ∧ ((a.length = 1 ∧ b.length = 1) ∨ (a.length = 8 ∧ b.length = 8)) := by
  unfold fitsT at h
  simp only [Bool.and_eq_true, decide_eq_true_eq, Bool.not_eq_true'] at h
  match ls, h.1.1 with
  | [t, a, b], _ =>
    have h1 := h.1.2
    have h2 := h.2
    simp only [List.map_cons, List.map_nil, List.any_cons, List.any_nil, Bool.or_false, Bool.or_eq_false_iff] at h1
    by_cases et : kindL t = 1
    · refine ⟨t, a, b, rfl, kind_len.1.1 et, ?_⟩
      obtain ⟨a', b', e, hh⟩ := fits_same (ls := [a, b]) (by
        unfold fitsT
        simp only [Bool.and_eq_true, decide_eq_true_eq, Bool.not_eq_true']
        refine ⟨⟨rfl, by simp only [List.map_cons, List.map_nil, List.any_cons, List.any_nil, Bool.or_false, Bool.or_eq_false_iff]; exact h1.2⟩, ?_⟩
        rw [List.map_cons, fitK, if_neg (by decide), if_pos et] at h2
        exact h2)
      simp only [List.cons.injEq, and_true] at e
      obtain ⟨rfl, rfl⟩ := e
      exact hh
    · rw [List.map_cons, fitK, if_neg (by decide), if_neg et] at h2; cases h2
theorem fits_none {ls : List (List Int)} (h : fitsT [] ls = true) : ls = [] := by
  unfold fitsT at h
  simp only [Bool.and_eq_true, decide_eq_true_eq] at h
  exact List.eq_nil_of_length_eq_zero h.1.1
end Go.Proofs.YtpiglmaojonbnaaGreatDoor
