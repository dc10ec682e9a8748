/-
  What an operator takes of words, and what the document takes of values: the same (mathematics alone).
-/
import Derived.Test.YtpiglmaojonbnaaGreatDoorP33
import Derived.Test.YtpiglmaojonbnaaGreatDoorP38
namespace Go.Proofs.YtpiglmaojonbnaaGreatDoor

theorem sign_len {op : List UInt8} {tk gv : List Int} (h : signRow op = some (tk, gv)) : tk.length ≤ 3 := by
  unfold signRow at h
  by_cases e : op = [105, 102]
  · rw [if_pos e] at h; simp only [Option.some.injEq, Prod.mk.injEq] at h; obtain ⟨rfl, _⟩ := h; decide
  rw [if_neg e] at h; clear e
  by_cases e : op = [102, 98, 121]
  · rw [if_pos e] at h; simp only [Option.some.injEq, Prod.mk.injEq] at h; obtain ⟨rfl, _⟩ := h; decide
  rw [if_neg e] at h; clear e
  by_cases e : op = [45, 62]
  · rw [if_pos e] at h; simp only [Option.some.injEq, Prod.mk.injEq] at h; obtain ⟨rfl, _⟩ := h; decide
  rw [if_neg e] at h; clear e
  by_cases e : op = [112, 114, 101]
  · rw [if_pos e] at h; simp only [Option.some.injEq, Prod.mk.injEq] at h; obtain ⟨rfl, _⟩ := h; decide
  rw [if_neg e] at h; clear e
  by_cases e : op = [60, 62]
  · rw [if_pos e] at h; simp only [Option.some.injEq, Prod.mk.injEq] at h; obtain ⟨rfl, _⟩ := h; decide
  rw [if_neg e] at h; clear e
  by_cases e : op = [61]
  · rw [if_pos e] at h; simp only [Option.some.injEq, Prod.mk.injEq] at h; obtain ⟨rfl, _⟩ := h; decide
  rw [if_neg e] at h; clear e
  by_cases e : op = [62, 61]
  · rw [if_pos e] at h; simp only [Option.some.injEq, Prod.mk.injEq] at h; obtain ⟨rfl, _⟩ := h; decide
  rw [if_neg e] at h; clear e
  by_cases e : op = [62]
  · rw [if_pos e] at h; simp only [Option.some.injEq, Prod.mk.injEq] at h; obtain ⟨rfl, _⟩ := h; decide
  rw [if_neg e] at h; clear e
  by_cases e : op = [60, 61]
  · rw [if_pos e] at h; simp only [Option.some.injEq, Prod.mk.injEq] at h; obtain ⟨rfl, _⟩ := h; decide
  rw [if_neg e] at h; clear e
  by_cases e : op = [60]
  · rw [if_pos e] at h; simp only [Option.some.injEq, Prod.mk.injEq] at h; obtain ⟨rfl, _⟩ := h; decide
  rw [if_neg e] at h; clear e
  by_cases e : op = [109, 111, 100]
  · rw [if_pos e] at h; simp only [Option.some.injEq, Prod.mk.injEq] at h; obtain ⟨rfl, _⟩ := h; decide
  rw [if_neg e] at h; clear e
  by_cases e : op = [47]
  · rw [if_pos e] at h; simp only [Option.some.injEq, Prod.mk.injEq] at h; obtain ⟨rfl, _⟩ := h; decide
  rw [if_neg e] at h; clear e
  by_cases e : op = [42]
  · rw [if_pos e] at h; simp only [Option.some.injEq, Prod.mk.injEq] at h; obtain ⟨rfl, _⟩ := h; decide
  rw [if_neg e] at h; clear e
  by_cases e : op = [45]
  · rw [if_pos e] at h; simp only [Option.some.injEq, Prod.mk.injEq] at h; obtain ⟨rfl, _⟩ := h; decide
  rw [if_neg e] at h; clear e
  by_cases e : op = [43]
  · rw [if_pos e] at h; simp only [Option.some.injEq, Prod.mk.injEq] at h; obtain ⟨rfl, _⟩ := h; decide
  rw [if_neg e] at h; clear e
  by_cases e : op = [110, 101, 103]
  · rw [if_pos e] at h; simp only [Option.some.injEq, Prod.mk.injEq] at h; obtain ⟨rfl, _⟩ := h; decide
  rw [if_neg e] at h; clear e
  by_cases e : op = [61, 62]
  · rw [if_pos e] at h; simp only [Option.some.injEq, Prod.mk.injEq] at h; obtain ⟨rfl, _⟩ := h; decide
  rw [if_neg e] at h; clear e
  by_cases e : op = [120, 111, 114]
  · rw [if_pos e] at h; simp only [Option.some.injEq, Prod.mk.injEq] at h; obtain ⟨rfl, _⟩ := h; decide
  rw [if_neg e] at h; clear e
  by_cases e : op = [111, 114]
  · rw [if_pos e] at h; simp only [Option.some.injEq, Prod.mk.injEq] at h; obtain ⟨rfl, _⟩ := h; decide
  rw [if_neg e] at h; clear e
  by_cases e : op = [97, 110, 100]
  · rw [if_pos e] at h; simp only [Option.some.injEq, Prod.mk.injEq] at h; obtain ⟨rfl, _⟩ := h; decide
  rw [if_neg e] at h; clear e
  by_cases e : op = [110, 111, 116]
  · rw [if_pos e] at h; simp only [Option.some.injEq, Prod.mk.injEq] at h; obtain ⟨rfl, _⟩ := h; decide
  rw [if_neg e] at h; clear e
  by_cases e : op = [102, 97, 108, 115, 101]
  · rw [if_pos e] at h; simp only [Option.some.injEq, Prod.mk.injEq] at h; obtain ⟨rfl, _⟩ := h; decide
  rw [if_neg e] at h; clear e
  by_cases e : op = [116, 114, 117, 101]
  · rw [if_pos e] at h; simp only [Option.some.injEq, Prod.mk.injEq] at h; obtain ⟨rfl, _⟩ := h; decide
  rw [if_neg e] at h; clear e
  by_cases e : op = [105, 110, 116]
  · rw [if_pos e] at h; simp only [Option.some.injEq, Prod.mk.injEq] at h; obtain ⟨rfl, _⟩ := h; decide
  rw [if_neg e] at h; clear e
  cases h
/-- The document's answer, by the kinds alone. -/
def isK (op : List UInt8) (ks : List Int) : Int :=
  match sigL.find? (fun t => t.1 == op) with
  | none => 3
  | some t => if t.2.1 = ks.length then isAns true (resI t ks) else 3
def ops24 : List (List UInt8) := [[105, 102], [102, 98, 121], [45, 62], [112, 114, 101], [60, 62], [61], [62, 61], [62], [60, 61], [60], [109, 111, 100], [47], [42], [45], [43], [110, 101, 103], [61, 62], [120, 111, 114], [111, 114], [97, 110, 100], [110, 111, 116], [102, 97, 108, 115, 101], [116, 114, 117, 101], [105, 110, 116]]
theorem sig_in {op : List UInt8} {t : List UInt8 × Nat × Int × Int} (h : sigL.find? (fun t => t.1 == op) = some t) : op ∈ ops24 ∧ t.2.1 ≤ 3 := by
  have hm := List.mem_of_find?_eq_some h
  have he := List.find?_some h
  have e : t.1 = op := by simpa using he
  subst e
  exact (by decide : ∀ t ∈ sigL, t.1 ∈ ops24 ∧ t.2.1 ≤ 3) t hm
theorem row_in {op : List UInt8} {p : List Int × List Int} (h : signRow op = some p) : op ∈ ops24 := by
  unfold signRow at h
  by_cases e : op = [105, 102]
  · rw [e]; decide
  rw [if_neg e] at h; clear e
  by_cases e : op = [102, 98, 121]
  · rw [e]; decide
  rw [if_neg e] at h; clear e
  by_cases e : op = [45, 62]
  · rw [e]; decide
  rw [if_neg e] at h; clear e
  by_cases e : op = [112, 114, 101]
  · rw [e]; decide
  rw [if_neg e] at h; clear e
  by_cases e : op = [60, 62]
  · rw [e]; decide
  rw [if_neg e] at h; clear e
  by_cases e : op = [61]
  · rw [e]; decide
  rw [if_neg e] at h; clear e
  by_cases e : op = [62, 61]
  · rw [e]; decide
  rw [if_neg e] at h; clear e
  by_cases e : op = [62]
  · rw [e]; decide
  rw [if_neg e] at h; clear e
  by_cases e : op = [60, 61]
  · rw [e]; decide
  rw [if_neg e] at h; clear e
  by_cases e : op = [60]
  · rw [e]; decide
  rw [if_neg e] at h; clear e
  by_cases e : op = [109, 111, 100]
  · rw [e]; decide
  rw [if_neg e] at h; clear e
  by_cases e : op = [47]
  · rw [e]; decide
  rw [if_neg e] at h; clear e
  by_cases e : op = [42]
  · rw [e]; decide
  rw [if_neg e] at h; clear e
  by_cases e : op = [45]
  · rw [e]; decide
  rw [if_neg e] at h; clear e
  by_cases e : op = [43]
  · rw [e]; decide
  rw [if_neg e] at h; clear e
  by_cases e : op = [110, 101, 103]
  · rw [e]; decide
  rw [if_neg e] at h; clear e
  by_cases e : op = [61, 62]
  · rw [e]; decide
  rw [if_neg e] at h; clear e
  by_cases e : op = [120, 111, 114]
  · rw [e]; decide
  rw [if_neg e] at h; clear e
  by_cases e : op = [111, 114]
  · rw [e]; decide
  rw [if_neg e] at h; clear e
  by_cases e : op = [97, 110, 100]
  · rw [e]; decide
  rw [if_neg e] at h; clear e
  by_cases e : op = [110, 111, 116]
  · rw [e]; decide
  rw [if_neg e] at h; clear e
  by_cases e : op = [102, 97, 108, 115, 101]
  · rw [e]; decide
  rw [if_neg e] at h; clear e
  by_cases e : op = [116, 114, 117, 101]
  · rw [e]; decide
  rw [if_neg e] at h; clear e
  by_cases e : op = [105, 110, 116]
  · rw [e]; decide
  rw [if_neg e] at h; clear e
  cases h
theorem shape_ks (op : List UInt8) (ks : List Int) (hk : ∀ k ∈ ks, k = 1 ∨ k = 2) : isK op ks = 0 ↔ ((resK op ks).isSome && !ks.isEmpty) = true ∧ noB op = false := by
  by_cases hl : 3 < ks.length
  · have h1 : resK op ks = none := by
      unfold resK
      cases hr : signRow op with
      | none => rfl
      | some p =>
        obtain ⟨tk, gv⟩ := p
        have := sign_len hr
        simp only
        rw [if_neg (by omega)]
    have h2 : isK op ks = 3 := by
      unfold isK
      cases hr : sigL.find? (fun t => t.1 == op) with
      | none => rfl
      | some t =>
        have := (sig_in hr).2
        simp only
        rw [if_neg (by omega)]
    rw [h1, h2]; simp
  by_cases hm : op ∈ ops24
  · simp only [ops24, List.mem_cons, List.not_mem_nil, or_false] at hm
    rcases ks with _ | ⟨a, _ | ⟨b, _ | ⟨c, _ | ⟨d, r⟩⟩⟩⟩
    · clear hk hl
      rcases hm with rfl | rfl | rfl | rfl | rfl | rfl | rfl | rfl | rfl | rfl | rfl | rfl | rfl | rfl | rfl | rfl | rfl | rfl | rfl | rfl | rfl | rfl | rfl | rfl <;> decide
    · have ha := hk a (by simp)
      clear hk hl
      rcases ha with rfl | rfl <;> rcases hm with rfl | rfl | rfl | rfl | rfl | rfl | rfl | rfl | rfl | rfl | rfl | rfl | rfl | rfl | rfl | rfl | rfl | rfl | rfl | rfl | rfl | rfl | rfl | rfl <;> decide
    · have ha := hk a (by simp)
      have hb := hk b (by simp)
      clear hk hl
      rcases ha with rfl | rfl <;> rcases hb with rfl | rfl <;> rcases hm with rfl | rfl | rfl | rfl | rfl | rfl | rfl | rfl | rfl | rfl | rfl | rfl | rfl | rfl | rfl | rfl | rfl | rfl | rfl | rfl | rfl | rfl | rfl | rfl <;> decide
    · have ha := hk a (by simp)
      have hb := hk b (by simp)
      have hc := hk c (by simp)
      clear hk hl
      rcases ha with rfl | rfl <;> rcases hb with rfl | rfl <;> rcases hc with rfl | rfl <;> rcases hm with rfl | rfl | rfl | rfl | rfl | rfl | rfl | rfl | rfl | rfl | rfl | rfl | rfl | rfl | rfl | rfl | rfl | rfl | rfl | rfl | rfl | rfl | rfl | rfl <;> decide
    · exact absurd (by simp) hl
  · have h1 : resK op ks = none := by
      unfold resK
      cases hr : signRow op with
      | none => rfl
      | some p => exact absurd (row_in hr) hm
    have h2 : isK op ks = 3 := by
      unfold isK
      cases hr : sigL.find? (fun t => t.1 == op) with
      | none => rfl
      | some t => exact absurd (sig_in hr).1 hm
    rw [h1, h2]; simp
/-- The value that stands for a word of that length. -/
def kvL (l : List Int) : Int × Int := if l.length = 1 then (1, 0) else (2, 1)
theorem shape_iff {op : List UInt8} {ls : List (List Int)} (hr : ∀ l ∈ ls, l.length = 1 ∨ l.length = 8) : isI op (ls.map kvL) = 0 ↔ askB op ls = true ∧ noB op = false := by
  have hk : ∀ l ∈ ls, (kvL l).1 = kindL l := fun l hl => by
    unfold kvL kindL
    rcases hr l hl with h | h <;> simp [h]
  have hks : (ls.map kvL).map (·.1) = ls.map kindL := by
    rw [List.map_map]
    exact List.map_congr_left hk
  have hR : allR (ls.map kvL) = true := by
    unfold allR
    rw [List.all_eq_true]
    intro x hx
    obtain ⟨l, hl, rfl⟩ := List.mem_map.1 hx
    unfold kvL
    split <;> decide
  have h0 := shape_ks op (ls.map kindL) (fun k hk' => by
    obtain ⟨l, hl, rfl⟩ := List.mem_map.1 hk'
    rcases hr l hl with h | h
    · exact .inl (kind_len.1.2 h)
    · exact .inr (kind_len.2.2 h))
  have e : isI op (ls.map kvL) = isK op (ls.map kindL) := by
    unfold isI isK
    rw [hks, hR]
    cases sigL.find? (fun t => t.1 == op) with
    | none => rfl
    | some t => simp only [List.length_map]
  have e2 : (ls.map kindL).isEmpty = ls.isEmpty := by cases ls <;> rfl
  rw [e, h0, e2]
  rfl
end Go.Proofs.YtpiglmaojonbnaaGreatDoor
