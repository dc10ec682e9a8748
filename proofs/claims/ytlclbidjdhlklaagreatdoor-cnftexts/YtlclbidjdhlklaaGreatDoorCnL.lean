/-
  LINES AND WORDS AS MATHEMATICS: what is split is there again; a text whose lines are clauses is a formula's text.
-/
import Derived.Test.YtlclbidjdhlklaaGreatDoorCnT
import Derived.Lib.Split
import Derived.Lib.SplitLaws
import Derived.Lib.IndexMore
import Derived.Lib.Strings
namespace Go.Proofs.YtlclbidjdhlklaaGreatDoor

theorem occ_one {s : List UInt8} {b : UInt8} {i : Nat} (h : Lib.occAt s [b] i = true) : s = s.take i ++ b :: s.drop (i + 1) := by
  unfold Lib.occAt at h
  have hd : ∃ r, s.drop i = b :: r := by
    cases hs : s.drop i with
    | nil => rw [hs] at h; simp at h
    | cons c r =>
      rw [hs] at h
      simp at h
      exact ⟨r, by rw [h]⟩
  obtain ⟨r, hr⟩ := hd
  have h2 : s.drop (i + 1) = r := by rw [← List.drop_drop, hr]; rfl
  rw [h2, ← hr, List.take_append_drop]
/-- Each piece and what stood behind it. -/
def endB (b : UInt8) (ls : List (List UInt8)) : List UInt8 := ls.flatMap fun a => a ++ [b]
theorem split_end (b : UInt8) : ∀ (k : Nat) (s : List UInt8), endB b (Lib.splitK [b] 0 k s) = s ++ [b]
  | 0, s => by simp [Lib.splitK, endB]
  | k + 1, s => by
    unfold Lib.splitK
    split
    · simp [endB]
    · rename_i hne
      have hs := Lib.index_spec s [b]
      rcases hs with ⟨h1, _⟩ | ⟨i, h1, h2, h3, _⟩
      · rw [h1] at hne; simp at hne
      · have ih := split_end b k (s.drop ((Lib.index s [b]).toNat + [b].length))
        unfold endB at ih ⊢
        rw [List.flatMap_cons, ih, h1]
        have e : ((i : Int)).toNat = i := by omega
        rw [e]
        have ho := occ_one h3
        simp only [List.length_singleton, Nat.add_zero]
        conv => rhs; rw [ho]
        simp
theorem cut_one {s a c : List UInt8} {b : UInt8} (h : Lib.cut s [b] = (a, c, true)) : s = a ++ b :: c := by
  unfold Lib.cut at h
  split at h
  · rename_i h0
    have hs := Lib.index_spec s [b]
    rcases hs with ⟨h1, _⟩ | ⟨i, h1, h2, h3, _⟩
    · omega
    · rw [h1] at h
      have e : ((i : Int)).toNat = i := by omega
      rw [e] at h
      have ho := occ_one h3
      have ha : s.take i = a := congrArg Prod.fst h
      have hc : s.drop (i + 1) = c := by
        have := congrArg (fun x => x.2.1) h
        simpa using this
      rw [ha, hc] at ho
      exact ho
  · simp at h
/-- A clause's line. -/
def lineC (c : List Int) : List UInt8 := (c.flatMap fun x => numB x 32) ++ [48]
theorem itoa_zero : Lib.itoa 0 = [48] := by rw [show (0 : Int) = ((0 : Nat) : Int) from rfl, Lib.itoa_nonneg, Lib.decDigits_one (by omega)]; rfl
theorem clause_line (c : List Int) : clauseB c = lineC c ++ [10] := by
  unfold clauseB lineC numB
  rw [itoa_zero, List.append_assoc]
theorem words_line {k : Nat} {line : List UInt8} {c : List Int} (h : Lib.splitK [32] 0 k line = c.map Lib.itoa ++ [[48]]) : line = lineC c := by
  have e := split_end 32 k line
  rw [h] at e
  have e2 : endB 32 (c.map Lib.itoa ++ [[48]]) = lineC c ++ [32] := by
    unfold endB lineC numB
    rw [List.flatMap_append, List.flatMap_map]
    simp
  rw [e2] at e
  exact (List.append_cancel_right e).symm
theorem lines_text {k : Nat} {t hd : List UInt8} {n : Int} {cs : List (List Int)} (h : Lib.splitK [10] 0 k t = hd :: cs.map lineC) (hh : hd = headB ++ numB n 32 ++ Lib.itoa (cs.length : Int)) : textC n cs = t ++ [10] := by
  have e := split_end 10 k t
  rw [h] at e
  rw [← e]
  unfold textC endB
  rw [List.flatMap_cons, hh]
  have e2 : (cs.map lineC).flatMap (fun a => a ++ [10]) = cs.flatMap clauseB := by
    rw [List.flatMap_map]
    congr 1
    funext c
    exact (clause_line c).symm
  rw [e2]
  unfold numB
  simp
theorem trim_cases (s : List UInt8) (b : UInt8) : s = Lib.trimSuffix s [b] ∨ s = Lib.trimSuffix s [b] ++ [b] := by
  unfold Lib.trimSuffix
  split
  · rename_i h
    right
    unfold Lib.hasSuffix at h
    obtain ⟨t, ht⟩ := List.isSuffixOf_iff_suffix.1 h
    rw [← ht]
    simp
  · left; rfl
end Go.Proofs.YtlclbidjdhlklaaGreatDoor
