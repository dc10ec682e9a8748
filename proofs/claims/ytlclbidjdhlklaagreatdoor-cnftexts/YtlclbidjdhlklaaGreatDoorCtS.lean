/-
  WHAT IS WRITTEN IS READ, AS MATHEMATICS: numbers, words, lines.
-/
import Derived.Test.YtlclbidjdhlklaaGreatDoorCnL
import Derived.Lib.SplitLaws
import Derived.Lib.AtoiAll
import Derived.Lib.ItoaLen
namespace Go.Proofs.YtlclbidjdhlklaaGreatDoor
open Go.RowKit Go.Maps

/-! ### Numbers -/
/-- The bytes of numbers: digits, and the sign. -/
def numByte (c : UInt8) : Prop := c.toNat = 45 ∨ (48 ≤ c.toNat ∧ c.toNat ≤ 57)
theorem dig_nat {k : Nat} (h : k < 10) : (UInt8.ofNat (48 + k)).toNat = 48 + k := by
  rw [UInt8.toNat_ofNat']; omega
theorem dec_byte (u : Nat) : ∀ c ∈ Lib.decDigits u, 48 ≤ c.toNat ∧ c.toNat ≤ 57 := by
  induction u using Nat.strongRecOn with
  | ind u ih =>
    intro c hc
    rw [Lib.decDigits] at hc
    split at hc
    · rename_i h
      simp only [List.mem_singleton] at hc
      rw [hc, dig_nat h]; omega
    · rename_i h
      rcases List.mem_append.1 hc with hc | hc
      · exact ih (u / 10) (by omega) c hc
      · simp only [List.mem_singleton] at hc
        rw [hc, dig_nat (by omega)]; omega
theorem itoa_byte (n : Int) : ∀ c ∈ Lib.itoa n, numByte c := by
  intro c hc
  unfold Lib.itoa at hc
  split at hc
  · rcases List.mem_cons.1 hc with rfl | hc
    · exact .inl rfl
    · exact .inr (dec_byte _ c hc)
  · exact .inr (dec_byte _ c hc)
theorem dec_ne (u : Nat) : Lib.decDigits u ≠ [] := by
  rw [Lib.decDigits]
  split <;> simp
theorem itoa_free (n : Int) {b : UInt8} (hb : b.toNat < 45) : b ∉ Lib.itoa n := fun h => by
  rcases itoa_byte n b h with h | h <;> omega
theorem parse_snoc : ∀ (l : List UInt8) (acc v : Nat) (c : UInt8), Lib.parseUint10 acc l = .ok v → 48 ≤ c.toNat ∧ c.toNat ≤ 57 → v < 1844674407370955162 → v * 10 + (c.toNat - 48) < 18446744073709551616 → Lib.parseUint10 acc (l ++ [c]) = .ok (v * 10 + (c.toNat - 48))
  | [], acc, v, c, h, hc, hv, hw => by
    simp only [Lib.parseUint10] at h
    injection h with h
    subst h
    simp only [List.nil_append, Lib.parseUint10]
    rw [if_pos hc, if_neg (by omega), if_neg (by omega)]
  | d :: r, acc, v, c, h, hc, hv, hw => by
    simp only [Lib.parseUint10] at h
    split at h
    · rename_i hd
      split at h
      · cases h
      · rename_i h1
        split at h
        · cases h
        · rename_i h2
          simp only [List.cons_append, Lib.parseUint10]
          rw [if_pos hd, if_neg h1, if_neg h2]
          exact parse_snoc r _ v c h hc hv hw
    · cases h
theorem parse_dec (u : Nat) (hu : u < 18446744073709551616) : Lib.parseUint10 0 (Lib.decDigits u) = .ok u := by
  induction u using Nat.strongRecOn with
  | ind u ih =>
    rw [Lib.decDigits]
    split
    · rename_i h
      simp only [Lib.parseUint10, dig_nat h]
      rw [if_pos (by omega), if_neg (by omega), if_neg (by omega)]
      congr 1; omega
    · rename_i h
      have h1 := ih (u / 10) (by omega) (by omega)
      have h2 := parse_snoc _ 0 (u / 10) (UInt8.ofNat (48 + u % 10)) h1 (by rw [dig_nat (by omega)]; omega) (by omega) (by rw [dig_nat (by omega)]; omega)
      rw [h2, dig_nat (by omega)]
      congr 1; omega
theorem atoi_itoa {n : Int} (hn : I64 n) : Lib.atoiAll (Lib.itoa n) = .ok n := by
  unfold I64 at hn
  unfold Lib.itoa
  split
  · rename_i h
    have hp := parse_dec n.natAbs (by omega)
    have e : Lib.parseMag (Lib.decDigits n.natAbs) = .ok n.natAbs := by unfold Lib.parseMag; rw [if_neg (dec_ne _), hp]
    have e45 : (45 : UInt8).toNat = 45 := rfl
    simp only [Lib.atoiAll, e45, or_true, if_true, e, not_true_eq_false, false_and, if_false, true_and]
    rw [if_neg (by omega)]
    congr 1; omega
  · rename_i h
    have hp := parse_dec n.toNat (by omega)
    obtain ⟨c, r, hcr⟩ : ∃ c r, Lib.decDigits n.toNat = c :: r := by
      cases hd : Lib.decDigits n.toNat with
      | nil => exact absurd hd (dec_ne _)
      | cons c r => exact ⟨c, r, rfl⟩
    have hc := dec_byte n.toNat c (by rw [hcr]; exact List.mem_cons_self ..)
    have e : Lib.parseMag (Lib.decDigits n.toNat) = .ok n.toNat := by unfold Lib.parseMag; rw [if_neg (dec_ne _), hp]
    rw [hcr] at e ⊢
    have n43 : ¬ (c.toNat = 43 ∨ c.toNat = 45) := by omega
    have n45 : ¬ c.toNat = 45 := by omega
    simp only [Lib.atoiAll]
    rw [if_neg n43, e]
    simp only [n45, not_false_eq_true, true_and, false_and, if_false]
    rw [if_neg (by omega)]
    congr 1; omega
theorem itoa_inj {n m : Int} (hn : I64 n) (hm : I64 m) (h : Lib.itoa n = Lib.itoa m) : n = m := by
  have h1 := atoi_itoa hn
  rw [h, atoi_itoa hm] at h1
  injection h1 with h1
  exact h1.symm
/-! ### Pieces -/
theorem end_count (b : UInt8) : ∀ ls : List (List UInt8), (endB b ls).count b = ls.length + (ls.map (List.count b)).sum
  | [] => by simp [endB]
  | a :: r => by
    have := end_count b r
    unfold endB at this ⊢
    rw [List.flatMap_cons, List.count_append, List.count_append, this]
    simp
    omega
theorem end_free {b : UInt8} : ∀ {ls : List (List UInt8)}, (endB b ls).count b = ls.length → ∀ l ∈ ls, b ∉ l := by
  intro ls h l hl
  rw [end_count] at h
  have h0 : (ls.map (List.count b)).sum = 0 := by omega
  have h1 := List.sum_eq_zero_iff_forall_eq_nat.1 h0 (List.count b l) (List.mem_map.2 ⟨l, hl, rfl⟩)
  exact fun hm => by have := List.count_pos_iff.2 hm; omega
theorem app_inj {b : UInt8} : ∀ {x y rx ry : List UInt8}, b ∉ x → b ∉ y → x ++ b :: rx = y ++ b :: ry → x = y ∧ rx = ry
  | [], [], _, _, _, _, h => ⟨rfl, by simpa using h⟩
  | [], c :: y, _, _, _, hy, h => by
    simp only [List.nil_append, List.cons_append, List.cons.injEq] at h
    exact absurd (by rw [h.1]; exact List.mem_cons_self ..) hy
  | c :: x, [], _, _, hx, _, h => by
    simp only [List.nil_append, List.cons_append, List.cons.injEq] at h
    exact absurd (by rw [← h.1]; exact List.mem_cons_self ..) hx
  | c :: x, d :: y, rx, ry, hx, hy, h => by
    simp only [List.cons_append, List.cons.injEq] at h
    obtain ⟨e1, e2⟩ := app_inj (fun hm => hx (List.mem_cons_of_mem _ hm)) (fun hm => hy (List.mem_cons_of_mem _ hm)) h.2
    exact ⟨by rw [h.1, e1], e2⟩
theorem end_inj {b : UInt8} : ∀ {xs ys : List (List UInt8)}, (∀ l ∈ xs, b ∉ l) → (∀ l ∈ ys, b ∉ l) → endB b xs = endB b ys → xs = ys
  | [], [], _, _, _ => rfl
  | [], y :: ys, _, _, h => by simp [endB] at h
  | x :: xs, [], _, _, h => by simp [endB] at h
  | x :: xs, y :: ys, hx, hy, h => by
    unfold endB at h
    rw [List.flatMap_cons, List.flatMap_cons, List.append_assoc, List.append_assoc, List.singleton_append, List.singleton_append] at h
    obtain ⟨e1, e2⟩ := app_inj (hx x (List.mem_cons_self ..)) (hy y (List.mem_cons_self ..)) h
    rw [e1, end_inj (fun l hl => hx l (List.mem_cons_of_mem _ hl)) (fun l hl => hy l (List.mem_cons_of_mem _ hl)) e2]
/-- A text is split into just those pieces. -/
theorem pieces_eq (b : UInt8) (s : ByteArray) (xs : List (List UInt8)) (hx : ∀ l ∈ xs, b ∉ l) (h : s.data.toList ++ [b] = endB b xs) : (Lib.splitB ⟨#[b]⟩ 0 (Lib.countB s ⟨#[b]⟩) s).map (·.data.toList) = xs := by
  have h1 := Lib.splitB_all ⟨#[b]⟩ (Nat.le_refl 1) 0 _ s rfl
  have h2 := Lib.splitB_data ⟨#[b]⟩ 0 (Lib.countB s ⟨#[b]⟩) s
  have h3 := split_end b (Lib.countB s ⟨#[b]⟩) s.data.toList
  have hc : Lib.countB s ⟨#[b]⟩ = s.data.toList.count b := Lib.count_one b _
  have h4 : (Lib.splitK [b] 0 (Lib.countB s ⟨#[b]⟩) s.data.toList).length = s.data.toList.count b + 1 := by
    have := congrArg List.length h2
    rw [List.length_map, h1, hc] at this
    rw [hc]; exact this.symm
  rw [h2]
  refine end_inj (end_free ?_) hx (h3.trans h)
  rw [show Lib.splitK (ByteArray.mk #[b]).data.toList 0 (Lib.countB s ⟨#[b]⟩) s.data.toList = Lib.splitK [b] 0 (Lib.countB s ⟨#[b]⟩) s.data.toList from rfl, h3, h4, List.count_append]
  simp
theorem index_app {b : UInt8} : ∀ {a c : List UInt8}, b ∉ a → Lib.index (a ++ b :: c) [b] = (a.length : Int)
  | [], c, _ => by simp [Lib.index]
  | d :: a, c, h => by
    have hd : ¬ b = d := fun e => h (by rw [e]; exact List.mem_cons_self ..)
    have ih := index_app (c := c) (fun hm => h (List.mem_cons_of_mem d hm))
    have n1 : ((a.length : Int) == -1) = false := by
      rw [beq_eq_false_iff_ne]; omega
    simp only [List.cons_append, Lib.index, ih, n1]
    simp [hd]
theorem cut_eq {b : UInt8} {a c : List UInt8} (h : b ∉ a) : Lib.cut (a ++ b :: c) [b] = (a, c, true) := by
  unfold Lib.cut
  rw [index_app h, if_pos (by omega)]
  simp
theorem trim_end (t : List UInt8) (b : UInt8) : Lib.trimSuffix (t ++ [b]) [b] = t := by
  unfold Lib.trimSuffix Lib.hasSuffix
  simp
theorem trim_not {t : List UInt8} {b : UInt8} (h : ∀ u, t ≠ u ++ [b]) : Lib.trimSuffix t [b] = t := by
  rcases trim_cases t b with h1 | h1
  · exact h1.symm
  · exact absurd h1 (h _)
/-! ### Lines -/
theorem line_words (c : List Int) : lineC c ++ [32] = endB 32 (c.map Lib.itoa ++ [[48]]) := by
  unfold lineC endB numB
  rw [List.flatMap_append, List.flatMap_map]
  simp
theorem words_free (c : List Int) : ∀ l ∈ c.map Lib.itoa ++ [[48]], (32 : UInt8) ∉ l := fun l hl => by
  rcases List.mem_append.1 hl with hl | hl
  · obtain ⟨x, _, rfl⟩ := List.mem_map.1 hl
    exact itoa_free x (by decide)
  · simp only [List.mem_singleton] at hl
    subst hl; decide
theorem line_free (c : List Int) : (10 : UInt8) ∉ lineC c := by
  unfold lineC
  intro h
  rcases List.mem_append.1 h with h | h
  · obtain ⟨x, _, hx⟩ := List.mem_flatMap.1 h
    unfold numB at hx
    rcases List.mem_append.1 hx with hx | hx
    · exact itoa_free x (by decide) hx
    · exact absurd hx (by decide)
  · exact absurd h (by decide)
/-- The first line. -/
def lineH (n m : Int) : List UInt8 := headB ++ numB n 32 ++ Lib.itoa m
theorem head_free (n m : Int) : (10 : UInt8) ∉ lineH n m := by
  unfold lineH headB numB
  intro h
  rcases List.mem_append.1 h with h | h
  · rcases List.mem_append.1 h with h | h
    · exact absurd h (by decide)
    · rcases List.mem_append.1 h with h | h
      · exact itoa_free n (by decide) h
      · exact absurd h (by decide)
  · exact itoa_free m (by decide) h
theorem text_lines (n : Int) (cs : List (List Int)) : textC n cs = endB 10 (lineH n (cs.length : Int) :: cs.map lineC) := by
  unfold textC endB lineH
  rw [List.flatMap_cons, List.flatMap_map]
  have e : ∀ l : List (List Int), l.flatMap clauseB = l.flatMap (fun a => lineC a ++ [10]) := fun l => by
    congr 1; funext c; exact clause_line c
  rw [e]
  simp [numB]
theorem lines_free (n : Int) (cs : List (List Int)) : ∀ l ∈ lineH n (cs.length : Int) :: cs.map lineC, (10 : UInt8) ∉ l := fun l hl => by
  rcases List.mem_cons.1 hl with rfl | hl
  · exact head_free _ _
  · obtain ⟨c, _, rfl⟩ := List.mem_map.1 hl
    exact line_free c
theorem end_last {b : UInt8} : ∀ {ls : List (List UInt8)}, (∀ l ∈ ls, b ∉ l ∧ l ≠ []) → ∀ u, endB b ls ≠ u ++ [b, b]
  | [], _, u, h => by simp [endB] at h
  | x :: r, hx, u, h => by
    rcases r with _ | ⟨y, r⟩
    · unfold endB at h
      have e : x ++ [b] = (u ++ [b]) ++ [b] := by simpa using h
      have e2 := List.append_cancel_right e
      exact (hx x (List.mem_cons_self ..)).1 (by rw [e2]; simp)
    · have hr : endB b (x :: y :: r) = x ++ [b] ++ endB b (y :: r) := by simp [endB]
      rw [hr] at h
      have hne : endB b (y :: r) ≠ [] := by unfold endB; simp
      have ih := end_last (ls := y :: r) (fun l hl => hx l (List.mem_cons_of_mem _ hl))
      have hlen : 2 ≤ (endB b (y :: r)).length := by
        have h1 := (hx y (by simp)).2
        unfold endB
        rw [List.flatMap_cons, List.length_append, List.length_append, List.length_singleton]
        have := List.length_pos_iff.2 h1
        omega
      obtain ⟨v, c, d, hv⟩ : ∃ v c d, endB b (y :: r) = v ++ [c, d] := by
        have h1 := List.take_append_drop ((endB b (y :: r)).length - 2) (endB b (y :: r))
        have h2 : ((endB b (y :: r)).drop ((endB b (y :: r)).length - 2)).length = 2 := by rw [List.length_drop]; omega
        match hd : (endB b (y :: r)).drop ((endB b (y :: r)).length - 2), h2 with
        | [c, d], _ => exact ⟨_, c, d, by rw [hd] at h1; exact h1.symm⟩
      rw [hv, ← List.append_assoc] at h
      have h3 : [c, d] = [b, b] := (List.append_inj' h rfl).2
      exact ih v (by rw [hv, h3])
theorem line_ne (c : List Int) : lineC c ≠ [] := by unfold lineC; simp
theorem head_ne (n m : Int) : lineH n m ≠ [] := by unfold lineH headB; simp
/-- The text without its last byte. -/
def cutC (n : Int) (cs : List (List Int)) : List UInt8 := (textC n cs).dropLast
theorem cutC_end (n : Int) (cs : List (List Int)) : cutC n cs ++ [10] = textC n cs := by
  unfold cutC
  have hne : textC n cs ≠ [] := by rw [text_lines]; unfold endB; simp
  have hl : (textC n cs).getLast hne = 10 := by
    have : ∃ u, textC n cs = u ++ [10] := by
      unfold textC
      rcases List.eq_nil_or_concat cs with h | ⟨c, x, h⟩
      · rw [h]; exact ⟨headB ++ numB n 32 ++ Lib.itoa 0, by unfold numB; simp⟩
      · rw [h, List.concat_eq_append, List.flatMap_append, List.flatMap_singleton, clause_line, ← List.append_assoc, ← List.append_assoc]; exact ⟨_, rfl⟩
    obtain ⟨u, hu⟩ := this
    simp [hu]
  have := List.dropLast_concat_getLast hne
  rw [hl] at this
  exact this
theorem cutC_trim (n : Int) (cs : List (List Int)) : Lib.trimSuffix (cutC n cs) [10] = cutC n cs := trim_not fun u h => by
  have h1 := cutC_end n cs
  rw [h, text_lines, List.append_assoc] at h1
  exact end_last (b := 10) (ls := lineH n (cs.length : Int) :: cs.map lineC) (fun l hl => ⟨lines_free n cs l hl, by
    rcases List.mem_cons.1 hl with rfl | hl
    · exact head_ne _ _
    · obtain ⟨c, _, rfl⟩ := List.mem_map.1 hl
      exact line_ne c⟩) u h1.symm
/-! ### No two are the same -/
theorem line_inj {c d : List Int} (hc : ∀ x ∈ c, I64 x) (hd : ∀ x ∈ d, I64 x) (h : lineC c = lineC d) : c = d := by
  have h1 := end_inj (words_free c) (words_free d) (by rw [← line_words, ← line_words, h])
  have h2 := (List.append_inj' h1 rfl).1
  clear h h1
  induction c generalizing d with
  | nil => cases d with
    | nil => rfl
    | cons y d => simp at h2
  | cons x c ih =>
    cases d with
    | nil => simp at h2
    | cons y d =>
      simp only [List.map_cons, List.cons.injEq] at h2
      rw [itoa_inj (hc x (List.mem_cons_self ..)) (hd y (List.mem_cons_self ..)) h2.1, ih (fun z hz => hc z (List.mem_cons_of_mem _ hz)) (fun z hz => hd z (List.mem_cons_of_mem _ hz)) h2.2]
theorem head_inj {n m n' m' : Int} (h : lineH n m = lineH n' m') : Lib.itoa n = Lib.itoa n' ∧ Lib.itoa m = Lib.itoa m' := by
  unfold lineH numB at h
  simp only [List.append_assoc, List.singleton_append] at h
  have h1 := List.append_cancel_left h
  exact app_inj (itoa_free n (by decide)) (itoa_free n' (by decide)) h1
theorem text_inj {n n' : Int} {cs cs' : List (List Int)} (hn : I64 n) (hn' : I64 n') (hc : ∀ c ∈ cs, ∀ x ∈ c, I64 x) (hc' : ∀ c ∈ cs', ∀ x ∈ c, I64 x) (h : textC n cs = textC n' cs') : n = n' ∧ cs = cs' := by
  rw [text_lines, text_lines] at h
  have h1 := end_inj (lines_free n cs) (lines_free n' cs') h
  simp only [List.cons.injEq] at h1
  refine ⟨itoa_inj hn hn' (head_inj h1.1).1, ?_⟩
  have h2 := h1.2
  clear h h1
  induction cs generalizing cs' with
  | nil => cases cs' with
    | nil => rfl
    | cons y d => simp at h2
  | cons x c ih =>
    cases cs' with
    | nil => simp at h2
    | cons y d =>
      simp only [List.map_cons, List.cons.injEq] at h2
      rw [line_inj (hc x (List.mem_cons_self ..)) (hc' y (List.mem_cons_self ..)) h2.1, ih (fun z hz => hc z (List.mem_cons_of_mem _ hz)) (fun z hz => hc' z (List.mem_cons_of_mem _ hz)) h2.2]
end Go.Proofs.YtlclbidjdhlklaaGreatDoor
