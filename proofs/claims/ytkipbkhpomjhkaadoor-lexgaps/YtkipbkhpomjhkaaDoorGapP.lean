/-
  BLANKS, LINES AND COMMENTS BETWEEN TOKENS CHANGE NONE, IN PLAIN MATHEMATICS.
-/
import Derived.Test.YtkipbkhpomjhkaaDoorLawR
namespace Go.Proofs.YtkipbkhpomjhkaaDoor
open Go.RowKit

/-- The byte at a place of a list, as a number (0 behind the end). -/
def byteL (l : List UInt8) (i : Nat) : Int := match l[i]? with | some c => (c.toNat : Int) | none => 0
theorem byteL_append_left {a b : List UInt8} {i : Nat} (h : i < a.length) : byteL (a ++ b) i = byteL a i := by
  simp [byteL, List.getElem?_append_left h]
theorem byteL_append_right {a b : List UInt8} {i : Nat} (h : a.length ≤ i) : byteL (a ++ b) i = byteL b (i - a.length) := by
  simp [byteL, List.getElem?_append_right h]
theorem byteI_drop {T : ByteArray} {p k : Nat} {l : List UInt8} (h : T.data.toList.drop p = l) : byteI T (p + k) = byteL l k := by
  have hl : T.data.toList.length = T.size := Array.length_toList
  subst h
  by_cases hk : p + k < T.size
  · rw [byteI_data T (p + k) hk, byteL, List.getElem?_drop, List.getElem?_eq_getElem (by omega)]
  · rw [byteI, dif_neg hk, byteL, List.getElem?_drop, List.getElem?_eq_none (by omega)]
theorem drop_len {T : ByteArray} {p : Nat} {l : List UInt8} (h : T.data.toList.drop p = l) (hp : p ≤ T.size) : T.size = p + l.length := by
  have hl : T.data.toList.length = T.size := Array.length_toList
  have := congrArg List.length h
  rw [List.length_drop] at this
  omega
theorem drop_more {T : ByteArray} {p : Nat} {a b : List UInt8} (h : T.data.toList.drop p = a ++ b) : T.data.toList.drop (p + a.length) = b := by
  rw [← List.drop_drop, h, List.drop_left]
theorem extract_drop {T : ByteArray} {p : Nat} {a b : List UInt8} (h : T.data.toList.drop p = a ++ b) : T.extract p (p + a.length) = ⟨a.toArray⟩ := by
  apply ByteArray.ext
  apply Array.toList_inj.1
  rw [Lib.extract_data, h, show p + a.length - p = a.length from by omega, List.take_left]

/-- The four gaps. -/
def gapL : Nat → List UInt8
  | 0 => [32, 32]
  | 1 => [10]
  | 2 => [32, 45, 45, 120, 10]
  | _ => [10, 10, 45, 45, 10, 32]
theorem gap_first (k : Nat) : ∃ c r, gapL k = c :: r ∧ (c = 32 ∨ c = 10) := by
  rcases k with _ | _ | _ | k
  · exact ⟨32, _, rfl, Or.inl rfl⟩
  · exact ⟨10, _, rfl, Or.inr rfl⟩
  · exact ⟨32, _, rfl, Or.inl rfl⟩
  · exact ⟨10, _, rfl, Or.inr rfl⟩

theorem com_drop {T : ByteArray} {p : Nat} {r : List UInt8} (h : T.data.toList.drop p = 45 :: 45 :: r) (hp : p ≤ T.size) : comB T p = true := by
  have hsz := drop_len h hp
  simp only [List.length_cons] at hsz
  have h1 : p + 1 < T.size := by omega
  have e0 : byteI T (p + 0) = 45 := by rw [byteI_drop h]; rfl
  have e1 : byteI T (p + 1) = 45 := by rw [byteI_drop h]; rfl
  rw [Nat.add_zero] at e0
  simp [comB, h1, e0, e1]
theorem blank_drop {T : ByteArray} {p : Nat} {c : UInt8} {r : List UInt8} (h : T.data.toList.drop p = c :: r) (hp : p ≤ T.size) (hc : blankI (c.toNat : Int) = true) {j : Nat} (g : Skips T (p + 1) j) : Skips T p j := by
  have hsz := drop_len h hp
  simp only [List.length_cons] at hsz
  have e0 : byteI T (p + 0) = (c.toNat : Int) := by rw [byteI_drop h]; rfl
  rw [Nat.add_zero] at e0
  exact .blank p j (by omega) (by rw [e0]; exact hc) g
theorem drop_tail {T : ByteArray} {p : Nat} {c : UInt8} {r : List UInt8} (h : T.data.toList.drop p = c :: r) : T.data.toList.drop (p + 1) = r :=
  drop_more (a := [c]) h
/-- A comment up to a line's end. -/
theorem comment_drop {T : ByteArray} {p : Nat} {a r : List UInt8} (h : T.data.toList.drop p = (45 :: 45 :: a) ++ 10 :: r) (hp : p ≤ T.size) (ha : ∀ c ∈ a, c ≠ 10) {j : Nat} (g : Skips T (p + (a.length + 2) + 1) j) : Skips T p j := by
  have hsz := drop_len h hp
  simp only [List.length_append, List.length_cons] at hsz
  have e0 : byteI T (p + 0) = 45 := by rw [byteI_drop h]; rfl
  rw [Nat.add_zero] at e0
  have hn : byteI T (p + (a.length + 2)) = 10 := by
    rw [byteI_drop h, byteL_append_right (by simp)]
    simp [byteL]
  refine .comment p (a.length + 2) j (com_drop (r := a ++ 10 :: r) h hp) (by rw [e0]; decide) ⟨by omega, fun k hk => ?_, fun _ => by rw [hn]; decide⟩ ?_
  · rw [byteI_drop h, byteL_append_left (by simp; omega)]
    rcases k with _ | _ | k
    · rfl
    · rfl
    · have hka : k < a.length := by omega
      have e : byteL (45 :: 45 :: a) (k + 1 + 1) = (a[k].toNat : Int) := by
        simp [byteL, List.getElem?_eq_getElem hka]
      rw [e]
      have hne := ha a[k] (List.getElem_mem hka)
      simp only [notNlI, bne_iff_ne, ne_eq]
      intro hx
      exact hne (UInt8.toNat_inj.1 (by show a[k].toNat = 10; omega))
  · refine .blank _ j (by omega) (by rw [hn]; decide) g
/-- Each gap is gone over. -/
theorem gap_skips (k : Nat) {T : ByteArray} {p : Nat} {r : List UInt8} (h : T.data.toList.drop p = gapL k ++ r) (hp : p ≤ T.size) : Skips T p (p + (gapL k).length) := by
  have hsz := drop_len h hp
  rcases k with _ | _ | _ | k
  · have h0 : T.data.toList.drop p = 32 :: 32 :: r := h
    simp [gapL] at hsz
    exact blank_drop h0 hp (by decide) (blank_drop (drop_tail h0) (by omega) (by decide) (.refl _))
  · have h0 : T.data.toList.drop p = 10 :: r := h
    exact blank_drop h0 hp (by decide) (.refl _)
  · have h0 : T.data.toList.drop p = 32 :: ((45 :: 45 :: [120]) ++ 10 :: r) := h
    simp [gapL] at hsz
    exact blank_drop h0 hp (by decide) (comment_drop (drop_tail h0) (by omega) (by decide) (.refl _))
  · have h0 : T.data.toList.drop p = 10 :: 10 :: ((45 :: 45 :: []) ++ 10 :: (32 :: r)) := h
    have h1 := drop_tail h0
    have h2 := drop_tail h1
    have h3 : T.data.toList.drop (p + 1 + 1 + 3) = 32 :: r := drop_more (a := [45, 45, 10]) h2
    simp [gapL] at hsz
    exact blank_drop h0 hp (by decide) (blank_drop h1 (by omega) (by decide) (comment_drop h2 (by omega) (by decide) (blank_drop h3 (by omega) (by decide) (.refl _))))

theorem from_list {T : ByteArray} {q : Nat} {l : List UInt8} (h : T.data.toList.drop q = l) : (T.extract q T.size).data.toList = l := by
  have hl : T.data.toList.length = T.size := Array.length_toList
  rw [Lib.extract_data, h, List.take_of_length_le]
  have := congrArg List.length h
  rw [List.length_drop] at this
  omega
theorem com_second {T : ByteArray} {q : Nat} (h : byteI T (q + 1) ≠ 45) : comB T q = false := by
  have h' : (byteI T (q + 1) == 45) = false := by simpa using h
  simp [comB, h']
theorem com_firstB {T : ByteArray} {q : Nat} (h : byteI T q ≠ 45) : comB T q = false := by
  have h' : (byteI T q == 45) = false := by simpa using h
  simp [comB, h']
theorem op_two {T : ByteArray} {q : Nat} {x0 x1 : UInt8} {r : List UInt8} (h : T.data.toList.drop q = x0 :: x1 :: r) (hp : q ≤ T.size) (hx : [x0, x1] ∈ twoL) : opN (T.extract q T.size) = 2 ∧ comB T q = false ∧ blankI (byteI T q) = false := by
  have hsz := drop_len h hp
  simp only [List.length_cons] at hsz
  have e0 : byteI T (q + 0) = (x0.toNat : Int) := by rw [byteI_drop h]; rfl
  have e1 : byteI T (q + 1) = (x1.toNat : Int) := by rw [byteI_drop h]; rfl
  rw [Nat.add_zero] at e0
  have ht : ((T.extract q T.size).extract 0 2).toList = [x0, x1] := by
    rw [ByteArray.toList_eq, Lib.extract_data, from_list h]; rfl
  refine ⟨opN_two ?_, ?_, ?_⟩
  · have h1 : 1 < (T.extract q T.size).size := by rw [ByteArray.size_extract]; omega
    simp only [twoB, h1, decide_true, Bool.true_and, List.any_eq_true]
    exact ⟨_, hx, by rw [ht]; exact beq_self_eq_true _⟩
  · refine com_second ?_
    rw [e1]
    simp only [twoL, List.mem_cons, List.cons.injEq, and_true, List.not_mem_nil, or_false] at hx
    rcases hx with ⟨_, rfl⟩ | ⟨_, rfl⟩ | ⟨_, rfl⟩ | ⟨_, rfl⟩ | ⟨_, rfl⟩ <;> decide
  · rw [e0]
    simp only [twoL, List.mem_cons, List.cons.injEq, and_true, List.not_mem_nil, or_false] at hx
    rcases hx with ⟨rfl, _⟩ | ⟨rfl, _⟩ | ⟨rfl, _⟩ | ⟨rfl, _⟩ | ⟨rfl, _⟩ <;> decide
theorem op_one {T : ByteArray} {q : Nat} {x0 c : UInt8} {r : List UInt8} (h : T.data.toList.drop q = x0 :: c :: r) (hp : q ≤ T.size) (hc : c = 32 ∨ c = 10) (hx : [x0] ∈ oneLL) : opN (T.extract q T.size) = 1 ∧ comB T q = false ∧ blankI (byteI T q) = false := by
  have hsz := drop_len h hp
  simp only [List.length_cons] at hsz
  have e0 : byteI T (q + 0) = (x0.toNat : Int) := by rw [byteI_drop h]; rfl
  have e1 : byteI T (q + 1) = (c.toNat : Int) := by rw [byteI_drop h]; rfl
  rw [Nat.add_zero] at e0
  have hsx : (T.extract q T.size).size = T.size - q := by rw [ByteArray.size_extract]; omega
  have ht : ((T.extract q T.size).extract 0 2).toList = [x0, c] := by
    rw [ByteArray.toList_eq, Lib.extract_data, from_list h]; rfl
  have ho : ((T.extract q T.size).extract 0 1).toList = [x0] := by
    rw [ByteArray.toList_eq, Lib.extract_data, from_list h]; rfl
  refine ⟨opN_one ?_ ?_, ?_, ?_⟩
  · rcases hc with rfl | rfl
    · simp [twoB, ht, twoL]
    · simp [twoB, ht, twoL]
  · rw [← one_among (by omega)]
    exact List.any_eq_true.2 ⟨_, hx, by rw [ho]; exact beq_self_eq_true _⟩
  · refine com_second ?_
    rw [e1]
    rcases hc with rfl | rfl <;> decide
  · rw [e0]
    simp only [oneLL, List.mem_cons, List.cons.injEq, and_true, List.not_mem_nil, or_false] at hx
    rcases hx with rfl | rfl | rfl | rfl | rfl | rfl | rfl | rfl | rfl | rfl | rfl | rfl <;> decide

/-- A token's text, a blank or a line's end behind it: the same token again. -/
theorem tok_again {s T : ByteArray} {j n q : Nat} {kind x : ByteArray} {c : UInt8} {r : List UInt8} (T0 : TokAt s j kind x n) (hj : j < s.size) (h0 : kind.toList.isEmpty = false) (h1 : (kind.toList == [101, 110, 100]) = false)
    (h : T.data.toList.drop q = x.data.toList ++ c :: r) (hp : q ≤ T.size) (hc : c = 32 ∨ c = 10) : TokAt T q kind x n ∧ comB T q = false ∧ blankI (byteI T q) = false := by
  have hle := T0.le (Nat.le_of_lt hj)
  have hxs := T0.size (Nat.le_of_lt hj)
  have hpos := T0.pos h0 h1
  have hxl : x.data.toList.length = n := by rw [Array.length_toList]; exact hxs
  have hsz := drop_len h hp
  simp only [List.length_append, List.length_cons, hxl] at hsz
  have hstop : byteI T (q + n) = (c.toNat : Int) := by
    rw [byteI_drop h, byteL_append_right (by omega), hxl, Nat.sub_self]; rfl
  have hext : T.extract q (q + n) = x := by
    have e := extract_drop h
    rw [hxl] at e
    rw [e]
  have hxb : ∀ k, k < n → byteI T (q + k) = byteI x k := by
    intro k hk
    rw [byteI_drop h, byteL_append_left (by omega), byteI_data x k (by omega), byteL, List.getElem?_eq_getElem (by omega)]
  have hcn : nameI (c.toNat : Int) = false := by rcases hc with rfl | rfl <;> decide
  have hcd : digI (c.toNat : Int) = false := by rcases hc with rfl | rfl <;> decide
  cases T0 with
  | fin hf => omega
  | low n _ hl run =>
    have hb : ∀ k, k < n → byteI T (q + k) = byteI s (j + k) := fun k hk => by rw [hxb k hk, extract_byte s j n k hle hk]
    have b0 := hb 0 hpos
    rw [Nat.add_zero, Nat.add_zero] at b0
    have TT := TokAt.low (s := T) (j := q) n (by omega) (by rw [b0]; exact hl) ⟨by omega, fun k hk => by rw [hb k hk]; exact run.all k hk, fun _ => by rw [hstop]; exact hcn⟩
    rw [hext] at TT
    simp only [lowI, Bool.and_eq_true, decide_eq_true_eq] at hl
    refine ⟨TT, com_firstB (by rw [b0]; omega), ?_⟩
    rw [b0]
    simp only [blankI, Bool.or_eq_false_iff, beq_eq_false_iff_ne]
    omega
  | dig n _ hl hd run =>
    have hb : ∀ k, k < n → byteI T (q + k) = byteI s (j + k) := fun k hk => by rw [hxb k hk, extract_byte s j n k hle hk]
    have b0 := hb 0 hpos
    rw [Nat.add_zero, Nat.add_zero] at b0
    have TT := TokAt.dig (s := T) (j := q) n (by omega) (by rw [b0]; exact hl) (by rw [b0]; exact hd) ⟨by omega, fun k hk => by rw [hb k hk]; exact run.all k hk, fun _ => by rw [hstop]; exact hcd⟩
    rw [hext] at TT
    simp only [digI, Bool.and_eq_true, decide_eq_true_eq] at hd
    refine ⟨TT, com_firstB (by rw [b0]; omega), ?_⟩
    rw [b0]
    simp only [blankI, Bool.or_eq_false_iff, beq_eq_false_iff_ne]
    omega
  | op n _ hl hd hn =>
    have hb : ∀ k, k < n → byteI T (q + k) = byteI s (j + k) := fun k hk => by rw [hxb k hk, extract_byte s j n k hle hk]
    have b0 := hb 0 hpos
    rw [Nat.add_zero, Nat.add_zero] at b0
    have key : opN (T.extract q T.size) = n ∧ comB T q = false ∧ blankI (byteI T q) = false := by
      have hsj : 0 < (s.extract j s.size).size := by rw [ByteArray.size_extract]; omega
      by_cases h2 : twoB (s.extract j s.size) = true
      · have e2 : n = 2 := by rw [hn, opN_two h2]
        subst e2
        have hx2 : (s.extract j s.size).extract 0 2 = s.extract j (j + 2) := extract_from s j 2 hle
        simp only [twoB, Bool.and_eq_true, List.any_eq_true] at h2
        obtain ⟨_, l, hl2, he⟩ := h2
        rw [hx2, ByteArray.toList_eq] at he
        have he' : (s.extract j (j + 2)).data.toList = l := by simpa using he
        rw [he'] at h hxl
        match l, hxl, hl2, h with
        | [x0, x1], _, hl2, h => exact op_two h hp hl2
      · have h2' : twoB (s.extract j s.size) = false := by simpa using h2
        have h3 : oneB (s.extract j s.size) = true := by
          cases ho : oneB (s.extract j s.size) with
          | true => rfl
          | false => rw [opN_none h2' ho] at hn; omega
        have e1 : n = 1 := by rw [hn, opN_one h2' h3]
        subst e1
        have hx1 : (s.extract j s.size).extract 0 1 = s.extract j (j + 1) := extract_from s j 1 hle
        rw [← one_among hsj, hx1] at h3
        obtain ⟨l, hl2, he⟩ := List.any_eq_true.1 h3
        rw [ByteArray.toList_eq] at he
        have he' : (s.extract j (j + 1)).data.toList = l := by simpa using he
        rw [he'] at h hxl
        match l, hxl, hl2, h with
        | [x0], _, hl2, h => exact op_one h hp hc hl2
    have TT := TokAt.op (s := T) (j := q) n (by omega) (by rw [b0]; exact hl) (by rw [b0]; exact hd) key.1.symm
    rw [hext] at TT
    exact ⟨TT, key.2⟩

/-- A token of some text, that is not its end. -/
def Good (t : Tk) : Prop := ∃ (s : ByteArray) (j n : Nat), TokAt s j t.kind t.text n ∧ j < s.size ∧ t.kind.toList.isEmpty = false ∧ (t.kind.toList == [101, 110, 100]) = false
def IsEnd (t : Tk) : Prop := (t.kind.toList == [101, 110, 100]) = true ∧ t.kind = kEnd ∧ t.text = ⟨#[]⟩
theorem TokAt.isEnd {s : ByteArray} {j n : Nat} {kind text : ByteArray} (T : TokAt s j kind text n) (hj : j ≤ s.size) (h : (kind.toList == [101, 110, 100]) = true) : kind = kEnd ∧ text = ⟨#[]⟩ ∧ n = 0 ∧ j = s.size := by
  rcases Nat.lt_or_ge j s.size with h1 | h1
  · rw [T.notEnd h1] at h; cases h
  · cases T with
    | fin h2 => exact ⟨rfl, rfl, rfl, h2⟩
    | low _ h2 => omega
    | dig _ h2 => omega
    | op _ h2 => omega
theorem TokAt.lt {s : ByteArray} {j n : Nat} {kind text : ByteArray} (T : TokAt s j kind text n) (h : (kind.toList == [101, 110, 100]) = false) : j < s.size := by
  cases T with
  | fin h2 => rw [kEnd_list] at h; cases h
  | low _ h2 => exact h2
  | dig _ h2 => exact h2
  | op _ h2 => exact h2
/-- What is read: good tokens, and the end. -/
theorem Lexes.parts {s : ByteArray} {i : Nat} {l : List Tk} (h : Lexes s i l none) : ∃ (g : List Tk) (e : Tk), l = g ++ [e] ∧ (∀ t ∈ g, Good t) ∧ e.kind = kEnd ∧ e.text = ⟨#[]⟩ := by
  generalize hr : (none : Option Nat) = r at h
  induction h with
  | fin i j n kind text S c T h0 h1 =>
    obtain ⟨e1, e2, _, _⟩ := T.isEnd S.le h1
    exact ⟨[], _, rfl, (fun t ht => by cases ht), e1, e2⟩
  | bad i j n kind text => cases hr
  | tok i j n kind text l r S c T h0 h1 _ ih =>
    obtain ⟨g, e, rfl, hg, h2, h3⟩ := ih hr
    refine ⟨⟨kind, text, j⟩ :: g, e, rfl, ?_, h2, h3⟩
    intro t ht
    rcases List.mem_cons.1 ht with rfl | ht
    · exact ⟨s, j, n, T, T.lt h1, h0, h1⟩
    · exact hg t ht
/-- The tokens' texts, a gap ahead of each, and one at the end. -/
def joined (k : Nat) : List Tk → List UInt8
  | [] => gapL k
  | t :: r => gapL k ++ (t.text.data.toList ++ joined k r)
theorem joined_first (k : Nat) (l : List Tk) : ∃ c r, joined k l = c :: r ∧ (c = 32 ∨ c = 10) := by
  obtain ⟨c, r, e, hc⟩ := gap_first k
  cases l with
  | nil => exact ⟨c, r, e, hc⟩
  | cons t l => exact ⟨c, _, by rw [joined, e, List.cons_append], hc⟩
theorem lexes_joined (k : Nat) {T : ByteArray} : ∀ (l : List Tk) (p : Nat), (∀ t ∈ l, Good t) → p ≤ T.size → T.data.toList.drop p = joined k l →
    ∃ l' : List Tk, Lexes T p l' none ∧ l'.map (fun t => (t.kind, t.text)) = l.map (fun t => (t.kind, t.text)) ++ [(kEnd, ⟨#[]⟩)]
  | [], p, _, hp, h => by
    have h' : T.data.toList.drop p = gapL k ++ [] := by rw [h, List.append_nil]; rfl
    have hsz := drop_len h' hp
    rw [List.append_nil] at hsz
    have hs := gap_skips k h' hp
    rw [← hsz] at hs
    have hcE : comB T T.size = false := by
      have h1 : ¬ T.size + 1 < T.size := by omega
      simp [comB, h1]
    exact ⟨[⟨kEnd, ⟨#[]⟩, T.size⟩], .fin p T.size 0 kEnd ⟨#[]⟩ ⟨hs, Nat.le_refl _, fun h => by omega⟩ hcE (.fin rfl) (by rw [kEnd_list]; rfl) (by rw [kEnd_list]; rfl), rfl⟩
  | t :: r, p, hg, hp, h => by
    have hs := gap_skips k h hp
    have h2 := drop_more h
    have hsz := drop_len h hp
    rw [joined, List.length_append] at hsz
    obtain ⟨s, j, n, T0, hj, h0, h1⟩ := hg t List.mem_cons_self
    obtain ⟨c, r', hjn, hc⟩ := joined_first k r
    rw [hjn] at h2
    obtain ⟨TT, hcm, hbl⟩ := tok_again T0 hj h0 h1 h2 (by omega) hc
    have hxl : t.text.data.toList.length = n := by rw [Array.length_toList]; exact T0.size (Nat.le_of_lt hj)
    have h3 := drop_more h2
    rw [hxl, ← hjn] at h3
    have hle := TT.le (by omega)
    obtain ⟨l', hl', hm⟩ := lexes_joined k r _ (fun x hx => hg x (List.mem_cons_of_mem _ hx)) hle h3
    exact ⟨⟨t.kind, t.text, p + (gapL k).length⟩ :: l', .tok p _ n t.kind t.text l' none ⟨hs, by omega, fun _ => hbl⟩ hcm TT h0 h1 hl', by simp [hm]⟩
/-- The text that the law makes: all but the last gap. -/
def pre (k : Nat) (l : List Tk) : List UInt8 := l.flatMap fun t => gapL k ++ t.text.data.toList
theorem pre_joined (k : Nat) : ∀ l : List Tk, pre k l ++ gapL k = joined k l
  | [] => rfl
  | t :: r => by
    have := pre_joined k r
    simp only [pre, List.flatMap_cons, joined, List.append_assoc] at *
    rw [this]
theorem pre_snoc (k : Nat) (l : List Tk) (t : Tk) : pre k (l ++ [t]) = pre k l ++ (gapL k ++ t.text.data.toList) := by simp [pre]
end Go.Proofs.YtkipbkhpomjhkaaDoor
