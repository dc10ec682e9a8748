/-
  WHAT A PROGRAM's BYTES ARE READ AS, IN PLAIN MATHEMATICS: tokens, one behind the other, to the end, or to a byte at which none begins. There is one answer.
-/
import Derived.Test.YtkipbkhpomjhkaaGreatDoorLexD
namespace Go.Proofs.YtkipbkhpomjhkaaGreatDoor
open Go.RowKit

structure Tk where
  kind : ByteArray
  text : ByteArray
  pos : Nat
/-- Tokens as they lie in memory. -/
def tkCells (l : List Tk) : List Value := l.flatMap fun t => [.string t.kind, .string t.text, .int .i64 t.pos]
theorem tkCells_snoc (l : List Tk) (t : Tk) : tkCells (l ++ [t]) = tkCells l ++ [.string t.kind, .string t.text, .int .i64 t.pos] := by
  simp [tkCells]
theorem tkCells_length (l : List Tk) : (tkCells l).length = l.length * 3 := by
  induction l with
  | nil => rfl
  | cons t r ih => simp only [tkCells, List.flatMap_cons, List.length_append, List.length_cons, List.length_nil] at *; omega
theorem tkCells_at : ∀ (l : List Tk) (i : Nat) (h : i < l.length), (tkCells l)[i * 3]? = some (.string l[i].kind) ∧ (tkCells l)[i * 3 + 1]? = some (.string l[i].text) ∧ (tkCells l)[i * 3 + 2]? = some (.int .i64 l[i].pos)
  | [], i, h => by cases h
  | t :: r, 0, _ => ⟨rfl, rfl, rfl⟩
  | t :: r, i + 1, h => by
    have := tkCells_at r i (by simpa using h)
    have e : tkCells (t :: r) = .string t.kind :: .string t.text :: .int .i64 t.pos :: tkCells r := rfl
    rw [e, show (i + 1) * 3 = i * 3 + 3 from by omega, show i * 3 + 3 + 1 = (i * 3 + 1) + 3 from by omega, show i * 3 + 3 + 2 = (i * 3 + 2) + 3 from by omega]
    simpa using this

theorem Skips.le {s : ByteArray} {i j : Nat} (h : Skips s i j) : i ≤ j := by
  induction h with
  | refl => exact Nat.le_refl _
  | blank i j _ _ _ ih => omega
  | comment i n j _ _ _ _ ih => omega

/-- So far these tokens, and one stands at i. -/
inductive Reads (s : ByteArray) : List Tk → Nat → Prop
  | start : Reads s [] 0
  | tok (l : List Tk) (i j n : Nat) (kind text : ByteArray) : Reads s l i → Stands s i j → comB s j = false → TokAt s j kind text n → kind.toList.isEmpty = false → (kind.toList == [101, 110, 100]) = false → Reads s (l ++ [⟨kind, text, j⟩]) (j + n)

theorem low_name {c : Int} (h : lowI c = true) : nameI c = true := by simp [nameI, h]
theorem kEnd_list : kEnd.toList = [101, 110, 100] := by rw [ByteArray.toList_eq]; rfl
theorem kNone_list : kNone.toList = [] := by rw [ByteArray.toList_eq]; rfl
theorem TokAt.le {s : ByteArray} {j n : Nat} {kind text : ByteArray} (T : TokAt s j kind text n) (hj : j ≤ s.size) : j + n ≤ s.size := by
  cases T with
  | fin h => omega
  | low n _ _ r => exact r.le
  | dig n _ _ _ r => exact r.le
  | op n hjl _ _ h =>
    have := opN_le (s.extract j s.size)
    rw [ByteArray.size_extract] at this
    omega
theorem TokAt.pos {s : ByteArray} {j n : Nat} {kind text : ByteArray} (T : TokAt s j kind text n) (h0 : kind.toList.isEmpty = false) (h1 : (kind.toList == [101, 110, 100]) = false) : 0 < n := by
  cases T with
  | fin h => rw [kEnd_list] at h1; cases h1
  | low n hj hl r =>
    rcases Nat.eq_zero_or_pos n with h | h
    · subst h
      have := r.stop (by omega)
      rw [Nat.add_zero, low_name hl] at this; cases this
    · exact h
  | dig n hj _ hd r =>
    rcases Nat.eq_zero_or_pos n with h | h
    · subst h
      have := r.stop (by omega)
      rw [Nat.add_zero, hd] at this; cases this
    · exact h
  | op n hj _ _ h =>
    rcases Nat.eq_zero_or_pos n with h2 | h2
    · exfalso
      have e : (s.extract j (j + n)).toList = [] := by
        rw [nil_iff, ByteArray.size_extract]; omega
      have ek : opK (s.extract j (j + n)) = kNone := by simp [opK, e]
      rw [ek, kNone_list] at h0
      cases h0
    · exact h2
theorem Reads.le {s : ByteArray} {l : List Tk} {i : Nat} (h : Reads s l i) : i ≤ s.size ∧ l.length ≤ i := by
  induction h with
  | start => exact ⟨Nat.zero_le _, Nat.le_refl _⟩
  | tok l i j n kind text _ St _ T h0 h1 ih =>
    have hp := T.pos h0 h1
    have hl := T.le St.le
    have hij : i ≤ j := St.skips.le
    rw [List.length_append]
    exact ⟨hl, by simp only [List.length_cons, List.length_nil]; omega⟩

theorem Skips.one {s : ByteArray} {i j k : Nat} (h : Skips s i j) (hj : j < s.size → blankI (byteI s j) = false) (cj : comB s j = false) (g : Skips s i k) (hk : k < s.size → blankI (byteI s k) = false) (ck : comB s k = false) : j = k := by
  induction h with
  | refl i =>
    cases g with
    | refl => rfl
    | blank _ _ h1 h2 _ => rw [hj h1] at h2; cases h2
    | comment _ n _ h1 _ _ _ => rw [cj] at h1; cases h1
  | blank i j h1 h2 _ ih =>
    cases g with
    | refl => rw [hk h1] at h2; cases h2
    | blank _ _ _ _ g => exact ih hj cj g
    | comment _ n _ _ h3 _ _ => rw [h2] at h3; cases h3
  | comment i n j h1 h2 h3 _ ih =>
    cases g with
    | refl => rw [ck] at h1; cases h1
    | blank _ _ _ h4 _ => rw [h2] at h4; cases h4
    | comment _ m _ _ _ h5 g =>
      obtain rfl := h3.one h5
      exact ih hj cj g
theorem Stands.one {s : ByteArray} {i j k : Nat} (h : Stands s i j) (cj : comB s j = false) (g : Stands s i k) (ck : comB s k = false) : j = k :=
  h.skips.one h.blank cj g.skips g.blank ck

theorem TokAt.one {s : ByteArray} {j n m : Nat} {k t k' t' : ByteArray} (a : TokAt s j k t n) (b : TokAt s j k' t' m) : k = k' ∧ t = t' ∧ n = m := by
  cases a with
  | fin h =>
    cases b with
    | fin => exact ⟨rfl, rfl, rfl⟩
    | low _ h1 => omega
    | dig _ h1 => omega
    | op _ h1 => omega
  | low n h1 h2 r =>
    cases b with
    | fin h => omega
    | low m _ _ r' => obtain rfl := r.one r'; exact ⟨rfl, rfl, rfl⟩
    | dig m _ h3 => rw [h2] at h3; cases h3
    | op m _ h3 => rw [h2] at h3; cases h3
  | dig n h1 h2 h3 r =>
    cases b with
    | fin h => omega
    | low m _ h4 => rw [h2] at h4; cases h4
    | dig m _ _ _ r' => obtain rfl := r.one r'; exact ⟨rfl, rfl, rfl⟩
    | op m _ _ h4 => rw [h3] at h4; cases h4
  | op n h1 h2 h3 e =>
    cases b with
    | fin h => omega
    | low m _ h4 => rw [h2] at h4; cases h4
    | dig m _ _ h4 => rw [h3] at h4; cases h4
    | op m _ _ _ e' => rw [e, e']; exact ⟨rfl, rfl, rfl⟩

/-- From i on: these tokens, the end's last (none); or these, and none begins at j (some j). -/
inductive Lexes (s : ByteArray) : Nat → List Tk → Option Nat → Prop
  | fin (i j n : Nat) (kind text : ByteArray) : Stands s i j → comB s j = false → TokAt s j kind text n → kind.toList.isEmpty = false → (kind.toList == [101, 110, 100]) = true → Lexes s i [⟨kind, text, j⟩] none
  | bad (i j n : Nat) (kind text : ByteArray) : Stands s i j → comB s j = false → TokAt s j kind text n → kind.toList.isEmpty = true → Lexes s i [] (some j)
  | tok (i j n : Nat) (kind text : ByteArray) (l : List Tk) (r : Option Nat) : Stands s i j → comB s j = false → TokAt s j kind text n → kind.toList.isEmpty = false → (kind.toList == [101, 110, 100]) = false → Lexes s (j + n) l r → Lexes s i (⟨kind, text, j⟩ :: l) r
theorem Lexes.one {s : ByteArray} {i : Nat} {l l' : List Tk} {r r' : Option Nat} (a : Lexes s i l r) (b : Lexes s i l' r') : l = l' ∧ r = r' := by
  induction a generalizing l' r' with
  | fin i j n kind text S c T h0 h1 =>
    cases b with
    | fin _ j' n' kind' text' S' c' T' =>
      obtain rfl := S.one c S' c'
      obtain ⟨rfl, rfl, rfl⟩ := T.one T'
      exact ⟨rfl, rfl⟩
    | bad _ j' n' kind' text' S' c' T' h =>
      obtain rfl := S.one c S' c'
      obtain ⟨rfl, rfl, rfl⟩ := T.one T'
      rw [h0] at h; cases h
    | tok _ j' n' kind' text' _ _ S' c' T' _ h =>
      obtain rfl := S.one c S' c'
      obtain ⟨rfl, rfl, rfl⟩ := T.one T'
      rw [h1] at h; cases h
  | bad i j n kind text S c T h0 =>
    cases b with
    | fin _ j' n' kind' text' S' c' T' h =>
      obtain rfl := S.one c S' c'
      obtain ⟨rfl, rfl, rfl⟩ := T.one T'
      rw [h0] at h; cases h
    | bad _ j' n' kind' text' S' c' T' h =>
      obtain rfl := S.one c S' c'
      exact ⟨rfl, rfl⟩
    | tok _ j' n' kind' text' _ _ S' c' T' h _ =>
      obtain rfl := S.one c S' c'
      obtain ⟨rfl, rfl, rfl⟩ := T.one T'
      rw [h0] at h; cases h
  | tok i j n kind text l r S c T h0 h1 _ ih =>
    cases b with
    | fin _ j' n' kind' text' S' c' T' _ h =>
      obtain rfl := S.one c S' c'
      obtain ⟨rfl, rfl, rfl⟩ := T.one T'
      rw [h1] at h; cases h
    | bad _ j' n' kind' text' S' c' T' h =>
      obtain rfl := S.one c S' c'
      obtain ⟨rfl, rfl, rfl⟩ := T.one T'
      rw [h0] at h; cases h
    | tok _ j' n' kind' text' _ _ S' c' T' _ _ g =>
      obtain rfl := S.one c S' c'
      obtain ⟨rfl, rfl, rfl⟩ := T.one T'
      obtain ⟨rfl, rfl⟩ := ih g
      exact ⟨rfl, rfl⟩
theorem Reads.lexes {s : ByteArray} {l : List Tk} {i : Nat} (h : Reads s l i) : ∀ {l' : List Tk} {r : Option Nat}, Lexes s i l' r → Lexes s 0 (l ++ l') r := by
  induction h with
  | start => intro l' r g; exact g
  | tok l i j n kind text _ S c T h0 h1 ih =>
    intro l' r g
    rw [List.append_assoc]
    exact ih (.tok i j n kind text l' r S c T h0 h1 g)
end Go.Proofs.YtkipbkhpomjhkaaGreatDoor
