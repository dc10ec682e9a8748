/-
  WHAT TOKENS ARE THAT ARE READ OF BYTES, IN PLAIN MATHEMATICS: a text tells its kind; the end is the last one.
-/
import Derived.Test.YtglkpgcmlbhkpabGreatDoorP06
import Derived.Test.YtglkpgcmlbhkpabGreatDoorP08
namespace Go.Proofs.YtglkpgcmlbhkpabGreatDoor
open Go.RowKit

def opLL : List (List UInt8) := twoL ++ oneLL
/-- A token as it is read. -/
inductive TkOk : Tk → Prop
  | low (t : Tk) : 0 < t.text.size → t.text.size ≤ 12 → lowI (byteI t.text 0) = true → (∀ k, k < t.text.size → nameI (byteI t.text k) = true) → t.kind = (if wordB t.text then kWord else kName) → TkOk t
  | dig (t : Tk) : 0 < t.text.size → (∀ k, k < t.text.size → digI (byteI t.text k) = true) → intB t.text = true → t.kind = kInt → TkOk t
  | op (t : Tk) : opLL.any (fun x => t.text.toList == x) = true → t.kind = kOp → TkOk t
  | fin (t : Tk) : t.text = b0 → t.kind = kEnd → TkOk t
structure Tkl (l : List Tk) : Prop where
  ne : 0 < l.length
  len : l.length ≤ 6001
  ok : ∀ i (h : i < l.length), TkOk l[i]
  fin : ∀ i (h : i < l.length), l[i].kind = kEnd ↔ i + 1 = l.length
  tsz : ∀ i (h : i < l.length), l[i].text.size ≤ 6000
  psz : ∀ i (h : i < l.length), l[i].pos ≤ 6000

theorem toList_data (t : ByteArray) : t.toList = t.data.toList := ByteArray.toList_eq t
theorem byteI_head {t : ByteArray} {c : UInt8} {r : List UInt8} (h : t.toList = c :: r) : byteI t 0 = (c.toNat : Int) := by
  rw [toList_data] at h
  have hs : 0 < t.size := by
    have : t.data.toList.length = t.size := Array.length_toList
    rw [h] at this; simp at this; omega
  rw [byteI_data t 0 hs]; simp [h]
theorem ne_kinds : kWord ≠ kEnd ∧ kName ≠ kEnd ∧ kInt ≠ kEnd ∧ kOp ≠ kEnd := by
  refine ⟨?_, ?_, ?_, ?_⟩ <;> (intro h; injection h with h; revert h; decide)
theorem TkOk.of {s : ByteArray} {j n : Nat} {kind text : ByteArray} (T : TokAt s j kind text n) (h0 : kind.toList.isEmpty = false) : TkOk ⟨kind, text, j⟩ := by
  cases T with
  | fin h => exact .fin _ rfl rfl
  | low n h1 h2 r =>
    have hp := IsRun.le r
    have hn : 0 < n := by
      rcases Nat.eq_zero_or_pos n with h | h
      · subst h
        have := r.stop (by omega)
        rw [Nat.add_zero, low_name h2] at this; cases this
      · exact h
    have hsz : (s.extract j (j + n)).size = n := extract_size s j n hp
    have hk : nameK (s.extract j (j + n)) ≠ kNone := fun e => by rw [e, kNone_list] at h0; cases h0
    have hk' := hk
    unfold nameK at hk'
    split at hk'
    · exact absurd rfl hk'
    · rename_i h12
      refine .low _ (by rw [hsz]; exact hn) (by show (s.extract j (j + n)).size ≤ 12; omega) ?_ ?_ ?_
      · show lowI (byteI (s.extract j (j + n)) 0) = true
        rw [extract_byte s j n 0 hp hn, Nat.add_zero]; exact h2
      · intro k hk
        have hk2 : k < n := by have : k < (s.extract j (j + n)).size := hk; omega
        show nameI (byteI (s.extract j (j + n)) k) = true
        rw [extract_byte s j n k hp hk2]; exact r.all k hk2
      · show nameK (s.extract j (j + n)) = _
        rw [nameK, if_neg h12]
  | dig n h1 h2 h3 r =>
    have hp := IsRun.le r
    have hn : 0 < n := by
      rcases Nat.eq_zero_or_pos n with h | h
      · subst h
        have := r.stop (by omega)
        rw [Nat.add_zero, h3] at this; cases this
      · exact h
    have hsz : (s.extract j (j + n)).size = n := extract_size s j n hp
    have hb : intB (s.extract j (j + n)) = true := by
      by_cases h : intB (s.extract j (j + n)) = true
      · exact h
      · rw [intK, if_neg h, kNone_list] at h0; cases h0
    refine .dig _ (by rw [hsz]; exact hn) ?_ hb (by show intK _ = _; rw [intK, if_pos hb])
    intro k hk
    have hk2 : k < n := by have : k < (s.extract j (j + n)).size := hk; omega
    show digI (byteI (s.extract j (j + n)) k) = true
    rw [extract_byte s j n k hp hk2]; exact r.all k hk2
  | op n h1 h2 h3 e =>
    have hle := opN_le (s.extract j s.size)
    rw [ByteArray.size_extract] at hle
    have hne : (s.extract j (j + n)).toList ≠ [] := by
      intro h
      have ek : opK (s.extract j (j + n)) = kNone := by simp [opK, h]
      rw [ek, kNone_list] at h0; cases h0
    have hx : (s.extract j s.size).extract 0 n = s.extract j (j + n) := by
      rw [ByteArray.extract_extract]; congr 1; omega
    refine .op _ ?_ (by show opK _ = _; rw [opK, if_neg (by simpa using hne)])
    show opLL.any (fun x => (s.extract j (j + n)).toList == x) = true
    by_cases h2 : twoB (s.extract j s.size) = true
    · have en : n = 2 := by rw [e, opN_two h2]
      subst en
      simp only [twoB, Bool.and_eq_true] at h2
      rw [hx] at h2
      simp only [opLL, List.any_append, h2.2, Bool.true_or]
    · have h2' : twoB (s.extract j s.size) = false := by simpa using h2
      by_cases h4 : oneB (s.extract j s.size) = true
      · have en : n = 1 := by rw [e, opN_one h2' h4]
        subst en
        have hr : 0 < (s.extract j s.size).size := by rw [ByteArray.size_extract]; omega
        have := one_among hr
        rw [h4, hx] at this
        simp only [amongB] at this
        simp only [opLL, List.any_append, this, Bool.or_true]
      · have en : n = 0 := by rw [e, opN_none h2' (by simpa using h4)]
        subst en
        exfalso; apply hne
        rw [nil_iff, ByteArray.size_extract]; omega
theorem TkOk.noEnd {t : Tk} (h : TkOk t) (hx : t.kind ≠ kEnd) : t.text.size ≠ 0 := by
  cases h with
  | low h => omega
  | dig h => omega
  | op h =>
    intro h0
    have e : t.text.toList = [] := by rw [nil_iff]; exact h0
    rw [e] at h
    revert h; decide
  | fin _ h => exact absurd h hx
theorem TokAt.tsize {s : ByteArray} {j n : Nat} {kind text : ByteArray} (T : TokAt s j kind text n) : text.size ≤ s.size := by
  cases T with
  | fin => exact Nat.zero_le _
  | low n => rw [ByteArray.size_extract]; omega
  | dig n => rw [ByteArray.size_extract]; omega
  | op n => rw [ByteArray.size_extract]; omega
theorem toks_of {s : ByteArray} {i : Nat} {l : List Tk} {r : Option Nat} (h : Lexes s i l r) (hr : r = none) (hs : s.size ≤ 6000) :
    0 < l.length ∧ (∀ i (h : i < l.length), TkOk l[i]) ∧ (∀ i (h : i < l.length), l[i].kind = kEnd ↔ i + 1 = l.length) ∧ (∀ i (h : i < l.length), l[i].text.size ≤ 6000) ∧ (∀ i (h : i < l.length), l[i].pos ≤ 6000) := by
  induction h with
  | bad => cases hr
  | fin i j n kind text S c T h0 h1 =>
    have hk := TkOk.of T h0
    have he : kind = kEnd := by
      have e : kind.toList = kEnd.toList := by rw [kEnd_list]; simpa using h1
      rw [toList_data, toList_data] at e
      apply ByteArray.ext; apply Array.ext'; exact e
    refine ⟨by simp, ?_, ?_, ?_, ?_⟩
    · intro i hi
      have : i = 0 := by simp at hi; omega
      subst this; exact hk
    · intro i hi
      have : i = 0 := by simp at hi; omega
      subst this
      exact ⟨fun _ => rfl, fun _ => he⟩
    · intro i hi
      have : i = 0 := by simp at hi; omega
      subst this
      exact Nat.le_trans T.tsize hs
    · intro i hi
      have : i = 0 := by simp at hi; omega
      subst this
      have := S.le
      show j ≤ 6000; omega
  | tok i j n kind text l r S c T h0 h1 _ ih =>
    obtain ⟨a1, a2, a3, a4, a5⟩ := ih hr
    have hk := TkOk.of T h0
    have hne : kind ≠ kEnd := fun e => by rw [e, kEnd_list] at h1; cases h1
    refine ⟨by simp, ?_, ?_, ?_, ?_⟩
    · intro i hi
      cases i with
      | zero => exact hk
      | succ i => exact a2 i (by simpa using hi)
    · intro i hi
      cases i with
      | zero => exact ⟨fun e => absurd e hne, fun e => by simp only [List.length_cons] at e; omega⟩
      | succ i =>
        have := a3 i (by simpa using hi)
        simp only [List.getElem_cons_succ, List.length_cons]
        rw [this]; omega
    · intro i hi
      cases i with
      | zero => exact Nat.le_trans T.tsize hs
      | succ i => exact a4 i (by simpa using hi)
    · intro i hi
      cases i with
      | zero => have := S.le; show j ≤ 6000; omega
      | succ i => exact a5 i (by simpa using hi)
theorem Lexes.toks {s : ByteArray} {l : List Tk} (h : Lexes s 0 l none) (hs : s.size ≤ 6000) : Tkl l := by
  obtain ⟨a1, a2, a3, a4, a5⟩ := toks_of h rfl hs
  exact ⟨a1, h.len hs, a2, a3, a4, a5⟩

section
variable {l : List Tk}
theorem tkx_lt {i : Nat} (h : i < l.length) : tkx l i = l[i].text := dif_pos h
theorem tkk_lt {i : Nat} (h : i < l.length) : tkk l i = l[i].kind := dif_pos h
theorem Tkl.next (T : Tkl l) {i : Nat} (hi : i < l.length) (h : l[i].kind ≠ kEnd) : i + 1 < l.length := by
  have := T.fin i hi
  rcases Nat.lt_or_ge (i + 1) l.length with g | g
  · exact g
  · exact absurd (this.2 (by omega)) h
theorem Tkl.end_text (T : Tkl l) {i : Nat} (hi : i < l.length) (h : l[i].kind = kEnd) : l[i].text.toList = [] := by
  have hne := ne_kinds
  cases T.ok i hi with
  | low _ _ _ _ hk => rw [h] at hk; split at hk; exact absurd hk.symm hne.1; exact absurd hk.symm hne.2.1
  | dig _ _ _ hk => rw [h] at hk; exact absurd hk.symm hne.2.2.1
  | op _ hk => rw [h] at hk; exact absurd hk.symm hne.2.2.2
  | fin h1 _ => rw [h1]; exact kNone_list
theorem Tkl.next_tx (T : Tkl l) {i : Nat} (hi : i < l.length) {c : UInt8} {r : List UInt8} (h : tx l i (c :: r) = true) : i + 1 < l.length := by
  refine T.next hi fun e => ?_
  have := T.end_text hi e
  rw [tx, tkx_lt hi, this] at h; cases h
theorem list_kind {t : ByteArray} {a b : List UInt8} (h : (t.toList == a) = true) (g : t.toList = b) (hne : a ≠ b) : False := by
  have : t.toList = a := by simpa using h
  exact hne (this.symm.trans g)
theorem Tkl.next_name (T : Tkl l) {i : Nat} (hi : i < l.length) (h : isName l i = true) : i + 1 < l.length := by
  refine T.next hi fun e => ?_
  rw [isName, tkk_lt hi, e] at h
  exact list_kind h kEnd_list (by decide)
theorem Tkl.next_int (T : Tkl l) {i : Nat} (hi : i < l.length) (h : isInt l i = true) : i + 1 < l.length := by
  refine T.next hi fun e => ?_
  rw [isInt, tkk_lt hi, e] at h
  exact list_kind h kEnd_list (by decide)
theorem Tkl.next_txs (T : Tkl l) {i : Nat} (hi : i < l.length) {xs : List (List UInt8)} (hx : [] ∉ xs) (h : txs l i xs = true) : i + 1 < l.length := by
  simp only [txs, List.any_eq_true] at h
  obtain ⟨x, hm, h⟩ := h
  cases x with
  | nil => exact absurd hm hx
  | cons c r => exact T.next_tx hi h
theorem kindLists : kWord.toList = [119, 111, 114, 100] ∧ kName.toList = [110, 97, 109, 101] ∧ kInt.toList = [105, 110, 116] ∧ kOp.toList = [111, 112] := by
  refine ⟨?_, ?_, ?_, ?_⟩ <;> (rw [ByteArray.toList_eq]; rfl)
/-- A word's text is a word's alone. -/
theorem Tkl.word (T : Tkl l) {i : Nat} (hi : i < l.length) {x : List UInt8} (hx : x ∈ wordL) (h : tx l i x = true) : l[i].kind = kWord := by
  rw [tx, tkx_lt hi] at h
  have hl : l[i].text.toList = x := by simpa using h
  have hw : wordB l[i].text = true := by simp only [wordB, List.any_eq_true]; exact ⟨x, hx, h⟩
  have hlow : ∃ c r, x = c :: r ∧ lowI (c.toNat : Int) = true := by
    have : ∀ x ∈ wordL, ∃ c r, x = c :: r ∧ lowI (c.toNat : Int) = true := by
      intro x hx
      simp only [wordL, List.mem_cons, List.not_mem_nil, or_false] at hx
      rcases hx with rfl | rfl | rfl | rfl | rfl | rfl | rfl | rfl | rfl | rfl | rfl | rfl | rfl | rfl | rfl | rfl | rfl | rfl | rfl | rfl | rfl <;> exact ⟨_, _, rfl, by decide⟩
    exact this x hx
  obtain ⟨c, r, rfl, hc⟩ := hlow
  cases T.ok i hi with
  | low _ _ _ _ hk => rw [hk, if_pos hw]
  | dig h0 hd _ _ =>
    exfalso
    have := hd 0 h0
    rw [byteI_head hl] at this
    simp only [digI, lowI, Bool.and_eq_true, decide_eq_true_eq] at this hc
    omega
  | op h _ =>
    exfalso
    rw [hl] at h
    have : ∀ x ∈ opLL, ∀ c r, x = c :: r → lowI (c.toNat : Int) = false := by
      intro x hx c r e
      simp only [opLL, twoL, oneLL, List.mem_append, List.mem_cons, List.not_mem_nil, or_false] at hx
      rcases hx with (rfl | rfl | rfl | rfl | rfl) | (rfl | rfl | rfl | rfl | rfl | rfl | rfl | rfl | rfl | rfl | rfl | rfl) <;> (injection e with e1 _; subst e1; decide)
    simp only [List.any_eq_true] at h
    obtain ⟨y, hy, hyx⟩ := h
    have hyx' : c :: r = y := by simpa using hyx
    have := this y hy c r hyx'.symm
    rw [hc] at this; cases this
  | fin h _ => rw [h, show b0.toList = [] from kNone_list] at hl; cases hl
/-- An operator's text is an operator's alone. -/
theorem Tkl.oper (T : Tkl l) {i : Nat} (hi : i < l.length) {x : List UInt8} (hx : x ∈ opLL) (h : tx l i x = true) : l[i].kind = kOp := by
  rw [tx, tkx_lt hi] at h
  have hl : l[i].text.toList = x := by simpa using h
  have hlow : ∃ c r, x = c :: r ∧ lowI (c.toNat : Int) = false ∧ digI (c.toNat : Int) = false := by
    have : ∀ x ∈ opLL, ∃ c r, x = c :: r ∧ lowI (c.toNat : Int) = false ∧ digI (c.toNat : Int) = false := by
      intro x hx
      simp only [opLL, twoL, oneLL, List.mem_append, List.mem_cons, List.not_mem_nil, or_false] at hx
      rcases hx with (rfl | rfl | rfl | rfl | rfl) | (rfl | rfl | rfl | rfl | rfl | rfl | rfl | rfl | rfl | rfl | rfl | rfl) <;> exact ⟨_, _, rfl, by decide, by decide⟩
    exact this x hx
  obtain ⟨c, r, rfl, hc, hd'⟩ := hlow
  cases T.ok i hi with
  | low _ _ h2 _ _ => rw [byteI_head hl, hc] at h2; cases h2
  | dig h0 hd _ _ => have := hd 0 h0; rw [byteI_head hl, hd'] at this; cases this
  | op _ hk => exact hk
  | fin h _ => rw [h, show b0.toList = [] from kNone_list] at hl; cases hl
theorem Tkl.int (T : Tkl l) {i : Nat} (hi : i < l.length) (h : isInt l i = true) : 0 < l[i].text.size ∧ (∀ k, k < l[i].text.size → digI (byteI l[i].text k) = true) ∧ intB l[i].text = true := by
  rw [isInt, tkk_lt hi] at h
  have hK := kindLists
  cases T.ok i hi with
  | low _ _ _ _ hk => rw [hk] at h; split at h; exact (list_kind h hK.1 (by decide)).elim; exact (list_kind h hK.2.1 (by decide)).elim
  | dig a b c _ => exact ⟨a, b, c⟩
  | op _ hk => rw [hk] at h; exact (list_kind h hK.2.2.2 (by decide)).elim
  | fin _ hk => rw [hk] at h; exact (list_kind h kEnd_list (by decide)).elim
end
/-- What digits come to, told twice. -/
theorem decOf_val (x : List UInt8) (h : ∀ c ∈ x, 48 ≤ c.toNat) : decOf x = (valL x : Int) := by
  have : ∀ (x : List UInt8) (a : Nat), (∀ c ∈ x, 48 ≤ c.toNat) → x.foldl (fun n c => 10 * n + ((c.toNat : Int) - 48)) (a : Int) = ((x.foldl (fun n c => 10 * n + (c.toNat - 48)) a : Nat) : Int) := by
    intro x
    induction x with
    | nil => intro a _; rfl
    | cons c r ih =>
      intro a h
      have hc := h c List.mem_cons_self
      simp only [List.foldl_cons]
      rw [← ih _ (fun y hy => h y (List.mem_cons_of_mem _ hy))]
      congr 1; omega
  exact this x 0 h
end Go.Proofs.YtglkpgcmlbhkpabGreatDoor
