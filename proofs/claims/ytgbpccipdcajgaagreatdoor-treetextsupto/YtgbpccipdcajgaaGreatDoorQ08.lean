/-
  lustrumref1.tokenOf BY ITS CONTRACT: operators, and all three cases together.
-/
import Derived.Test.YtgbpccipdcajgaaGreatDoorQ05
import Derived.Test.YtgbpccipdcajgaaGreatDoorQ06
import Derived.Test.YtgbpccipdcajgaaGreatDoorQ07
import Derived.WalkLawsBesides
namespace Go.Proofs.YtgbpccipdcajgaaGreatDoor
open Go.RowKit
theorem three_blk (w : World) (o1 o2 o3 : Obj) : (((w.alloc o1).alloc o2).alloc o3).heap[w.heap.size + 1 + 1]? = some o3 := by
 show (((w.heap.push _).push _).push _)[w.heap.size + 1 + 1]? = _
 rw [Array.getElem?_push, if_pos (by simp)]
theorem opK_some {r : ByteArray} {n : Nat} (h0 : 0 < n) (hn : n ≤ r.size) : opK (r.extract 0 n) = kOp := by
 have h : (r.extract 0 n).toList ≠ [] := by rw [Ne, nil_iff, ByteArray.size_extract]; omega
 rw [opK, if_neg (by simpa using h)]
theorem opK_zero {r : ByteArray} : opK (r.extract 0 0) = kNone := by
 have h : (r.extract 0 0).toList = [] := by rw [nil_iff, ByteArray.size_extract]; omega
 rw [opK, if_pos (by rw [h]; rfl)]
set_option maxRecDepth 100000 in
set_option maxHeartbeats 2000000 in
theorem tokenOf_op (r : ByteArray) (w : World) (hr : 0 < r.size) (hs : r.size ≤ 9000000) (hlow : lowI (byteI r 0) = false) (hdig : digI (byteI r 0) = false) :
  Calls Tryz.prog 60 #[.string r] w fun e w' => ∃ (kind text : ByteArray) (n : Nat), TokAt r 0 kind text n ∧ e = .returned (tokVal kind text) ∧ Below w.heap.size w w' := by
 have hlow' := hlow
 rw [byteI_lt hr] at hlow'
 have hdig' := hdig
 rw [byteI_lt hr] at hdig'
 go_enter Tryz.func60, Tryz.ntmps60
 by_cases h2 : 1 < r.size
 ·have e2 : twoB r = amongB twoL (r.extract 0 2) := by simp [twoB, amongB, h2]
  by_cases ha : amongB twoL (r.extract 0 2) = true
  ·have htw : twoB r = true := by rw [e2]; exact ha
   clear e2
   go_wp2_with (first | (go_at_call 93; refine (isLow_any _ _).mono ?_; rintro e w' ⟨rfl, rfl⟩) | (go_at_call 94; refine (refDigit_any _ _).mono ?_; rintro e w' ⟨rfl, rfl⟩) | fail)
   refine (has_blk _ _ 5 twoL (r.extract 0 2) _ rfl ?_ (by decide)).mono ?_
   ·exact two_blk _ _ _
   rintro e w' ⟨rfl, rfl⟩
   go_wp2
   exact bodyPost_ret (v := .agg #[.string kOp, .string (r.extract 0 2), .int .i64 0]) (by simp [results, Tryz.results60, go_sem, kOp]) rfl ⟨kOp, r.extract 0 2, 2, op_tok hr hlow hdig (opN_two htw).symm (opK_some (by omega) (by omega)), by rw [tokVal_some kOp_some], ((Below.refl _ _).alloc (Nat.le_refl _) _).alloc (by simp) _⟩
  ·have ha' : amongB twoL (r.extract 0 2) = false := by simpa using ha
   have htw : twoB r = false := by rw [e2]; exact ha'
   clear e2 ha
   by_cases ho : oneB r = true
   ·have ha1 : amongB oneLL (r.extract 0 1) = true := by rw [one_among hr]; exact ho
    go_wp2_with (first | (go_at_call 93; refine (isLow_any _ _).mono ?_; rintro e w' ⟨rfl, rfl⟩) | (go_at_call 94; refine (refDigit_any _ _).mono ?_; rintro e w' ⟨rfl, rfl⟩) | fail)
    refine (has_blk _ _ 5 twoL (r.extract 0 2) _ rfl ?_ (by decide)).mono ?_
    ·exact two_blk _ _ _
    rintro e w' ⟨rfl, rfl⟩
    go_wp2_with fail
    refine (has_blk _ _ 12 oneLL (r.extract 0 1) _ rfl (three_blk _ _ _ _) (by decide)).mono ?_
    rintro e w' ⟨rfl, rfl⟩
    go_wp2
    exact bodyPost_ret (v := .agg #[.string kOp, .string (r.extract 0 1), .int .i64 0]) (by simp [results, Tryz.results60, go_sem, kOp]) rfl ⟨kOp, r.extract 0 1, 1, op_tok hr hlow hdig (opN_one htw ho).symm (opK_some (by omega) (by omega)), by rw [tokVal_some kOp_some], (((Below.refl _ _).alloc (Nat.le_refl _) _).alloc (by simp) _).alloc (by simp; omega) _⟩
   ·have ho' : oneB r = false := by simpa using ho
    have ha1 : amongB oneLL (r.extract 0 1) = false := by rw [one_among hr]; exact ho'
    go_wp2_with (first | (go_at_call 93; refine (isLow_any _ _).mono ?_; rintro e w' ⟨rfl, rfl⟩) | (go_at_call 94; refine (refDigit_any _ _).mono ?_; rintro e w' ⟨rfl, rfl⟩) | fail)
    refine (has_blk _ _ 5 twoL (r.extract 0 2) _ rfl ?_ (by decide)).mono ?_
    ·exact two_blk _ _ _
    rintro e w' ⟨rfl, rfl⟩
    go_wp2_with fail
    refine (has_blk _ _ 12 oneLL (r.extract 0 1) _ rfl (three_blk _ _ _ _) (by decide)).mono ?_
    rintro e w' ⟨rfl, rfl⟩
    go_wp2
    exact bodyPost_ret (v := .agg #[.string ⟨#[]⟩, .string ⟨#[]⟩, .int .i64 0]) (by simp [results, Tryz.results60, go_sem]) rfl ⟨kNone, r.extract 0 0, 0, op_tok hr hlow hdig (opN_none htw ho').symm opK_zero, by rw [tokVal_none], (((Below.refl _ _).alloc (Nat.le_refl _) _).alloc (by simp) _).alloc (by simp; omega) _⟩
 ·have htw : twoB r = false := by simp [twoB, h2]
  by_cases ho : oneB r = true
  ·have ha1 : amongB oneLL (r.extract 0 1) = true := by rw [one_among hr]; exact ho
   go_wp2_with (first | (go_at_call 93; refine (isLow_any _ _).mono ?_; rintro e w' ⟨rfl, rfl⟩) | (go_at_call 94; refine (refDigit_any _ _).mono ?_; rintro e w' ⟨rfl, rfl⟩) | fail)
   refine (has_blk _ _ 12 oneLL (r.extract 0 1) _ rfl (three_blk _ _ _ _) (by decide)).mono ?_
   rintro e w' ⟨rfl, rfl⟩
   go_wp2
   exact bodyPost_ret (v := .agg #[.string kOp, .string (r.extract 0 1), .int .i64 0]) (by simp [results, Tryz.results60, go_sem, kOp]) rfl ⟨kOp, r.extract 0 1, 1, op_tok hr hlow hdig (opN_one htw ho).symm (opK_some (by omega) (by omega)), by rw [tokVal_some kOp_some], (((Below.refl _ _).alloc (Nat.le_refl _) _).alloc (by simp) _).alloc (by simp; omega) _⟩
  ·have ho' : oneB r = false := by simpa using ho
   have ha1 : amongB oneLL (r.extract 0 1) = false := by rw [one_among hr]; exact ho'
   go_wp2_with (first | (go_at_call 93; refine (isLow_any _ _).mono ?_; rintro e w' ⟨rfl, rfl⟩) | (go_at_call 94; refine (refDigit_any _ _).mono ?_; rintro e w' ⟨rfl, rfl⟩) | fail)
   refine (has_blk _ _ 12 oneLL (r.extract 0 1) _ rfl (three_blk _ _ _ _) (by decide)).mono ?_
   rintro e w' ⟨rfl, rfl⟩
   go_wp2
   exact bodyPost_ret (v := .agg #[.string ⟨#[]⟩, .string ⟨#[]⟩, .int .i64 0]) (by simp [results, Tryz.results60, go_sem]) rfl ⟨kNone, r.extract 0 0, 0, op_tok hr hlow hdig (opN_none htw ho').symm opK_zero, by rw [tokVal_none], (((Below.refl _ _).alloc (Nat.le_refl _) _).alloc (by simp) _).alloc (by simp; omega) _⟩

theorem tokenOf_any (r : ByteArray) (w : World) (hr : 0 < r.size) (hs : r.size ≤ 9000000) :
  Calls Tryz.prog 60 #[.string r] w fun e w' => ∃ (kind text : ByteArray) (n : Nat), TokAt r 0 kind text n ∧ e = .returned (tokVal kind text) ∧ Below w.heap.size w w' := by
 by_cases h1 : lowI (byteI r 0) = true
 ·exact tokenOf_low r w hr hs h1
 ·have h1' : lowI (byteI r 0) = false := by simpa using h1
  by_cases h2 : digI (byteI r 0) = true
  ·exact tokenOf_dig r w hr hs h1' h2
  ·exact tokenOf_op r w hr hs h1' (by simpa using h2)
theorem TokAt.size {s : ByteArray} {j n : Nat} {kind text : ByteArray} (T : TokAt s j kind text n) (hj : j ≤ s.size) : text.size = n := by
 have hle := T.le hj
 cases T with
 | fin h => rfl
 | low n _ _ _ => exact extract_size s j n hle
 | dig n _ _ _ _ => exact extract_size s j n hle
 | op n _ _ _ _ => exact extract_size s j n hle
theorem not_end {k : ByteArray} (h : k = kNone ∨ k = kWord ∨ k = kName ∨ k = kInt ∨ k = kOp) : (k.toList == [101, 110, 100]) = false := by
 rcases h with rfl | rfl | rfl | rfl | rfl <;> (rw [ByteArray.toList_eq]; rfl)
theorem blk2 {w : World} {b : Nat} {x y : Value} {t : TypeId} (h : w.heap[b]? = some (.cells #[x, y] t (0, 0))) : w.cell? ⟨b, 0, none⟩ = some x ∧ w.cell? ⟨b, 1, none⟩ = some y ∧ ∀ k, w.frozen? ⟨b, k, none⟩ = false :=
 ⟨by simp [World.cell?, h], by simp [World.cell?, h], fun k => by simp [World.frozen?, h]⟩
theorem heap_grown {w w' : World} {row : Option Nat} (hg : w.grownBy w' row) {b : Nat} {o : Obj} (hr : row ≠ some b) (hc : w.heap[b]? = some o) : w'.heap[b]? = some o := by
 have hl : b < w.heap.size := by
  rcases Nat.lt_or_ge b w.heap.size with h | h
  ·exact h
  ·rw [Array.getElem?_eq_none h] at hc; cases hc
 rw [hg.block b hl (Ne.symm hr)]; exact hc

structure At (s : ByteArray) (w : World) (l : List Tk) (i p : Nat) (v : Value) (wr : World) : Prop where
 reads : Reads s l i
 skips : Skips s i p
 le : p ≤ s.size
 own : wr.ownsRow (w.heap.size + 1) 25 3 v l.length (tkCells l)
 below : Below w.heap.size w wr
 size : w.heap.size < wr.heap.size
 blk : wr.heap[w.heap.size]? = some (.cells #[.int .i64 0, .int .i64 0] 44 (0, 0))
theorem own_cells {w : World} {base : Nat} {e : TypeId} {v : Value} {l : List Tk} (h : w.ownsRow base e 3 v l.length (tkCells l)) (hn : 0 < l.length) :
  ∃ g cap, v = .slice (some ⟨g, 0, none⟩) l.length cap ∧ ∀ i (hi : i < l.length), w.cell? ⟨g, i * 3, none⟩ = some (.string l[i].kind) ∧ w.cell? ⟨g, i * 3 + 1, none⟩ = some (.string l[i].text) ∧ w.cell? ⟨g, i * 3 + 2, none⟩ = some (.int .i64 l[i].pos) := by
 obtain ⟨h1, h2⟩ := h
 rcases h2 with ⟨_, h0⟩ | ⟨g, cap, cur, hv, hg, hh, hc1, hc2, hc3, hc4⟩
 ·omega
 ·refine ⟨g, cap, hv, fun i hi => ?_⟩
  have f : ∀ k x, (tkCells l)[k]? = some x → w.cell? ⟨g, k, none⟩ = some x := by
   intro k x hx
   rw [cell_of_row w g k cur e (0, 0) hh]
   rw [← hc4, List.getElem?_take] at hx
   split at hx
   ·simpa using hx
   ·cases hx
  obtain ⟨a, b, c⟩ := tkCells_at l i hi
  exact ⟨f _ _ a, f _ _ b, f _ _ c⟩
theorem Lexes.len {s : ByteArray} {i : Nat} {l : List Tk} {r : Option Nat} (h : Lexes s i l r) {N : Nat} (hN : s.size ≤ N) : l.length ≤ N + 1 := by
 have : ∀ {i : Nat} {l : List Tk} {r : Option Nat}, Lexes s i l r → i ≤ s.size → l.length + i ≤ s.size + 1 := by
  intro i l r h
  induction h with
  | fin i j n kind text => intro hi; simp only [List.length_cons, List.length_nil]; omega
  | bad i j n kind text => intro hi; simp only [List.length_nil]; omega
  | tok i j n kind text l r S c T h0 h1 _ ih =>
   intro hi
   have h2 := T.pos h0 h1
   have h3 := T.le S.le
   have h4 := S.skips.le
   have := ih h3
   simp only [List.length_cons]; omega
 rcases Nat.lt_or_ge s.size i with h1 | h1
 ·have hij : ∀ {j}, Stands s i j → False := fun S => by have := S.skips.le; have := S.le; omega
  cases h with
  | fin _ _ _ _ _ S => exact (hij S).elim
  | bad _ _ _ _ _ S => exact (hij S).elim
  | tok _ _ _ _ _ _ _ S => exact (hij S).elim
 ·have := this h h1; omega
def opLL : List (List UInt8) := twoL ++ oneLL
inductive TkOk : Tk → Prop
 | low (t : Tk) : 0 < t.text.size → t.text.size ≤ 12 → lowI (byteI t.text 0) = true → (∀ k, k < t.text.size → nameI (byteI t.text k) = true) → t.kind = (if wordB t.text then kWord else kName) → TkOk t
 | dig (t : Tk) : 0 < t.text.size → (∀ k, k < t.text.size → digI (byteI t.text k) = true) → intB t.text = true → t.kind = kInt → TkOk t
 | op (t : Tk) : opLL.any (fun x => t.text.toList == x) = true → t.kind = kOp → TkOk t
 | fin (t : Tk) : t.text = b0 → t.kind = kEnd → TkOk t
structure Tkl (l : List Tk) : Prop where
 ne : 0 < l.length
 len : l.length ≤ 6001
 ok : ∀ i (h : i < l.length), TkOk l[i]
 fin : ∀ i (h : i < l.length), l[i].kind = kEnd ↔ i + 1 = l.length
 tsz : ∀ i (h : i < l.length), l[i].text.size ≤ 6000
 psz : ∀ i (h : i < l.length), l[i].pos ≤ 6000

theorem toList_data (t : ByteArray) : t.toList = t.data.toList := ByteArray.toList_eq t
theorem ne_kinds : kWord ≠ kEnd ∧ kName ≠ kEnd ∧ kInt ≠ kEnd ∧ kOp ≠ kEnd := by
 refine ⟨?_, ?_, ?_, ?_⟩ <;> (intro h; injection h with h; revert h; decide)
theorem TkOk.of {s : ByteArray} {j n : Nat} {kind text : ByteArray} (T : TokAt s j kind text n) (h0 : kind.toList.isEmpty = false) : TkOk ⟨kind, text, j⟩ := by
 cases T with
 | fin h => exact .fin _ rfl rfl
 | low n h1 h2 r =>
  have hp := IsRun.le r
  have hn : 0 < n := by
   rcases Nat.eq_zero_or_pos n with h | h
   ·subst h
    have := r.stop (by omega)
    rw [Nat.add_zero, low_name h2] at this; cases this
   ·exact h
  have hsz : (s.extract j (j + n)).size = n := extract_size s j n hp
  have hk : nameK (s.extract j (j + n)) ≠ kNone := fun e => by rw [e, kNone_list] at h0; cases h0
  have hk' := hk
  unfold nameK at hk'
  split at hk'
  ·exact absurd rfl hk'
  ·rename_i h12
   refine .low _ (by rw [hsz]; exact hn) (by show (s.extract j (j + n)).size ≤ 12; omega) ?_ ?_ ?_
   ·show lowI (byteI (s.extract j (j + n)) 0) = true
    rw [extract_byte s j n 0 hp hn, Nat.add_zero]; exact h2
   ·intro k hk
    have hk2 : k < n := by have : k < (s.extract j (j + n)).size := hk; omega
    show nameI (byteI (s.extract j (j + n)) k) = true
    rw [extract_byte s j n k hp hk2]; exact r.all k hk2
   ·show nameK (s.extract j (j + n)) = _
    rw [nameK, if_neg h12]
 | dig n h1 h2 h3 r =>
  have hp := IsRun.le r
  have hn : 0 < n := by
   rcases Nat.eq_zero_or_pos n with h | h
   ·subst h
    have := r.stop (by omega)
    rw [Nat.add_zero, h3] at this; cases this
   ·exact h
  have hsz : (s.extract j (j + n)).size = n := extract_size s j n hp
  have hb : intB (s.extract j (j + n)) = true := by
   by_cases h : intB (s.extract j (j + n)) = true
   ·exact h
   ·rw [intK, if_neg h, kNone_list] at h0; cases h0
  refine .dig _ (by rw [hsz]; exact hn) ?_ hb (by show intK _ = _; rw [intK, if_pos hb])
  intro k hk
  have hk2 : k < n := by have : k < (s.extract j (j + n)).size := hk; omega
  show digI (byteI (s.extract j (j + n)) k) = true
  rw [extract_byte s j n k hp hk2]; exact r.all k hk2
 | op n h1 h2 h3 e =>
  have hle := opN_le (s.extract j s.size)
  rw [ByteArray.size_extract] at hle
  have hne : (s.extract j (j + n)).toList ≠ [] := by
   intro h
   have ek : opK (s.extract j (j + n)) = kNone := by simp [opK, h]
   rw [ek, kNone_list] at h0; cases h0
  have hx : (s.extract j s.size).extract 0 n = s.extract j (j + n) := by
   rw [ByteArray.extract_extract]; congr 1; omega
  refine .op _ ?_ (by show opK _ = _; rw [opK, if_neg (by simpa using hne)])
  show opLL.any (fun x => (s.extract j (j + n)).toList == x) = true
  by_cases h2 : twoB (s.extract j s.size) = true
  ·have en : n = 2 := by rw [e, opN_two h2]
   subst en
   simp only [twoB, Bool.and_eq_true] at h2
   rw [hx] at h2
   simp only [opLL, List.any_append, h2.2, Bool.true_or]
  ·have h2' : twoB (s.extract j s.size) = false := by simpa using h2
   by_cases h4 : oneB (s.extract j s.size) = true
   ·have en : n = 1 := by rw [e, opN_one h2' h4]
    subst en
    have hr : 0 < (s.extract j s.size).size := by rw [ByteArray.size_extract]; omega
    have := one_among hr
    rw [h4, hx] at this
    simp only [amongB] at this
    simp only [opLL, List.any_append, this, Bool.or_true]
   ·have en : n = 0 := by rw [e, opN_none h2' (by simpa using h4)]
    subst en
    exfalso; apply hne
    rw [nil_iff, ByteArray.size_extract]; omega
theorem TokAt.tsize {s : ByteArray} {j n : Nat} {kind text : ByteArray} (T : TokAt s j kind text n) : text.size ≤ s.size := by
 cases T with
 | fin => exact Nat.zero_le _
 | low n => rw [ByteArray.size_extract]; omega
 | dig n => rw [ByteArray.size_extract]; omega
 | op n => rw [ByteArray.size_extract]; omega
theorem toks_of {s : ByteArray} {i : Nat} {l : List Tk} {r : Option Nat} (h : Lexes s i l r) (hr : r = none) (hs : s.size ≤ 6000) :
  0 < l.length ∧ (∀ i (h : i < l.length), TkOk l[i]) ∧ (∀ i (h : i < l.length), l[i].kind = kEnd ↔ i + 1 = l.length) ∧ (∀ i (h : i < l.length), l[i].text.size ≤ 6000) ∧ (∀ i (h : i < l.length), l[i].pos ≤ 6000) := by
 induction h with
 | bad => cases hr
 | fin i j n kind text S c T h0 h1 =>
  have hk := TkOk.of T h0
  have he : kind = kEnd := by
   have e : kind.toList = kEnd.toList := by rw [kEnd_list]; simpa using h1
   rw [toList_data, toList_data] at e
   apply ByteArray.ext; apply Array.ext'; exact e
  refine ⟨by simp, ?_, ?_, ?_, ?_⟩
  ·intro i hi
   have : i = 0 := by simp at hi; omega
   subst this; exact hk
  ·intro i hi
   have : i = 0 := by simp at hi; omega
   subst this
   exact ⟨fun _ => rfl, fun _ => he⟩
  ·intro i hi
   have : i = 0 := by simp at hi; omega
   subst this
   exact Nat.le_trans T.tsize hs
  ·intro i hi
   have : i = 0 := by simp at hi; omega
   subst this
   have := S.le
   show j ≤ 6000; omega
 | tok i j n kind text l r S c T h0 h1 _ ih =>
  obtain ⟨a1, a2, a3, a4, a5⟩ := ih hr
  have hk := TkOk.of T h0
  have hne : kind ≠ kEnd := fun e => by rw [e, kEnd_list] at h1; cases h1
  refine ⟨by simp, ?_, ?_, ?_, ?_⟩
  ·intro i hi
   cases i with
   | zero => exact hk
   | succ i => exact a2 i (by simpa using hi)
  ·intro i hi
   cases i with
   | zero => exact ⟨fun e => absurd e hne, fun e => by simp only [List.length_cons] at e; omega⟩
   | succ i =>
    have := a3 i (by simpa using hi)
    simp only [List.getElem_cons_succ, List.length_cons]
    rw [this]; omega
  ·intro i hi
   cases i with
   | zero => exact Nat.le_trans T.tsize hs
   | succ i => exact a4 i (by simpa using hi)
  ·intro i hi
   cases i with
   | zero => have := S.le; show j ≤ 6000; omega
   | succ i => exact a5 i (by simpa using hi)
theorem Lexes.toks {s : ByteArray} {l : List Tk} (h : Lexes s 0 l none) (hs : s.size ≤ 6000) : Tkl l := by
 obtain ⟨a1, a2, a3, a4, a5⟩ := toks_of h rfl hs
 exact ⟨a1, h.len hs, a2, a3, a4, a5⟩

section
variable {l : List Tk}
theorem tkx_lt {i : Nat} (h : i < l.length) : tkx l i = l[i].text := dif_pos h
theorem tkk_lt {i : Nat} (h : i < l.length) : tkk l i = l[i].kind := dif_pos h
theorem Tkl.next (T : Tkl l) {i : Nat} (hi : i < l.length) (h : l[i].kind ≠ kEnd) : i + 1 < l.length := by
 have := T.fin i hi
 rcases Nat.lt_or_ge (i + 1) l.length with g | g
 ·exact g
 ·exact absurd (this.2 (by omega)) h
theorem Tkl.end_text (T : Tkl l) {i : Nat} (hi : i < l.length) (h : l[i].kind = kEnd) : l[i].text.toList = [] := by
 have hne := ne_kinds
 cases T.ok i hi with
 | low _ _ _ _ hk => rw [h] at hk; split at hk; exact absurd hk.symm hne.1; exact absurd hk.symm hne.2.1
 | dig _ _ _ hk => rw [h] at hk; exact absurd hk.symm hne.2.2.1
 | op _ hk => rw [h] at hk; exact absurd hk.symm hne.2.2.2
 | fin h1 _ => rw [h1]; exact kNone_list
theorem Tkl.next_tx (T : Tkl l) {i : Nat} (hi : i < l.length) {c : UInt8} {r : List UInt8} (h : tx l i (c :: r) = true) : i + 1 < l.length := by
 refine T.next hi fun e => ?_
 have := T.end_text hi e
 rw [tx, tkx_lt hi, this] at h; cases h
theorem list_kind {t : ByteArray} {a b : List UInt8} (h : (t.toList == a) = true) (g : t.toList = b) (hne : a ≠ b) : False := by
 have : t.toList = a := by simpa using h
 exact hne (this.symm.trans g)
theorem Tkl.next_name (T : Tkl l) {i : Nat} (hi : i < l.length) (h : isName l i = true) : i + 1 < l.length := by
 refine T.next hi fun e => ?_
 rw [isName, tkk_lt hi, e] at h
 exact list_kind h kEnd_list (by decide)
theorem Tkl.next_int (T : Tkl l) {i : Nat} (hi : i < l.length) (h : isInt l i = true) : i + 1 < l.length := by
 refine T.next hi fun e => ?_
 rw [isInt, tkk_lt hi, e] at h
 exact list_kind h kEnd_list (by decide)
theorem Tkl.next_txs (T : Tkl l) {i : Nat} (hi : i < l.length) {xs : List (List UInt8)} (hx : [] ∉ xs) (h : txs l i xs = true) : i + 1 < l.length := by
 simp only [txs, List.any_eq_true] at h
 obtain ⟨x, hm, h⟩ := h
 cases x with
 | nil => exact absurd hm hx
 | cons c r => exact T.next_tx hi h
theorem kindLists : kWord.toList = [119, 111, 114, 100] ∧ kName.toList = [110, 97, 109, 101] ∧ kInt.toList = [105, 110, 116] ∧ kOp.toList = [111, 112] := by
 refine ⟨?_, ?_, ?_, ?_⟩ <;> (rw [ByteArray.toList_eq]; rfl)
theorem Tkl.int (T : Tkl l) {i : Nat} (hi : i < l.length) (h : isInt l i = true) : 0 < l[i].text.size ∧ (∀ k, k < l[i].text.size → digI (byteI l[i].text k) = true) ∧ intB l[i].text = true := by
 rw [isInt, tkk_lt hi] at h
 have hK := kindLists
 cases T.ok i hi with
 | low _ _ _ _ hk => rw [hk] at h; split at h; exact (list_kind h hK.1 (by decide)).elim; exact (list_kind h hK.2.1 (by decide)).elim
 | dig a b c _ => exact ⟨a, b, c⟩
 | op _ hk => rw [hk] at h; exact (list_kind h hK.2.2.2 (by decide)).elim
 | fin _ hk => rw [hk] at h; exact (list_kind h kEnd_list (by decide)).elim
end
theorem decOf_val (x : List UInt8) (h : ∀ c ∈ x, 48 ≤ c.toNat) : decOf x = (valL x : Int) := by
 have : ∀ (x : List UInt8) (a : Nat), (∀ c ∈ x, 48 ≤ c.toNat) → x.foldl (fun n c => 10 * n + ((c.toNat : Int) - 48)) (a : Int) = ((x.foldl (fun n c => 10 * n + (c.toNat - 48)) a : Nat) : Int) := by
  intro x
  induction x with
  | nil => intro a _; rfl
  | cons c r ih =>
   intro a h
   have hc := h c List.mem_cons_self
   simp only [List.foldl_cons]
   rw [← ih _ (fun y hy => h y (List.mem_cons_of_mem _ hy))]
   congr 1; omega
 exact this x 0 h
end Go.Proofs.YtgbpccipdcajgaaGreatDoor
namespace Go.Proofs.YtgbpccipdcajgaaGreatDoor
open Go.RowKit
attribute [local go_sem ↓] Go.wp_at_zero Go.wp_at_succ
theorem fldK (a b c : Value) (w : World) : (Instr.field 37 (.agg #[a, b, c]) 0).run Tryz.prog w = .ok a w := by kernel_rfl
theorem fldX (a b c : Value) (w : World) : (Instr.field 37 (.agg #[a, b, c]) 1).run Tryz.prog w = .ok b w := by kernel_rfl
theorem fldP (a b c : Value) (w : World) : (Instr.field 37 (.agg #[a, b, c]) 2).run Tryz.prog w = .ok c w := by kernel_rfl
def tkp (l : List Tk) (i : Nat) : Nat := if h : i < l.length then l[i].pos else 0
structure Rc where
 pT : Addr
 pB : Addr
 b : Nat
 g : Nat
 cap : Nat
 l : List Tk
structure Rd (C : Rc) (i d : Nat) (w : World) : Prop where
 c0 : w.cell? ⟨C.b, 0, none⟩ = some (.slice (some ⟨C.g, 0, none⟩) C.l.length C.cap)
 c1 : w.cell? ⟨C.b, 1, none⟩ = some (.int .i64 i)
 c2 : w.cell? ⟨C.b, 2, none⟩ = some (.int .i64 d)
 fz : ∀ k, w.frozen? ⟨C.b, k, none⟩ = false
 row : ∀ k, k < C.l.length → w.cell? ⟨C.g, k * 3, none⟩ = some (.string (tkk C.l k)) ∧ w.cell? ⟨C.g, k * 3 + 1, none⟩ = some (.string (tkx C.l k)) ∧ w.cell? ⟨C.g, k * 3 + 2, none⟩ = some (.int .i64 (tkp C.l k))
 ne : C.g ≠ C.b
 lt : i < C.l.length
 len : C.l.length ≤ 6001
 dp : d ≤ 20
 hT : w.cell? ⟨2, 0, none⟩ = some (.iface 235 (.pointer (some C.pT)))
 hB : w.cell? ⟨1, 0, none⟩ = some (.iface 235 (.pointer (some C.pB)))
 nT : 2 ≠ C.b
 nB : 1 ≠ C.b
theorem Rd.blt {C : Rc} {i d : Nat} {w : World} (R : Rd C i d w) : C.b < w.heap.size := lt_of_cell R.c0
theorem Rd.go {C : Rc} {i d j e : Nat} {w w' : World} (R : Rd C i d w) (h : Mv C.b w w') (h1 : w'.cell? ⟨C.b, 1, none⟩ = some (.int .i64 j)) (h2 : w'.cell? ⟨C.b, 2, none⟩ = some (.int .i64 e)) (h0 : w'.cell? ⟨C.b, 0, none⟩ = some (.slice (some ⟨C.g, 0, none⟩) C.l.length C.cap)) (hf : ∀ k, w'.frozen? ⟨C.b, k, none⟩ = false) (hj : j < C.l.length) (he : e ≤ 20) : Rd C j e w' :=
 ⟨h0, h1, h2, hf, fun k hk => ⟨h.cell R.ne (R.row k hk).1, h.cell R.ne (R.row k hk).2.1, h.cell R.ne (R.row k hk).2.2⟩, R.ne, hj, R.len, he, h.cell R.nT R.hT, h.cell R.nB R.hB, R.nT, R.nB⟩
theorem Rd.below {C : Rc} {i d : Nat} {w w' : World} (R : Rd C i d w) (hb : Below w.heap.size w w') : Rd C i d w' :=
 R.go (Mv.of_below hb) (cell_keep hb R.c1) (cell_keep hb R.c2) (cell_keep hb R.c0) (fun k => by rw [hb.frozen (p := ⟨C.b, k, none⟩) R.blt]; exact R.fz k) R.lt R.dp
theorem addr_ne {b o p : Nat} (h : o ≠ p) : (⟨b, o, none⟩ : Addr) ≠ ⟨b, p, none⟩ := fun e => h (by injection e)
theorem Mv.setAt (b o : Nat) (w : World) (v : Value) : Mv b w (w.setCell ⟨b, o, none⟩ v) :=
 ⟨rfl, rfl, rfl, by simp [World.setCell], fun k _ hn => Below.heap_setCell _ _ _ _ (fun e => hn (by rw [e]))⟩
theorem Rd.set1 {C : Rc} {i d : Nat} {w : World} (R : Rd C i d w) {j : Nat} {x : Int} (hx : x = (j : Int)) (hj : j < C.l.length) : Rd C j d (w.setCell ⟨C.b, 1, none⟩ (.int .i64 x)) := by
 subst hx
 exact R.go (Mv.setAt _ _ _ _) (World.cell?_setCell_same _ _ _ R.c1) (by rw [World.cell?_setCell_other _ _ _ _ (addr_ne (by decide))]; exact R.c2) (by rw [World.cell?_setCell_other _ _ _ _ (addr_ne (by decide))]; exact R.c0) (fun k => by rw [World.frozen?_setCell]; exact R.fz k) hj R.dp
theorem Rd.set2 {C : Rc} {i d : Nat} {w : World} (R : Rd C i d w) {e : Nat} {x : Int} (hx : x = (e : Int)) (he : e ≤ 20) : Rd C i e (w.setCell ⟨C.b, 2, none⟩ (.int .i64 x)) := by
 subst hx
 exact R.go (Mv.setAt _ _ _ _) (by rw [World.cell?_setCell_other _ _ _ _ (addr_ne (by decide))]; exact R.c1) (World.cell?_setCell_same _ _ _ R.c2) (by rw [World.cell?_setCell_other _ _ _ _ (addr_ne (by decide))]; exact R.c0) (fun k => by rw [World.frozen?_setCell]; exact R.fz k) R.lt he

set_option maxRecDepth 100000 in
set_option maxHeartbeats 400000 in
theorem tnext_any (C : Rc) (i d : Nat) (w : World) (R : Rd C i d w) :
  Calls Tryz.prog 79 #[.pointer (some ⟨C.b, 0, none⟩)] w fun e w' => e = .returned (.agg #[.string (tkk C.l i), .string (tkx C.l i), .int .i64 (tkp C.l i)]) ∧ Below w.heap.size w w' := by
 have c0 := R.c0
 have c1 := R.c1
 obtain ⟨r0, r1, r2⟩ := R.row i R.lt
 have hlt := R.lt
 have hlen := R.len
 have i0 : (0 : Int) ≤ (i : Int) := by omega
 have i1 : (i : Int) < (C.l.length : Int) := by omega
 have hb := lt_of_cell c0
 have hg := lt_of_cell r0
 simp only at hb hg
 go_enter Tryz.func79, Tryz.ntmps79
 go_wp2
 go_region
 go_wp2
 exact bodyPost_ret (v := .agg #[.string (tkk C.l i), .string (tkx C.l i), .int .i64 (tkp C.l i)]) (by simp [results, Tryz.results79, go_sem]) rfl ⟨rfl, ((Below.refl _ _).alloc (Nat.le_refl _) _).drew⟩

set_option maxHeartbeats 400000 in
theorem sindex_any (b c : Nat) (ss : List (List UInt8)) (t : ByteArray) (w : World) (hc : ∀ k (h : k < ss.length), w.cell? ⟨b, k, none⟩ = some (.string ⟨ss[k].toArray⟩)) (hn : ss.length ≤ 1000) :
  Calls Tryz.prog 133 #[.slice (some ⟨b, 0, none⟩) ss.length c, .string t] w fun e w' => (∃ r : Int, e = .returned (.int .i64 r) ∧ decide (0 ≤ r) = amongB ss t) ∧ w' = w := by
 go_enter Tryz.func133, Tryz.ntmps133
 go_wp2
 go_loop [8] (fun t' => ∃ k : Nat, k ≤ ss.length ∧ t' = .int .i64 k ∧ Hid (∀ j (h : j < ss.length), j < k → (t.toList == ss[j]) = false)) (fun t' => ss.length - (intOf t').toNat)
 case atStart => exact ⟨0, Nat.zero_le _, rfl, fun j _ h => by omega⟩
 case round =>
  obtain ⟨k, hk, rfl, hall⟩ := hrel
  by_cases hlt : k < ss.length
  ·have hck := hc k hlt
   have hi1 : (k : Int) < (ss.length : Int) := by omega
   by_cases hb : (t.toList == ss[k]) = true
   ·go_wp2
    go_ret
    refine ⟨⟨k, rfl, ?_⟩, rfl⟩
    have h1 : amongB ss t = true := List.any_eq_true.2 ⟨ss[k], List.getElem_mem hlt, hb⟩
    rw [h1]; exact decide_eq_true (by omega)
   ·have hb0 : (t.toList == ss[k]) = false := by
     cases h : (t.toList == ss[k]) with
     | true => exact absurd h hb
     | false => rfl
    clear hb
    go_wp2
    refine ⟨⟨k + 1, by omega, by go_num, ?_⟩, by simp [intOf]; omega⟩
    intro j hj hjk
    by_cases e : j = k
    ·subst e; exact hb0
    ·exact hall.out j hj (by omega)
  ·obtain rfl : k = ss.length := by omega
   go_wp2
   go_ret
   refine ⟨⟨-1, rfl, ?_⟩, rfl⟩
   have h1 : amongB ss t = false := by
    rw [amongB, List.any_eq_false]
    intro x hx
    obtain ⟨j, hj, rfl⟩ := List.mem_iff_getElem.1 hx
    rw [hall.out j hj hj]
    exact Bool.false_ne_true
   rw [h1]; rfl
theorem scontains_any (b c m : Nat) (ss : List (List UInt8)) (t : ByteArray) (w : World) (hm : ss.length = m) (hc : w.heap[b]? = some (.cells (strCells ss) 9 (0, 0))) (hn : m ≤ 1000) :
  Calls Tryz.prog 109 #[.slice (some ⟨b, 0, none⟩) m c, .string t] w fun e w' => e = .returned (.bool (amongB ss t)) ∧ w' = w := by
 subst hm
 have hc' : ∀ k (h : k < ss.length), w.cell? ⟨b, k, none⟩ = some (.string ⟨ss[k].toArray⟩) := fun k h => by
  rw [cell_of_row w b k _ _ (0, 0) hc]; exact strCells_at ss k h
 clear hc
 go_enter Tryz.func109, Tryz.ntmps109
 go_wp2_with fail
 refine (sindex_any b c ss t _ hc' hn).mono ?_
 rintro e w1 ⟨⟨r, rfl, hr⟩, rfl⟩
 have HR : Hid (decide (0 ≤ r) = amongB ss t) := hr
 clear hr
 go_wp2
 go_ret
 exact ⟨ret_bool HR.out, rfl⟩

set_option maxRecDepth 100000 in
set_option maxHeartbeats 400000 in
theorem is_any (C : Rc) (i d : Nat) (w : World) (R : Rd C i d w) (q m c : Nat) (xs : List (List UInt8)) (hq : w.heap[q]? = some (.cells (strCells xs) 9 (0, 0))) (hm : xs.length = m) (hn : m ≤ 1000) :
  Calls Tryz.prog 80 #[.pointer (some ⟨C.b, 0, none⟩), .slice (some ⟨q, 0, none⟩) m c] w fun e w' => e = .returned (.bool (txs C.l i xs)) ∧ Below w.heap.size w w' := by
 have hfd := fldX
 go_enter Tryz.func80, Tryz.ntmps80
 go_wp2_with fail
 refine (tnext_any C i d _ R).mono ?_
 rintro e w1 ⟨rfl, hb⟩
 go_wp2_with fail
 refine (scontains_any q c m xs _ _ hm (row_keep hb hq) hn).mono ?_
 rintro e w2 ⟨rfl, rfl⟩
 go_wp2
 go_ret
 exact ⟨rfl, hb⟩
set_option maxRecDepth 100000 in
set_option maxHeartbeats 400000 in
theorem isName_any (C : Rc) (i d : Nat) (w : World) (R : Rd C i d w) :
  Calls Tryz.prog 135 #[.pointer (some ⟨C.b, 0, none⟩)] w fun e w' => e = .returned (.bool (isName C.l i)) ∧ Below w.heap.size w w' := by
 have hfd := fldK
 go_enter Tryz.func135, Tryz.ntmps135
 go_wp2_with fail
 refine (tnext_any C i d _ R).mono ?_
 rintro e w1 ⟨rfl, hb⟩
 go_wp2
 go_ret
 exact ⟨rfl, hb⟩

set_option maxHeartbeats 400000 in
theorem take_any (C : Rc) (i d : Nat) (w : World) (R : Rd C i d w) (hi : i + 1 < C.l.length) :
  Calls Tryz.prog 134 #[.pointer (some ⟨C.b, 0, none⟩)] w fun e w' => e = .returned (.string (tkx C.l i)) ∧ Rd C (i + 1) d w' ∧ Mv C.b w w' := by
 have hlen := R.len
 have hbl := R.blt
 go_enter Tryz.func134, Tryz.ntmps134
 go_wp2_with fail
 refine (tnext_any C i d _ R).mono ?_
 rintro e w1 ⟨rfl, hb⟩
 have Rb := R.below hb
 have c1 := Rb.c1
 have fz := Rb.fz 1
 have hbl1 := Rb.blt
 go_wp2
 go_ret
 have R2 := Rb.set1 (j := i + 1) (x := (i : Int) + 1) (by omega) hi
 exact ⟨rfl, R2.below ((Below.refl _ _).alloc (Nat.le_refl _) _), ((Mv.of_below hb).trans (Mv.setAt _ _ _ _)).trans (Mv.of_below ((Below.refl _ _).alloc (Nat.le_refl _) _))⟩

def Threw (C : Rc) (j : Nat) (bd : Bool) (e : Ending) (w' : World) : Prop :=
 j < C.l.length ∧ ∃ p, e = .panicked [{ v := .iface 143 (.agg #[.iface 64 (.pointer (some ⟨p, 0, none⟩))]), recovered := false }] ∧ w'.cell? ⟨p, 0, none⟩ = some (.int .i64 (tkp C.l j)) ∧ w'.cell? ⟨p, 0 + 1, none⟩ = some (.iface 235 (.pointer (some (if bd then C.pB else C.pT))))

set_option maxRecDepth 100000 in
set_option maxHeartbeats 400000 in
theorem fail_any (C : Rc) (i d : Nat) (w : World) (R : Rd C i d w) (ev : Addr) (bd : Bool) (hev : ev = if bd then C.pB else C.pT) :
  Calls Tryz.prog 81 #[.pointer (some ⟨C.b, 0, none⟩), .iface 235 (.pointer (some ev))] w fun e w' => Threw C i bd e w' ∧ Below w.heap.size w w' := by
 have hfd := fldP
 have HE : Hid (ev = if bd then C.pB else C.pT) := hev
 clear hev
 go_enter Tryz.func81, Tryz.ntmps81
 go_wp2_with fail
 refine (tnext_any C i d _ R).mono ?_
 rintro e w1 ⟨rfl, hb⟩
 go_wp2
 have hs := hb.size
 refine ⟨rfl, ⟨R.lt, w1.heap.size, rfl, ?_, ?_⟩, hb.alloc (by omega) _⟩
 ·rw [World.cell?_alloc_at _ _ _ _ rfl]; rfl
 ·rw [World.cell?_alloc_at _ _ _ _ rfl, ← HE.out]; rfl

set_option maxRecDepth 100000 in
set_option maxHeartbeats 400000 in
theorem leave_any (C : Rc) (i d : Nat) (w : World) (R : Rd C i (d + 1) w) :
  Calls Tryz.prog 159 #[.pointer (some ⟨C.b, 0, none⟩)] w fun e w' => e = .returned (.tuple #[]) ∧ Rd C i d w' ∧ Mv C.b w w' := by
 have c2 := R.c2
 have fz := R.fz 2
 have hd := R.dp
 go_enter Tryz.func159, Tryz.ntmps159
 go_wp2
 go_end0
 exact ⟨rfl, R.set2 (by omega) (by omega), Mv.setAt _ _ _ _⟩

theorem txs_one (l : List Tk) (i : Nat) (x : List UInt8) : txs l i [x] = tx l i x := by simp [txs]
set_option maxRecDepth 100000 in
set_option maxHeartbeats 400000 in
theorem expect_any (C : Rc) (i d : Nat) (w : World) (R : Rd C i d w) (T : Tkl C.l) (x : List UInt8) (hx : x ≠ []) :
  Calls Tryz.prog 110 #[.pointer (some ⟨C.b, 0, none⟩), .string ⟨x.toArray⟩] w fun e w' => Mv C.b w w' ∧ ((tx C.l i x = true ∧ e = .returned (.tuple #[]) ∧ Rd C (i + 1) d w') ∨ (tx C.l i x = false ∧ Threw C i false e w')) := by
 have hbA : Below w.heap.size w (w.alloc (.cells #[.string ⟨x.toArray⟩] 9)) := (Below.refl _ _).alloc (Nat.le_refl _) _
 have hq : (w.alloc (.cells #[.string ⟨x.toArray⟩] 9)).heap[w.heap.size]? = some (.cells (strCells [x]) 9 (0, 0)) := heap_alloc_new w _
 have hRA := R.below hbA
 have HQ : Hid _ := hq
 clear hq
 by_cases h : txs C.l i [x] = true
 ·have hi : i + 1 < C.l.length := T.next_txs R.lt (by simpa using Ne.symm hx) h
  go_enter Tryz.func110, Tryz.ntmps110
  go_wp2_with fail
  refine (is_any C i d _ hRA w.heap.size 1 1 [x] HQ.out rfl (by decide)).mono ?_
  rintro e w1 ⟨rfl, hb⟩
  go_wp2_with fail
  refine (take_any C i d _ (hRA.below hb) hi).mono ?_
  rintro e w2 ⟨rfl, R2, hm⟩
  go_wp2
  go_end0
  exact ⟨(Mv.of_below hbA).trans ((Mv.of_below hb).trans hm), Or.inl ⟨by rw [← txs_one]; exact h, rfl, R2⟩⟩
 ·have h' : txs C.l i [x] = false := by simpa using h
  clear h
  have hT := (hRA).hT
  go_enter Tryz.func110, Tryz.ntmps110
  go_wp2_with fail
  refine (is_any C i d _ hRA w.heap.size 1 1 [x] HQ.out rfl (by decide)).mono ?_
  rintro e w1 ⟨rfl, hb⟩
  have hT1 := (hRA.below hb).hT
  go_wp2_with fail
  refine (fail_any C i d _ (hRA.below hb) _ false rfl).mono ?_
  rintro e w2 ⟨⟨hj, p, rfl, q0, q1⟩, hb2⟩
  go_wp2
  exact ⟨rfl, (Mv.of_below hbA).trans ((Mv.of_below hb).trans (Mv.of_below hb2)), Or.inr ⟨by rw [← txs_one]; exact h', hj, p, rfl, q0, q1⟩⟩

set_option maxRecDepth 100000 in
set_option maxHeartbeats 400000 in
theorem name_any (C : Rc) (i d : Nat) (w : World) (R : Rd C i d w) (T : Tkl C.l) :
  Calls Tryz.prog 111 #[.pointer (some ⟨C.b, 0, none⟩)] w fun e w' => Mv C.b w w' ∧ ((isName C.l i = true ∧ e = .returned (.string (tkx C.l i)) ∧ Rd C (i + 1) d w') ∨ (isName C.l i = false ∧ Threw C i false e w')) := by
 by_cases h : isName C.l i = true
 ·have hi : i + 1 < C.l.length := T.next_name R.lt h
  go_enter Tryz.func111, Tryz.ntmps111
  go_wp2_with fail
  refine (isName_any C i d _ R).mono ?_
  rintro e w1 ⟨rfl, hb⟩
  go_wp2_with fail
  refine (take_any C i d _ (R.below hb) hi).mono ?_
  rintro e w2 ⟨rfl, R2, hm⟩
  go_wp2
  go_ret
  exact ⟨(Mv.of_below hb).trans hm, Or.inl ⟨h, rfl, R2⟩⟩
 ·have h' : isName C.l i = false := by simpa using h
  clear h
  go_enter Tryz.func111, Tryz.ntmps111
  go_wp2_with fail
  refine (isName_any C i d _ R).mono ?_
  rintro e w1 ⟨rfl, hb⟩
  have hT1 := (R.below hb).hT
  go_wp2_with fail
  refine (fail_any C i d _ (R.below hb) _ false rfl).mono ?_
  rintro e w2 ⟨⟨hj, p, rfl, q0, q1⟩, hb2⟩
  go_wp2
  exact ⟨rfl, (Mv.of_below hb).trans (Mv.of_below hb2), Or.inr ⟨h', hj, p, rfl, q0, q1⟩⟩

set_option maxRecDepth 100000 in
set_option maxHeartbeats 400000 in
theorem enter_any (C : Rc) (i d : Nat) (w : World) (R : Rd C i d w) (hi : i + 1 < C.l.length) :
  Calls Tryz.prog 158 #[.pointer (some ⟨C.b, 0, none⟩)] w fun e w' => Mv C.b w w' ∧ ((d ≠ 20 ∧ e = .returned (.string (tkx C.l i)) ∧ Rd C (i + 1) (d + 1) w') ∨ (d = 20 ∧ Threw C i true e w')) := by
 have c2 := R.c2
 have hd := R.dp
 by_cases h : d = 20
 ·subst h
  have hB := R.hB
  go_enter Tryz.func158, Tryz.ntmps158
  go_wp2_with fail
  refine (fail_any C i 20 _ R _ true rfl).mono ?_
  rintro e w2 ⟨⟨hj, p, rfl, q0, q1⟩, hb2⟩
  go_wp2
  exact ⟨rfl, Mv.of_below hb2, Or.inr ⟨trivial, hj, p, rfl, q0, q1⟩⟩
 ·have hd0 : ((d : Int) == 20) = false := by simp; omega
  have fz := R.fz 2
  go_enter Tryz.func158, Tryz.ntmps158
  go_wp2_with fail
  have R1 := R.set2 (e := d + 1) (x := (d : Int) + 1) (by omega) (by omega)
  refine (take_any C i (d + 1) _ R1 hi).mono ?_
  rintro e w2 ⟨rfl, R2, hm⟩
  go_wp2
  go_ret
  exact ⟨(Mv.setAt _ _ _ _).trans hm, Or.inl ⟨h, rfl, R2⟩⟩
def Ret (C : Rc) (c : Cd) (i d : Nat) (w : World) (V : World → List Ex → Value → Prop) (e : Ending) (w' : World) : Prop :=
 Mv C.b w w' ∧ ((∃ es j v, Parse C.l c i d (.ok es j) ∧ e = .returned v ∧ V w' es v ∧ Rd C j d w' ∧ i < j) ∨ (∃ j bd, Parse C.l c i d (.bad j bd) ∧ Threw C j bd e w'))
def TermV (base : Nat) (w' : World) (es : List Ex) (v : Value) : Prop := ∃ ex, es = [ex] ∧ ExV w' (From base) ex v
def Fits (f : FuncId) (c : Cd) (n : Nat) : Prop := ∀ (C : Rc) (i d : Nat) (w : World), Tkl C.l → Rd C i d w → C.l.length - i ≤ n → Calls Tryz.prog f #[.pointer (some ⟨C.b, 0, none⟩)] w (Ret C c i d w (TermV w.heap.size))

theorem Stays.mv {S S' : Nat → Prop} {b : Nat} {w w' : World} (h : Mv b w w') (hs : ∀ k, S k → k ≠ b ∧ S' k) : Stays S S' w w' := fun k hk hl => ⟨(hs k hk).2, h.block k hl (by intro e; injection e with e; exact (hs k hk).1 e)⟩
theorem Stays.below {S S' : Nat → Prop} {w w' : World} (h : Below w.heap.size w w') (hs : ∀ k, S k → S' k) : Stays S S' w w' := fun k hk hl => ⟨hs k hk, h.block k hl⟩
theorem Stays.alloc {S S' : Nat → Prop} {w : World} (o : Obj) (hs : ∀ k, S k → S' k) : Stays S S' w (w.alloc o) := Stays.below ((Below.refl _ _).alloc (Nat.le_refl _) _) hs
theorem Stays.set {S S' : Nat → Prop} {w : World} {p : Addr} (v : Value) (hs : ∀ k, S k → k ≠ p.block ∧ S' k) : Stays S S' w (w.setCell p v) := fun k hk _ => ⟨(hs k hk).2, Below.heap_setCell _ _ _ _ (hs k hk).1⟩

theorem blk4 {w : World} {b : Nat} {x y z u : Value} {t : TypeId} (h : w.heap[b]? = some (.cells #[x, y, z, u] t (0, 0))) : w.cell? ⟨b, 0, none⟩ = some x ∧ w.cell? ⟨b, 1, none⟩ = some y ∧ w.cell? ⟨b, 2, none⟩ = some z ∧ w.cell? ⟨b, 3, none⟩ = some u ∧ ∀ k, w.frozen? ⟨b, k, none⟩ = false :=
 ⟨by simp [World.cell?, h], by simp [World.cell?, h], by simp [World.cell?, h], by simp [World.cell?, h], fun k => by simp [World.frozen?, h]⟩
theorem Mv.row {b k : Nat} {w w' : World} {o : Obj} (h : Mv b w w') (hn : k ≠ b) (hr : w.heap[k]? = some o) : w'.heap[k]? = some o := by
 rw [h.block k (Array.getElem?_eq_some_iff.1 hr).1 (by intro e; injection e with e; exact hn e)]; exact hr
theorem alloc_row {k : Nat} {w : World} {o : Obj} (o' : Obj) (hr : w.heap[k]? = some o) : (w.alloc o').heap[k]? = some o := by
 rw [heap_alloc_old (h := (Array.getElem?_eq_some_iff.1 hr).1)]; exact hr

def set4 (w : World) (N : Nat) (a b c e : Value) : World := (((w.setCell ⟨N, 0, none⟩ a).setCell ⟨N, 1, none⟩ b).setCell ⟨N, 2, none⟩ c).setCell ⟨N, 3, none⟩ e
section
variable {w : World} {N : Nat} {a b c e : Value}
theorem set4_block {k : Nat} (h : k ≠ N) : (set4 w N a b c e).heap[k]? = w.heap[k]? := by
 unfold set4
 rw [Below.heap_setCell _ _ _ _ h, Below.heap_setCell _ _ _ _ h, Below.heap_setCell _ _ _ _ h, Below.heap_setCell _ _ _ _ h]
theorem set4_size : (set4 w N a b c e).heap.size = w.heap.size := by simp [set4, World.setCell]
theorem set4_below {H : Nat} (h : H ≤ N) : Below H w (set4 w N a b c e) := ⟨rfl, rfl, rfl, by rw [set4_size]; exact Nat.le_refl _, fun k hk => set4_block (by omega)⟩
theorem set4_stays {S S' : Nat → Prop} (hs : ∀ k, S k → k ≠ N ∧ S' k) : Stays S S' w (set4 w N a b c e) := fun k hk _ => ⟨(hs k hk).2, set4_block (hs k hk).1⟩
end
theorem Stays.trans {S S' S'' : Nat → Prop} {a b c : World} (h : Stays S S' a b) (g : Stays S' S'' b c) (hs : a.heap.size ≤ b.heap.size) : Stays S S'' a c := fun k hk hl => by
 have h1 := h k hk hl
 have h2 := g k h1.1 (by omega)
 exact ⟨h2.1, h2.2.trans h1.2⟩
theorem RowAt.blk {w : World} {S : Nat → Prop} {size n g c : Nat} {cur : Array Value} {t : TypeId} {xs : List Value} (h : w.heap[g]? = some (.cells cur t (0, 0))) (hx : cur.toList = xs) (hl : xs.length = n * size) (hn : n ≤ maxLen) (hS : S g) : RowAt w S size (.slice (some ⟨g, 0, none⟩) n c) n xs := by
 refine ⟨hl, hn, _, c, rfl, fun k x hk => ⟨g, 0, rfl, hS, ?_⟩⟩
 rw [Nat.zero_add, cell_of_row w g k cur t (0, 0) h]
 rw [← hx] at hk; simpa using hk
theorem Mv.upon {b : Nat} {w w1 w2 : World} (h : Mv b w w1) (g : Below w.heap.size w1 w2) : Mv b w w2 :=
 ⟨g.os.trans h.os, g.tape.trans h.tape, g.output.trans h.output, Nat.le_trans h.size g.size, fun k hk hn => (g.block k hk).trans (h.block k hk hn)⟩
theorem Rd.upon {C : Rc} {i d j e : Nat} {w w1 w2 : World} (R : Rd C i d w) (R1 : Rd C j e w1) (g : Below w.heap.size w1 w2) : Rd C j e w2 := by
 have f : ∀ {p : Addr} {v : Value}, p.block < w.heap.size → w1.cell? p = some v → w2.cell? p = some v := fun {p} {v} hp hc => by
  rw [World.cell?_of_block (w := w1) (g.block p.block hp)]; exact hc
 have hb := R.blt
 have hg : C.g < w.heap.size := lt_of_cell (R.row i R.lt).1
 refine ⟨f hb R1.c0, f hb R1.c1, f hb R1.c2, fun k => ?_, fun k hk => ⟨f hg (R1.row k hk).1, f hg (R1.row k hk).2.1, f hg (R1.row k hk).2.2⟩, R1.ne, R1.lt, R1.len, R1.dp, f (lt_of_cell R.hT) R1.hT, f (lt_of_cell R.hB) R1.hB, R1.nT, R1.nB⟩
 rw [World.frozen?_of_block (w := w1) (g.block C.b hb)]; exact R1.fz k

set_option maxRecDepth 100000 in
set_option maxHeartbeats 400000 in
theorem prefix_not (n : Nat) (hK : Fits 178 .not n) (C : Rc) (i d : Nat) (w : World) (T : Tkl C.l) (R : Rd C i d w) (hi : i + 1 < C.l.length) (hn : C.l.length - (i + 1) ≤ n) (o : ByteArray) :
  Calls Tryz.prog 181 #[.pointer (some ⟨C.b, 0, none⟩), .string o, .func (.func 178) #[.pointer (some ⟨C.b, 0, none⟩)] #[]] w fun e w' => Mv C.b w w' ∧
   ((d = 20 ∧ Threw C i true e w') ∨ (d ≠ 20 ∧ ∃ ex j v, Parse C.l .not (i + 1) (d + 1) (.ok [ex] j) ∧ e = .returned v ∧ ExV w' (From w.heap.size) (.mk o 0 b0 [ex]) v ∧ Rd C j d w' ∧ i < j) ∨ (d ≠ 20 ∧ ∃ j bd, Parse C.l .not (i + 1) (d + 1) (.bad j bd) ∧ Threw C j bd e w')) := by
 have HK : Hid (Fits 178 .not n) := hK
 clear hK
 have hbA : Below w.heap.size w (w.alloc (.cells #[.string ⟨#[]⟩, .int .i64 0, .string ⟨#[]⟩, .slice none 0 0] 105)) := (Below.refl _ _).alloc (Nat.le_refl _) _
 have hbl := R.blt
 go_enter Tryz.func181, Tryz.ntmps181
 go_wp2_with fail
 refine (enter_any C i d _ (R.below hbA) hi).mono ?_
 rintro e w1 ⟨hm1, h1⟩
 rcases h1 with ⟨hd, rfl, R1⟩ | ⟨hd, hj, p, rfl, q0, q1⟩
 ·have hs1 := hm1.size
  simp only [World.size_alloc] at hs1
  have hr1 := hm1.row (k := w.heap.size) (by omega) (heap_alloc_new w _)
  have HR1 : Hid _ := hr1
  clear hr1
  go_wp2_with fail
  refine (HK.out C (i + 1) (d + 1) _ T R1 hn).mono ?_
  rintro e w2 ⟨hm2, h2⟩
  rcases h2 with ⟨es, j, v, hp, rfl, ⟨ex, rfl, hv⟩, R2, hij⟩ | ⟨j, bd, hp, hj, p, rfl, q0, q1⟩
  ·obtain ⟨op, x, s, l, so, sc, ys, rfl, rfl, hrow, hin⟩ := hv.one
   have hs2 := hm2.size
   have hr2 := alloc_row (.cells #[.string op, .int .i64 x, .string s, .slice so l.length sc] 105) (hm2.row (by omega) HR1.out)
   have hn2 := heap_alloc_new w2 (.cells #[.string op, .int .i64 x, .string s, .slice so l.length sc] 105)
   have HR2 : Hid _ := hr2
   have HN2 : Hid _ := hn2
   have hbB : Below w2.heap.size w2 (w2.alloc (.cells #[.string op, .int .i64 x, .string s, .slice so l.length sc] 105)) := (Below.refl _ _).alloc (Nat.le_refl _) _
   clear hr2 hn2
   go_wp2_with fail
   refine (leave_any C j d _ (R2.below hbB)).mono ?_
   rintro e w3 ⟨rfl, R3, hm3⟩
   have hs3 := hm3.size
   simp only [World.size_alloc] at hs3
   have hlt3 : w.heap.size < w3.heap.size := by omega
   have hne3 : w.heap.size ≠ w3.heap.size := by omega
   obtain ⟨c0, c1, c2, c3, _⟩ := blk4 (hm3.row (by omega) HN2.out)
   obtain ⟨z0, z1, z2, z3, zf⟩ := blk4 (hm3.row (by omega) HR2.out)
   go_wp2
   have hW : Below w.heap.size w3 ((set4 w3 w.heap.size (.string o) (.int .i64 0) (.string ⟨#[]⟩) (.slice (some ⟨w3.heap.size, 0, none⟩) 1 1)).alloc (.cells #[.string op, .int .i64 x, .string s, .slice so l.length sc] 105)) := (set4_below (Nat.le_refl _)).alloc (by rw [set4_size]; omega) _
   have hM : Mv C.b w w3 := (((Mv.of_below hbA).trans hm1).trans (hm2.trans (Mv.of_below hbB))).trans hm3
   have St : Stays (From w1.heap.size) (From w.heap.size) w2 ((set4 w3 w.heap.size (.string o) (.int .i64 0) (.string ⟨#[]⟩) (.slice (some ⟨w3.heap.size, 0, none⟩) 1 1)).alloc (.cells #[.string op, .int .i64 x, .string s, .slice so l.length sc] 105)) :=
    (((Stays.alloc _ (fun k hk => hk)).trans (Stays.mv (S' := From w1.heap.size) hm3 (fun k hk => ⟨by unfold From at hk; omega, hk⟩)) (by simp)).trans (set4_stays (S' := From w.heap.size) (fun k hk => by unfold From at *; omega)) (by omega)).trans (Stays.alloc _ (fun k hk => hk)) (by rw [set4_size]; omega)
   refine bodyPost_ret (v := .agg #[.string o, .int .i64 0, .string ⟨#[]⟩, .slice (some ⟨w3.heap.size, 0, none⟩) 1 1]) (by simp [results, Tryz.results181, go_sem, z0, z1, z2, z3, hlt3]) rfl ⟨hM.upon hW, Or.inr (Or.inl ⟨hd, _, j, _, hp, rfl, ?_, R.upon R3 hW, by omega⟩)⟩
   have hnew : ((set4 w3 w.heap.size (.string o) (.int .i64 0) (.string ⟨#[]⟩) (.slice (some ⟨w3.heap.size, 0, none⟩) 1 1)).alloc (.cells #[.string op, .int .i64 x, .string s, .slice so l.length sc] 105)).heap[w3.heap.size]? = some (.cells #[.string op, .int .i64 x, .string s, .slice so l.length sc] 105 (0, 0)) := by
    have := heap_alloc_new (set4 w3 w.heap.size (.string o) (.int .i64 0) (.string ⟨#[]⟩) (.slice (some ⟨w3.heap.size, 0, none⟩) 1 1)) (.cells #[.string op, .int .i64 x, .string s, .slice so l.length sc] 105)
    rw [set4_size] at this; exact this
   exact .mk (l := [.mk op x s l]) (RowAt.blk hnew rfl rfl (by unfold maxLen; decide) (by unfold From; omega)) (.cons op x s l [] _ ys [] (hrow.keep St) (hin.keep St) .nil)
  ·go_wp2
   exact ⟨rfl, ((Mv.of_below hbA).trans hm1).trans hm2, Or.inr (Or.inr ⟨hd, j, bd, hp, hj, p, rfl, q0, q1⟩)⟩
 ·go_wp2
  exact ⟨rfl, (Mv.of_below hbA).trans hm1, Or.inl ⟨hd, hj, p, rfl, q0, q1⟩⟩

set_option maxRecDepth 100000 in
set_option maxHeartbeats 400000 in
theorem prefix_un (n : Nat) (hK : Fits 198 .un n) (C : Rc) (i d : Nat) (w : World) (T : Tkl C.l) (R : Rd C i d w) (hi : i + 1 < C.l.length) (hn : C.l.length - (i + 1) ≤ n) (o : ByteArray) :
  Calls Tryz.prog 181 #[.pointer (some ⟨C.b, 0, none⟩), .string o, .func (.func 198) #[.pointer (some ⟨C.b, 0, none⟩)] #[]] w fun e w' => Mv C.b w w' ∧
   ((d = 20 ∧ Threw C i true e w') ∨ (d ≠ 20 ∧ ∃ ex j v, Parse C.l .un (i + 1) (d + 1) (.ok [ex] j) ∧ e = .returned v ∧ ExV w' (From w.heap.size) (.mk o 0 b0 [ex]) v ∧ Rd C j d w' ∧ i < j) ∨ (d ≠ 20 ∧ ∃ j bd, Parse C.l .un (i + 1) (d + 1) (.bad j bd) ∧ Threw C j bd e w')) := by
 have HK : Hid (Fits 198 .un n) := hK
 clear hK
 have hbA : Below w.heap.size w (w.alloc (.cells #[.string ⟨#[]⟩, .int .i64 0, .string ⟨#[]⟩, .slice none 0 0] 105)) := (Below.refl _ _).alloc (Nat.le_refl _) _
 have hbl := R.blt
 go_enter Tryz.func181, Tryz.ntmps181
 go_wp2_with fail
 refine (enter_any C i d _ (R.below hbA) hi).mono ?_
 rintro e w1 ⟨hm1, h1⟩
 rcases h1 with ⟨hd, rfl, R1⟩ | ⟨hd, hj, p, rfl, q0, q1⟩
 ·have hs1 := hm1.size
  simp only [World.size_alloc] at hs1
  have hr1 := hm1.row (k := w.heap.size) (by omega) (heap_alloc_new w _)
  have HR1 : Hid _ := hr1
  clear hr1
  go_wp2_with fail
  refine (HK.out C (i + 1) (d + 1) _ T R1 hn).mono ?_
  rintro e w2 ⟨hm2, h2⟩
  rcases h2 with ⟨es, j, v, hp, rfl, ⟨ex, rfl, hv⟩, R2, hij⟩ | ⟨j, bd, hp, hj, p, rfl, q0, q1⟩
  ·obtain ⟨op, x, s, l, so, sc, ys, rfl, rfl, hrow, hin⟩ := hv.one
   have hs2 := hm2.size
   have hr2 := alloc_row (.cells #[.string op, .int .i64 x, .string s, .slice so l.length sc] 105) (hm2.row (by omega) HR1.out)
   have hn2 := heap_alloc_new w2 (.cells #[.string op, .int .i64 x, .string s, .slice so l.length sc] 105)
   have HR2 : Hid _ := hr2
   have HN2 : Hid _ := hn2
   have hbB : Below w2.heap.size w2 (w2.alloc (.cells #[.string op, .int .i64 x, .string s, .slice so l.length sc] 105)) := (Below.refl _ _).alloc (Nat.le_refl _) _
   clear hr2 hn2
   go_wp2_with fail
   refine (leave_any C j d _ (R2.below hbB)).mono ?_
   rintro e w3 ⟨rfl, R3, hm3⟩
   have hs3 := hm3.size
   simp only [World.size_alloc] at hs3
   have hlt3 : w.heap.size < w3.heap.size := by omega
   have hne3 : w.heap.size ≠ w3.heap.size := by omega
   obtain ⟨c0, c1, c2, c3, _⟩ := blk4 (hm3.row (by omega) HN2.out)
   obtain ⟨z0, z1, z2, z3, zf⟩ := blk4 (hm3.row (by omega) HR2.out)
   go_wp2
   have hW : Below w.heap.size w3 ((set4 w3 w.heap.size (.string o) (.int .i64 0) (.string ⟨#[]⟩) (.slice (some ⟨w3.heap.size, 0, none⟩) 1 1)).alloc (.cells #[.string op, .int .i64 x, .string s, .slice so l.length sc] 105)) := (set4_below (Nat.le_refl _)).alloc (by rw [set4_size]; omega) _
   have hM : Mv C.b w w3 := (((Mv.of_below hbA).trans hm1).trans (hm2.trans (Mv.of_below hbB))).trans hm3
   have St : Stays (From w1.heap.size) (From w.heap.size) w2 ((set4 w3 w.heap.size (.string o) (.int .i64 0) (.string ⟨#[]⟩) (.slice (some ⟨w3.heap.size, 0, none⟩) 1 1)).alloc (.cells #[.string op, .int .i64 x, .string s, .slice so l.length sc] 105)) :=
    (((Stays.alloc _ (fun k hk => hk)).trans (Stays.mv (S' := From w1.heap.size) hm3 (fun k hk => ⟨by unfold From at hk; omega, hk⟩)) (by simp)).trans (set4_stays (S' := From w.heap.size) (fun k hk => by unfold From at *; omega)) (by omega)).trans (Stays.alloc _ (fun k hk => hk)) (by rw [set4_size]; omega)
   refine bodyPost_ret (v := .agg #[.string o, .int .i64 0, .string ⟨#[]⟩, .slice (some ⟨w3.heap.size, 0, none⟩) 1 1]) (by simp [results, Tryz.results181, go_sem, z0, z1, z2, z3, hlt3]) rfl ⟨hM.upon hW, Or.inr (Or.inl ⟨hd, _, j, _, hp, rfl, ?_, R.upon R3 hW, by omega⟩)⟩
   have hnew : ((set4 w3 w.heap.size (.string o) (.int .i64 0) (.string ⟨#[]⟩) (.slice (some ⟨w3.heap.size, 0, none⟩) 1 1)).alloc (.cells #[.string op, .int .i64 x, .string s, .slice so l.length sc] 105)).heap[w3.heap.size]? = some (.cells #[.string op, .int .i64 x, .string s, .slice so l.length sc] 105 (0, 0)) := by
    have := heap_alloc_new (set4 w3 w.heap.size (.string o) (.int .i64 0) (.string ⟨#[]⟩) (.slice (some ⟨w3.heap.size, 0, none⟩) 1 1)) (.cells #[.string op, .int .i64 x, .string s, .slice so l.length sc] 105)
    rw [set4_size] at this; exact this
   exact .mk (l := [.mk op x s l]) (RowAt.blk hnew rfl rfl (by unfold maxLen; decide) (by unfold From; omega)) (.cons op x s l [] _ ys [] (hrow.keep St) (hin.keep St) .nil)
  ·go_wp2
   exact ⟨rfl, ((Mv.of_below hbA).trans hm1).trans hm2, Or.inr (Or.inr ⟨hd, j, bd, hp, hj, p, rfl, q0, q1⟩)⟩
 ·go_wp2
  exact ⟨rfl, (Mv.of_below hbA).trans hm1, Or.inl ⟨hd, hj, p, rfl, q0, q1⟩⟩
end Go.Proofs.YtgbpccipdcajgaaGreatDoor
