/-
  tree.Formed BY ITS CONTRACT.
-/
import Derived.Test.YtpkgingjmgakbaaDoorP18
namespace Go.Proofs.YtpkgingjmgakbaaDoor
open Go.RowKit
attribute [local go_sem ↓] Go.wp_at_zero Go.wp_at_succ

def tCallL : List UInt8 := [99, 97, 108, 108]
def tIntL : List UInt8 := [105, 110, 116]
def tNameL : List UInt8 := [110, 97, 109, 101]
/-- A term is formed as its operator's are, what is in its parts aside. -/
def formedB (op : List UInt8) (n : Int) (s : List UInt8) (m : Nat) : Bool := (op == tCallL || shapeL.any fun t => op == t.1 && m == t.2.2.length) && (if op == tIntL then decide (0 ≤ n) && decide (n ≤ 127) && s == [] else if op == tNameL || op == tCallL then n == 0 else n == 0 && s == [])
theorem formedB_of {op : List UInt8} {n : Int} {s : List UInt8} {m : Nat} (h : formedB op n s m = true) : op = tCallL ∨ ∃ t ∈ shapeL, op = t.1 ∧ t.2.2.length = m := by
  simp only [formedB, Bool.and_eq_true, Bool.or_eq_true, beq_iff_eq, List.any_eq_true] at h
  rcases h.1 with h | ⟨t, ht, h1, h2⟩
  · exact Or.inl h
  · exact Or.inr ⟨t, ht, h1, h2.symm⟩
theorem formedB_in {op : List UInt8} {t : List UInt8 × Nat × List Nat} (ht : t ∈ shapeL) (h : op = t.1) (n : Int) (s : List UInt8) : formedB op n s t.2.2.length = (if op == tIntL then decide (0 ≤ n) && decide (n ≤ 127) && s == [] else if op == tNameL || op == tCallL then n == 0 else n == 0 && s == []) := by
  have h1 : (op == tCallL || shapeL.any fun u => op == u.1 && t.2.2.length == u.2.2.length) = true := by
    simp only [Bool.or_eq_true, List.any_eq_true]
    exact Or.inr ⟨t, ht, by simp [h]⟩
  unfold formedB
  rw [h1, Bool.true_and]
theorem shapeL_one {t u : List UInt8 × Nat × List Nat} (ht : t ∈ shapeL) (hu : u ∈ shapeL) (h : t.1 = u.1) : t = u := (by decide : ∀ t ∈ shapeL, ∀ u ∈ shapeL, t.1 = u.1 → t = u) t ht u hu h
theorem formedB_not {op : List UInt8} {t : List UInt8 × Nat × List Nat} {m : Nat} (ht : t ∈ shapeL) (h : op = t.1) (hc : op ≠ tCallL) (hm : m ≠ t.2.2.length) (n : Int) (s : List UInt8) : formedB op n s m = false := by
  cases hB : formedB op n s m with
  | false => rfl
  | true =>
    rcases formedB_of hB with h1 | ⟨u, hu, h1, h2⟩
    · exact absurd h1 hc
    · have := shapeL_one ht hu (h.symm.trans h1)
      subst this
      exact absurd h2.symm hm
theorem formedB_out {op : List UInt8} (hc : op ≠ tCallL) (h : ¬ ∃ t ∈ shapeL, op = t.1) (n : Int) (s : List UInt8) (m : Nat) : formedB op n s m = false := by
  cases hB : formedB op n s m with
  | false => rfl
  | true =>
    rcases formedB_of hB with h1 | ⟨u, hu, h1, _⟩
    · exact absurd h1 hc
    · exact absurd ⟨u, hu, h1⟩ h
set_option maxRecDepth 100000 in
set_option maxHeartbeats 4000000 in
theorem formed_any (op : ByteArray) (n : Int) (s : ByteArray) (o : Option Addr) (m c : Nat) (w : World) (hm : m ≤ maxLen) :
    Calls Tryd.prog 51 #[.agg #[.string op, .int .i64 n, .string s, .slice o m c]] w fun e w' => Below w.heap.size w w' ∧ e = .returned (.bool (formedB op.toList n s.toList m)) := by
  unfold maxLen at hm
  obtain ⟨fb, hfb⟩ : ∃ fb, fb = formedB op.toList n s.toList m := ⟨_, rfl⟩
  rw [← hfb]
  have HF : Hid (fb = formedB op.toList n s.toList m) := hfb
  clear hfb
  have hbA : Below w.heap.size w (w.alloc (teObj op n s (.slice o m c))) := (Below.refl _ _).alloc (Nat.le_refl _) _
  have HA : Hid _ := heap_alloc_new w (teObj op n s (.slice o m c))
  by_cases hc : op.toList = tCallL
  · have hc' : op.toList = [99, 97, 108, 108] := hc
    have HNO : Hid (∀ t ∈ shapeL, (op.toList == t.1) = false) := by
      show ∀ t ∈ shapeL, (op.toList == t.1) = false
      rw [hc]; decide
    have HE : Hid (formedB op.toList n s.toList m = (n == 0)) := by
      show formedB op.toList n s.toList m = (n == 0)
      rw [hc]; simp [formedB, tCallL, tIntL, tNameL]
    clear hc
    by_cases hn : n = 0
    · subst hn
      go_enter Tryd.func51, Tryd.ntmps51
      go_wp2_with fail
      refine (shapeOf_out op _ HNO.out).mono ?_
      rintro e w1 ⟨rfl, hb1⟩
      obtain ⟨a0, a1, a2, a3, _⟩ := blk4 (row_keep hb1 HA.out)
      have hl1 : w.heap.size < w1.heap.size := blk_of_cell a0
      go_wp2
      exact bodyPost_ret (v := .bool true) (by simp [results, Tryd.results51, go_sem]) rfl ⟨(hbA.trans (hb1.mono (by simp))).alloc (by omega) _, by rw [HF.out, HE.out]; rfl⟩
    · have hn' : (n == 0) = false := by simpa using hn
      clear hn
      go_enter Tryd.func51, Tryd.ntmps51
      go_wp2_with fail
      refine (shapeOf_out op _ HNO.out).mono ?_
      rintro e w1 ⟨rfl, hb1⟩
      obtain ⟨a0, a1, a2, a3, _⟩ := blk4 (row_keep hb1 HA.out)
      have hl1 : w.heap.size < w1.heap.size := blk_of_cell a0
      go_wp2
      exact bodyPost_ret (v := .bool false) (by simp [results, Tryd.results51, go_sem]) rfl ⟨(hbA.trans (hb1.mono (by simp))).alloc (by omega) _, by rw [HF.out, HE.out, hn']⟩
  · have hc' : (op.toList == [99, 97, 108, 108]) = false := by simpa [tCallL] using hc
    by_cases hin : ∃ t ∈ shapeL, op.toList = t.1
    · obtain ⟨t, ht, hop⟩ := hin
      have HOP : Hid (op.toList = t.1) := hop
      have hpl := (by decide : ∀ t ∈ shapeL, t.2.2.length ≤ 3) t ht
      by_cases hl : m = t.2.2.length
      · subst hl
        have HE : Hid _ := formedB_in ht hop n s.toList
        by_cases hi : op.toList = [105, 110, 116]
        · have HI : Hid (formedB op.toList n s.toList t.2.2.length = (decide (0 ≤ n) && decide (n ≤ 127) && s.toList == [])) := by
            show formedB op.toList n s.toList t.2.2.length = _
            rw [HE.out, hi]; rfl
          clear hop hc hc'
          by_cases h0 : 0 ≤ n
          · by_cases h1 : n ≤ 127
            · by_cases hs : s.toList = []
              ·
                go_enter Tryd.func51, Tryd.ntmps51
                go_wp2_with fail
                refine (shapeOf_in op _ t ht HOP.out).mono ?_
                rintro e w1 ⟨hb1, so, sc, rfl, _⟩
                obtain ⟨a0, a1, a2, a3, _⟩ := blk4 (row_keep hb1 HA.out)
                have hl1 : w.heap.size < w1.heap.size := blk_of_cell a0
                go_wp2
                exact bodyPost_ret (v := .bool true) (by simp [results, Tryd.results51, go_sem]) rfl ⟨(hbA.trans (hb1.mono (by simp))).alloc (by omega) _, by rw [HF.out, HI.out]; simp [h0, h1, hs]⟩
              · have hs' : (s.toList == []) = false := by simpa using hs
                go_enter Tryd.func51, Tryd.ntmps51
                go_wp2_with fail
                refine (shapeOf_in op _ t ht HOP.out).mono ?_
                rintro e w1 ⟨hb1, so, sc, rfl, _⟩
                obtain ⟨a0, a1, a2, a3, _⟩ := blk4 (row_keep hb1 HA.out)
                have hl1 : w.heap.size < w1.heap.size := blk_of_cell a0
                go_wp2
                exact bodyPost_ret (v := .bool false) (by simp [results, Tryd.results51, go_sem]) rfl ⟨(hbA.trans (hb1.mono (by simp))).alloc (by omega) _, by rw [HF.out, HI.out, hs', Bool.and_false]⟩
            · have h1' : ¬ (n ≤ 127) := h1
              go_enter Tryd.func51, Tryd.ntmps51
              go_wp2_with fail
              refine (shapeOf_in op _ t ht HOP.out).mono ?_
              rintro e w1 ⟨hb1, so, sc, rfl, _⟩
              obtain ⟨a0, a1, a2, a3, _⟩ := blk4 (row_keep hb1 HA.out)
              have hl1 : w.heap.size < w1.heap.size := blk_of_cell a0
              go_wp2
              exact bodyPost_ret (v := .bool false) (by simp [results, Tryd.results51, go_sem]) rfl ⟨(hbA.trans (hb1.mono (by simp))).alloc (by omega) _, by rw [HF.out, HI.out, decide_eq_false (show ¬ n ≤ 127 by omega)]; simp⟩
          · have h0' : ¬ (0 ≤ n) := h0
            go_enter Tryd.func51, Tryd.ntmps51
            go_wp2_with fail
            refine (shapeOf_in op _ t ht HOP.out).mono ?_
            rintro e w1 ⟨hb1, so, sc, rfl, _⟩
            obtain ⟨a0, a1, a2, a3, _⟩ := blk4 (row_keep hb1 HA.out)
            have hl1 : w.heap.size < w1.heap.size := blk_of_cell a0
            go_wp2
            exact bodyPost_ret (v := .bool false) (by simp [results, Tryd.results51, go_sem]) rfl ⟨(hbA.trans (hb1.mono (by simp))).alloc (by omega) _, by rw [HF.out, HI.out, decide_eq_false (show ¬ 0 ≤ n by omega)]; simp⟩
        · have hi' : (op.toList == [105, 110, 116]) = false := by simpa using hi
          by_cases hnm : op.toList = [110, 97, 109, 101]
          · have HI : Hid (formedB op.toList n s.toList t.2.2.length = (n == 0)) := by
              show formedB op.toList n s.toList t.2.2.length = _
              rw [HE.out, hnm]; rfl
            clear hop hc hc' hi hi'
            by_cases hn : n = 0
            · subst hn
              go_enter Tryd.func51, Tryd.ntmps51
              go_wp2_with fail
              refine (shapeOf_in op _ t ht HOP.out).mono ?_
              rintro e w1 ⟨hb1, so, sc, rfl, _⟩
              obtain ⟨a0, a1, a2, a3, _⟩ := blk4 (row_keep hb1 HA.out)
              have hl1 : w.heap.size < w1.heap.size := blk_of_cell a0
              go_wp2
              exact bodyPost_ret (v := .bool true) (by simp [results, Tryd.results51, go_sem]) rfl ⟨(hbA.trans (hb1.mono (by simp))).alloc (by omega) _, by rw [HF.out, HI.out]; rfl⟩
            · have hn' : (n == 0) = false := by simpa using hn
              clear hn
              go_enter Tryd.func51, Tryd.ntmps51
              go_wp2_with fail
              refine (shapeOf_in op _ t ht HOP.out).mono ?_
              rintro e w1 ⟨hb1, so, sc, rfl, _⟩
              obtain ⟨a0, a1, a2, a3, _⟩ := blk4 (row_keep hb1 HA.out)
              have hl1 : w.heap.size < w1.heap.size := blk_of_cell a0
              go_wp2
              exact bodyPost_ret (v := .bool false) (by simp [results, Tryd.results51, go_sem]) rfl ⟨(hbA.trans (hb1.mono (by simp))).alloc (by omega) _, by rw [HF.out, HI.out, hn']⟩
          · have hnm' : (op.toList == [110, 97, 109, 101]) = false := by simpa using hnm
            have HI : Hid (formedB op.toList n s.toList t.2.2.length = (n == 0 && s.toList == [])) := by
              show formedB op.toList n s.toList t.2.2.length = _
              rw [HE.out]
              have e1 : (op.toList == tIntL) = false := hi'
              have e2 : (op.toList == tNameL) = false := hnm'
              have e3 : (op.toList == tCallL) = false := hc'
              simp [e1, e2, e3]
            clear hop hc hi hnm
            by_cases hn : n = 0
            · subst hn
              by_cases hs : s.toList = []
              ·
                go_enter Tryd.func51, Tryd.ntmps51
                go_wp2_with fail
                refine (shapeOf_in op _ t ht HOP.out).mono ?_
                rintro e w1 ⟨hb1, so, sc, rfl, _⟩
                obtain ⟨a0, a1, a2, a3, _⟩ := blk4 (row_keep hb1 HA.out)
                have hl1 : w.heap.size < w1.heap.size := blk_of_cell a0
                go_wp2
                exact bodyPost_ret (v := .bool true) (by simp [results, Tryd.results51, go_sem]) rfl ⟨(hbA.trans (hb1.mono (by simp))).alloc (by omega) _, by rw [HF.out, HI.out]; simp [hs]⟩
              · have hs' : (s.toList == []) = false := by simpa using hs
                go_enter Tryd.func51, Tryd.ntmps51
                go_wp2_with fail
                refine (shapeOf_in op _ t ht HOP.out).mono ?_
                rintro e w1 ⟨hb1, so, sc, rfl, _⟩
                obtain ⟨a0, a1, a2, a3, _⟩ := blk4 (row_keep hb1 HA.out)
                have hl1 : w.heap.size < w1.heap.size := blk_of_cell a0
                go_wp2
                exact bodyPost_ret (v := .bool false) (by simp [results, Tryd.results51, go_sem]) rfl ⟨(hbA.trans (hb1.mono (by simp))).alloc (by omega) _, by rw [HF.out, HI.out, hs', Bool.and_false]⟩
            · have hn' : (n == 0) = false := by simpa using hn
              clear hn
              go_enter Tryd.func51, Tryd.ntmps51
              go_wp2_with fail
              refine (shapeOf_in op _ t ht HOP.out).mono ?_
              rintro e w1 ⟨hb1, so, sc, rfl, _⟩
              obtain ⟨a0, a1, a2, a3, _⟩ := blk4 (row_keep hb1 HA.out)
              have hl1 : w.heap.size < w1.heap.size := blk_of_cell a0
              go_wp2
              exact bodyPost_ret (v := .bool false) (by simp [results, Tryd.results51, go_sem]) rfl ⟨(hbA.trans (hb1.mono (by simp))).alloc (by omega) _, by rw [HF.out, HI.out, hn', Bool.false_and]⟩
      · have hl' : ((m : Int) == (t.2.2.length : Int)) = false := by simp; omega
        have HE : Hid _ := formedB_not ht hop hc hl n s.toList
        clear hop hc hl
        go_enter Tryd.func51, Tryd.ntmps51
        go_wp2_with fail
        refine (shapeOf_in op _ t ht HOP.out).mono ?_
        rintro e w1 ⟨hb1, so, sc, rfl, _⟩
        obtain ⟨a0, a1, a2, a3, _⟩ := blk4 (row_keep hb1 HA.out)
        have hl1 : w.heap.size < w1.heap.size := blk_of_cell a0
        go_wp2
        exact bodyPost_ret (v := .bool false) (by simp [results, Tryd.results51, go_sem]) rfl ⟨(hbA.trans (hb1.mono (by simp))).alloc (by omega) _, by rw [HF.out, HE.out]⟩
    · have HNO : Hid (∀ t ∈ shapeL, (op.toList == t.1) = false) := by
        show ∀ t ∈ shapeL, (op.toList == t.1) = false
        intro t ht
        simp only [beq_eq_false_iff_ne]
        exact fun e => hin ⟨t, ht, e⟩
      have HE : Hid _ := formedB_out hc hin n s.toList m
      clear hc hin
      go_enter Tryd.func51, Tryd.ntmps51
      go_wp2_with fail
      refine (shapeOf_out op _ HNO.out).mono ?_
      rintro e w1 ⟨rfl, hb1⟩
      obtain ⟨a0, a1, a2, a3, _⟩ := blk4 (row_keep hb1 HA.out)
      have hl1 : w.heap.size < w1.heap.size := blk_of_cell a0
      go_wp2
      exact bodyPost_ret (v := .bool false) (by simp [results, Tryd.results51, go_sem]) rfl ⟨(hbA.trans (hb1.mono (by simp))).alloc (by omega) _, by rw [HF.out, HE.out]⟩
end Go.Proofs.YtpkgingjmgakbaaDoor
