/-
  tree.Formed BY ITS CONTRACT.
-/
import Derived.Test.YtglkpgcmlbhkpabGreatDoorP36
import Derived.Test.YtglkpgcmlbhkpabGreatDoorP26
import Derived.Test.YtglkpgcmlbhkpabGreatDoorP25
namespace Go.Proofs.YtglkpgcmlbhkpabGreatDoor
open Go.RowKit
attribute [local go_sem ↓] Go.wp_at_zero Go.wp_at_succ

def tCallL : List UInt8 := [99, 97, 108, 108]
def tIntL : List UInt8 := [105, 110, 116]
def tNameL : List UInt8 := [110, 97, 109, 101]
/-- A term is formed as its operator's are, what is in its parts aside. -/
def formedB (op : List UInt8) (n : Int) (s : List UInt8) (m : Nat) : Bool := (op == tCallL || shapeL.any fun t => op == t.1 && m == t.2.2.length) && (if op == tIntL then decide (0 ≤ n) && decide (n ≤ 127) && s == [] else if op == tNameL || op == tCallL then n == 0 else n == 0 && s == [])
theorem formedB_of {op : List UInt8} {n : Int} {s : List UInt8} {m : Nat} (h : formedB op n s m = true) : op = tCallL ∨ ∃ t ∈ shapeL, op = t.1 ∧ t.2.2.length = m := by
  simp only [formedB, Bool.and_eq_true, Bool.or_eq_true, beq_iff_eq, List.any_eq_true] at h
  rcases h.1 with h | ⟨t, ht, h1, h2⟩
  · exact Or.inl h
  · exact Or.inr ⟨t, ht, h1, h2.symm⟩
theorem formedB_in {op : List UInt8} {t : List UInt8 × Nat × List Nat} (ht : t ∈ shapeL) (h : op = t.1) (n : Int) (s : List UInt8) : formedB op n s t.2.2.length = (if op == tIntL then decide (0 ≤ n) && decide (n ≤ 127) && s == [] else if op == tNameL || op == tCallL then n == 0 else n == 0 && s == []) := by
  have h1 : (op == tCallL || shapeL.any fun u => op == u.1 && t.2.2.length == u.2.2.length) = true := by
    simp only [Bool.or_eq_true, List.any_eq_true]
    exact Or.inr ⟨t, ht, by simp [h]⟩
  unfold formedB
  rw [h1, Bool.true_and]
theorem shapeL_one {t u : List UInt8 × Nat × List Nat} (ht : t ∈ shapeL) (hu : u ∈ shapeL) (h : t.1 = u.1) : t = u := (by decide : ∀ t ∈ shapeL, ∀ u ∈ shapeL, t.1 = u.1 → t = u) t ht u hu h
theorem formedB_not {op : List UInt8} {t : List UInt8 × Nat × List Nat} {m : Nat} (ht : t ∈ shapeL) (h : op = t.1) (hc : op ≠ tCallL) (hm : m ≠ t.2.2.length) (n : Int) (s : List UInt8) : formedB op n s m = false := by
  cases hB : formedB op n s m with
  | false => rfl
  | true =>
    rcases formedB_of hB with h1 | ⟨u, hu, h1, h2⟩
    · exact absurd h1 hc
    · have := shapeL_one ht hu (h.symm.trans h1)
      subst this
      exact absurd h2.symm hm
theorem formedB_out {op : List UInt8} (hc : op ≠ tCallL) (h : ¬ ∃ t ∈ shapeL, op = t.1) (n : Int) (s : List UInt8) (m : Nat) : formedB op n s m = false := by
  cases hB : formedB op n s m with
  | false => rfl
  | true =>
    rcases formedB_of hB with h1 | ⟨u, hu, h1, _⟩
    · exact absurd h1 hc
    · exact absurd ⟨u, hu, h1⟩ h
set_option maxRecDepth 100000 in
set_option maxHeartbeats 4000000 in
theorem formed_any (op : ByteArray) (n : Int) (s : ByteArray) (o : Option Addr) (m c : Nat) (w : World) (hm : m ≤ maxLen) :
    Calls Tryz.prog 178 #[.agg #[.string op, .int .i64 n, .string s, .slice o m c]] w fun e w' => Below w.heap.size w w' ∧ e = .returned (.bool (formedB op.toList n s.toList m)) := by
  unfold maxLen at hm
  obtain ⟨fb, hfb⟩ : ∃ fb, fb = formedB op.toList n s.toList m := ⟨_, rfl⟩
  rw [← hfb]
  have HF : Hid (fb = formedB op.toList n s.toList m) := hfb
  clear hfb
  have hbA : Below w.heap.size w (w.alloc (teObj op n s (.slice o m c))) := (Below.refl _ _).alloc (Nat.le_refl _) _
  have HA : Hid _ := heap_alloc_new w (teObj op n s (.slice o m c))
  by_cases hc : op.toList = tCallL
  · have hc' : op.toList = [99, 97, 108, 108] := hc
    have HNO : Hid (∀ t ∈ shapeL, (op.toList == t.1) = false) := by
      show ∀ t ∈ shapeL, (op.toList == t.1) = false
      rw [hc]; decide
    have HE : Hid (formedB op.toList n s.toList m = (n == 0)) := by
      show formedB op.toList n s.toList m = (n == 0)
      rw [hc]; simp [formedB, tCallL, tIntL, tNameL]
    clear hc
    by_cases hn : n = 0
    · subst hn
      go_enter Tryz.func178, Tryz.ntmps178
      go_wp2_with fail
      refine (shapeOf_out op _ HNO.out).mono ?_
      rintro e w1 ⟨rfl, hb1⟩
      obtain ⟨a0, a1, a2, a3, _⟩ := blk4 (row_keep hb1 HA.out)
      have hl1 : w.heap.size < w1.heap.size := lt_of_cell a0
      go_wp2
      exact bodyPost_ret (v := .bool true) (by simp [results, Tryz.results178, go_sem]) rfl ⟨(hbA.trans (hb1.mono (by simp))).alloc (by omega) _, by rw [HF.out, HE.out]; rfl⟩
    · have hn' : (n == 0) = false := by simpa using hn
      clear hn
      go_enter Tryz.func178, Tryz.ntmps178
      go_wp2_with fail
      refine (shapeOf_out op _ HNO.out).mono ?_
      rintro e w1 ⟨rfl, hb1⟩
      obtain ⟨a0, a1, a2, a3, _⟩ := blk4 (row_keep hb1 HA.out)
      have hl1 : w.heap.size < w1.heap.size := lt_of_cell a0
      go_wp2
      exact bodyPost_ret (v := .bool false) (by simp [results, Tryz.results178, go_sem]) rfl ⟨(hbA.trans (hb1.mono (by simp))).alloc (by omega) _, by rw [HF.out, HE.out, hn']⟩
  · have hc' : (op.toList == [99, 97, 108, 108]) = false := by simpa [tCallL] using hc
    by_cases hin : ∃ t ∈ shapeL, op.toList = t.1
    · obtain ⟨t, ht, hop⟩ := hin
      have HOP : Hid (op.toList = t.1) := hop
      have hpl := (by decide : ∀ t ∈ shapeL, t.2.2.length ≤ 3) t ht
      by_cases hl : m = t.2.2.length
      · subst hl
        have HE : Hid _ := formedB_in ht hop n s.toList
        by_cases hi : op.toList = [105, 110, 116]
        · have HI : Hid (formedB op.toList n s.toList t.2.2.length = (decide (0 ≤ n) && decide (n ≤ 127) && s.toList == [])) := by
            show formedB op.toList n s.toList t.2.2.length = _
            rw [HE.out, hi]; rfl
          clear hop hc hc'
          by_cases h0 : 0 ≤ n
          · by_cases h1 : n ≤ 127
            · by_cases hs : s.toList = []
              ·
                go_enter Tryz.func178, Tryz.ntmps178
                go_wp2_with fail
                refine (shapeOf_in op _ t ht HOP.out).mono ?_
                rintro e w1 ⟨hb1, so, sc, rfl, _⟩
                obtain ⟨a0, a1, a2, a3, _⟩ := blk4 (row_keep hb1 HA.out)
                have hl1 : w.heap.size < w1.heap.size := lt_of_cell a0
                go_wp2
                exact bodyPost_ret (v := .bool true) (by simp [results, Tryz.results178, go_sem]) rfl ⟨(hbA.trans (hb1.mono (by simp))).alloc (by omega) _, by rw [HF.out, HI.out]; simp [h0, h1, hs]⟩
              · have hs' : (s.toList == []) = false := by simpa using hs
                go_enter Tryz.func178, Tryz.ntmps178
                go_wp2_with fail
                refine (shapeOf_in op _ t ht HOP.out).mono ?_
                rintro e w1 ⟨hb1, so, sc, rfl, _⟩
                obtain ⟨a0, a1, a2, a3, _⟩ := blk4 (row_keep hb1 HA.out)
                have hl1 : w.heap.size < w1.heap.size := lt_of_cell a0
                go_wp2
                exact bodyPost_ret (v := .bool false) (by simp [results, Tryz.results178, go_sem]) rfl ⟨(hbA.trans (hb1.mono (by simp))).alloc (by omega) _, by rw [HF.out, HI.out, hs', Bool.and_false]⟩
            · have h1' : ¬ (n ≤ 127) := h1
              go_enter Tryz.func178, Tryz.ntmps178
              go_wp2_with fail
              refine (shapeOf_in op _ t ht HOP.out).mono ?_
              rintro e w1 ⟨hb1, so, sc, rfl, _⟩
              obtain ⟨a0, a1, a2, a3, _⟩ := blk4 (row_keep hb1 HA.out)
              have hl1 : w.heap.size < w1.heap.size := lt_of_cell a0
              go_wp2
              exact bodyPost_ret (v := .bool false) (by simp [results, Tryz.results178, go_sem]) rfl ⟨(hbA.trans (hb1.mono (by simp))).alloc (by omega) _, by rw [HF.out, HI.out, decide_eq_false (show ¬ n ≤ 127 by omega)]; simp⟩
          · have h0' : ¬ (0 ≤ n) := h0
            go_enter Tryz.func178, Tryz.ntmps178
            go_wp2_with fail
            refine (shapeOf_in op _ t ht HOP.out).mono ?_
            rintro e w1 ⟨hb1, so, sc, rfl, _⟩
            obtain ⟨a0, a1, a2, a3, _⟩ := blk4 (row_keep hb1 HA.out)
            have hl1 : w.heap.size < w1.heap.size := lt_of_cell a0
            go_wp2
            exact bodyPost_ret (v := .bool false) (by simp [results, Tryz.results178, go_sem]) rfl ⟨(hbA.trans (hb1.mono (by simp))).alloc (by omega) _, by rw [HF.out, HI.out, decide_eq_false (show ¬ 0 ≤ n by omega)]; simp⟩
        · have hi' : (op.toList == [105, 110, 116]) = false := by simpa using hi
          by_cases hnm : op.toList = [110, 97, 109, 101]
          · have HI : Hid (formedB op.toList n s.toList t.2.2.length = (n == 0)) := by
              show formedB op.toList n s.toList t.2.2.length = _
              rw [HE.out, hnm]; rfl
            clear hop hc hc' hi hi'
            by_cases hn : n = 0
            · subst hn
              go_enter Tryz.func178, Tryz.ntmps178
              go_wp2_with fail
              refine (shapeOf_in op _ t ht HOP.out).mono ?_
              rintro e w1 ⟨hb1, so, sc, rfl, _⟩
              obtain ⟨a0, a1, a2, a3, _⟩ := blk4 (row_keep hb1 HA.out)
              have hl1 : w.heap.size < w1.heap.size := lt_of_cell a0
              go_wp2
              exact bodyPost_ret (v := .bool true) (by simp [results, Tryz.results178, go_sem]) rfl ⟨(hbA.trans (hb1.mono (by simp))).alloc (by omega) _, by rw [HF.out, HI.out]; rfl⟩
            · have hn' : (n == 0) = false := by simpa using hn
              clear hn
              go_enter Tryz.func178, Tryz.ntmps178
              go_wp2_with fail
              refine (shapeOf_in op _ t ht HOP.out).mono ?_
              rintro e w1 ⟨hb1, so, sc, rfl, _⟩
              obtain ⟨a0, a1, a2, a3, _⟩ := blk4 (row_keep hb1 HA.out)
              have hl1 : w.heap.size < w1.heap.size := lt_of_cell a0
              go_wp2
              exact bodyPost_ret (v := .bool false) (by simp [results, Tryz.results178, go_sem]) rfl ⟨(hbA.trans (hb1.mono (by simp))).alloc (by omega) _, by rw [HF.out, HI.out, hn']⟩
          · have hnm' : (op.toList == [110, 97, 109, 101]) = false := by simpa using hnm
            have HI : Hid (formedB op.toList n s.toList t.2.2.length = (n == 0 && s.toList == [])) := by
              show formedB op.toList n s.toList t.2.2.length = _
              rw [HE.out]
              have e1 : (op.toList == tIntL) = false := hi'
              have e2 : (op.toList == tNameL) = false := hnm'
              have e3 : (op.toList == tCallL) = false := hc'
              simp [e1, e2, e3]
            clear hop hc hi hnm
            by_cases hn : n = 0
            · subst hn
              by_cases hs : s.toList = []
              ·
                go_enter Tryz.func178, Tryz.ntmps178
                go_wp2_with fail
                refine (shapeOf_in op _ t ht HOP.out).mono ?_
                rintro e w1 ⟨hb1, so, sc, rfl, _⟩
                obtain ⟨a0, a1, a2, a3, _⟩ := blk4 (row_keep hb1 HA.out)
                have hl1 : w.heap.size < w1.heap.size := lt_of_cell a0
                go_wp2
                exact bodyPost_ret (v := .bool true) (by simp [results, Tryz.results178, go_sem]) rfl ⟨(hbA.trans (hb1.mono (by simp))).alloc (by omega) _, by rw [HF.out, HI.out]; simp [hs]⟩
              · have hs' : (s.toList == []) = false := by simpa using hs
                go_enter Tryz.func178, Tryz.ntmps178
                go_wp2_with fail
                refine (shapeOf_in op _ t ht HOP.out).mono ?_
                rintro e w1 ⟨hb1, so, sc, rfl, _⟩
                obtain ⟨a0, a1, a2, a3, _⟩ := blk4 (row_keep hb1 HA.out)
                have hl1 : w.heap.size < w1.heap.size := lt_of_cell a0
                go_wp2
                exact bodyPost_ret (v := .bool false) (by simp [results, Tryz.results178, go_sem]) rfl ⟨(hbA.trans (hb1.mono (by simp))).alloc (by omega) _, by rw [HF.out, HI.out, hs', Bool.and_false]⟩
            · have hn' : (n == 0) = false := by simpa using hn
              clear hn
              go_enter Tryz.func178, Tryz.ntmps178
              go_wp2_with fail
              refine (shapeOf_in op _ t ht HOP.out).mono ?_
              rintro e w1 ⟨hb1, so, sc, rfl, _⟩
              obtain ⟨a0, a1, a2, a3, _⟩ := blk4 (row_keep hb1 HA.out)
              have hl1 : w.heap.size < w1.heap.size := lt_of_cell a0
              go_wp2
              exact bodyPost_ret (v := .bool false) (by simp [results, Tryz.results178, go_sem]) rfl ⟨(hbA.trans (hb1.mono (by simp))).alloc (by omega) _, by rw [HF.out, HI.out, hn', Bool.false_and]⟩
      · have hl' : ((m : Int) == (t.2.2.length : Int)) = false := by simp; omega
        have HE : Hid _ := formedB_not ht hop hc hl n s.toList
        clear hop hc hl
        go_enter Tryz.func178, Tryz.ntmps178
        go_wp2_with fail
        refine (shapeOf_in op _ t ht HOP.out).mono ?_
        rintro e w1 ⟨hb1, so, sc, rfl, _⟩
        obtain ⟨a0, a1, a2, a3, _⟩ := blk4 (row_keep hb1 HA.out)
        have hl1 : w.heap.size < w1.heap.size := lt_of_cell a0
        go_wp2
        exact bodyPost_ret (v := .bool false) (by simp [results, Tryz.results178, go_sem]) rfl ⟨(hbA.trans (hb1.mono (by simp))).alloc (by omega) _, by rw [HF.out, HE.out]⟩
    · have HNO : Hid (∀ t ∈ shapeL, (op.toList == t.1) = false) := by
        show ∀ t ∈ shapeL, (op.toList == t.1) = false
        intro t ht
        simp only [beq_eq_false_iff_ne]
        exact fun e => hin ⟨t, ht, e⟩
      have HE : Hid _ := formedB_out hc hin n s.toList m
      clear hc hin
      go_enter Tryz.func178, Tryz.ntmps178
      go_wp2_with fail
      refine (shapeOf_out op _ HNO.out).mono ?_
      rintro e w1 ⟨rfl, hb1⟩
      obtain ⟨a0, a1, a2, a3, _⟩ := blk4 (row_keep hb1 HA.out)
      have hl1 : w.heap.size < w1.heap.size := lt_of_cell a0
      go_wp2
      exact bodyPost_ret (v := .bool false) (by simp [results, Tryz.results178, go_sem]) rfl ⟨(hbA.trans (hb1.mono (by simp))).alloc (by omega) _, by rw [HF.out, HE.out]⟩
end Go.Proofs.YtglkpgcmlbhkpabGreatDoor

/-
  package tree's WRITER: shape BY ITS CONTRACT, whatever the term.
-/
namespace Go.Proofs.YtglkpgcmlbhkpabGreatDoor
open Go.RowKit
attribute [local go_sem ↓] Go.wp_at_zero Go.wp_at_succ

/-- A shape, of so many parts; or it was given up. -/
def ShapeAny (pS : Addr) (op : ByteArray) (n : Int) (s : ByteArray) (m : Nat) (w : World) (e : Ending) (w' : World) : Prop := Below w.heap.size w w' ∧ ((∃ (lv : Nat) (ps : List Nat) (so : Option Addr) (sc : Nat), e = .returned (.agg #[.int .i64 lv, .slice so ps.length sc]) ∧ PartsAt w' w.heap.size so sc ps ∧ formedB op.toList n s.toList m = true ∧ ((op.toList = tCallL ∧ lv = 8 ∧ ps = []) ∨ ∃ t ∈ shapeL, op.toList = t.1 ∧ t.2.1 = lv ∧ t.2.2 = ps ∧ ps.length = m)) ∨ (WThrew pS e ∧ formedB op.toList n s.toList m = false))
abbrev shObj (lv : Int) (v : Value) : Obj := .cells #[.int .i64 lv, v] 299
theorem PartsAt.keep {w w' : World} {base base' : Nat} {o : Option Addr} {c : Nat} {ps : List Nat} (h : PartsAt w base o c ps) (hb : base' ≤ base) (hs : Stays (From base) (From base') w w') : PartsAt w' base' o c ps := by
  rcases h with h | ⟨q, h1, h2, h3, h4⟩
  · exact Or.inl h
  · exact Or.inr ⟨q, by omega, h2, h3, ((hs q h1 (Array.getElem?_eq_some_iff.1 h4).1).2).trans h4⟩
set_option maxRecDepth 100000 in
set_option maxHeartbeats 1000000 in
theorem wshape_any (b : Nat) (pS : Addr) (op : ByteArray) (n : Int) (s : ByteArray) (o : Option Addr) (m c : Nat) (w : World) (hm : m ≤ maxLen) (hE : w.cell? ⟨0, 0, none⟩ = some (.iface 325 (.pointer (some pS)))) :
    Calls Tryz.prog 211 #[.pointer (some ⟨b, 0, none⟩), .agg #[.string op, .int .i64 n, .string s, .slice o m c]] w (ShapeAny pS op n s m w) := by
  have hbA : Below w.heap.size w ((w.alloc (teObj op n s (.slice o m c))).alloc (shObj 0 (.slice none 0 0))) := ((Below.refl _ _).alloc (Nat.le_refl _) _).alloc (by simp) _
  have HA : Hid _ := alloc_row (shObj 0 (.slice none 0 0)) (heap_alloc_new w (teObj op n s (.slice o m c)))
  have HB : Hid _ := two_new w (teObj op n s (.slice o m c)) (shObj 0 (.slice none 0 0))
  obtain ⟨fb, hfb⟩ : ∃ fb, fb = formedB op.toList n s.toList m := ⟨_, rfl⟩
  have HF : Hid (∀ w0, Calls Tryz.prog 178 #[.agg #[.string op, .int .i64 n, .string s, .slice o m c]] w0 fun e w' => Below w0.heap.size w0 w' ∧ e = .returned (.bool fb)) := fun w0 => hfb ▸ formed_any op n s o m c w0 hm
  cases fb with
  | false =>
    have HX : Hid (formedB op.toList n s.toList m = false) := hfb.symm
    clear hfb
    go_enter Tryz.func211, Tryz.ntmps211
    go_wp2_with fail
    refine (HF.out _).mono ?_
    rintro e w0 ⟨hb0, rfl⟩
    have hE0 := cell_keep hb0 (cell_keep hbA hE)
    go_wp2_with fail
    refine (wfail_any b pS _ hE0).mono ?_
    rintro e w3 ⟨ht, rfl⟩
    unfold WThrew at ht
    subst ht
    go_wp2
    exact ⟨rfl, hbA.trans (hb0.mono (by simp; omega)), Or.inr ⟨rfl, HX.out⟩⟩
  | true =>
    have HX : Hid (formedB op.toList n s.toList m = true) := hfb.symm
    have hof := formedB_of hfb.symm
    clear hfb
    by_cases hc : op.toList = tCallL
    · have hc' : (op.toList == [99, 97, 108, 108]) = true := by rw [hc]; rfl
      have HC : Hid (op.toList = tCallL) := hc
      clear hc hof
      go_enter Tryz.func211, Tryz.ntmps211
      go_wp2_with fail
      refine (HF.out _).mono ?_
      rintro e w0 ⟨hb0, rfl⟩
      have HA0 : Hid _ := row_keep hb0 HA.out
      have HB0 : Hid _ := row_keep hb0 HB.out
      obtain ⟨x0, x1, x2, x3, _⟩ := blk4 HA0.out
      obtain ⟨b0, b1, bf⟩ := blk2 HB0.out
      have bf0 := bf 0
      have bf1 := bf 1
      have hl0 : w.heap.size < w0.heap.size := lt_of_cell x0
      have hl2 : w.heap.size + 1 < w0.heap.size := lt_of_cell b0
      clear bf
      go_wp2
      obtain ⟨y0, y1, _⟩ := blk2 (set_row (k := 1) (v := .slice none 0 0) (set_row (k := 0) (v := .int .i64 8) HB0.out))
      exact bodyPost_ret (v := .agg #[.int .i64 8, .slice none 0 0]) (by simp [results, Tryz.results211, go_sem, y0, y1]) rfl ⟨((hbA.trans (hb0.mono (by simp; omega))).setCell (by show w.heap.size ≤ w.heap.size + 1; omega) _).setCell (by show w.heap.size ≤ w.heap.size + 1; omega) _, Or.inl ⟨8, [], none, 0, rfl, Or.inl ⟨rfl, rfl, rfl⟩, HX.out, Or.inl ⟨HC.out, rfl, rfl⟩⟩⟩
    · obtain ⟨t, ht, hop, rfl⟩ := hof.resolve_left hc
      have hc' : (op.toList == [99, 97, 108, 108]) = false := by simpa [tCallL] using hc
      have HOP : Hid (op.toList = t.1) := hop
      clear hop hc hof
      go_enter Tryz.func211, Tryz.ntmps211
      go_wp2_with fail
      refine (HF.out _).mono ?_
      rintro e w0 ⟨hb0, rfl⟩
      have HA0 : Hid _ := row_keep hb0 HA.out
      have HB0 : Hid _ := row_keep hb0 HB.out
      obtain ⟨x0, x1, x2, x3, _⟩ := blk4 HA0.out
      have hl0 : w.heap.size < w0.heap.size := lt_of_cell x0
      go_wp2_with fail
      refine (shapeOf_in op _ t ht HOP.out).mono ?_
      rintro e w1 ⟨hb1, so, sc, rfl, hrow⟩
      obtain ⟨a0, a1, a2, a3, _⟩ := blk4 (row_keep hb1 HA0.out)
      obtain ⟨b0, b1, bf⟩ := blk2 (row_keep hb1 HB0.out)
      have bf0 := bf 0
      have bf1 := bf 1
      have hl1 : w.heap.size < w1.heap.size := lt_of_cell a0
      have hl2 : w.heap.size + 1 < w1.heap.size := lt_of_cell b0
      have HRow : Hid _ := hrow
      have hpl := (by decide : ∀ t ∈ shapeL, t.2.2.length ≤ 3) t ht
      clear hrow bf
      go_wp2
      have hr := alloc_row (shObj t.2.1 (.slice so t.2.2.length sc)) (set_row (k := 1) (v := .slice so t.2.2.length sc) (set_row (k := 0) (v := .int .i64 t.2.1) (row_keep hb1 HB0.out)))
      obtain ⟨y0, y1, _⟩ := blk2 hr
      have hs0 := hb0.size
      simp only [World.size_alloc] at hs0
      have St : Stays (From w0.heap.size) (From w.heap.size) w1 (((w1.setCell ⟨w.heap.size + 1, 0, none⟩ (.int .i64 t.2.1)).setCell ⟨w.heap.size + 1, 1, none⟩ (.slice so t.2.2.length sc)).alloc (shObj t.2.1 (.slice so t.2.2.length sc))) := ((Stays.set (S' := From (w.heap.size + 1 + 1)) (p := ⟨w.heap.size + 1, 0, none⟩) _ (fun k hk => by unfold From at hk ⊢; exact ⟨by show k ≠ w.heap.size + 1; omega, by omega⟩)).trans (Stays.set (S' := From (w.heap.size + 1 + 1)) (p := ⟨w.heap.size + 1, 1, none⟩) _ (fun k hk => by unfold From at hk ⊢; exact ⟨by show k ≠ w.heap.size + 1; omega, hk⟩)) (by simp)).trans (Stays.alloc _ (fun k hk => by unfold From at hk ⊢; omega)) (by simp)
      exact bodyPost_ret (v := .agg #[.int .i64 t.2.1, .slice so t.2.2.length sc]) (by simp [results, Tryz.results211, go_sem, y0, y1]) rfl ⟨((((hbA.trans (hb0.mono (by simp; omega))).trans (hb1.mono (by omega))).setCell (by show w.heap.size ≤ w.heap.size + 1; omega) _).setCell (by show w.heap.size ≤ w.heap.size + 1; omega) _).alloc (by simp; omega) _, Or.inl ⟨t.2.1, t.2.2, so, sc, rfl, PartsAt.keep HRow.out (by omega) St, HX.out, Or.inr ⟨t, ht, HOP.out, rfl, rfl, rfl⟩⟩⟩
end Go.Proofs.YtglkpgcmlbhkpabGreatDoor

/-
  package tree's WRITER: a part of a term, by what is known of terms that are smaller.
-/
namespace Go.Proofs.YtglkpgcmlbhkpabGreatDoor
open Go.RowKit
attribute [local go_sem ↓] Go.wp_at_zero Go.wp_at_succ

/-- term, of terms that are smaller: it writes on, or it gives up. -/
abbrev TermAny (B b : Nat) (pS : Addr) (m : Nat) : Prop := ∀ (op : ByteArray) (n : Int) (s : ByteArray) (l : List Ex), SizeOf.sizeOf l < m → ∀ (w : World) (d : Nat) (o : Option Addr) (c : Nat) (ys : List Value) (least : Int), d ≤ 6000 → WSt B b d pS w → RowAt w (fun k => k < B) 4 (.slice o l.length c) l.length ys → ExIn w (fun k => k < B) l ys →
    Calls Tryz.prog 185 #[.pointer (some ⟨b, 0, none⟩), .agg #[.string op, .int .i64 n, .string s, .slice o l.length c], .int .i64 least] w fun e w' => WAny B b d pS w e w'
theorem intCells_at {ps : List Nat} {i : Nat} (hi : i < ps.length) : (intCells ps)[i]? = some (.int .i64 (ps[i] : Nat)) := by
  simp [intCells, hi]
set_option maxRecDepth 100000 in
set_option maxHeartbeats 4000000 in
theorem part_any (B b : Nat) (pS : Addr) (m : Nat) (IH : TermAny B b pS m) (op : ByteArray) (n : Int) (s : ByteArray) (l : List Ex) (hm : SizeOf.sizeOf l < m + 1) (w : World) (d : Nat) (o : Option Addr) (c : Nat) (ys : List Value) (hd : d ≤ 6000) (h : WSt B b d pS w) (h1 : RowAt w (fun k => k < B) 4 (.slice o l.length c) l.length ys) (h2 : ExIn w (fun k => k < B) l ys) (bw be bs q : Nat) (lv : Int) (ps : List Nat) (i : Nat) (hi : i < l.length) (hp : i < ps.length)
    (r1 : w.heap[bw]? = some (.cells #[.pointer (some ⟨b, 0, none⟩)] 85 (0, 0))) (r2 : w.heap[be]? = some (teObj op n s (.slice o l.length c))) (r3 : w.heap[bs]? = some (shObj lv (.slice (some ⟨q, 0, none⟩) ps.length ps.length))) (r4 : w.heap[q]? = some (.cells (intCells ps).toArray 3 (0, 0))) :
    Calls Tryz.prog 228 #[.int .i64 i, .pointer (some ⟨bw, 0, none⟩), .pointer (some ⟨be, 0, none⟩), .pointer (some ⟨bs, 0, none⟩)] w fun e w' => WAny B b d pS w e w' := by
  obtain ⟨op', n', s', es, oo, cc, zs, e, x0, x1, x2, x3, t1, t2⟩ := h2.at hi
  obtain ⟨p, f, rfl, _, g⟩ := row_get h1 (by have := h1.1; omega)
  have x0 := g _ _ x0
  have x1 := g _ _ x1
  have x2 := g _ _ x2
  have x3 := g _ _ x3
  rw [← Nat.add_assoc] at x1 x2 x3
  have hsz := size_part hi e
  have i0 : (0 : Int) ≤ (i : Int) := by omega
  have i1 : (i : Int) < (l.length : Int) := by omega
  have i2 : (i : Int) < (ps.length : Int) := by omega
  have y1 := (tblk1 r1).1
  have y2 := (blk4 r2).2.2.2.1
  have y3 := (blk2 r3).2.1
  have y4 : w.cell? ⟨q, i, none⟩ = some (.int .i64 (ps[i] : Nat)) := by
    rw [cell_of_row w q i _ _ _ r4]; simpa using intCells_at hp
  have Hr : Hid (Calls Tryz.prog 185 #[.pointer (some ⟨b, 0, none⟩), .agg #[.string op', .int .i64 n', .string s', .slice oo es.length cc], .int .i64 (ps[i] : Nat)] w.drew fun e w' => WAny B b d pS w.drew e w') := IH op' n' s' es (by omega) w.drew d oo cc zs _ hd ⟨h.wt, h.err, h.low, h.tab, h.low2⟩ t1 (t2.keep (Stays.below (Below.drew (Below.refl _ _)) (fun _ hk => hk)))
  clear g r1 r2 r3 r4 h1 h2 IH t1 t2
  go_enter Tryz.func228, Tryz.ntmps228
  go_wp2
  go_region_law (refine step_call rfl 185 #[.pointer (some ⟨b, 0, none⟩), .agg #[.string op', .int .i64 n', .string s', .slice oo es.length cc], .int .i64 (ps[i] : Nat)] (by kernel_rfl) ?_; refine Hr.out.mono ?_; rintro e w4 ⟨b4, k4, h4⟩; rcases h4 with ⟨l4, rfl, h4, g4⟩ | ht; rotate_left; (unfold WThrew at ht; subst ht; exact ⟨rfl, Below.trans (Below.drew (Below.refl B w)) b4, k4, Or.inr rfl⟩); dsimp only)
  all_goals
    go_wp2
    go_end0
    exact ⟨Below.trans (Below.drew (Below.refl B w)) b4, k4, Or.inl ⟨l4, rfl, h4, g4⟩⟩
end Go.Proofs.YtglkpgcmlbhkpabGreatDoor
