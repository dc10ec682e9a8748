/-
  tree.Formed BY ITS CONTRACT.
-/
import Derived.Test.YtglkpgcmlbhkpabGreatDoorQ29
import Derived.Test.YtglkpgcmlbhkpabGreatDoorQ21
import Derived.Test.YtglkpgcmlbhkpabGreatDoorQ20
namespace Go.Proofs.YtglkpgcmlbhkpabGreatDoor
open Go.RowKit
attribute [local go_sem ↓] Go.wp_at_zero Go.wp_at_succ

def tCallL : List UInt8 := [99, 97, 108, 108]
def tIntL : List UInt8 := [105, 110, 116]
def tNameL : List UInt8 := [110, 97, 109, 101]
/-- A term is formed as its operator's are, what is in its parts aside. -/
def formedB (op : List UInt8) (n : Int) (s : List UInt8) (m : Nat) : Bool := (op == tCallL || shapeL.any fun t => op == t.1 && m == t.2.2.length) && (if op == tIntL then decide (0 ≤ n) && decide (n ≤ 127) && s == [] else if op == tNameL || op == tCallL then n == 0 else n == 0 && s == [])
theorem formedB_of {op : List UInt8} {n : Int} {s : List UInt8} {m : Nat} (h : formedB op n s m = true) : op = tCallL ∨ ∃ t ∈ shapeL, op = t.1 ∧ t.2.2.length = m := by
  simp only [formedB, Bool.and_eq_true, Bool.or_eq_true, beq_iff_eq, List.any_eq_true] at h
  rcases h.1 with h | ⟨t, ht, h1, h2⟩
  · exact Or.inl h
  · exact Or.inr ⟨t, ht, h1, h2.symm⟩
theorem formedB_in {op : List UInt8} {t : List UInt8 × Nat × List Nat} (ht : t ∈ shapeL) (h : op = t.1) (n : Int) (s : List UInt8) : formedB op n s t.2.2.length = (if op == tIntL then decide (0 ≤ n) && decide (n ≤ 127) && s == [] else if op == tNameL || op == tCallL then n == 0 else n == 0 && s == []) := by
  have h1 : (op == tCallL || shapeL.any fun u => op == u.1 && t.2.2.length == u.2.2.length) = true := by
    simp only [Bool.or_eq_true, List.any_eq_true]
    exact Or.inr ⟨t, ht, by simp [h]⟩
  unfold formedB
  rw [h1, Bool.true_and]
theorem shapeL_one {t u : List UInt8 × Nat × List Nat} (ht : t ∈ shapeL) (hu : u ∈ shapeL) (h : t.1 = u.1) : t = u := (by decide : ∀ t ∈ shapeL, ∀ u ∈ shapeL, t.1 = u.1 → t = u) t ht u hu h
theorem formedB_not {op : List UInt8} {t : List UInt8 × Nat × List Nat} {m : Nat} (ht : t ∈ shapeL) (h : op = t.1) (hc : op ≠ tCallL) (hm : m ≠ t.2.2.length) (n : Int) (s : List UInt8) : formedB op n s m = false := by
  cases hB : formedB op n s m with
  | false => rfl
  | true =>
    rcases formedB_of hB with h1 | ⟨u, hu, h1, h2⟩
    · exact absurd h1 hc
    · have := shapeL_one ht hu (h.symm.trans h1)
      subst this
      exact absurd h2.symm hm
theorem formedB_out {op : List UInt8} (hc : op ≠ tCallL) (h : ¬ ∃ t ∈ shapeL, op = t.1) (n : Int) (s : List UInt8) (m : Nat) : formedB op n s m = false := by
  cases hB : formedB op n s m with
  | false => rfl
  | true =>
    rcases formedB_of hB with h1 | ⟨u, hu, h1, _⟩
    · exact absurd h1 hc
    · exact absurd ⟨u, hu, h1⟩ h
set_option maxRecDepth 100000 in
set_option maxHeartbeats 4000000 in
theorem formed_any (op : ByteArray) (n : Int) (s : ByteArray) (o : Option Addr) (m c : Nat) (w : World) (hm : m ≤ maxLen) :
    Calls Tryz.prog 178 #[.agg #[.string op, .int .i64 n, .string s, .slice o m c]] w fun e w' => Below w.heap.size w w' ∧ e = .returned (.bool (formedB op.toList n s.toList m)) := by
  unfold maxLen at hm
  obtain ⟨fb, hfb⟩ : ∃ fb, fb = formedB op.toList n s.toList m := ⟨_, rfl⟩
  rw [← hfb]
  have HF : Hid (fb = formedB op.toList n s.toList m) := hfb
  clear hfb
  have hbA : Below w.heap.size w (w.alloc (teObj op n s (.slice o m c))) := (Below.refl _ _).alloc (Nat.le_refl _) _
  have HA : Hid _ := heap_alloc_new w (teObj op n s (.slice o m c))
  by_cases hc : op.toList = tCallL
  · have hc' : op.toList = [99, 97, 108, 108] := hc
    have HNO : Hid (∀ t ∈ shapeL, (op.toList == t.1) = false) := by
      show ∀ t ∈ shapeL, (op.toList == t.1) = false
      rw [hc]; decide
    have HE : Hid (formedB op.toList n s.toList m = (n == 0)) := by
      show formedB op.toList n s.toList m = (n == 0)
      rw [hc]; simp [formedB, tCallL, tIntL, tNameL]
    clear hc
    by_cases hn : n = 0
    · subst hn
      go_enter Tryz.func178, Tryz.ntmps178
      go_wp2_with fail
      refine (shapeOf_out op _ HNO.out).mono ?_
      rintro e w1 ⟨rfl, hb1⟩
      obtain ⟨a0, a1, a2, a3, _⟩ := blk4 (row_keep hb1 HA.out)
      have hl1 : w.heap.size < w1.heap.size := lt_of_cell a0
      go_wp2
      exact bodyPost_ret (v := .bool true) (by simp [results, Tryz.results178, go_sem]) rfl ⟨(hbA.trans (hb1.mono (by simp))).alloc (by omega) _, by rw [HF.out, HE.out]; rfl⟩
    · have hn' : (n == 0) = false := by simpa using hn
      clear hn
      go_enter Tryz.func178, Tryz.ntmps178
      go_wp2_with fail
      refine (shapeOf_out op _ HNO.out).mono ?_
      rintro e w1 ⟨rfl, hb1⟩
      obtain ⟨a0, a1, a2, a3, _⟩ := blk4 (row_keep hb1 HA.out)
      have hl1 : w.heap.size < w1.heap.size := lt_of_cell a0
      go_wp2
      exact bodyPost_ret (v := .bool false) (by simp [results, Tryz.results178, go_sem]) rfl ⟨(hbA.trans (hb1.mono (by simp))).alloc (by omega) _, by rw [HF.out, HE.out, hn']⟩
  · have hc' : (op.toList == [99, 97, 108, 108]) = false := by simpa [tCallL] using hc
    by_cases hin : ∃ t ∈ shapeL, op.toList = t.1
    · obtain ⟨t, ht, hop⟩ := hin
      have HOP : Hid (op.toList = t.1) := hop
      have hpl := (by decide : ∀ t ∈ shapeL, t.2.2.length ≤ 3) t ht
      by_cases hl : m = t.2.2.length
      · subst hl
        have HE : Hid _ := formedB_in ht hop n s.toList
        by_cases hi : op.toList = [105, 110, 116]
        · have HI : Hid (formedB op.toList n s.toList t.2.2.length = (decide (0 ≤ n) && decide (n ≤ 127) && s.toList == [])) := by
            show formedB op.toList n s.toList t.2.2.length = _
            rw [HE.out, hi]; rfl
          clear hop hc hc'
          by_cases h0 : 0 ≤ n
          · by_cases h1 : n ≤ 127
            · by_cases hs : s.toList = []
              ·
                go_enter Tryz.func178, Tryz.ntmps178
                go_wp2_with fail
                refine (shapeOf_in op _ t ht HOP.out).mono ?_
                rintro e w1 ⟨hb1, so, sc, rfl, _⟩
                obtain ⟨a0, a1, a2, a3, _⟩ := blk4 (row_keep hb1 HA.out)
                have hl1 : w.heap.size < w1.heap.size := lt_of_cell a0
                go_wp2
                exact bodyPost_ret (v := .bool true) (by simp [results, Tryz.results178, go_sem]) rfl ⟨(hbA.trans (hb1.mono (by simp))).alloc (by omega) _, by rw [HF.out, HI.out]; simp [h0, h1, hs]⟩
              · have hs' : (s.toList == []) = false := by simpa using hs
                go_enter Tryz.func178, Tryz.ntmps178
                go_wp2_with fail
                refine (shapeOf_in op _ t ht HOP.out).mono ?_
                rintro e w1 ⟨hb1, so, sc, rfl, _⟩
                obtain ⟨a0, a1, a2, a3, _⟩ := blk4 (row_keep hb1 HA.out)
                have hl1 : w.heap.size < w1.heap.size := lt_of_cell a0
                go_wp2
                exact bodyPost_ret (v := .bool false) (by simp [results, Tryz.results178, go_sem]) rfl ⟨(hbA.trans (hb1.mono (by simp))).alloc (by omega) _, by rw [HF.out, HI.out, hs', Bool.and_false]⟩
            · have h1' : ¬ (n ≤ 127) := h1
              go_enter Tryz.func178, Tryz.ntmps178
              go_wp2_with fail
              refine (shapeOf_in op _ t ht HOP.out).mono ?_
              rintro e w1 ⟨hb1, so, sc, rfl, _⟩
              obtain ⟨a0, a1, a2, a3, _⟩ := blk4 (row_keep hb1 HA.out)
              have hl1 : w.heap.size < w1.heap.size := lt_of_cell a0
              go_wp2
              exact bodyPost_ret (v := .bool false) (by simp [results, Tryz.results178, go_sem]) rfl ⟨(hbA.trans (hb1.mono (by simp))).alloc (by omega) _, by rw [HF.out, HI.out, decide_eq_false (show ¬ n ≤ 127 by omega)]; simp⟩
          · have h0' : ¬ (0 ≤ n) := h0
            go_enter Tryz.func178, Tryz.ntmps178
            go_wp2_with fail
            refine (shapeOf_in op _ t ht HOP.out).mono ?_
            rintro e w1 ⟨hb1, so, sc, rfl, _⟩
            obtain ⟨a0, a1, a2, a3, _⟩ := blk4 (row_keep hb1 HA.out)
            have hl1 : w.heap.size < w1.heap.size := lt_of_cell a0
            go_wp2
            exact bodyPost_ret (v := .bool false) (by simp [results, Tryz.results178, go_sem]) rfl ⟨(hbA.trans (hb1.mono (by simp))).alloc (by omega) _, by rw [HF.out, HI.out, decide_eq_false (show ¬ 0 ≤ n by omega)]; simp⟩
        · have hi' : (op.toList == [105, 110, 116]) = false := by simpa using hi
          by_cases hnm : op.toList = [110, 97, 109, 101]
          · have HI : Hid (formedB op.toList n s.toList t.2.2.length = (n == 0)) := by
              show formedB op.toList n s.toList t.2.2.length = _
              rw [HE.out, hnm]; rfl
            clear hop hc hc' hi hi'
            by_cases hn : n = 0
            · subst hn
              go_enter Tryz.func178, Tryz.ntmps178
              go_wp2_with fail
              refine (shapeOf_in op _ t ht HOP.out).mono ?_
              rintro e w1 ⟨hb1, so, sc, rfl, _⟩
              obtain ⟨a0, a1, a2, a3, _⟩ := blk4 (row_keep hb1 HA.out)
              have hl1 : w.heap.size < w1.heap.size := lt_of_cell a0
              go_wp2
              exact bodyPost_ret (v := .bool true) (by simp [results, Tryz.results178, go_sem]) rfl ⟨(hbA.trans (hb1.mono (by simp))).alloc (by omega) _, by rw [HF.out, HI.out]; rfl⟩
            · have hn' : (n == 0) = false := by simpa using hn
              clear hn
              go_enter Tryz.func178, Tryz.ntmps178
              go_wp2_with fail
              refine (shapeOf_in op _ t ht HOP.out).mono ?_
              rintro e w1 ⟨hb1, so, sc, rfl, _⟩
              obtain ⟨a0, a1, a2, a3, _⟩ := blk4 (row_keep hb1 HA.out)
              have hl1 : w.heap.size < w1.heap.size := lt_of_cell a0
              go_wp2
              exact bodyPost_ret (v := .bool false) (by simp [results, Tryz.results178, go_sem]) rfl ⟨(hbA.trans (hb1.mono (by simp))).alloc (by omega) _, by rw [HF.out, HI.out, hn']⟩
          · have hnm' : (op.toList == [110, 97, 109, 101]) = false := by simpa using hnm
            have HI : Hid (formedB op.toList n s.toList t.2.2.length = (n == 0 && s.toList == [])) := by
              show formedB op.toList n s.toList t.2.2.length = _
              rw [HE.out]
              have e1 : (op.toList == tIntL) = false := hi'
              have e2 : (op.toList == tNameL) = false := hnm'
              have e3 : (op.toList == tCallL) = false := hc'
              simp [e1, e2, e3]
            clear hop hc hi hnm
            by_cases hn : n = 0
            · subst hn
              by_cases hs : s.toList = []
              ·
                go_enter Tryz.func178, Tryz.ntmps178
                go_wp2_with fail
                refine (shapeOf_in op _ t ht HOP.out).mono ?_
                rintro e w1 ⟨hb1, so, sc, rfl, _⟩
                obtain ⟨a0, a1, a2, a3, _⟩ := blk4 (row_keep hb1 HA.out)
                have hl1 : w.heap.size < w1.heap.size := lt_of_cell a0
                go_wp2
                exact bodyPost_ret (v := .bool true) (by simp [results, Tryz.results178, go_sem]) rfl ⟨(hbA.trans (hb1.mono (by simp))).alloc (by omega) _, by rw [HF.out, HI.out]; simp [hs]⟩
              · have hs' : (s.toList == []) = false := by simpa using hs
                go_enter Tryz.func178, Tryz.ntmps178
                go_wp2_with fail
                refine (shapeOf_in op _ t ht HOP.out).mono ?_
                rintro e w1 ⟨hb1, so, sc, rfl, _⟩
                obtain ⟨a0, a1, a2, a3, _⟩ := blk4 (row_keep hb1 HA.out)
                have hl1 : w.heap.size < w1.heap.size := lt_of_cell a0
                go_wp2
                exact bodyPost_ret (v := .bool false) (by simp [results, Tryz.results178, go_sem]) rfl ⟨(hbA.trans (hb1.mono (by simp))).alloc (by omega) _, by rw [HF.out, HI.out, hs', Bool.and_false]⟩
            · have hn' : (n == 0) = false := by simpa using hn
              clear hn
              go_enter Tryz.func178, Tryz.ntmps178
              go_wp2_with fail
              refine (shapeOf_in op _ t ht HOP.out).mono ?_
              rintro e w1 ⟨hb1, so, sc, rfl, _⟩
              obtain ⟨a0, a1, a2, a3, _⟩ := blk4 (row_keep hb1 HA.out)
              have hl1 : w.heap.size < w1.heap.size := lt_of_cell a0
              go_wp2
              exact bodyPost_ret (v := .bool false) (by simp [results, Tryz.results178, go_sem]) rfl ⟨(hbA.trans (hb1.mono (by simp))).alloc (by omega) _, by rw [HF.out, HI.out, hn', Bool.false_and]⟩
      · have hl' : ((m : Int) == (t.2.2.length : Int)) = false := by simp; omega
        have HE : Hid _ := formedB_not ht hop hc hl n s.toList
        clear hop hc hl
        go_enter Tryz.func178, Tryz.ntmps178
        go_wp2_with fail
        refine (shapeOf_in op _ t ht HOP.out).mono ?_
        rintro e w1 ⟨hb1, so, sc, rfl, _⟩
        obtain ⟨a0, a1, a2, a3, _⟩ := blk4 (row_keep hb1 HA.out)
        have hl1 : w.heap.size < w1.heap.size := lt_of_cell a0
        go_wp2
        exact bodyPost_ret (v := .bool false) (by simp [results, Tryz.results178, go_sem]) rfl ⟨(hbA.trans (hb1.mono (by simp))).alloc (by omega) _, by rw [HF.out, HE.out]⟩
    · have HNO : Hid (∀ t ∈ shapeL, (op.toList == t.1) = false) := by
        show ∀ t ∈ shapeL, (op.toList == t.1) = false
        intro t ht
        simp only [beq_eq_false_iff_ne]
        exact fun e => hin ⟨t, ht, e⟩
      have HE : Hid _ := formedB_out hc hin n s.toList m
      clear hc hin
      go_enter Tryz.func178, Tryz.ntmps178
      go_wp2_with fail
      refine (shapeOf_out op _ HNO.out).mono ?_
      rintro e w1 ⟨rfl, hb1⟩
      obtain ⟨a0, a1, a2, a3, _⟩ := blk4 (row_keep hb1 HA.out)
      have hl1 : w.heap.size < w1.heap.size := lt_of_cell a0
      go_wp2
      exact bodyPost_ret (v := .bool false) (by simp [results, Tryz.results178, go_sem]) rfl ⟨(hbA.trans (hb1.mono (by simp))).alloc (by omega) _, by rw [HF.out, HE.out]⟩
end Go.Proofs.YtglkpgcmlbhkpabGreatDoor

/-
  package tree's WRITER: shape BY ITS CONTRACT, whatever the term.
-/
namespace Go.Proofs.YtglkpgcmlbhkpabGreatDoor
open Go.RowKit
attribute [local go_sem ↓] Go.wp_at_zero Go.wp_at_succ

/-- A shape, of so many parts; or it was given up. -/
def ShapeAny (pS : Addr) (op : ByteArray) (n : Int) (s : ByteArray) (m : Nat) (w : World) (e : Ending) (w' : World) : Prop := Below w.heap.size w w' ∧ ((∃ (lv : Nat) (ps : List Nat) (so : Option Addr) (sc : Nat), e = .returned (.agg #[.int .i64 lv, .slice so ps.length sc]) ∧ PartsAt w' w.heap.size so sc ps ∧ formedB op.toList n s.toList m = true ∧ ((op.toList = tCallL ∧ lv = 8 ∧ ps = []) ∨ ∃ t ∈ shapeL, op.toList = t.1 ∧ t.2.1 = lv ∧ t.2.2 = ps ∧ ps.length = m)) ∨ (WThrew pS e ∧ formedB op.toList n s.toList m = false))
abbrev shObj (lv : Int) (v : Value) : Obj := .cells #[.int .i64 lv, v] 299
theorem PartsAt.keep {w w' : World} {base base' : Nat} {o : Option Addr} {c : Nat} {ps : List Nat} (h : PartsAt w base o c ps) (hb : base' ≤ base) (hs : Stays (From base) (From base') w w') : PartsAt w' base' o c ps := by
  rcases h with h | ⟨q, h1, h2, h3, h4⟩
  · exact Or.inl h
  · exact Or.inr ⟨q, by omega, h2, h3, ((hs q h1 (Array.getElem?_eq_some_iff.1 h4).1).2).trans h4⟩
set_option maxRecDepth 100000 in
set_option maxHeartbeats 1000000 in
theorem wshape_any (b : Nat) (pS : Addr) (op : ByteArray) (n : Int) (s : ByteArray) (o : Option Addr) (m c : Nat) (w : World) (hm : m ≤ maxLen) (hE : w.cell? ⟨0, 0, none⟩ = some (.iface 325 (.pointer (some pS)))) :
    Calls Tryz.prog 211 #[.pointer (some ⟨b, 0, none⟩), .agg #[.string op, .int .i64 n, .string s, .slice o m c]] w (ShapeAny pS op n s m w) := by
  have hbA : Below w.heap.size w ((w.alloc (teObj op n s (.slice o m c))).alloc (shObj 0 (.slice none 0 0))) := ((Below.refl _ _).alloc (Nat.le_refl _) _).alloc (by simp) _
  have HA : Hid _ := alloc_row (shObj 0 (.slice none 0 0)) (heap_alloc_new w (teObj op n s (.slice o m c)))
  have HB : Hid _ := two_new w (teObj op n s (.slice o m c)) (shObj 0 (.slice none 0 0))
  obtain ⟨fb, hfb⟩ : ∃ fb, fb = formedB op.toList n s.toList m := ⟨_, rfl⟩
  have HF : Hid (∀ w0, Calls Tryz.prog 178 #[.agg #[.string op, .int .i64 n, .string s, .slice o m c]] w0 fun e w' => Below w0.heap.size w0 w' ∧ e = .returned (.bool fb)) := fun w0 => hfb ▸ formed_any op n s o m c w0 hm
  cases fb with
  | false =>
    have HX : Hid (formedB op.toList n s.toList m = false) := hfb.symm
    clear hfb
    go_enter Tryz.func211, Tryz.ntmps211
    go_wp2_with fail
    refine (HF.out _).mono ?_
    rintro e w0 ⟨hb0, rfl⟩
    have hE0 := cell_keep hb0 (cell_keep hbA hE)
    go_wp2_with fail
    refine (wfail_any b pS _ hE0).mono ?_
    rintro e w3 ⟨ht, rfl⟩
    unfold WThrew at ht
    subst ht
    go_wp2
    exact ⟨rfl, hbA.trans (hb0.mono (by simp; omega)), Or.inr ⟨rfl, HX.out⟩⟩
  | true =>
    have HX : Hid (formedB op.toList n s.toList m = true) := hfb.symm
    have hof := formedB_of hfb.symm
    clear hfb
    by_cases hc : op.toList = tCallL
    · have hc' : (op.toList == [99, 97, 108, 108]) = true := by rw [hc]; rfl
      have HC : Hid (op.toList = tCallL) := hc
      clear hc hof
      go_enter Tryz.func211, Tryz.ntmps211
      go_wp2_with fail
      refine (HF.out _).mono ?_
      rintro e w0 ⟨hb0, rfl⟩
      have HA0 : Hid _ := row_keep hb0 HA.out
      have HB0 : Hid _ := row_keep hb0 HB.out
      obtain ⟨x0, x1, x2, x3, _⟩ := blk4 HA0.out
      obtain ⟨b0, b1, bf⟩ := blk2 HB0.out
      have bf0 := bf 0
      have bf1 := bf 1
      have hl0 : w.heap.size < w0.heap.size := lt_of_cell x0
      have hl2 : w.heap.size + 1 < w0.heap.size := lt_of_cell b0
      clear bf
      go_wp2
      obtain ⟨y0, y1, _⟩ := blk2 (set_row (k := 1) (v := .slice none 0 0) (set_row (k := 0) (v := .int .i64 8) HB0.out))
      exact bodyPost_ret (v := .agg #[.int .i64 8, .slice none 0 0]) (by simp [results, Tryz.results211, go_sem, y0, y1]) rfl ⟨((hbA.trans (hb0.mono (by simp; omega))).setCell (by show w.heap.size ≤ w.heap.size + 1; omega) _).setCell (by show w.heap.size ≤ w.heap.size + 1; omega) _, Or.inl ⟨8, [], none, 0, rfl, Or.inl ⟨rfl, rfl, rfl⟩, HX.out, Or.inl ⟨HC.out, rfl, rfl⟩⟩⟩
    · obtain ⟨t, ht, hop, rfl⟩ := hof.resolve_left hc
      have hc' : (op.toList == [99, 97, 108, 108]) = false := by simpa [tCallL] using hc
      have HOP : Hid (op.toList = t.1) := hop
      clear hop hc hof
      go_enter Tryz.func211, Tryz.ntmps211
      go_wp2_with fail
      refine (HF.out _).mono ?_
      rintro e w0 ⟨hb0, rfl⟩
      have HA0 : Hid _ := row_keep hb0 HA.out
      have HB0 : Hid _ := row_keep hb0 HB.out
      obtain ⟨x0, x1, x2, x3, _⟩ := blk4 HA0.out
      have hl0 : w.heap.size < w0.heap.size := lt_of_cell x0
      go_wp2_with fail
      refine (shapeOf_in op _ t ht HOP.out).mono ?_
      rintro e w1 ⟨hb1, so, sc, rfl, hrow⟩
      obtain ⟨a0, a1, a2, a3, _⟩ := blk4 (row_keep hb1 HA0.out)
      obtain ⟨b0, b1, bf⟩ := blk2 (row_keep hb1 HB0.out)
      have bf0 := bf 0
      have bf1 := bf 1
      have hl1 : w.heap.size < w1.heap.size := lt_of_cell a0
      have hl2 : w.heap.size + 1 < w1.heap.size := lt_of_cell b0
      have HRow : Hid _ := hrow
      have hpl := (by decide : ∀ t ∈ shapeL, t.2.2.length ≤ 3) t ht
      clear hrow bf
      go_wp2
      have hr := alloc_row (shObj t.2.1 (.slice so t.2.2.length sc)) (set_row (k := 1) (v := .slice so t.2.2.length sc) (set_row (k := 0) (v := .int .i64 t.2.1) (row_keep hb1 HB0.out)))
      obtain ⟨y0, y1, _⟩ := blk2 hr
      have hs0 := hb0.size
      simp only [World.size_alloc] at hs0
      have St : Stays (From w0.heap.size) (From w.heap.size) w1 (((w1.setCell ⟨w.heap.size + 1, 0, none⟩ (.int .i64 t.2.1)).setCell ⟨w.heap.size + 1, 1, none⟩ (.slice so t.2.2.length sc)).alloc (shObj t.2.1 (.slice so t.2.2.length sc))) := ((Stays.set (S' := From (w.heap.size + 1 + 1)) (p := ⟨w.heap.size + 1, 0, none⟩) _ (fun k hk => by unfold From at hk ⊢; exact ⟨by show k ≠ w.heap.size + 1; omega, by omega⟩)).trans (Stays.set (S' := From (w.heap.size + 1 + 1)) (p := ⟨w.heap.size + 1, 1, none⟩) _ (fun k hk => by unfold From at hk ⊢; exact ⟨by show k ≠ w.heap.size + 1; omega, hk⟩)) (by simp)).trans (Stays.alloc _ (fun k hk => by unfold From at hk ⊢; omega)) (by simp)
      exact bodyPost_ret (v := .agg #[.int .i64 t.2.1, .slice so t.2.2.length sc]) (by simp [results, Tryz.results211, go_sem, y0, y1]) rfl ⟨((((hbA.trans (hb0.mono (by simp; omega))).trans (hb1.mono (by omega))).setCell (by show w.heap.size ≤ w.heap.size + 1; omega) _).setCell (by show w.heap.size ≤ w.heap.size + 1; omega) _).alloc (by simp; omega) _, Or.inl ⟨t.2.1, t.2.2, so, sc, rfl, PartsAt.keep HRow.out (by omega) St, HX.out, Or.inr ⟨t, ht, HOP.out, rfl, rfl, rfl⟩⟩⟩
end Go.Proofs.YtglkpgcmlbhkpabGreatDoor

/-
  package tree's WRITER: a part of a term, by what is known of terms that are smaller.
-/
namespace Go.Proofs.YtglkpgcmlbhkpabGreatDoor
open Go.RowKit
attribute [local go_sem ↓] Go.wp_at_zero Go.wp_at_succ

/-- term, of terms that are smaller: it writes on, or it gives up. -/
abbrev TermAny (B b : Nat) (pS : Addr) (m : Nat) : Prop := ∀ (op : ByteArray) (n : Int) (s : ByteArray) (l : List Ex), SizeOf.sizeOf l < m → ∀ (w : World) (d : Nat) (o : Option Addr) (c : Nat) (ys : List Value) (least : Int), d ≤ 6000 → WSt B b d pS w → RowAt w (fun k => k < B) 4 (.slice o l.length c) l.length ys → ExIn w (fun k => k < B) l ys →
    Calls Tryz.prog 185 #[.pointer (some ⟨b, 0, none⟩), .agg #[.string op, .int .i64 n, .string s, .slice o l.length c], .int .i64 least] w fun e w' => WAny B b d pS w e w'
theorem intCells_at {ps : List Nat} {i : Nat} (hi : i < ps.length) : (intCells ps)[i]? = some (.int .i64 (ps[i] : Nat)) := by
  simp [intCells, hi]
end Go.Proofs.YtglkpgcmlbhkpabGreatDoor

/-
  package tree's WRITER: neg and call, by what is known of terms that are smaller.
-/
namespace Go.Proofs.YtglkpgcmlbhkpabGreatDoor
open Go.RowKit
attribute [local go_sem ↓] Go.wp_at_zero Go.wp_at_succ

theorem below_ex {B : Nat} {w w' : World} {l : List Ex} {xs : List Value} (h : ExIn w (fun k => k < B) l xs) (hb : Below B w w') : ExIn w' (fun k => k < B) l xs := h.keep (fun k hk _ => ⟨hk, hb.block k hk⟩)
end Go.Proofs.YtglkpgcmlbhkpabGreatDoor

/-
  package tree's WRITER: bare, operator by operator, by what is known of terms that are smaller.
-/
namespace Go.Proofs.YtglkpgcmlbhkpabGreatDoor
open Go.RowKit
attribute [local go_sem ↓] Go.wp_at_zero Go.wp_at_succ

end Go.Proofs.YtglkpgcmlbhkpabGreatDoor

/-
  package tree's WRITER: bare of name, true, false, int.
-/
namespace Go.Proofs.YtglkpgcmlbhkpabGreatDoor
open Go.RowKit
attribute [local go_sem ↓] Go.wp_at_zero Go.wp_at_succ

theorem WSt.below {B b d : Nat} {pS : Addr} {w w' : World} (h : WSt B b d pS w) (hb : Below w.heap.size w w') : WSt B b d pS w' := by
  have hl := h.lt
  have hB := h.le
  obtain ⟨l, h1, h2⟩ := h.wt
  exact h.next (hb.mono (by omega)) (h1.below hb) h2
end Go.Proofs.YtglkpgcmlbhkpabGreatDoor

/-
  package tree's WRITER: bare of call and neg, by what is known of terms that are smaller.
-/
namespace Go.Proofs.YtglkpgcmlbhkpabGreatDoor
open Go.RowKit
attribute [local go_sem ↓] Go.wp_at_zero Go.wp_at_succ

end Go.Proofs.YtglkpgcmlbhkpabGreatDoor

/-
  package tree's WRITER: bare of neg, by what is known of terms that are smaller.
-/
namespace Go.Proofs.YtglkpgcmlbhkpabGreatDoor
open Go.RowKit
attribute [local go_sem ↓] Go.wp_at_zero Go.wp_at_succ

end Go.Proofs.YtglkpgcmlbhkpabGreatDoor

/-
  package tree's WRITER: bare and term BY THEIR CONTRACTS, whatever the term: it writes on, or it gives up.
-/
namespace Go.Proofs.YtglkpgcmlbhkpabGreatDoor
open Go.RowKit
attribute [local go_sem ↓] Go.wp_at_zero Go.wp_at_succ

theorem formedB_int {op : List UInt8} {n : Int} {s : List UInt8} {m : Nat} (h : formedB op n s m = true) (ho : op = tIntL) : 0 ≤ n ∧ n ≤ 127 := by
  subst ho
  simp only [formedB, Bool.and_eq_true, beq_self_eq_true, ite_true, decide_eq_true_eq] at h
  exact h.2.1
theorem PartsAt.kept {b base sc : Nat} {w w' : World} {so : Option Addr} {ps : List Nat} (h : PartsAt w base so sc ps) (k : Kept b w w') (hb : b < base) : PartsAt w' base so sc ps := by
  rcases h with h | ⟨q, h1, h2, h3, h4⟩
  · exact Or.inl h
  · exact Or.inr ⟨q, h1, h2, h3, kept_row k h4 (by omega) (by intro c fz e; injection e with _ e; exact absurd e (by decide))⟩
theorem PartsAt.low {base base' sc : Nat} {w : World} {so : Option Addr} {ps : List Nat} (h : PartsAt w base so sc ps) (hb : base' ≤ base) : PartsAt w base' so sc ps := by
  rcases h with h | ⟨q, h1, h⟩
  · exact Or.inl h
  · exact Or.inr ⟨q, by omega, h⟩
end Go.Proofs.YtglkpgcmlbhkpabGreatDoor

/-
  package tree's WRITER: equation, node, program BY THEIR CONTRACTS, whatever they are given: it writes on, or it gives up.
-/
namespace Go.Proofs.YtglkpgcmlbhkpabGreatDoor
open Go.RowKit
attribute [local go_sem ↓] Go.wp_at_zero Go.wp_at_succ

theorem below_eq {B : Nat} {w w' : World} {l : List Ex} {xs : List Value} (h : EqIn w (fun k => k < B) l xs) (hb : Below B w w') : EqIn w' (fun k => k < B) l xs := h.keep (fun k hk _ => ⟨hk, hb.block k hk⟩)
theorem below_nd {B : Nat} {w w' : World} {l : List Ex} {xs : List Value} (h : NdIn w (fun k => k < B) l xs) (hb : Below B w w') : NdIn w' (fun k => k < B) l xs := h.keep (fun k hk _ => ⟨hk, hb.block k hk⟩)
end Go.Proofs.YtglkpgcmlbhkpabGreatDoor

/-
  slices.Equal of texts and of variables BY CONTRACT, whatever they are given: where it says yes, the cells are the same.
-/
namespace Go.Proofs.YtglkpgcmlbhkpabGreatDoor
open Go.RowKit
attribute [local go_sem ↓] Go.wp_at_zero Go.wp_at_succ

theorem nameCells_ext {ns ns' : List Ex} (hl : ns.length = ns'.length) (h : ∀ m (h1 : m < ns.length) (h2 : m < ns'.length), ns[m].op = ns'[m].op) : nameCells ns = nameCells ns' := by
  unfold nameCells
  apply List.ext_getElem (by simpa using hl)
  intro m h1 h2
  simp only [List.getElem_map]
  rw [h m (by simpa using h1) (by simpa using h2)]
theorem bytes_ne {a b : ByteArray} (h : ¬ a = b) : (a.toList == b.toList) = false := by
  rw [beq_eq_false_iff_ne, ByteArray.toList_eq, ByteArray.toList_eq]
  intro e
  exact h (ByteArray.ext (Array.toList_inj.1 e))
set_option maxHeartbeats 1000000 in
theorem eqTexts_is (w : World) (S S' : Nat → Prop) (o o' : Option Addr) (c c' : Nat) (ns ns' : List Ex) (h1 : RowAt w S 1 (.slice o ns.length c) ns.length (nameCells ns)) (h2 : RowAt w S' 1 (.slice o' ns'.length c') ns'.length (nameCells ns')) :
    Calls Tryz.prog 186 #[.slice o ns.length c, .slice o' ns'.length c'] w fun e w' => ∃ r : Bool, e = .returned (.bool r) ∧ (r = true → nameCells ns = nameCells ns') ∧ ∃ k, w' = w.drewN k := by
  have hl := h1.len
  unfold maxLen at hl
  have hl' := h2.len
  unfold maxLen at hl'
  have H1 : Hid (RowAt w S 1 (.slice o ns.length c) ns.length (nameCells ns)) := h1
  have H2 : Hid (RowAt w S' 1 (.slice o' ns'.length c') ns'.length (nameCells ns')) := h2
  clear h1 h2
  by_cases hlen : ns.length = ns'.length
  · have HL : Hid (ns.length = ns'.length) := hlen
    have hlen' : (ns'.length : Int) = (ns.length : Int) := by omega
    rw [← hlen]
    clear hlen hl'
    go_enter Tryz.func186, Tryz.ntmps186
    go_wp2
    go_loopw [13] (fun i wr => ∃ j k : Nat, j ≤ ns.length ∧ i = .int .i64 j ∧ wr = w.drewN k ∧ ∀ m (h1 : m < ns.length) (h2 : m < ns'.length), m < j → ns[m].op = ns'[m].op) (fun i _ => ns.length - (intOf i).toNat)
    case atStart => exact ⟨0, 0, Nat.zero_le _, rfl, rfl, fun m _ _ h => absurd h (by omega)⟩
    case round =>
      obtain ⟨j, k, hj, rfl, rfl, hall⟩ := hrel
      by_cases hlt : j < ns.length
      · have hlt' : j < ns'.length := by rw [← HL.out]; exact hlt
        obtain ⟨b, off, rfl, _, hc⟩ := row_get H1.out (by rw [nameCells_length]; omega)
        obtain ⟨b', off', rfl, _, hc'⟩ := row_get H2.out (by rw [nameCells_length]; omega)
        have x0 := hc j _ (nameCells_at hlt)
        have x1 := hc' j _ (nameCells_at hlt')
        clear hc hc'
        have hi0 : (0 : Int) ≤ (j : Int) := by omega
        have hi1 : (j : Int) < (ns.length : Int) := by omega
        have hi2 : (j : Int) < (ns'.length : Int) := by omega
        by_cases he : ns[j].op = ns'[j].op
        · rw [← he] at x1
          have HA : Hid (∀ m (h1 : m < ns.length) (h2 : m < ns'.length), m < j + 1 → ns[m].op = ns'[m].op) := fun m h1 h2 h => by
            rcases Nat.lt_succ_iff_lt_or_eq.1 h with h | rfl
            · exact hall m h1 h2 h
            · exact he
          clear hall he
          go_wp2
          go_quiet (fail)
          go_wp2
          refine ⟨⟨j + 1, _, by omega, by go_num, rfl, HA.out⟩, ?_⟩
          simp [intOf]; omega
        · have he' : (ns[j].op.toList == ns'[j].op.toList) = false := bytes_ne he
          clear hall
          go_wp2
          go_quiet (fail)
          go_wp2
          go_ret
          exact ⟨false, rfl, by simp, k + nq, World.drewN_drewN _ _ _⟩
      · have HA : Hid (∀ m (h1 : m < ns.length) (h2 : m < ns'.length), m < j → ns[m].op = ns'[m].op) := hall
        clear hall
        go_wp2
        go_ret
        exact ⟨true, rfl, fun _ => nameCells_ext HL.out (fun m h1 h2 => HA.out m h1 h2 (by omega)), k, rfl⟩
  · have hne : ((ns.length : Int) == (ns'.length : Int)) = false := by simp; omega
    clear hlen
    go_enter Tryz.func186, Tryz.ntmps186
    go_wp2
    go_ret
    exact ⟨false, rfl, by simp, 0, rfl⟩
theorem varCells_ext : ∀ {ns ns' : List Ex} (_ : ns.length = ns'.length) (_ : ∀ m (h1 : m < ns.length) (h2 : m < ns'.length), (ns[m].op = ns'[m].op ∧ ns[m].n = ns'[m].n)), varCells ns = varCells ns'
  | [], [], _, _ => rfl
  | [], _ :: _, h, _ => by simp at h
  | _ :: _, [], h, _ => by simp at h
  | a :: l, a' :: l', h, g => by
    have h0 := g 0 (by simp) (by simp)
    have hr := varCells_ext (ns := l) (ns' := l') (by simpa using h) (fun m h1 h2 => g (m + 1) (by simpa using h1) (by simpa using h2))
    simp only [List.getElem_cons_zero] at h0
    unfold varCells at hr ⊢
    rw [List.flatMap_cons, List.flatMap_cons, hr, h0.1, h0.2]
set_option maxHeartbeats 1000000 in
theorem eqVars_is (w : World) (S S' : Nat → Prop) (o o' : Option Addr) (c c' : Nat) (ns ns' : List Ex) (h1 : RowAt w S 2 (.slice o ns.length c) ns.length (varCells ns)) (h2 : RowAt w S' 2 (.slice o' ns'.length c') ns'.length (varCells ns')) :
    Calls Tryz.prog 132 #[.slice o ns.length c, .slice o' ns'.length c'] w fun e w' => ∃ r : Bool, e = .returned (.bool r) ∧ (r = true → varCells ns = varCells ns') ∧ ∃ k, w' = w.drewN k := by
  have hl := h1.len
  unfold maxLen at hl
  have hl' := h2.len
  unfold maxLen at hl'
  have H1 : Hid (RowAt w S 2 (.slice o ns.length c) ns.length (varCells ns)) := h1
  have H2 : Hid (RowAt w S' 2 (.slice o' ns'.length c') ns'.length (varCells ns')) := h2
  clear h1 h2
  by_cases hlen : ns.length = ns'.length
  · have HL : Hid (ns.length = ns'.length) := hlen
    have hlen' : (ns'.length : Int) = (ns.length : Int) := by omega
    rw [← hlen]
    clear hlen hl'
    go_enter Tryz.func132, Tryz.ntmps132
    go_wp2
    go_loopw [13] (fun i wr => ∃ j k : Nat, j ≤ ns.length ∧ i = .int .i64 j ∧ wr = w.drewN k ∧ ∀ m (h1 : m < ns.length) (h2 : m < ns'.length), m < j → (ns[m].op = ns'[m].op ∧ ns[m].n = ns'[m].n)) (fun i _ => ns.length - (intOf i).toNat)
    case atStart => exact ⟨0, 0, Nat.zero_le _, rfl, rfl, fun m _ _ h => absurd h (by omega)⟩
    case round =>
      obtain ⟨j, k, hj, rfl, rfl, hall⟩ := hrel
      by_cases hlt : j < ns.length
      · have hlt' : j < ns'.length := by rw [← HL.out]; exact hlt
        obtain ⟨b, off, rfl, _, hc⟩ := row_get H1.out (by rw [varCells_length]; omega)
        obtain ⟨b', off', rfl, _, hc'⟩ := row_get H2.out (by rw [varCells_length]; omega)
        have x0 := hc _ _ (varCells_at hlt).1
        have x1 := hc _ _ (varCells_at hlt).2
        have y0 := hc' _ _ (varCells_at hlt').1
        have y1 := hc' _ _ (varCells_at hlt').2
        rw [← Nat.add_assoc] at x1 y1
        clear hc hc'
        have hi0 : (0 : Int) ≤ (j : Int) := by omega
        have hi1 : (j : Int) < (ns.length : Int) := by omega
        have hi2 : (j : Int) < (ns'.length : Int) := by omega
        by_cases he : ns[j].op = ns'[j].op
        · by_cases hn : ns[j].n = ns'[j].n
          · rw [← he] at y0
            rw [← hn] at y1
            have HA : Hid (∀ m (h1 : m < ns.length) (h2 : m < ns'.length), m < j + 1 → (ns[m].op = ns'[m].op ∧ ns[m].n = ns'[m].n)) := fun m h1 h2 h => by
              rcases Nat.lt_succ_iff_lt_or_eq.1 h with h | rfl
              · exact hall m h1 h2 h
              · exact ⟨he, hn⟩
            clear hall he hn
            go_wp2
            go_quiet (fail)
            go_wp2
            refine ⟨⟨j + 1, _, by omega, by go_num, rfl, HA.out⟩, ?_⟩
            simp [intOf]; omega
          · have hn' : (ns[j].n == ns'[j].n) = false := by simpa using hn
            rw [← he] at y0
            clear hall he
            go_wp2
            go_quiet (fail)
            go_wp2
            go_ret
            exact ⟨false, rfl, by simp, k + nq, World.drewN_drewN _ _ _⟩
        · have he' : (ns[j].op.toList == ns'[j].op.toList) = false := bytes_ne he
          clear hall
          go_wp2
          go_quiet (fail)
          go_wp2
          go_ret
          exact ⟨false, rfl, by simp, k + nq, World.drewN_drewN _ _ _⟩
      · have HA : Hid (∀ m (h1 : m < ns.length) (h2 : m < ns'.length), m < j → (ns[m].op = ns'[m].op ∧ ns[m].n = ns'[m].n)) := hall
        clear hall
        go_wp2
        go_ret
        exact ⟨true, rfl, fun _ => varCells_ext HL.out (fun m h1 h2 => HA.out m h1 h2 (by omega)), k, rfl⟩
  · have hne : ((ns.length : Int) == (ns'.length : Int)) = false := by simp; omega
    clear hlen
    go_enter Tryz.func132, Tryz.ntmps132
    go_wp2
    go_ret
    exact ⟨false, rfl, by simp, 0, rfl⟩
end Go.Proofs.YtglkpgcmlbhkpabGreatDoor
