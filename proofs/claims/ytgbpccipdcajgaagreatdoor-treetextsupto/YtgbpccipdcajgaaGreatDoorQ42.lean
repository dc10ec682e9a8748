/-
  lustrumref1's WRITER: term, whatever it is given.
-/
import Derived.Test.YtgbpccipdcajgaaGreatDoorQ35
import Derived.Test.YtgbpccipdcajgaaGreatDoorQ36
import Derived.Test.YtgbpccipdcajgaaGreatDoorQ37
import Derived.Test.YtgbpccipdcajgaaGreatDoorQ40
import Derived.Test.YtgbpccipdcajgaaGreatDoorQ38
import Derived.Test.YtgbpccipdcajgaaGreatDoorQ41
namespace Go.Proofs.YtgbpccipdcajgaaGreatDoor
open Go.RowKit
theorem form_ar {op : List UInt8} {n : Int} {s : List UInt8} {m : Nat} (h : formedB op n s m = true) : ∃ t ∈ arL, op = t.1 ∧ (t.2.1 = m ∨ t.1 = [99, 97, 108, 108]) := by
 rcases formedB_of h with h | ⟨t, ht, h1, h2⟩
 ·exact ⟨([99, 97, 108, 108], -1, 9), by decide, h, Or.inr rfl⟩
 ·obtain ⟨u, hu, h3, h4⟩ := (by decide : ∀ t ∈ shapeL, ∃ u ∈ arL, t.1 = u.1 ∧ u.2.1 = (t.2.2.length : Int)) t ht
  exact ⟨u, hu, h1.trans h3, Or.inl (by rw [h4, h2])⟩
theorem ex_nil {l : List Ex} (h : ((0 : Nat) : Int) = l.length) : l = [] := List.length_eq_zero_iff.1 (by omega)
theorem ex_one {l : List Ex} (h : ((1 : Nat) : Int) = l.length) : ∃ a, l = [a] := List.length_eq_one_iff.1 (by omega)
theorem ex_two {l : List Ex} (h : ((2 : Nat) : Int) = l.length) : ∃ a b, l = [a, b] := by
 match l, h with
 | [a, b], _ => exact ⟨a, b, rfl⟩
 | [], h => simp at h
 | [a], h => simp at h
 | a :: b :: c :: r, h => simp at h; omega
theorem ex_three {l : List Ex} (h : ((3 : Nat) : Int) = l.length) : ∃ a b c, l = [a, b, c] := by
 match l, h with
 | [a, b, c], _ => exact ⟨a, b, c, rfl⟩
 | [], h => simp at h
 | [a], h => simp at h
 | [a, b], h => simp at h
 | a :: b :: c :: d :: r, h => simp at h; omega
theorem rwTerm_low (B b : Nat) (hB : B ≤ b) (mm : Nat) (IH : RwAll B b mm) (op : ByteArray) (n : Int) (s : ByteArray) (l : List Ex) (hmm : SizeOf.sizeOf l < mm + 1) (hz : NzT (.mk op n s l)) (least L : Nat) (hLv : LevOk least L) (hlo : ∀ t ∈ arL, op.toList = t.1 → ¬ t.2.2 < least) : RwTerm B b op n s l least L := by
 intro w d o c ys k bad hb h1 h2 hg
 by_cases hst : bad = true ∨ 6000 < wrap64 (k + 1) ∨ formedB op.toList n s.toList l.length = false
 ·exact rwTerm_stop B b L hLv.le op n s l w d least d o c k bad hb hB hst
 ·obtain ⟨e1, e2⟩ := not_or.1 hst
  obtain ⟨e2, e3⟩ := not_or.1 e2
  obtain rfl : bad = false := by simpa using e1
  obtain ⟨hd, m, rfl, h6⟩ := hg rfl
  have hw : wrap64 ((m : Int) + 1) = (m : Int) + 1 := by unfold wrap64; omega
  have hm : m + 1 ≤ 6000 := by omega
  have hf : formedB op.toList n s.toList l.length = true := by simpa using e3
  obtain ⟨t, ht, ho, ha⟩ := form_ar hf
  have hl := hlo t ht ho
  have hp := hz.part
  clear hst e1 e2 e3 hg hlo
  simp only [arL, List.mem_cons, List.not_mem_nil, or_false] at ht
  rcases ht with rfl | rfl | rfl | rfl | rfl | rfl | rfl | rfl | rfl | rfl | rfl | rfl | rfl | rfl | rfl | rfl | rfl | rfl | rfl | rfl | rfl | rfl | rfl | rfl | rfl | rfl
  ·obtain rfl := ex_nil (ha.resolve_right (by decide))
   exact rwTerm_int B b hB op n s least L hLv ([105, 110, 116], 0, 9) (by decide) ho hl ho hf w d o c ys m hb h1 h2 hd hm
  ·obtain rfl := ex_nil (ha.resolve_right (by decide))
   exact rwTerm_true B b hB op n s least L hLv ([116, 114, 117, 101], 0, 9) (by decide) ho hl ho hf w d o c ys m hb h1 h2 hd hm
  ·obtain rfl := ex_nil (ha.resolve_right (by decide))
   exact rwTerm_false B b hB op n s least L hLv ([102, 97, 108, 115, 101], 0, 9) (by decide) ho hl ho hf w d o c ys m hb h1 h2 hd hm
  ·obtain rfl := ex_nil (ha.resolve_right (by decide))
   exact rwTerm_name B b hB op n s least L hLv ([110, 97, 109, 101], 0, 9) (by decide) ho hl ho hp.1 hf w d o c ys m hb h1 h2 hd hm
  ·obtain ⟨x, y, z, rfl⟩ := ex_three (ha.resolve_right (by decide))
   exact rwTerm_if B b hB op n s least L hLv ([105, 102], 3, 0) (by decide) ho hl ho x y z mm hmm (hp.2 x (by simp)) (hp.2 y (by simp)) (hp.2 z (by simp)) IH hf w d o c ys m hb h1 h2 hd hm
  ·obtain ⟨x, y, rfl⟩ := ex_two (ha.resolve_right (by decide))
   exact rwTerm_arrow B b hB op n s least L hLv ([45, 62], 2, 1) (by decide) ho hl ho x y mm hmm (hp.2 x (by simp)) (hp.2 y (by simp)) IH hf w d o c ys m hb h1 h2 hd hm
  ·obtain ⟨x, y, rfl⟩ := ex_two (ha.resolve_right (by decide))
   exact rwTerm_fby B b hB op n s least L hLv ([102, 98, 121], 2, 1) (by decide) ho hl ho x y mm hmm (hp.2 x (by simp)) (hp.2 y (by simp)) IH hf w d o c ys m hb h1 h2 hd hm
  ·obtain ⟨x, y, rfl⟩ := ex_two (ha.resolve_right (by decide))
   exact rwTerm_pair2 B b hB op n s least L hLv ([111, 114], 2, 2) (by decide) ho hl (by rw [ho]; decide) (by rw [ho]; decide) (by rw [ho]; decide) (by rw [ho]; decide) (by rw [ho]; decide) (by rw [ho]; decide) (by rw [ho]; decide) (by rw [ho]; decide) (by rw [ho]; decide) (by rw [ho]; decide) (by rw [ho]; decide) (by rw [ho]; exact two_pair (by decide)) rfl x y mm hmm (hp.2 x (by simp)) (hp.2 y (by simp)) IH hf w d o c ys m hb h1 h2 hd hm
  ·obtain ⟨x, y, rfl⟩ := ex_two (ha.resolve_right (by decide))
   exact rwTerm_pair2 B b hB op n s least L hLv ([120, 111, 114], 2, 2) (by decide) ho hl (by rw [ho]; decide) (by rw [ho]; decide) (by rw [ho]; decide) (by rw [ho]; decide) (by rw [ho]; decide) (by rw [ho]; decide) (by rw [ho]; decide) (by rw [ho]; decide) (by rw [ho]; decide) (by rw [ho]; decide) (by rw [ho]; decide) (by rw [ho]; exact two_pair (by decide)) rfl x y mm hmm (hp.2 x (by simp)) (hp.2 y (by simp)) IH hf w d o c ys m hb h1 h2 hd hm
  ·obtain ⟨x, y, rfl⟩ := ex_two (ha.resolve_right (by decide))
   exact rwTerm_pair3 B b hB op n s least L hLv ([97, 110, 100], 2, 3) (by decide) ho hl (by rw [ho]; decide) (by rw [ho]; decide) (by rw [ho]; decide) (by rw [ho]; decide) (by rw [ho]; decide) (by rw [ho]; decide) (by rw [ho]; decide) (by rw [ho]; decide) (by rw [ho]; decide) (by rw [ho]; decide) (by rw [ho]; decide) (by rw [ho]; exact two_pair (by decide)) rfl x y mm hmm (hp.2 x (by simp)) (hp.2 y (by simp)) IH hf w d o c ys m hb h1 h2 hd hm
  ·obtain ⟨x, rfl⟩ := ex_one (ha.resolve_right (by decide))
   exact rwTerm_not B b hB op n s least L hLv ([110, 111, 116], 1, 4) (by decide) ho hl ho x mm hmm (hp.2 x (by simp)) IH hf w d o c ys m hb h1 h2 hd hm
  ·obtain ⟨x, y, rfl⟩ := ex_two (ha.resolve_right (by decide))
   exact rwTerm_cmp B b hB op n s least L hLv ([61], 2, 5) (by decide) ho hl (by rw [ho]; decide) (by rw [ho]; decide) (by rw [ho]; decide) (by rw [ho]; decide) (by rw [ho]; decide) (by rw [ho]; decide) (by rw [ho]; decide) (by rw [ho]; decide) (by rw [ho]; decide) (by rw [ho]; decide) (by rw [ho]; decide) (by rw [ho]; exact two_pair (by decide)) rfl x y mm hmm (hp.2 x (by simp)) (hp.2 y (by simp)) IH hf w d o c ys m hb h1 h2 hd hm
  ·obtain ⟨x, y, rfl⟩ := ex_two (ha.resolve_right (by decide))
   exact rwTerm_cmp B b hB op n s least L hLv ([60, 62], 2, 5) (by decide) ho hl (by rw [ho]; decide) (by rw [ho]; decide) (by rw [ho]; decide) (by rw [ho]; decide) (by rw [ho]; decide) (by rw [ho]; decide) (by rw [ho]; decide) (by rw [ho]; decide) (by rw [ho]; decide) (by rw [ho]; decide) (by rw [ho]; decide) (by rw [ho]; exact two_pair (by decide)) rfl x y mm hmm (hp.2 x (by simp)) (hp.2 y (by simp)) IH hf w d o c ys m hb h1 h2 hd hm
  ·obtain ⟨x, y, rfl⟩ := ex_two (ha.resolve_right (by decide))
   exact rwTerm_cmp B b hB op n s least L hLv ([60], 2, 5) (by decide) ho hl (by rw [ho]; decide) (by rw [ho]; decide) (by rw [ho]; decide) (by rw [ho]; decide) (by rw [ho]; decide) (by rw [ho]; decide) (by rw [ho]; decide) (by rw [ho]; decide) (by rw [ho]; decide) (by rw [ho]; decide) (by rw [ho]; decide) (by rw [ho]; exact two_pair (by decide)) rfl x y mm hmm (hp.2 x (by simp)) (hp.2 y (by simp)) IH hf w d o c ys m hb h1 h2 hd hm
  ·obtain ⟨x, y, rfl⟩ := ex_two (ha.resolve_right (by decide))
   exact rwTerm_cmp B b hB op n s least L hLv ([60, 61], 2, 5) (by decide) ho hl (by rw [ho]; decide) (by rw [ho]; decide) (by rw [ho]; decide) (by rw [ho]; decide) (by rw [ho]; decide) (by rw [ho]; decide) (by rw [ho]; decide) (by rw [ho]; decide) (by rw [ho]; decide) (by rw [ho]; decide) (by rw [ho]; decide) (by rw [ho]; exact two_pair (by decide)) rfl x y mm hmm (hp.2 x (by simp)) (hp.2 y (by simp)) IH hf w d o c ys m hb h1 h2 hd hm
  ·obtain ⟨x, y, rfl⟩ := ex_two (ha.resolve_right (by decide))
   exact rwTerm_cmp B b hB op n s least L hLv ([62], 2, 5) (by decide) ho hl (by rw [ho]; decide) (by rw [ho]; decide) (by rw [ho]; decide) (by rw [ho]; decide) (by rw [ho]; decide) (by rw [ho]; decide) (by rw [ho]; decide) (by rw [ho]; decide) (by rw [ho]; decide) (by rw [ho]; decide) (by rw [ho]; decide) (by rw [ho]; exact two_pair (by decide)) rfl x y mm hmm (hp.2 x (by simp)) (hp.2 y (by simp)) IH hf w d o c ys m hb h1 h2 hd hm
  ·obtain ⟨x, y, rfl⟩ := ex_two (ha.resolve_right (by decide))
   exact rwTerm_cmp B b hB op n s least L hLv ([62, 61], 2, 5) (by decide) ho hl (by rw [ho]; decide) (by rw [ho]; decide) (by rw [ho]; decide) (by rw [ho]; decide) (by rw [ho]; decide) (by rw [ho]; decide) (by rw [ho]; decide) (by rw [ho]; decide) (by rw [ho]; decide) (by rw [ho]; decide) (by rw [ho]; decide) (by rw [ho]; exact two_pair (by decide)) rfl x y mm hmm (hp.2 x (by simp)) (hp.2 y (by simp)) IH hf w d o c ys m hb h1 h2 hd hm
  ·obtain ⟨x, y, rfl⟩ := ex_two (ha.resolve_right (by decide))
   exact rwTerm_cmp B b hB op n s least L hLv ([61, 62], 2, 5) (by decide) ho hl (by rw [ho]; decide) (by rw [ho]; decide) (by rw [ho]; decide) (by rw [ho]; decide) (by rw [ho]; decide) (by rw [ho]; decide) (by rw [ho]; decide) (by rw [ho]; decide) (by rw [ho]; decide) (by rw [ho]; decide) (by rw [ho]; decide) (by rw [ho]; exact two_pair (by decide)) rfl x y mm hmm (hp.2 x (by simp)) (hp.2 y (by simp)) IH hf w d o c ys m hb h1 h2 hd hm
  ·obtain ⟨x, y, rfl⟩ := ex_two (ha.resolve_right (by decide))
   exact rwTerm_pair6 B b hB op n s least L hLv ([43], 2, 6) (by decide) ho hl (by rw [ho]; decide) (by rw [ho]; decide) (by rw [ho]; decide) (by rw [ho]; decide) (by rw [ho]; decide) (by rw [ho]; decide) (by rw [ho]; decide) (by rw [ho]; decide) (by rw [ho]; decide) (by rw [ho]; decide) (by rw [ho]; decide) (by rw [ho]; exact two_pair (by decide)) rfl x y mm hmm (hp.2 x (by simp)) (hp.2 y (by simp)) IH hf w d o c ys m hb h1 h2 hd hm
  ·obtain ⟨x, y, rfl⟩ := ex_two (ha.resolve_right (by decide))
   exact rwTerm_pair6 B b hB op n s least L hLv ([45], 2, 6) (by decide) ho hl (by rw [ho]; decide) (by rw [ho]; decide) (by rw [ho]; decide) (by rw [ho]; decide) (by rw [ho]; decide) (by rw [ho]; decide) (by rw [ho]; decide) (by rw [ho]; decide) (by rw [ho]; decide) (by rw [ho]; decide) (by rw [ho]; decide) (by rw [ho]; exact two_pair (by decide)) rfl x y mm hmm (hp.2 x (by simp)) (hp.2 y (by simp)) IH hf w d o c ys m hb h1 h2 hd hm
  ·obtain ⟨x, y, rfl⟩ := ex_two (ha.resolve_right (by decide))
   exact rwTerm_pair7 B b hB op n s least L hLv ([42], 2, 7) (by decide) ho hl (by rw [ho]; decide) (by rw [ho]; decide) (by rw [ho]; decide) (by rw [ho]; decide) (by rw [ho]; decide) (by rw [ho]; decide) (by rw [ho]; decide) (by rw [ho]; decide) (by rw [ho]; decide) (by rw [ho]; decide) (by rw [ho]; decide) (by rw [ho]; exact two_pair (by decide)) rfl x y mm hmm (hp.2 x (by simp)) (hp.2 y (by simp)) IH hf w d o c ys m hb h1 h2 hd hm
  ·obtain ⟨x, y, rfl⟩ := ex_two (ha.resolve_right (by decide))
   exact rwTerm_pair7 B b hB op n s least L hLv ([47], 2, 7) (by decide) ho hl (by rw [ho]; decide) (by rw [ho]; decide) (by rw [ho]; decide) (by rw [ho]; decide) (by rw [ho]; decide) (by rw [ho]; decide) (by rw [ho]; decide) (by rw [ho]; decide) (by rw [ho]; decide) (by rw [ho]; decide) (by rw [ho]; decide) (by rw [ho]; exact two_pair (by decide)) rfl x y mm hmm (hp.2 x (by simp)) (hp.2 y (by simp)) IH hf w d o c ys m hb h1 h2 hd hm
  ·obtain ⟨x, y, rfl⟩ := ex_two (ha.resolve_right (by decide))
   exact rwTerm_pair7 B b hB op n s least L hLv ([109, 111, 100], 2, 7) (by decide) ho hl (by rw [ho]; decide) (by rw [ho]; decide) (by rw [ho]; decide) (by rw [ho]; decide) (by rw [ho]; decide) (by rw [ho]; decide) (by rw [ho]; decide) (by rw [ho]; decide) (by rw [ho]; decide) (by rw [ho]; decide) (by rw [ho]; decide) (by rw [ho]; exact two_pair (by decide)) rfl x y mm hmm (hp.2 x (by simp)) (hp.2 y (by simp)) IH hf w d o c ys m hb h1 h2 hd hm
  ·obtain ⟨x, rfl⟩ := ex_one (ha.resolve_right (by decide))
   by_cases hn : x.op.toList = [110, 101, 103]
   ·exact rwTerm_negneg B b hB op n s least L hLv ([110, 101, 103], 1, 8) (by decide) ho hl ho x mm hmm (hp.2 x (by simp)) IH hn hf w d o c ys m hb h1 h2 hd hm
   ·exact rwTerm_neg B b hB op n s least L hLv ([110, 101, 103], 1, 8) (by decide) ho hl ho x mm hmm (hp.2 x (by simp)) IH (beq_eq_false_iff_ne.2 hn) hf w d o c ys m hb h1 h2 hd hm
  ·obtain ⟨x, rfl⟩ := ex_one (ha.resolve_right (by decide))
   exact rwTerm_pre B b hB op n s least L hLv ([112, 114, 101], 1, 8) (by decide) ho hl ho x mm hmm (hp.2 x (by simp)) IH hf w d o c ys m hb h1 h2 hd hm
  ·exact rwTerm_call B b hB op n s l least L hLv ([99, 97, 108, 108], -1, 9) (by decide) ho hl ho hp.1 mm hmm hp.2 IH hf w d o c ys m hb h1 h2 hd hm
theorem rwTerm_all (B b : Nat) (hB : B ≤ b) : ∀ mm : Nat, RwAll B b mm := by
 intro mm
 induction mm with
 | zero => intro op n s l h; exact absurd h (Nat.not_lt_zero _)
 | succ mm IH =>
  intro op n s l hmm hz least L hLv
  have H0 : RwTerm B b op n s l 0 0 := rwTerm_low B b hB mm IH op n s l hmm hz 0 0 (Or.inl ⟨rfl, rfl⟩) (fun t _ _ => Nat.not_lt_zero _)
  by_cases hlo : ∀ t ∈ arL, op.toList = t.1 → ¬ t.2.2 < least
  ·exact rwTerm_low B b hB mm IH op n s l hmm hz least L hLv hlo
  ·intro w d o c ys k bad hb h1 h2 hg
   by_cases hst : bad = true ∨ 6000 < wrap64 (k + 1) ∨ formedB op.toList n s.toList l.length = false
   ·exact rwTerm_stop B b L hLv.le op n s l w d least d o c k bad hb hB hst
   ·obtain ⟨e1, e2⟩ := not_or.1 hst
    obtain ⟨e2, e3⟩ := not_or.1 e2
    obtain rfl : bad = false := by simpa using e1
    obtain ⟨hd, m, rfl, h6⟩ := hg rfl
    have hw : wrap64 ((m : Int) + 1) = (m : Int) + 1 := by unfold wrap64; omega
    have hm : m + 1 ≤ 6000 := by omega
    have hf : formedB op.toList n s.toList l.length = true := by simpa using e3
    obtain ⟨t, ht, ho, hlt⟩ : ∃ t ∈ arL, op.toList = t.1 ∧ t.2.2 < least := by
     refine Classical.byContradiction fun hc => hlo fun t ht ho hlt => hc ⟨t, ht, ho, hlt⟩
    exact rwTerm_brk B b hB op n s l least L hLv t ht ho hlt H0 hf w d o c ys m hb h1 h2 hd hm
end Go.Proofs.YtgbpccipdcajgaaGreatDoor
