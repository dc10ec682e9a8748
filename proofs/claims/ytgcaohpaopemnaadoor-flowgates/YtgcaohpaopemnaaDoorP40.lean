/-
  package flow: Apply of / and mod, of two ints, BY CONTRACT.
-/
import Derived.Test.YtgcaohpaopemnaaDoorP08
import Derived.Test.YtgcaohpaopemnaaDoorP39
namespace Go.Proofs.YtgcaohpaopemnaaDoor
open Go.RowKit Go.Maps

set_option maxRecDepth 100000 in
set_option maxHeartbeats 1000000 in
theorem vindex_any (w : World) (o : Option Addr) (n c : Nat) (l : List (Int × Int)) (hv : ValsAt w (.slice o n c) l) (hn : n = l.length) (hl : n ≤ 100) (hr : ∀ x ∈ l, rightB x.1 x.2 x.1 = true) :
    Calls Tryd.prog 43 #[.slice o n c, .func (.func 14) #[] #[]] w fun e w' => e = .returned (.int .i64 (-1)) ∧ Below w.heap.size w w' := by
  obtain ⟨_, o', c', e, hc⟩ := hv
  obtain ⟨rfl, rfl⟩ : o = o' ∧ c = c' := ⟨(Value.slice.inj e).1, (Value.slice.inj e).2.2⟩
  have HC : Hid (∀ k x, l[k]? = some x → ∃ b off, o = some ⟨b, off, none⟩ ∧ w.cell? ⟨b, off + k * 2, none⟩ = some (.int .i64 x.1) ∧ w.cell? ⟨b, off + k * 2 + 1, none⟩ = some (.int .i64 x.2)) := hc
  have HN : Hid (n = l.length) := hn
  have HL : Hid (n ≤ 100) := hl
  have HR : Hid (∀ x ∈ l, rightB x.1 x.2 x.1 = true) := hr
  clear hc hn hl hr e
  go_enter Tryd.func43, Tryd.ntmps43
  go_wp2
  go_loopw [8] (fun t wr => ∃ j : Nat, j ≤ n ∧ t = .int .i64 j ∧ Below w.heap.size w wr) (fun t _ => n - (intOf t).toNat)
  case atStart => exact ⟨0, Nat.zero_le _, rfl, Below.refl _ _⟩
  case round =>
    obtain ⟨j, hj, rfl, hb⟩ := hrel
    have HB : Hid (Below w.heap.size w wr) := hb
    by_cases hjl : j < n
    · obtain ⟨x, hx⟩ : ∃ x, l[j]? = some x := ⟨_, List.getElem?_eq_getElem (by have := HN.out; omega)⟩
      obtain ⟨b, off, rfl, q0, q1⟩ := HC.out j x hx
      have x0 := cell_keep hb q0
      have x1 := cell_keep hb q1
      have hrx := HR.out x (List.mem_of_getElem? hx)
      obtain ⟨k, m⟩ := x
      have HNO : Hid (Calls Tryd.prog 14 #[.agg #[.int .i64 k, .int .i64 m]] wr fun e w' => e = .returned (.bool false) ∧ Below wr.heap.size wr w') := by
        have h := isNone_any k m wr
        rw [hrx] at h
        exact h
      have i0' : (0 : Int) ≤ (j : Int) := by omega
      have i1' : (j : Int) < (n : Int) := by omega
      have N4 : Hid (wrap64 ((j : Int) + 1) = (j : Int) + 1) := by have := HL.out; unfold Hid wrap64; omega
      have HJ : Hid (j < n) := hjl
      clear hj hjl hx q0 q1 hrx hb
      go_wp2_with (go_at_call 14; refine HNO.out.mono ?_; rintro e w2 ⟨rfl, hb2⟩; have HB2 : Hid (Below w.heap.size w w2) := HB.out.trans (hb2.mono HB.out.size); clear hb2 x0 x1)
      exact ⟨⟨j + 1, HJ.out, by rw [N4.out]; rfl, HB2.out⟩, by rw [N4.out]; have := HJ.out; simp [intOf]; omega⟩
    · obtain rfl : j = n := by omega
      clear hj hjl hb
      go_wp2
      go_ret
      exact ⟨rfl, HB.out⟩
set_option maxRecDepth 100000 in
theorem vcontains_any (w : World) (o : Option Addr) (n c : Nat) (l : List (Int × Int)) (hv : ValsAt w (.slice o n c) l) (hn : n = l.length) (hl : n ≤ 100) (hr : ∀ x ∈ l, rightB x.1 x.2 x.1 = true) :
    Calls Tryd.prog 13 #[.slice o n c, .func (.func 14) #[] #[]] w fun e w' => e = .returned (.bool false) ∧ Below w.heap.size w w' := by
  have HC := vindex_any w o n c l hv hn hl hr
  clear hv hn hl hr
  go_enter Tryd.func13, Tryd.ntmps13
  go_wp2_with (go_at_call 43; refine HC.mono ?_; rintro e w' ⟨rfl, hb⟩)
  go_ret
  exact ⟨rfl, hb⟩
theorem zero_oper (w : World) : (zeroValue 49).run Tryd.prog w = .ok .nilFunc w := by kernel_rfl
/-- What / and mod make of two ints. -/
def divR (md : Bool) (a b : Int) : Int := if md then a - a.tdiv b * b else a.tdiv b
def divS (md : Bool) : ByteArray := if md then ⟨#[109, 111, 100]⟩ else ⟨#[47]⟩
theorem div_clo {w : World} {B : Nat} (h : OpsAt w B) (md : Bool) : ∃ (f : List UInt8 → Option Value) (n p : Nat), FnAt w B n f ∧ f (divS md).data.toList = some (.func (.func 33) #[] #[.pointer (some ⟨p, 0, none⟩)]) ∧ w.cell? ⟨p, 0, none⟩ = some (.func (.func (if md then 63 else 62)) #[] #[]) := by
  obtain ⟨f, n, h1, _, h3, _⟩ := h
  cases md
  · obtain ⟨p, e1, e2⟩ := h3 [47] (fnV 62) (by rfl)
    exact ⟨f, n, p, h1, e1, e2⟩
  · obtain ⟨p, e1, e2⟩ := h3 [109, 111, 100] (fnV 63) (by rfl)
    exact ⟨f, n, p, h1, e1, e2⟩
theorem div_do (md : Bool) (p : Nat) (a b : Int) (v : Value) (w : World) (hv : KindsAt w v [a, b]) (hp : w.cell? ⟨p, 0, none⟩ = some (.func (.func (if md then 63 else 62)) #[] #[])) (ha : Sm a) (hb : Sm b) (h0 : b ≠ 0) :
    Calls Tryd.prog 33 #[v, .pointer (some ⟨p, 0, none⟩)] w fun e w' => e = .returned (.tuple #[.int .i64 (aroundI (divR md a b)), .bool false]) ∧ Below w.heap.size w w' := by
  cases md
  · exact op_divisions_1 p a b v w hv hp ha h0
  · exact op_divisions_2 p a b v w hv hp ha hb h0
theorem div_res (md : Bool) : resK (divS md).data.toList [2, 2] = some 2 := by cases md <;> decide
set_option maxRecDepth 100000 in
set_option maxHeartbeats 2000000 in
theorem fapply_any (w : World) (S : Errs w) (md : Bool) (o : Option Addr) (c : Nat) (a b : Int) (ha : Sm a) (hb : Sm b) (hra : rightB 2 a 2 = true) (hrb : rightB 2 b 2 = true) (hv : ValsAt w (.slice o 2 c) [(2, a), (2, b)]) :
    Calls Tryd.prog 5 #[.string (divS md), .slice o 2 c] w fun e w' => Below w.heap.size w w' ∧ ((b = 0 ∧ e = .returned (.tuple #[.agg #[.int .i64 0, .int .i64 0], .bool true, .nilIface])) ∨ (b ≠ 0 ∧ e = .returned (.tuple #[.agg #[.int .i64 2, .int .i64 (aroundI (divR md a b))], .bool false, .nilIface]))) := by
  obtain ⟨w1, hw1⟩ : ∃ w1, w1 = w.alloc (.cells #[.int .i64 0, .int .i64 0] 24) := ⟨_, rfl⟩
  have hb1 : Below w.heap.size w w1 := by rw [hw1]; exact (Below.refl _ _).alloc (Nat.le_refl _) _
  have HR1 : Hid (w1.heap[w.heap.size]? = some (.cells #[.int .i64 0, .int .i64 0] 24 (0, 0))) := by unfold Hid; rw [hw1]; exact heap_alloc_new _ _
  have HB1 : Hid (Below w.heap.size w w1) := hb1
  have HW1 : Hid (w.alloc (.cells #[.int .i64 0, .int .i64 0] 24) = w1) := hw1.symm
  have HV : Hid (ValsAt w (.slice o 2 c) [(2, a), (2, b)]) := hv
  have HS : Hid (Errs w) := S
  have HAB : Hid (Sm a ∧ Sm b ∧ ∀ x ∈ [((2 : Int), a), (2, b)], rightB x.1 x.2 x.1 = true) := ⟨ha, hb, fun x hx => by
    rcases List.mem_cons.1 hx with rfl | hx
    · exact hra
    · rcases List.mem_cons.1 hx with rfl | hx
      · exact hrb
      · cases hx⟩
  obtain ⟨s, hs⟩ : ∃ s, s = divS md := ⟨_, rfl⟩
  have HSS : Hid (s = divS md) := hs
  rw [← hs]
  clear hv S ha hb hra hrb hb1 hw1 hs
  go_enter Tryd.func5, Tryd.ntmps5
  go_wp2_with fail
  rw [HW1.out]
  refine (operators_any w1).mono ?_
  rintro e w2 ⟨rfl, hO, hb2⟩
  obtain ⟨f, n, p, hF, hf, hp⟩ := div_clo hO md
  have hlk := hF.look Tryd.underlying51 (zero_oper w2) s (by rw [HSS.out]; cases md <;> decide)
  rw [HSS.out, hf, ← HSS.out] at hlk
  simp only [Option.getD_some, Option.isSome_some] at hlk
  have HB2 : Hid (Below w1.heap.size w1 w2) := hb2
  have HBW2 : Hid (Below w.heap.size w w2) := HB1.out.trans (hb2.mono HB1.out.size)
  have HP2 : Hid (w2.cell? ⟨p, 0, none⟩ = some (.func (.func (if md then 63 else 62)) #[] #[])) := hp
  clear hO hF hf hp hb2 HW1
  go_wp2_with fail
  refine (kindsOf_any [(2, a), (2, b)] (by simp) _ w2 (HV.out.below HBW2.out)).mono ?_
  rintro e w3 ⟨v3, rfl, hk3, hb3⟩
  obtain ⟨hl3, o3, c3, rfl, hc3⟩ := hk3
  have HB3 : Hid (Below w2.heap.size w2 w3) := hb3
  have HBW3 : Hid (Below w.heap.size w w3) := HBW2.out.trans (hb3.mono HBW2.out.size)
  obtain ⟨et, eq, he⟩ := HS.out.ty
  obtain ⟨st, sq, hsh⟩ := HS.out.sh
  have HRES : Hid (Calls Tryd.prog 11 #[.string s, .slice o3 2 c3] w3 fun e w' => Below w3.heap.size w3 w' ∧ e = .returned (.tuple #[.int .i64 2, .nilIface])) := by
    have h := result_any w3 s (by rw [HSS.out]; cases md <;> decide) o3 c3 [2, 2] ⟨hl3, o3, c3, rfl, hc3⟩ (by decide) et st eq sq (cell_keep HBW3.out he) (cell_keep HBW3.out hsh)
    refine h.mono ?_
    rintro e w' ⟨h1, k, err, rfl, h2⟩
    rw [HSS.out, div_res] at h2
    rcases h2 with ⟨h2, rfl⟩ | ⟨h2, _⟩
    · obtain rfl : 2 = k := Option.some.inj h2
      exact ⟨h1, rfl⟩
    · cases h2
  clear hb3 hl3 hc3 he hsh hlk
  go_wp2_with fail
  refine HRES.out.mono ?_
  rintro e w4 ⟨hb4, rfl⟩
  have HBW4 : Hid (Below w.heap.size w w4) := HBW3.out.trans (hb4.mono HBW3.out.size)
  have HB4 : Hid (Below w2.heap.size w2 w4) := HB3.out.trans (hb4.mono HB3.out.size)
  clear hb4
  go_wp2_with fail
  refine (vcontains_any w4 _ _ _ _ (HV.out.below HBW4.out) rfl (by decide) HAB.out.2.2).mono ?_
  rintro e w5 ⟨rfl, hb5⟩
  have HBW5 : Hid (Below w.heap.size w w5) := HBW4.out.trans (hb5.mono HBW4.out.size)
  have HB5 : Hid (Below w2.heap.size w2 w5) := HB4.out.trans (hb5.mono HB4.out.size)
  clear hb5
  go_wp2_with fail
  refine (numbersOf_any [(2, a), (2, b)] (by simp) _ w5 (HV.out.below HBW5.out)).mono ?_
  rintro e w6 ⟨v6, rfl, hk6, hb6⟩
  have HK6 : Hid (KindsAt w6 v6 [a, b]) := hk6
  have HBW6 : Hid (Below w.heap.size w w6) := HBW5.out.trans (hb6.mono HBW5.out.size)
  have HB6 : Hid (Below w2.heap.size w2 w6) := HB5.out.trans (hb6.mono HB5.out.size)
  have HP6 : Hid (w6.cell? ⟨p, 0, none⟩ = some (.func (.func (if md then 63 else 62)) #[] #[])) := cell_keep HB6.out HP2.out
  clear hk6 hb6
  by_cases h0 : b = 0
  · subst h0
    go_wp2_with fail
    refine (op_div0 p a v6 w6 HK6.out).mono ?_
    rintro e w7 ⟨rfl, hb7⟩
    have hr7 := row_keep ((HB2.out.trans ((HB6.out.trans (hb7.mono HB6.out.size)).mono HB2.out.size))) HR1.out
    have HB7 : Hid (Below w.heap.size w w7) := HBW6.out.trans (hb7.mono HBW6.out.size)
    have y0 : w7.cell? ⟨w.heap.size, 0, none⟩ = some (.int .i64 0) := by rw [cell_of_row w7 _ _ _ _ (0, 0) hr7]; rfl
    have y1 : w7.cell? ⟨w.heap.size, 0 + 1, none⟩ = some (.int .i64 0) := by rw [cell_of_row w7 _ _ _ _ (0, 0) hr7]; rfl
    have f0 : w7.frozen? ⟨w.heap.size, 0, none⟩ = false := frozen_row hr7
    have f1 : w7.frozen? ⟨w.heap.size, 0 + 1, none⟩ = false := frozen_row hr7
    have HR7 : Hid (w7.heap[w.heap.size]? = _) := hr7
    clear hb7 hr7
    go_wp2
    obtain ⟨wf, hwf⟩ : ∃ wf, wf = (w7.setCell ⟨w.heap.size, 0, none⟩ (.int .i64 0)).setCell ⟨w.heap.size, 1, none⟩ (.int .i64 0) := ⟨_, rfl⟩
    have hr8 : wf.heap[w.heap.size]? = some (.cells #[.int .i64 0, .int .i64 0] 24 (0, 0)) := by rw [hwf]; exact heap_setCell_at (i := 1) (heap_setCell_at (i := 0) HR7.out _) _
    have hb8 : Below w.heap.size w wf := by rw [hwf]; exact (HB7.out.setCell (Nat.le_refl _) _).setCell (Nat.le_refl _) _
    rw [← hwf]
    have u0 : wf.cell? ⟨w.heap.size, 0, none⟩ = some (.int .i64 0) := by rw [cell_of_row _ _ 0 _ _ (0, 0) hr8]; rfl
    have u1 : wf.cell? ⟨w.heap.size, 1, none⟩ = some (.int .i64 0) := by rw [cell_of_row _ _ 1 _ _ (0, 0) hr8]; rfl
    refine bodyPost_ret (v := .tuple #[.agg #[.int .i64 0, .int .i64 0], .bool true, .nilIface]) (by simp [results, Tryd.results5, go_sem, u0, u1]) rfl ?_
    exact ⟨hb8, rfl⟩
  · have H0 : Hid (b ≠ 0) := h0
    obtain ⟨R, hR⟩ : ∃ R, R = aroundI (divR md a b) := ⟨_, rfl⟩
    have HDO : Hid (Calls Tryd.prog 33 #[v6, .pointer (some ⟨p, 0, none⟩)] w6 fun e w' => e = .returned (.tuple #[.int .i64 R, .bool false]) ∧ Below w6.heap.size w6 w') := by unfold Hid; rw [hR]; exact div_do md p a b v6 w6 HK6.out HP6.out HAB.out.1 HAB.out.2.1 h0
    have HRR : Hid (R = aroundI (divR md a b)) := hR
    clear h0 hR
    go_wp2_with fail
    refine HDO.out.mono ?_
    rintro e w7 ⟨rfl, hb7⟩
    have hr7 := row_keep ((HB2.out.trans ((HB6.out.trans (hb7.mono HB6.out.size)).mono HB2.out.size))) HR1.out
    have HB7 : Hid (Below w.heap.size w w7) := HBW6.out.trans (hb7.mono HBW6.out.size)
    have y0 : w7.cell? ⟨w.heap.size, 0, none⟩ = some (.int .i64 0) := by rw [cell_of_row w7 _ _ _ _ (0, 0) hr7]; rfl
    have y1 : w7.cell? ⟨w.heap.size, 0 + 1, none⟩ = some (.int .i64 0) := by rw [cell_of_row w7 _ _ _ _ (0, 0) hr7]; rfl
    have f0 : w7.frozen? ⟨w.heap.size, 0, none⟩ = false := frozen_row hr7
    have f1 : w7.frozen? ⟨w.heap.size, 0 + 1, none⟩ = false := frozen_row hr7
    have HR7 : Hid (w7.heap[w.heap.size]? = _) := hr7
    clear hb7 hr7
    go_wp2
    obtain ⟨wf, hwf⟩ : ∃ wf, wf = (w7.setCell ⟨w.heap.size, 0, none⟩ (.int .i64 2)).setCell ⟨w.heap.size, 1, none⟩ (.int .i64 R) := ⟨_, rfl⟩
    have hr8 : wf.heap[w.heap.size]? = some (.cells #[.int .i64 2, .int .i64 R] 24 (0, 0)) := by rw [hwf]; exact heap_setCell_at (i := 1) (heap_setCell_at (i := 0) HR7.out _) _
    have hb8 : Below w.heap.size w wf := by rw [hwf]; exact (HB7.out.setCell (Nat.le_refl _) _).setCell (Nat.le_refl _) _
    rw [← hwf]
    have u0 : wf.cell? ⟨w.heap.size, 0, none⟩ = some (.int .i64 2) := by rw [cell_of_row _ _ 0 _ _ (0, 0) hr8]; rfl
    have u1 : wf.cell? ⟨w.heap.size, 1, none⟩ = some (.int .i64 R) := by rw [cell_of_row _ _ 1 _ _ (0, 0) hr8]; rfl
    refine bodyPost_ret (v := .tuple #[.agg #[.int .i64 2, .int .i64 R], .bool false, .nilIface]) (by simp [results, Tryd.results5, go_sem, u0, u1]) rfl ?_
    exact ⟨hb8, Or.inr ⟨H0.out, by rw [← HRR.out]⟩⟩
end Go.Proofs.YtgcaohpaopemnaaDoor
