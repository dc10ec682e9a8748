/-
  flow's OPERATORS not, neg, if; a division by 0.
-/
import Derived.Test.YtiejfopholdbnaaGreatDoorQ13
import Derived.Test.YtiejfopholdbnaaGreatDoorQ07
import Derived.Test.YtiejfopholdbnaaGreatDoorQ19
import Derived.Deep.RegionHeld3
import Derived.Test.YtiejfopholdbnaaGreatDoorQ01
import Derived.Test.YtiejfopholdbnaaGreatDoorQ16
import Derived.Deep.QuietTactic
import Derived.BigQuiet
import Derived.WalkSmall
namespace Go.Proofs.YtiejfopholdbnaaGreatDoor
open Go.RowKit Go.Maps
set_option maxRecDepth 100000

theorem op_not (a : Int) (ha : a = 0 ∨ a = 1) (v : Value) (w : World) (hv : KindsAt w v [a]) :
  Calls Tryz.prog 111 #[v] w fun e w' => e = .returned (.tuple #[.int .i64 (truthI (a == 0)), .bool false]) ∧ Below w.heap.size w w' := by
 obtain ⟨hl, o, c, rfl, hc⟩ := hv
 obtain ⟨b0, off, rfl, x0⟩ := hc 0 a rfl
 clear hc hl
 simp only [Nat.add_zero] at x0
 rcases ha with rfl | rfl
 ·go_enter Tryz.func111, Tryz.ntmps111
  go_wp2
  go_ret2
  exact ⟨rfl, Below.refl _ _⟩
 ·go_enter Tryz.func111, Tryz.ntmps111
  go_wp2
  go_ret2
  exact ⟨rfl, Below.refl _ _⟩
theorem aroundI_neg (a : Int) : aroundI (-a) = aroundI (256 - a) := by unfold aroundI; omega
theorem op_neg (a : Int) (ha : Sm a) (v : Value) (w : World) (hv : KindsAt w v [a]) :
  Calls Tryz.prog 112 #[v] w fun e w' => e = .returned (.tuple #[.int .i64 (aroundI (256 - a)), .bool false]) ∧ Below w.heap.size w w' := by
 obtain ⟨hl, o, c, rfl, hc⟩ := hv
 obtain ⟨b0, off, rfl, x0⟩ := hc 0 a rfl
 clear hc hl
 simp only [Nat.add_zero] at x0
 rw [← aroundI_neg]
 have HR : Hid (-100000 < -a ∧ -a < 100000) := by unfold Hid; unfold Sm at ha; omega
 have h1 : wrap64 (-a) = -a := by unfold Sm at ha; unfold wrap64; omega
 clear ha
 go_enter Tryz.func112, Tryz.ntmps112
 go_wp2_with (go_at_call 113; refine (faround_any _ HR.out _).mono ?_; rintro e w' ⟨rfl, hw⟩; have hw2 := hw.symm; subst hw2)
 go_ret2
 exact ⟨rfl, Below.refl _ _⟩
theorem op_if (a b d : Int) (ha : a = 0 ∨ a = 1) (v : Value) (w : World) (hv : KindsAt w v [a, b, d]) :
  Calls Tryz.prog 114 #[v] w fun e w' => e = .returned (.tuple #[.int .i64 (bif a == 1 then b else d), .bool false]) ∧ Below w.heap.size w w' := by
 obtain ⟨hl, o, c, rfl, hc⟩ := hv
 obtain ⟨b0, off, rfl, x0⟩ := hc 0 a rfl
 obtain ⟨b1, of1, e1, x1⟩ := hc 1 b rfl
 obtain ⟨rfl, rfl⟩ : b0 = b1 ∧ off = of1 := by simpa using e1
 obtain ⟨b1, of1, e2, x2⟩ := hc 2 d rfl
 obtain ⟨rfl, rfl⟩ : b0 = b1 ∧ off = of1 := by simpa using e2
 clear hc hl e1 e2
 simp only [Nat.add_zero] at x0
 rcases ha with rfl | rfl
 ·go_enter Tryz.func114, Tryz.ntmps114
  go_wp2
  go_ret2
  exact ⟨rfl, Below.refl _ _⟩
 ·go_enter Tryz.func114, Tryz.ntmps114
  go_wp2
  go_ret2
  exact ⟨rfl, Below.refl _ _⟩
theorem op_div0 (p : Nat) (a : Int) (v : Value) (w : World) (hv : KindsAt w v [a, 0]) :
  Calls Tryz.prog 118 #[v, .pointer (some ⟨p, 0, none⟩)] w fun e w' => e = .returned (.tuple #[.int .i64 0, .bool true]) ∧ Below w.heap.size w w' := by
 obtain ⟨hl, o, c, rfl, hc⟩ := hv
 obtain ⟨b0, off, rfl, x0⟩ := hc 0 a rfl
 obtain ⟨b1, of1, e1, x1⟩ := hc 1 0 rfl
 obtain ⟨rfl, rfl⟩ : b0 = b1 ∧ off = of1 := by simpa using e1
 clear hc hl e1
 simp only [Nat.add_zero] at x0
 go_enter Tryz.func118, Tryz.ntmps118
 go_wp2
 go_ret2
 exact ⟨rfl, Below.refl _ _⟩
set_option maxRecDepth 100000

theorem faround_all (n : Int) (w : World) : Calls Tryz.prog 113 #[.int .i64 n] w fun e w' => e = .returned (.int .i64 (aroundI n)) ∧ w' = w := by
 obtain ⟨m, hm⟩ : ∃ m, m = wrap64 (n + 128) := ⟨_, rfl⟩
 have hb := bits_low8 m
 have h1 : wrap64 (n + 128) = m := hm.symm
 have E : Hid (m % 256 = (n + 128) % 256) := by unfold Hid; unfold wrap64 at hm; omega
 have h2 : wrap64 (m % 256 - 128) = m % 256 - 128 := by unfold wrap64; omega
 clear hm
 go_enter Tryz.func113, Tryz.ntmps113
 go_wp2
 go_ret
 refine ⟨?_, rfl⟩
 show Ending.returned (Value.int .i64 (m % 256 - 128)) = _
 rw [E.out]
 rfl
theorem aroundI_self (n : Int) : (n == aroundI n) = (decide (-129 < n) && decide (n < 128)) := by
 rw [Bool.eq_iff_iff]
 simp only [beq_iff_eq, Bool.and_eq_true, decide_eq_true_eq]
 unfold aroundI
 omega
theorem fisInt_any (n : Int) (w : World) : Calls Tryz.prog 100 #[.int .i64 n] w fun e w' => e = .returned (.bool (n == aroundI n)) ∧ Below w.heap.size w w' := by
 go_enter Tryz.func100, Tryz.ntmps100
 go_wp2_with (go_at_call 113; refine (faround_all _ _).mono ?_; rintro e w' ⟨rfl, hw⟩; have hw2 := hw.symm; subst hw2)
 go_ret
 exact ⟨rfl, by first | exact Below.refl _ _ | exact Below.drew (Below.refl _ _)⟩
theorem isNone_any (k n : Int) (w : World) : Calls Tryz.prog 66 #[.agg #[.int .i64 k, .int .i64 n]] w fun e w' => e = .returned (.bool (!rightB k n k)) ∧ Below w.heap.size w w' := by
 by_cases h1 : k = 1
 ·subst h1
  by_cases h2 : n = 0
  ·subst h2
   go_enter Tryz.func66, Tryz.ntmps66
   go_wp2
   go_ret
   refine ⟨by first | rfl | decide, ?_⟩
   go_grown
  ·have d2 : (n == 0) = false := beq_eq_false_iff_ne.2 h2
   have d3 : (n != 0) = true := by simp [h2]
   by_cases h3 : n = 1
   ·subst h3
    go_enter Tryz.func66, Tryz.ntmps66
    go_wp2
    go_ret
    refine ⟨by first | rfl | decide, ?_⟩
    go_grown
   ·have d4 : (n == 1) = false := beq_eq_false_iff_ne.2 h3
    have d5 : (n != 1) = true := by simp [h3]
    have E : Hid (rightB 1 n 1 = false) := by unfold Hid rightB; simp [h2, h3]
    clear h2 h3
    go_enter Tryz.func66, Tryz.ntmps66
    go_wp2
    go_ret
    refine ⟨by rw [E.out]; rfl, ?_⟩
    go_grown
 ·have d1 : (k == 1) = false := beq_eq_false_iff_ne.2 h1
  by_cases h2 : k = 2
  ·subst h2
   have E : Hid (rightB 2 n 2 = (n == aroundI n)) := by unfold Hid; rw [aroundI_self]; unfold rightB; simp
   obtain ⟨q, hq⟩ : ∃ q, q = (n == aroundI n) := ⟨_, rfl⟩
   have HQ := hidP hq
   clear hq d1 h1
   go_enter Tryz.func66, Tryz.ntmps66
   go_wp2_with (go_at_call 100; refine (fisInt_any _ _).mono ?_; rintro e w' ⟨rfl, hb⟩; have HB := hidP hb; clear hb)
   go_ret
   refine ⟨by rw [E.out]; rfl, ?_⟩
   exact (bal).trans (HB.out.mono (by simp))
  ·have d2 : (k == 2) = false := beq_eq_false_iff_ne.2 h2
   have E : Hid (rightB k n k = false) := by unfold Hid rightB; simp [h1, h2]
   clear h1 h2
   go_enter Tryz.func66, Tryz.ntmps66
   go_wp2
   go_ret
   refine ⟨by rw [E.out]; rfl, ?_⟩
   go_grown
set_option maxRecDepth 100000
set_option maxHeartbeats 1000000

def rowO (l : List Int) : Array Value := (l.map (Value.int .i64)).toArray
theorem rowO_get {l : List Int} {k : Nat} {x : Int} (h : l[k]? = some x) : (rowO l)[k]? = some (.int .i64 x) := by simp [rowO, h]
theorem rowO_set (l : List Int) (k : Nat) (x : Int) : (rowO l).setIfInBounds k (.int .i64 x) = rowO (l.set k x) := by simp [rowO, List.map_set]
theorem frozen_rowO {w : World} {g i : Nat} {cs : Array Value} {t : TypeId} (h : w.heap[g]? = some (.cells cs t (0, 0))) : w.frozen? ⟨g, i, none⟩ = false := by simp [World.frozen?, h]
theorem setCell_atO {w : World} {g i : Nat} {cs : Array Value} {t : TypeId} {fr : Nat × Nat} (h : w.heap[g]? = some (.cells cs t fr)) (u : Value) : (w.setCell ⟨g, i, none⟩ u).heap[g]? = some (.cells (cs.setIfInBounds i u) t fr) := by
 simp only [World.setCell, Array.getElem?_modify, if_true, h, Option.map_some]
 rfl
theorem made_intsO {w : World} {V n : Nat} (h : w.ownsRow 0 3 1 (.slice (some ⟨V, 0, none⟩) n n) n (madeCells (Value.int .i64 0).cells (n * 1)).toList) : w.heap[V]? = some (.cells (rowO (List.replicate n 0)) 3 (0, 0)) := by
 obtain ⟨_, h2⟩ := h
 rcases h2 with ⟨h2, _⟩ | ⟨g, cap, cur, e, _, hg, _, _, hs, ht⟩
 ·cases h2
 ·obtain ⟨rfl, rfl⟩ : V = g ∧ n = cap := by simpa using e
  rw [hg]
  have e1 : (madeCells (Value.int .i64 0).cells (n * 1)).toList = List.replicate n (.int .i64 0) := by rw [Nat.mul_one]; exact toList_madeCells_one _ _
  rw [e1] at ht
  have e2 : cur.toList = List.replicate n (.int .i64 0) := by rw [← ht, List.take_of_length_le (by simp [hs])]
  have : cur = rowO (List.replicate n 0) := by
   apply Array.toList_inj.1
   rw [e2]
   simp [rowO]
  rw [this]
def upToO (xs : List Int) (j : Nat) : List Int := xs.take j ++ List.replicate (xs.length - j) 0
theorem upTo_zero (xs : List Int) : upToO xs 0 = List.replicate xs.length 0 := by simp [upToO]
theorem upTo_all (xs : List Int) : upToO xs xs.length = xs := by simp [upToO]
theorem upTo_length {xs : List Int} {j : Nat} (h : j ≤ xs.length) : (upToO xs j).length = xs.length := by simp [upToO]; omega
theorem upTo_set {xs : List Int} {j : Nat} {x : Int} (h : xs[j]? = some x) : (upToO xs j).set j x = upToO xs (j + 1) := by
 have hj := (List.getElem?_eq_some_iff.1 h).1
 unfold upToO
 have hl : (xs.take j).length = j := by simp; omega
 rw [List.set_append_right _ _ (by omega), hl, Nat.sub_self, List.take_add_one, h]
 have e : xs.length - j = (xs.length - (j + 1)) + 1 := by omega
 rw [e, List.replicate_succ]
 simp
theorem kinds_row {w : World} {V : Nat} {xs : List Int} {t : TypeId} {c : Nat} (h : w.heap[V]? = some (.cells (rowO xs) t (0, 0))) (hm : xs.length ≤ maxLen) : KindsAt w (.slice (some ⟨V, 0, none⟩) xs.length c) xs := by
 refine ⟨hm, _, c, rfl, fun k x hk => ⟨V, 0, rfl, ?_⟩⟩
 rw [Nat.zero_add, cell_of_row w V k _ t (0, 0) h]
 exact rowO_get hk
theorem fkindsOf_any (l : List (Int × Int)) (hs : l.length ≤ 10) (v : Value) (w : World) (hv : ValsAt w v l) :
  Calls Tryz.prog 64 #[v] w fun e w' => ∃ v', e = .returned v' ∧ KindsAt w' v' (l.map (·.1)) ∧ Below w.heap.size w w' := by
 obtain ⟨hl, o, c, rfl, hc⟩ := hv
 obtain ⟨i0, hi0, hz0, hz1, hz2⟩ := info_parts Tryz.infoI
 have HC := hidP hc
 have HBY : Hid (i0.bytes * l.length ≤ 281474976710656) := by unfold Hid; rw [hz2]; omega
 have HMX := hidP hl
 have HLT := hidP hs
 clear hc hl hs
 go_enter Tryz.func64, Tryz.ntmps64
 go_wp2_with (first
  | (at_make; refine wpList_make_full _ rfl _ _ 30 rfl 0 3 i0 _ 1 Tryz.underlying30 hi0 hz0 hz1 .i64 .i64 _ _ l.length rfl rfl (by simp) (by simp) HBY.out HMX.out (Nat.zero_le _) ?_; intro w1 hown1 hgr1)
  | go_in)
 have hV1 := made_intsO hown1
 have HR1 : Hid (w1.heap[w.heap.size]? = some (.cells (rowO (upToO (l.map (·.1)) 0)) 3 (0, 0))) := by unfold Hid; rw [upTo_zero, List.length_map]; exact hV1
 have HB1 : Hid (Below w.heap.size w w1) := ⟨hgr1.os, hgr1.tape, hgr1.output, hgr1.size, fun k hk => hgr1.block k hk (by simp)⟩
 clear hown1 hgr1 hV1 hi0 hz0 hz1 hz2 HBY
 go_loopw [11] (fun t wr => ∃ j : Nat, j ≤ l.length ∧ t = .int .i64 j ∧ wr.heap[w.heap.size]? = some (.cells (rowO (upToO (l.map (·.1)) j)) 3 (0, 0)) ∧ Below w.heap.size w wr) (fun t _ => l.length - (intOf t).toNat)
 case atStart => exact ⟨0, Nat.zero_le _, rfl, HR1.out, HB1.out⟩
 case round =>
  obtain ⟨j, hj, rfl, hrow, hb⟩ := hrel
  by_cases hjl : j < l.length
  ·obtain ⟨⟨xk, xn⟩, hx⟩ : ∃ x, l[j]? = some x := ⟨_, List.getElem?_eq_getElem hjl⟩
   obtain ⟨b0, off, rfl, hcx, hcy⟩ := HC.out j _ hx
   simp only at hcx hcy
   have hb0 : b0 < w.heap.size := cell_lt hcx
   have q0 := cell_keep hb hcx
   have q1 := cell_keep hb hcy
   have hVr : w.heap.size < wr.heap.size := (Array.getElem?_eq_some_iff.1 hrow).1
   have i0' : (0 : Int) ≤ (j : Int) := by omega
   have i1' : (j : Int) < (l.length : Int) := by omega
   have HJ := hidP hjl
   have N4 : Hid (wrap64 ((j : Int) + 1) = (j : Int) + 1) := by have := HLT.out; unfold Hid wrap64; omega
   have hxm : (l.map (·.1))[j]? = some xk := by rw [List.getElem?_map, hx]; rfl
   obtain ⟨y, hy⟩ : ∃ y, (upToO (l.map (·.1)) j)[j]? = some y := ⟨_, List.getElem?_eq_getElem (by rw [upTo_length (by simp; omega)]; simp; exact hjl)⟩
   have hrow' : (wr.alloc (.cells #[.int .i64 xk, .int .i64 xn] 66)).heap[w.heap.size]? = some (.cells (rowO (upToO (l.map (·.1)) j)) 3 (0, 0)) := orow _ hrow
   have fV : (wr.alloc (.cells #[.int .i64 xk, .int .i64 xn] 66)).frozen? ⟨w.heap.size, j, none⟩ = false := frozen_rowO hrow'
   have xV : (wr.alloc (.cells #[.int .i64 xk, .int .i64 xn] 66)).cell? ⟨w.heap.size, j, none⟩ = some (.int .i64 y) := by rw [cell_of_row _ _ _ _ _ (0, 0) hrow']; exact rowO_get hy
   have HE : Hid (((wr.setCell ⟨w.heap.size, j, none⟩ (.int .i64 xk)).alloc (.cells #[.int .i64 xk, .int .i64 xn] 66)).heap[w.heap.size]? = some (.cells (rowO (upToO (l.map (·.1)) (j + 1))) 3 (0, 0))) := by
    unfold Hid
    exact orow _ (by rw [setCell_atO hrow, rowO_set, upTo_set hxm])
   have HB : Hid (Below w.heap.size w ((wr.setCell ⟨w.heap.size, j, none⟩ (.int .i64 xk)).alloc (.cells #[.int .i64 xk, .int .i64 xn] 66))) := (hb.setCell (Nat.le_refl _) _).alloc (by rw [World.size_setCell]; exact hb.size) _
   clear hj hjl hx hcx hcy hxm hy hrow hrow' hb
   go_wp2
   exact ⟨⟨j + 1, HJ.out, by rw [N4.out]; rfl, HE.out, HB.out⟩, by rw [N4.out]; have := HJ.out; simp [intOf]; omega⟩
  ·obtain rfl : j = l.length := by omega
   have e : upToO (l.map (·.1)) l.length = l.map (·.1) := by have := upTo_all (l.map (·.1)); rwa [List.length_map] at this
   rw [e] at hrow
   have hk := kinds_row (c := l.length) hrow (by rw [List.length_map]; exact HMX.out)
   rw [List.length_map] at hk
   have HK := hidP hk
   have HB := hidP hb
   clear hk e hrow hb hjl hj
   go_wp2
   go_ret
   exact ⟨_, rfl, HK.out, HB.out⟩
theorem numbersOf_any (l : List (Int × Int)) (hs : l.length ≤ 10) (v : Value) (w : World) (hv : ValsAt w v l) :
  Calls Tryz.prog 67 #[v] w fun e w' => ∃ v', e = .returned v' ∧ KindsAt w' v' (l.map (·.2)) ∧ Below w.heap.size w w' := by
 obtain ⟨hl, o, c, rfl, hc⟩ := hv
 obtain ⟨i0, hi0, hz0, hz1, hz2⟩ := info_parts Tryz.infoI
 have HC := hidP hc
 have HBY : Hid (i0.bytes * l.length ≤ 281474976710656) := by unfold Hid; rw [hz2]; omega
 have HMX := hidP hl
 have HLT := hidP hs
 clear hc hl hs
 go_enter Tryz.func67, Tryz.ntmps67
 go_wp2_with (first
  | (at_make; refine wpList_make_full _ rfl _ _ 30 rfl 0 3 i0 _ 1 Tryz.underlying30 hi0 hz0 hz1 .i64 .i64 _ _ l.length rfl rfl (by simp) (by simp) HBY.out HMX.out (Nat.zero_le _) ?_; intro w1 hown1 hgr1)
  | go_in)
 have hV1 := made_intsO hown1
 have HR1 : Hid (w1.heap[w.heap.size]? = some (.cells (rowO (upToO (l.map (·.2)) 0)) 3 (0, 0))) := by unfold Hid; rw [upTo_zero, List.length_map]; exact hV1
 have HB1 : Hid (Below w.heap.size w w1) := ⟨hgr1.os, hgr1.tape, hgr1.output, hgr1.size, fun k hk => hgr1.block k hk (by simp)⟩
 clear hown1 hgr1 hV1 hi0 hz0 hz1 hz2 HBY
 go_loopw [11] (fun t wr => ∃ j : Nat, j ≤ l.length ∧ t = .int .i64 j ∧ wr.heap[w.heap.size]? = some (.cells (rowO (upToO (l.map (·.2)) j)) 3 (0, 0)) ∧ Below w.heap.size w wr) (fun t _ => l.length - (intOf t).toNat)
 case atStart => exact ⟨0, Nat.zero_le _, rfl, HR1.out, HB1.out⟩
 case round =>
  obtain ⟨j, hj, rfl, hrow, hb⟩ := hrel
  by_cases hjl : j < l.length
  ·obtain ⟨⟨xk, xn⟩, hx⟩ : ∃ x, l[j]? = some x := ⟨_, List.getElem?_eq_getElem hjl⟩
   obtain ⟨b0, off, rfl, hcx, hcy⟩ := HC.out j _ hx
   simp only at hcx hcy
   have hb0 : b0 < w.heap.size := cell_lt hcx
   have q0 := cell_keep hb hcx
   have q1 := cell_keep hb hcy
   have hVr : w.heap.size < wr.heap.size := (Array.getElem?_eq_some_iff.1 hrow).1
   have i0' : (0 : Int) ≤ (j : Int) := by omega
   have i1' : (j : Int) < (l.length : Int) := by omega
   have HJ := hidP hjl
   have N4 : Hid (wrap64 ((j : Int) + 1) = (j : Int) + 1) := by have := HLT.out; unfold Hid wrap64; omega
   have hxm : (l.map (·.2))[j]? = some xn := by rw [List.getElem?_map, hx]; rfl
   obtain ⟨y, hy⟩ : ∃ y, (upToO (l.map (·.2)) j)[j]? = some y := ⟨_, List.getElem?_eq_getElem (by rw [upTo_length (by simp; omega)]; simp; exact hjl)⟩
   have hrow' : (wr.alloc (.cells #[.int .i64 xk, .int .i64 xn] 66)).heap[w.heap.size]? = some (.cells (rowO (upToO (l.map (·.2)) j)) 3 (0, 0)) := orow _ hrow
   have fV : (wr.alloc (.cells #[.int .i64 xk, .int .i64 xn] 66)).frozen? ⟨w.heap.size, j, none⟩ = false := frozen_rowO hrow'
   have xV : (wr.alloc (.cells #[.int .i64 xk, .int .i64 xn] 66)).cell? ⟨w.heap.size, j, none⟩ = some (.int .i64 y) := by rw [cell_of_row _ _ _ _ _ (0, 0) hrow']; exact rowO_get hy
   have HE : Hid (((wr.setCell ⟨w.heap.size, j, none⟩ (.int .i64 xn)).alloc (.cells #[.int .i64 xk, .int .i64 xn] 66)).heap[w.heap.size]? = some (.cells (rowO (upToO (l.map (·.2)) (j + 1))) 3 (0, 0))) := by
    unfold Hid
    exact orow _ (by rw [setCell_atO hrow, rowO_set, upTo_set hxm])
   have HB : Hid (Below w.heap.size w ((wr.setCell ⟨w.heap.size, j, none⟩ (.int .i64 xn)).alloc (.cells #[.int .i64 xk, .int .i64 xn] 66))) := (hb.setCell (Nat.le_refl _) _).alloc (by rw [World.size_setCell]; exact hb.size) _
   clear hj hjl hx hcx hcy hxm hy hrow hrow' hb
   go_wp2
   exact ⟨⟨j + 1, HJ.out, by rw [N4.out]; rfl, HE.out, HB.out⟩, by rw [N4.out]; have := HJ.out; simp [intOf]; omega⟩
  ·obtain rfl : j = l.length := by omega
   have e : upToO (l.map (·.2)) l.length = l.map (·.2) := by have := upTo_all (l.map (·.2)); rwa [List.length_map] at this
   rw [e] at hrow
   have hk := kinds_row (c := l.length) hrow (by rw [List.length_map]; exact HMX.out)
   rw [List.length_map] at hk
   have HK := hidP hk
   have HB := hidP hb
   clear hk e hrow hb hjl hj
   go_wp2
   go_ret
   exact ⟨_, rfl, HK.out, HB.out⟩
end Go.Proofs.YtiejfopholdbnaaGreatDoor
namespace Go.Proofs.YtiejfopholdbnaaGreatDoor
def valL (gs : List (Int × Int)) (inp : List Bool) (x : Int) : Bool := litV (valsOf gs inp) x
def Ext (gs gs' : List (Int × Int)) : Prop := ∃ t, gs' = gs ++ t ∧ cntI t = 0
theorem Ext.refl (gs : List (Int × Int)) : Ext gs gs := ⟨[], by simp, rfl⟩
theorem cntI_app (a b : List (Int × Int)) : cntI (a ++ b) = cntI a + cntI b := by simp [cntI]
theorem Ext.trans {a b c : List (Int × Int)} (h : Ext a b) (k : Ext b c) : Ext a c := by
 obtain ⟨t, rfl, h1⟩ := h
 obtain ⟨u, rfl, h2⟩ := k
 exact ⟨t ++ u, by simp, by rw [cntI_app, h1, h2]⟩
theorem valsTo_app (gs t : List (Int × Int)) (inp : List Bool) : ∀ n, n ≤ gs.length → valsTo (gs ++ t) inp n = valsTo gs inp n
 | 0, _ => rfl
 | n + 1, h => by
  unfold valsTo
  rw [valsTo_app gs t inp n (by omega), List.getElem?_append_left (by omega)]
theorem valsTo_step (gs : List (Int × Int)) (inp : List Bool) (n : Nat) : ∃ b, (valsTo gs inp (n + 1)).1 = (valsTo gs inp n).1 ++ [b] := by
 conv => enter [1, b]; lhs; unfold valsTo
 split
 ·split
  ·exact ⟨_, rfl⟩
  ·exact ⟨_, rfl⟩
 ·exact ⟨_, rfl⟩
theorem valsTo_pre (gs : List (Int × Int)) (inp : List Bool) (n : Nat) : ∀ d, ∃ t, (valsTo gs inp (n + d)).1 = (valsTo gs inp n).1 ++ t
 | 0 => ⟨[], by simp⟩
 | d + 1 => by
  obtain ⟨t, h⟩ := valsTo_pre gs inp n d
  obtain ⟨b, h2⟩ := valsTo_step gs inp (n + d)
  exact ⟨t ++ [b], by rw [← Nat.add_assoc, h2, h, List.append_assoc]⟩
theorem litV_app {vs t : List Bool} {x : Int} (h : x < 2 * (vs.length : Int)) (h0 : 0 < vs.length) : litV (vs ++ t) x = litV vs x := by
 unfold litV
 have : (x / 2).toNat < vs.length := by omega
 simp only [List.getD_eq_getElem?_getD]
 rw [List.getElem?_append_left this]
theorem Ext.val {gs gs' : List (Int × Int)} (h : Ext gs gs') (inp : List Bool) {x : Int} (hx : HasL gs x) : valL gs' inp x = valL gs inp x := by
 obtain ⟨t, rfl, _⟩ := h
 unfold valL valsOf
 obtain ⟨u, hu⟩ := valsTo_pre (gs ++ t) inp gs.length t.length
 rw [List.length_append, hu, valsTo_app gs t inp _ (Nat.le_refl _), litV_app]
 ·rw [valsTo_length]; unfold HasL at hx; omega
 ·rw [valsTo_length]; omega
theorem val_turn (gs : List (Int × Int)) (inp : List Bool) (x : Int) : valL gs inp (turnL x) = !valL gs inp x := by
 obtain ⟨h1, _, h2⟩ := turnL_eq x
 unfold valL litV
 rw [h1]
 rcases h2 with ⟨h3, h4⟩ | ⟨h3, h4⟩
 ·have e1 : (turnL x % 2 == 1) = true := by rw [h3]; simp; omega
  have e2 : (x % 2 == 1) = false := by simp <;> omega
  rw [e1, e2]; cases (valsOf gs inp).getD (x / 2).toNat false <;> rfl
 ·have e1 : (turnL x % 2 == 1) = false := by rw [h3]; simp; omega
  have e2 : (x % 2 == 1) = true := by simp; omega
  rw [e1, e2]; cases (valsOf gs inp).getD (x / 2).toNat false <;> rfl
theorem vals_head (gs : List (Int × Int)) (inp : List Bool) : (valsOf gs inp)[0]? = some false := by
 obtain ⟨t, h⟩ := valsTo_pre gs inp 0 gs.length
 unfold valsOf
 rw [Nat.zero_add] at h
 rw [h]
 rfl
theorem val_zero (gs : List (Int × Int)) (inp : List Bool) : valL gs inp 0 = false := by
 unfold valL litV
 rw [List.getD_eq_getElem?_getD]
 have : ((0 : Int) / 2).toNat = 0 := rfl
 rw [this, vals_head]
 rfl
theorem val_one (gs : List (Int × Int)) (inp : List Bool) : valL gs inp 1 = true := by
 have : turnL 0 = 1 := rfl
 rw [← this, val_turn, val_zero]; rfl
theorem val_gate {gs : List (Int × Int)} (hg : Gs gs) (inp : List Bool) {i : Nat} {p : Int × Int} (hi : gs[i]? = some p) (hp : inpB p = false) : valL gs inp (2 * (i : Int) + 2) = (valL gs inp p.1 && valL gs inp p.2) := by
 have hil : i < gs.length := (List.getElem?_eq_some_iff.1 hi).1
 have hlit := hg.lits hi hp
 obtain ⟨t, ht⟩ := valsTo_pre gs inp (i + 1) (gs.length - (i + 1))
 have e : i + 1 + (gs.length - (i + 1)) = gs.length := by omega
 rw [e] at ht
 have hs : (valsTo gs inp (i + 1)).1 = (valsTo gs inp i).1 ++ [litV (valsTo gs inp i).1 p.1 && litV (valsTo gs inp i).1 p.2] := by
  conv => lhs; unfold valsTo
  rw [hi]
  simp [hp]
 have hl := valsTo_length gs inp i
 have key : ∀ x : Int, x < 2 * ((i : Int) + 1) → litV (valsTo gs inp gs.length).1 x = litV (valsTo gs inp i).1 x := fun x hx => by
  rw [ht, hs, List.append_assoc, litV_app (by rw [hl]; omega) (by omega)]
 unfold valL valsOf
 rw [key p.1 hlit.2.1, key p.2 hlit.2.2.2]
 unfold litV
 have e1 : ((2 * (i : Int) + 2) / 2).toNat = i + 1 := by omega
 have e2 : ((2 * (i : Int) + 2) % 2 == 1) = false := by simp
 rw [e1, e2, List.getD_eq_getElem?_getD, ht, hs, List.append_assoc, List.getElem?_append_right (by omega), hl, Nat.sub_self]
 simp [litV]
theorem mem_idx {gs : List (Int × Int)} {p : Int × Int} (h : p ∈ gs) : gs[gs.idxOf p]? = some p := by
 rw [List.getElem?_eq_getElem (List.idxOf_lt_length_of_mem h), List.getElem_idxOf]
theorem andG_ext (gs : List (Int × Int)) (a b : Int) : Ext gs (andG gs a b) := by
 unfold andG
 split
 ·exact Ext.refl _
 ·rename_i h1
  split
  ·exact Ext.refl _
  ·split
   ·exact Ext.refl _
   ·refine ⟨_, rfl, ?_⟩
    simp only [offB, Bool.or_eq_true, Bool.and_eq_true, decide_eq_true_eq, not_or, not_and] at h1
    have : inpB (min a b, max a b) = false := by
     unfold inpB
     simp only [Prod.mk.injEq, decide_eq_false_iff_not]
     omega
    simp [cntI, this]
theorem val_and {gs : List (Int × Int)} (hg : Gs gs) (inp : List Bool) {a b : Int} (ha : HasL gs a) (hb : HasL gs b) : valL (andG gs a b) inp (andL gs a b) = (valL gs inp a && valL gs inp b) := by
 have hg2 := hg.and ha hb
 have he := andG_ext gs a b
 have hmm : (valL gs inp a && valL gs inp b) = (valL gs inp (min a b) && valL gs inp (max a b)) := by
  rcases Int.le_total a b with h | h
  ·rw [Int.min_eq_left h, Int.max_eq_right h]
  ·rw [Int.min_eq_right h, Int.max_eq_left h, Bool.and_comm]
 rw [hmm]
 by_cases h1 : offB a b = true
 ·have e1 : andG gs a b = gs := by unfold andG; rw [if_pos h1]
  have e2 : andL gs a b = 0 := by unfold andL; rw [if_pos h1]
  rw [e1, e2, val_zero]
  simp only [offB, Bool.or_eq_true, Bool.and_eq_true, decide_eq_true_eq] at h1
  rcases h1 with h1 | ⟨h1, h2⟩
  ·rw [h1, val_zero]; rfl
  ·have : turnL (min a b) = max a b := by unfold turnL; rw [if_pos h2]; omega
   rw [← this, val_turn]
   cases valL gs inp (min a b) <;> rfl
 ·by_cases h2 : oneB a b = true
  ·have e1 : andG gs a b = gs := by unfold andG; rw [if_neg h1, if_pos h2]
   have e2 : andL gs a b = max a b := by unfold andL; rw [if_neg h1, if_pos h2]
   rw [e1, e2]
   simp only [oneB, Bool.or_eq_true, decide_eq_true_eq] at h2
   rcases h2 with h2 | h2
   ·rw [h2, val_one]; rfl
   ·rw [← h2]; cases valL gs inp (min a b) <;> rfl
  ·have hm := andG_mem (gs := gs) h1 h2
   have hn : inpB (min a b, max a b) = false := by
    simp only [offB, Bool.or_eq_true, Bool.and_eq_true, decide_eq_true_eq, not_or, not_and] at h1
    unfold HasL at ha hb
    unfold inpB
    simp only [Prod.mk.injEq, decide_eq_false_iff_not]
    omega
   have hidx : andL gs a b = 2 * ((andG gs a b).idxOf (min a b, max a b) : Int) + 2 := by
    unfold andL andG
    rw [if_neg h1, if_neg h2, if_neg h1, if_neg h2]
    split
    ·rfl
    ·rename_i h3
     rw [idx_new h3, idx_out h3]
   rw [hidx, val_gate hg2 inp (mem_idx hm) hn]
   have hmn : HasL gs (min a b) := by unfold HasL at *; omega
   have hmx : HasL gs (max a b) := by unfold HasL at *; omega
   rw [he.val inp hmn, he.val inp hmx]
end Go.Proofs.YtiejfopholdbnaaGreatDoor
namespace Go.Proofs.YtiejfopholdbnaaGreatDoor
open Go.RowKit Go.Maps
structure Mad (gs gs' : List (Int × Int)) (k : Nat) (x : Int) (f : List Bool → Bool) : Prop where
 ext : Ext gs gs'
 len : gs'.length ≤ gs.length + k
 has : HasL gs' x
 val : ∀ inp, valL gs' inp x = f inp
theorem Mad.and {gs : List (Int × Int)} (h : Gs gs) {a b : Int} (ha : HasL gs a) (hb : HasL gs b) : Mad gs (andG gs a b) 1 (andL gs a b) (fun inp => valL gs inp a && valL gs inp b) :=
 ⟨andG_ext _ _ _, (andG_length gs a b).2, andL_has ha hb, fun inp => val_and h inp ha hb⟩
def LitsAt (F : Nat → Prop) (w : World) (v : Value) (l : List Int) : Prop := l.length ≤ 1000 ∧ ∃ o c, v = .slice o l.length c ∧ ∀ k x, l[k]? = some x → ∃ b off, o = some ⟨b, off, none⟩ ∧ ¬ F b ∧ w.cell? ⟨b, off + k, none⟩ = some (.int .i64 x)
theorem cell_in {w : World} {p : Addr} {v : Value} (hc : w.cell? p = some v) : p.block < w.heap.size := by
 rcases Nat.lt_or_ge p.block w.heap.size with h | h
 ·exact h
 ·simp [World.cell?, Array.getElem?_eq_none h] at hc
theorem LitsAt.at {F : Nat → Prop} {w : World} {o : Option Addr} {n c : Nat} {l : List Int} (h : LitsAt F w (.slice o n c) l) {j : Nat} {x : Int} (hx : l[j]? = some x) : ∃ b off, o = some ⟨b, off, none⟩ ∧ b < w.heap.size ∧ ∀ F' w', Mvd F F' w w' → ¬ F' b ∧ w'.cell? ⟨b, off + j, none⟩ = some (.int .i64 x) := by
 obtain ⟨_, o', c', e, h⟩ := h
 obtain ⟨b, off, rfl, hn, hc⟩ := h j x hx
 obtain ⟨rfl, _, _⟩ : o = some ⟨b, off, none⟩ ∧ n = l.length ∧ c = c' := by simpa using e
 exact ⟨b, off, rfl, cell_in hc, fun F' w' hm => ⟨(hm.cell hc hn).2, (hm.cell hc hn).1⟩⟩
structure Mads (gs gs' : List (Int × Int)) (k : Nat) (l : List Int) (f : List Bool → Nat → Bool) : Prop where
 ext : Ext gs gs'
 len : gs'.length ≤ gs.length + k
 has : ∀ x ∈ l, HasL gs' x
 val : ∀ inp (i : Nat) x, l[i]? = some x → valL gs' inp x = f inp i
theorem HasL.one (gs : List (Int × Int)) : HasL gs 1 := by unfold HasL; omega
theorem Mads.nil {gs gs' : List (Int × Int)} {k : Nat} (h : Ext gs gs') (hl : gs'.length ≤ gs.length + k) (f : List Bool → Nat → Bool) : Mads gs gs' k [] f := ⟨h, hl, fun x hx => by simp at hx, fun _ i x hx => by simp at hx⟩
theorem Mads.to {gs g1 : List (Int × Int)} {k m : Nat} {l : List Int} {f f' : List Bool → Nat → Bool} (hs : Mads gs g1 k l f) (hk : k ≤ m) (hf : ∀ inp i, i < l.length → f inp i = f' inp i) : Mads gs g1 m l f' :=
 ⟨hs.ext, by have := hs.len; omega, hs.has, fun inp i y hy => by rw [hs.val inp i y hy, hf inp i (List.getElem?_eq_some_iff.1 hy).1]⟩
set_option maxRecDepth 100000
set_option maxHeartbeats 1000000

theorem take_eq_step {a b : List Int} {j : Nat} {x y : Int} (ha : a[j]? = some x) (hb : b[j]? = some y) (h : a.take j = b.take j) : a.take (j + 1) = b.take (j + 1) ↔ x = y := by
 rw [List.take_add_one, List.take_add_one, ha, hb, h]
 simp
theorem equalI_any (w : World) (a b : List Int) (oa ob : Option Addr) (ca cb : Nat) (ha : IntsAt w (.slice oa a.length ca) a) (hb : IntsAt w (.slice ob b.length cb) b) (hla : a.length ≤ 100000) :
  Calls Tryz.prog 79 #[.slice oa a.length ca, .slice ob b.length cb] w fun e w' => Below w.heap.size w w' ∧ e = .returned (.bool (decide (a = b))) := by
 have HA := hidP ha
 have HB := hidP hb
 have HL := hidP hla
 clear ha hb hla
 by_cases hl : a.length = b.length
 ·have d0 : ((a.length : Int) != (b.length : Int)) = false := by simp [hl]
  have d1 : ((a.length : Int) == (b.length : Int)) = true := by simp [hl]
  have HLL := hidP hl
  obtain ⟨m, hm⟩ : ∃ m, m = b.length := ⟨_, rfl⟩
  rw [← hm] at HLL hl d0 d1 HB ⊢
  rw [hl] at HA HL ⊢
  have HLA : Hid (a.length = m ∧ b.length = m) := ⟨hl, hm.symm⟩
  clear hl d0 d1 HLL hm
  go_enter Tryz.func79, Tryz.ntmps79
  go_wp2
  go_loopw [13] (fun t wr => ∃ j : Nat, j ≤ m ∧ t = .int .i64 j ∧ Hid (a.take j = b.take j ∧ Below w.heap.size w wr)) (fun t _ => m - (intOf t).toNat)
  case atStart => exact ⟨0, Nat.zero_le _, rfl, ⟨rfl, Below.refl _ _⟩⟩
  case round =>
   obtain ⟨j, hj, rfl, HR⟩ := hrel
   by_cases hjl : j < m
   ·obtain ⟨x, hx⟩ : ∃ x, a[j]? = some x := ⟨_, List.getElem?_eq_getElem (by have := HLA.out; omega)⟩
    obtain ⟨y, hy⟩ : ∃ y, b[j]? = some y := ⟨_, List.getElem?_eq_getElem (by have := HLA.out; omega)⟩
    obtain ⟨b1, f1, rfl, q1⟩ := HA.out.get hx
    obtain ⟨b2, f2, rfl, q2⟩ := HB.out.get hy
    have y1 := cell_keep HR.out.2 q1
    have y2 := cell_keep HR.out.2 q2
    have hst := take_eq_step hx hy HR.out.1
    have i0' : (0 : Int) ≤ (j : Int) := by omega
    have i1' : (j : Int) < (m : Int) := by omega
    have HJ := hidP hjl
    have N4 : Hid (wrap64 ((j : Int) + 1) = (j : Int) + 1) := by have := HL.out; have := HJ.out; unfold Hid wrap64; omega
    have HBE : Hid (Below w.heap.size w wr) := HR.out.2
    by_cases hxy : x = y
    ·subst hxy
     have HT : Hid (a.take (j + 1) = b.take (j + 1)) := hst.2 rfl
     clear hx hy q1 q2 hst hj hjl
     go_wp2
     go_quiet (fail)
     go_wp2
     exact ⟨⟨j + 1, HJ.out, by rw [N4.out]; rfl, ⟨HT.out, ⟨HBE.out.os, HBE.out.tape, HBE.out.output, HBE.out.size, HBE.out.block⟩⟩⟩, by rw [N4.out]; have := HJ.out; simp [intOf]; omega⟩
    ·have d0 : (x != y) = true := bne_iff_ne.2 hxy
     have d1 : (x == y) = false := beq_eq_false_iff_ne.2 hxy
     have HE : Hid (decide (a = b) = false) := decide_eq_false (fun e => hxy (hst.1 (by rw [e])))
     clear hx hy q1 q2 hst hj hjl hxy
     go_wp2
     go_quiet (fail)
     go_wp2
     go_ret
     exact ⟨⟨HBE.out.os, HBE.out.tape, HBE.out.output, HBE.out.size, HBE.out.block⟩, by rw [HE.out]; rfl⟩
   ·obtain rfl : j = m := by omega
    have HE : Hid (decide (a = b) = true) := decide_eq_true (by
     have h := HR.out.1
     rw [List.take_of_length_le (by have := HLA.out; omega), List.take_of_length_le (by have := HLA.out; omega)] at h
     exact h)
    have HBE : Hid (Below w.heap.size w wr) := HR.out.2
    clear hj hjl
    go_wp2
    go_ret
    exact ⟨HBE.out, by rw [HE.out]; rfl⟩
 ·have d0 : ((a.length : Int) != (b.length : Int)) = true := bne_iff_ne.2 (by omega)
  have d1 : ((a.length : Int) == (b.length : Int)) = false := beq_eq_false_iff_ne.2 (by omega)
  have HE : Hid (decide (a = b) = false) := decide_eq_false (fun e => hl (by rw [e]))
  clear hl
  go_enter Tryz.func79, Tryz.ntmps79
  go_wp2
  go_ret
  exact ⟨Below.refl _ _, by rw [HE.out]; rfl⟩
end Go.Proofs.YtiejfopholdbnaaGreatDoor
namespace Go.Proofs.YtiejfopholdbnaaGreatDoor
open Go.RowKit Go.Extern.Stop Go.Stop Go.Extern
set_option maxHeartbeats 1000000 in
theorem coded_str (a : Nat → Addr) (b : Addr) (m : Nat) (c : Int) (cb : Array Value) (tb : TypeId) (w : World) (S : Sents a w) (hrow : w.heap[b.block]? = some (.cells cb tb (0, 0))) (hm : m ≤ 9) (hlt : ∀ j, j < m → b ≠ a j) (heq : m < 9 → a m = b) (hc : c = codeOf m) :
  Calls Tryz.prog 29 #[.iface 289 (.pointer (some b)), .int .i64 c] w fun e w' => e = .returned (.bool true) ∧ Below w.heap.size w w' := by
 subst hc
 go_enter Tryz.func29, Tryz.ntmps29
 go_wp2_with (go_at_call 46; refine (code_str a b m cb tb _ S hrow hm hlt heq).mono ?_; rintro e w' ⟨rfl, hb⟩)
 go_ret
 exact ⟨rfl, hb⟩
end Go.Proofs.YtiejfopholdbnaaGreatDoor
