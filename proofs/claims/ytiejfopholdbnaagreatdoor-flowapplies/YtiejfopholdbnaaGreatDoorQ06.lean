/-
  package graph: Gates, Inputs, Not, BY CONTRACT.
-/
import Derived.Test.YtiejfopholdbnaaGreatDoorQ02
import Derived.Deep.QuietTactic
import Derived.BigQuiet
import Derived.WalkSmall
import Derived.LoopTactic
import Derived.Test.YtiejfopholdbnaaGreatDoorQ05
import Derived.Deep.AppendLies
import Derived.Deep.RegionHeld
import Derived.OwnWalk
import Derived.Test.YtiejfopholdbnaaGreatDoorChecked
import Derived.Below
import Derived.Laws.AppendOwn
import Derived.Laws.Rows
namespace Go.Proofs.YtiejfopholdbnaaGreatDoor
open Go.RowKit Go.Maps
def IntsAt (w : World) (v : Value) (l : List Int) : Prop := l.length ≤ maxLen ∧ ∃ o c, v = .slice o l.length c ∧ ∀ k x, l[k]? = some x → ∃ b off, o = some ⟨b, off, none⟩ ∧ w.cell? ⟨b, off + k, none⟩ = some (.int .i64 x)
end Go.Proofs.YtiejfopholdbnaaGreatDoor
namespace Go.Proofs.YtiejfopholdbnaaGreatDoor
open Go.RowKit
set_option maxRecDepth 100000

def ArityIs (op : ByteArray) (n : Int) (ok : Bool) : Prop := ∀ w : World, Calls Tryz.prog 68 #[.string op] w fun e w' => e = .returned (.tuple #[.int .i64 n, .bool ok]) ∧ w' = w
theorem isApply_no (op : ByteArray) (n : Int) (hA : ArityIs op n false) (o : Option Addr) (m c : Nat) (w : World) :
  Calls Tryz.prog 28 #[.string op, .slice o m c] w fun e w' => e = .returned (.int .i64 3) ∧ Below w.heap.size w w' := by
 go_enter Tryz.func28, Tryz.ntmps28
 go_wp2_with (go_at_call 68; refine (hA _).mono ?_; rintro e w' ⟨rfl, hw'⟩; have hw2 := hw'.symm; subst hw2)
 go_ret
 exact ⟨rfl, Below.refl _ _⟩
theorem isApply_few (op : ByteArray) (n : Int) (hA : ArityIs op n true) (o : Option Addr) (m c : Nat) (h : n < 1) (w : World) :
  Calls Tryz.prog 28 #[.string op, .slice o m c] w fun e w' => e = .returned (.int .i64 3) ∧ Below w.heap.size w w' := by
 have d1 : (n < 1) = True := eq_true h
 clear h
 go_enter Tryz.func28, Tryz.ntmps28
 go_wp2_with (go_at_call 68; refine (hA _).mono ?_; rintro e w' ⟨rfl, hw'⟩; have hw2 := hw'.symm; subst hw2)
 go_ret
 exact ⟨rfl, Below.refl _ _⟩
theorem isApply_len (op : ByteArray) (n : Int) (hA : ArityIs op n true) (o : Option Addr) (m c : Nat) (h : ¬ n < 1) (hm : n ≠ m) (w : World) :
  Calls Tryz.prog 28 #[.string op, .slice o m c] w fun e w' => e = .returned (.int .i64 3) ∧ Below w.heap.size w w' := by
 have d1 : (n < 1) = False := eq_false h
 have d2 : (n == (m : Int)) = false := beq_eq_false_iff_ne.2 hm
 have d3 : (n != (m : Int)) = true := by simp [hm]
 clear h hm
 go_enter Tryz.func28, Tryz.ntmps28
 go_wp2_with (go_at_call 68; refine (hA _).mono ?_; rintro e w' ⟨rfl, hw'⟩; have hw2 := hw'.symm; subst hw2)
 go_ret
 exact ⟨rfl, Below.refl _ _⟩
theorem isApply_pre (op : ByteArray) (o : Option Addr) (m c : Nat) (hA : ArityIs op m true) (h : ¬ (m : Int) < 1) (ht : op.toList = [112, 114, 101]) (w : World) :
  Calls Tryz.prog 28 #[.string op, .slice o m c] w fun e w' => e = .returned (.int .i64 3) ∧ Below w.heap.size w w' := by
 have d1 : ((m : Int) < 1) = False := eq_false h
 clear h
 go_enter Tryz.func28, Tryz.ntmps28
 go_wp2_with (go_at_call 68; refine (hA _).mono ?_; rintro e w' ⟨rfl, hw'⟩; have hw2 := hw'.symm; subst hw2)
 go_ret
 exact ⟨rfl, Below.refl _ _⟩
theorem isApply_arrow (op : ByteArray) (o : Option Addr) (m c : Nat) (hA : ArityIs op m true) (h : ¬ (m : Int) < 1) (ht : op.toList = [45, 62]) (w : World) :
  Calls Tryz.prog 28 #[.string op, .slice o m c] w fun e w' => e = .returned (.int .i64 3) ∧ Below w.heap.size w w' := by
 have d1 : ((m : Int) < 1) = False := eq_false h
 clear h
 go_enter Tryz.func28, Tryz.ntmps28
 go_wp2_with (go_at_call 68; refine (hA _).mono ?_; rintro e w' ⟨rfl, hw'⟩; have hw2 := hw'.symm; subst hw2)
 go_ret
 exact ⟨rfl, Below.refl _ _⟩
theorem isApply_fby (op : ByteArray) (o : Option Addr) (m c : Nat) (hA : ArityIs op m true) (h : ¬ (m : Int) < 1) (ht : op.toList = [102, 98, 121]) (w : World) :
  Calls Tryz.prog 28 #[.string op, .slice o m c] w fun e w' => e = .returned (.int .i64 3) ∧ Below w.heap.size w w' := by
 have d1 : ((m : Int) < 1) = False := eq_false h
 clear h
 go_enter Tryz.func28, Tryz.ntmps28
 go_wp2_with (go_at_call 68; refine (hA _).mono ?_; rintro e w' ⟨rfl, hw'⟩; have hw2 := hw'.symm; subst hw2)
 go_ret
 exact ⟨rfl, Below.refl _ _⟩
set_option maxRecDepth 100000
set_option maxHeartbeats 1000000

theorem owns_keepO {w w' : World} {base size n : Nat} {e : TypeId} {v : Value} {xs : List Value} (h : w.ownsRow base e size v n xs) (hk : Below w.heap.size w w') : w'.ownsRow base e size v n xs := by
 have hl := h.lt
 obtain ⟨h1, h2⟩ := h
 refine ⟨h1, ?_⟩
 rcases h2 with h2 | ⟨g, cap, cur, rfl, hb, hg, r⟩
 ·exact .inl h2
 ·exact .inr ⟨g, cap, cur, rfl, hb, by rw [hk.block g (hl g rfl).2]; exact hg, r⟩
theorem Tryz.infoI : (Tryz.prog.info? 3).map (fun i => (i.zero, i.size, i.bytes)) = some (some (.int .i64 0), 1, 8) := by kernel_rfl
theorem kinds_of_owns {w : World} {base n : Nat} {o : Option Addr} {c : Nat} {l : List Int} (h : w.ownsRow base 3 1 (.slice o n c) n (l.map (Value.int .i64))) (hn : l.length = n) (hm : n ≤ maxLen) : KindsAt w (.slice o n c) l := by
 subst hn
 refine ⟨hm, o, c, rfl, fun k x hk => ?_⟩
 have hlt := (List.getElem?_eq_some_iff.1 hk).1
 obtain ⟨g, cap, e, _, _⟩ := h.form (by omega)
 obtain ⟨rfl, rfl⟩ : o = some ⟨g, 0, none⟩ ∧ c = cap := by simpa using e
 have hadd' : ∀ j, (⟨g, 0, none⟩ : Addr).add j = ⟨g, 0 + j, none⟩ := fun j => by unfold Addr.add; split <;> simp_all
 refine ⟨g, 0, rfl, ?_⟩
 rw [← hadd']
 exact h.cells (g := g) rfl k _ (by simp [hk])
def isAns (ok : Bool) (res : Int) : Int := if ok = true then (if res = 0 then 5 else 0) else 5
def allR (l : List (Int × Int)) : Bool := l.all fun x => rightB x.1 x.2 x.1

theorem isApply_goes (op : ByteArray) (l : List (Int × Int)) (res : Int) (v : Value) (w : World) (hv : ValsAt w v l) (hs : l.length ≤ 10) (hA : ArityIs op l.length true) (h : ¬ (l.length : Int) < 1) (h1 : (op.toList == [112, 114, 101]) = false) (h2 : (op.toList == [45, 62]) = false) (h3 : (op.toList == [102, 98, 121]) = false)
  (hR : allR l = true → ∀ w v, KindsAt w v (l.map (·.1)) → Calls Tryz.prog 70 #[.string op, v] w fun e w' => e = .returned (.int .i64 res) ∧ Below w.heap.size w w') :
  Calls Tryz.prog 28 #[.string op, v] w fun e w' => e = .returned (.int .i64 (isAns (allR l) res)) ∧ Below w.heap.size w w' := by
 obtain ⟨hl, o, c, rfl, hc⟩ := hv
 have d1 : ((l.length : Int) < 1) = False := eq_false h
 clear h
 have HC := hidP hc
 have HL := hidP hl
 have HLT := hidP hs
 have HR := hidP hR
 obtain ⟨i0, hi0, hz0, hz1, hz2⟩ := info_parts Tryz.infoI
 clear hc hl hs hR
 go_enter Tryz.func28, Tryz.ntmps28
 go_wp2_with (go_at_call 68; refine (hA _).mono ?_; rintro e w' ⟨rfl, hw'⟩; have hw2 := hw'.symm; subst hw2)
 go_loopw [7, 8] (fun s t wr => ∃ (j : Nat) (so : Option Addr) (sc : Nat), j ≤ l.length ∧ t = .int .i64 j ∧ s = .slice so j sc ∧ wr.ownsRow w.heap.size 3 1 (.slice so j sc) j (((l.take j).map (·.1)).map (Value.int .i64)) ∧ Hid (allR (l.take j) = true) ∧ Below w.heap.size w wr) (fun _ t _ => l.length - (intOf t).toNat)
 case atStart => exact ⟨0, none, 0, Nat.zero_le _, rfl, rfl, World.ownsRow_nil _ _ _ _, rfl, Below.refl _ _⟩
 case round =>
  obtain ⟨j, so, sc, hj, rfl, rfl, hown, HRB, hb⟩ := hrel
  have HW := hidP hb
  by_cases hjl : j < l.length
  ·obtain ⟨⟨xk, xn⟩, hx⟩ : ∃ x, l[j]? = some x := ⟨_, List.getElem?_eq_getElem hjl⟩
   obtain ⟨b0, off, rfl, hcx, hcy⟩ := HC.out j _ hx
   simp only at hcx hcy
   have q0 := cell_keep HW.out hcx
   have q1 := cell_keep HW.out hcy
   have i0' : (0 : Int) ≤ (j : Int) := by omega
   have i1' : (j : Int) < (l.length : Int) := by omega
   have HJ := hidP hjl
   have N4 : Hid (wrap64 ((j : Int) + 1) = (j : Int) + 1) := by have := HLT.out; unfold Hid wrap64; omega
   have HM : Hid (j + 1 ≤ maxLen) := by have := HLT.out; unfold Hid maxLen; omega
   have HBY : Hid ((j + 1) * 8 ≤ 140737488355328) := by have := HLT.out; unfold Hid; omega
   have HO : Hid (∀ w', Below wr.heap.size wr w' → ∀ o', (w'.alloc o').ownsRow w.heap.size 3 1 (.slice so j sc) j (((l.take j).map (·.1)).map (Value.int .i64))) := fun w' hw' o' => (owns_keepO hown hw').alloc o'
   have HRW : Hid (∀ k, (Value.slice so j sc).ownBlock = some k → w.heap.size ≤ k) := fun k hk => (hown.lt k hk).1
   have HSZ : Hid (∀ w', Below wr.heap.size wr w' → ∀ o', w.heap.size ≤ (w'.alloc o').heap.size) := fun w' hw' o' => Nat.le_trans (Nat.le_trans hb.size hw'.size) (by simp)
   have etk : ((l.take (j + 1)).map (·.1)).map (Value.int .i64) = ((l.take j).map (·.1)).map (Value.int .i64) ++ [.int .i64 xk] := by rw [List.take_add_one, hx]; simp
   have eal : allR (l.take (j + 1)) = rightB xk xn xk := by
    have := HRB.out
    unfold allR at this ⊢
    rw [List.take_add_one, hx, List.all_append, this]; simp
   have ETK : Hid _ := etk
   have EAL : Hid (allR (l.take (j + 1)) = rightB xk xn xk) := eal
   have HNO : Hid (rightB xk xn xk = false → allR l = false) := by
    intro hf
    unfold allR
    rw [List.all_eq_false]
    exact ⟨(xk, xn), List.mem_of_getElem? hx, by simp [hf]⟩
   clear hj hown hb hjl hx hcx hcy etk eal
   rcases hrr : rightB xk xn xk
   ·go_wp2
    go_region_held (fun w' => w'.cell? ⟨b0, off + j * 2, none⟩ = some (.int .i64 xk) ∧ w'.cell? ⟨b0, off + j * 2 + 1, none⟩ = some (.int .i64 xn)) ((first | go_keep | exact ⟨cell_keep HB1.out q0, cell_keep HB1.out q1⟩))
     (first | (go_at_call 69; refine (right_any _ _ _ _).mono ?_; rintro e wr1 ⟨rfl, hb1⟩; have HB1 : Hid (Below wr.heap.size wr wr1) := Below.trans (Below.drew (Below.refl _ _)) hb1; clear hb1))
    have q2 := cell_keep HB1.out q0
    go_wp2
    go_ret
    exact ⟨by rw [HNO.out hrr]; rfl, HW.out.trans (HB1.out.mono HW.out.size)⟩
   ·go_wp2
    go_region_held (fun w' => w'.cell? ⟨b0, off + j * 2, none⟩ = some (.int .i64 xk) ∧ w'.cell? ⟨b0, off + j * 2 + 1, none⟩ = some (.int .i64 xn)) ((first | go_keep | exact ⟨cell_keep HB1.out q0, cell_keep HB1.out q1⟩))
     (first | (go_at_call 69; refine (right_any _ _ _ _).mono ?_; rintro e wr1 ⟨rfl, hb1⟩; have HB1 : Hid (Below wr.heap.size wr wr1) := Below.trans (Below.drew (Below.refl _ _)) hb1; clear hb1))
    have q2 := cell_keep HB1.out q0
    go_wp2_with (first
     | (at_builtin; refine wpList_append_lies _ rfl _ _ 30 rfl w.heap.size 3 i0 _ 1 8 Tryz.underlying30 hi0 hz0 hz1 hz2 rfl (by omega) (.slice so j sc) j _ rfl (HO.out wr1 HB1.out _) ⟨wr1.heap.size, 0, none⟩ 1 1 [.int .i64 xk] rfl rfl (World.news_of_block (heap_alloc_new wr1 (.cells #[.int .i64 xk] 3))) (by simp [Value.oneCell']) (by omega) HM.out HBY.out (HSZ.out wr1 HB1.out _) _ rfl ?_; intro g cap w3 hown3 hgrow hat hlt3)
     | go_in)
    have hb3 : Below w.heap.size w w3 := ((HW.out.trans (HB1.out.mono HW.out.size)).alloc (Nat.le_trans HW.out.size HB1.out.size) _).grown hgrow (HSZ.out wr1 HB1.out _) HRW.out
    rw [← ETK.out] at hown3
    exact ⟨⟨j + 1, _, _, HJ.out, by rw [N4.out]; rfl, rfl, hown3, by unfold Hid; rw [EAL.out, hrr], hb3⟩, by rw [N4.out]; have := HJ.out; simp [intOf]; omega⟩
  ·obtain rfl : j = l.length := by omega
   rw [List.take_length] at hown HRB
   have hk := kinds_of_owns hown (by simp) (by have := HLT.out; unfold maxLen; omega)
   have HK : Hid (Calls Tryz.prog 70 #[.string op, .slice so l.length sc] wr fun e w' => e = .returned (.int .i64 res) ∧ Below wr.heap.size wr w') := HR.out HRB.out wr _ hk
   have E0 : Hid (allR l = true) := HRB
   clear hown hk HR HRB hj hjl hb HC
   by_cases hr0 : res = 0
   ·have d0 : (res == 0) = true := beq_iff_eq.2 hr0
    have E1 : Hid (isAns (allR l) res = 5) := by unfold Hid isAns; rw [if_pos E0.out, if_pos hr0]
    clear hr0
    go_wp2_with (first | (go_at_call 70; refine HK.out.mono ?_; rintro e w' ⟨rfl, hb'⟩; have HB' : Hid (Below wr.heap.size wr w') := hb'; clear hb'))
    go_ret
    exact ⟨by rw [E1.out]; rfl, HW.out.trans (HB'.out.mono HW.out.size)⟩
   ·have d0 : (res == 0) = false := beq_eq_false_iff_ne.2 hr0
    have E1 : Hid (isAns (allR l) res = 0) := by unfold Hid isAns; rw [if_pos E0.out, if_neg hr0]
    clear hr0
    go_wp2_with (first | (go_at_call 70; refine HK.out.mono ?_; rintro e w' ⟨rfl, hb'⟩; have HB' : Hid (Below wr.heap.size wr w') := hb'; clear hb'))
    go_ret
    exact ⟨by rw [E1.out]; rfl, HW.out.trans (HB'.out.mono HW.out.size)⟩
end Go.Proofs.YtiejfopholdbnaaGreatDoor
namespace Go.Proofs.YtiejfopholdbnaaGreatDoor
inductive Ex where
 | mk (op : ByteArray) (n : Int) (s : ByteArray) (l : List Ex)
def Ex.op : Ex → ByteArray | .mk op _ _ _ => op
def Ex.n : Ex → Int | .mk _ n _ _ => n
def Ex.s : Ex → ByteArray | .mk _ _ s _ => s
def Ex.l : Ex → List Ex | .mk _ _ _ l => l
end Go.Proofs.YtiejfopholdbnaaGreatDoor
namespace Go.Proofs.YtiejfopholdbnaaGreatDoor
open Go.RowKit
def RowAt (w : World) (S : Nat → Prop) (size : Nat) (v : Value) (n : Nat) (xs : List Value) : Prop :=
 xs.length = n * size ∧ n ≤ maxLen ∧ ∃ o c, v = .slice o n c ∧ (∀ k x, xs[k]? = some x → ∃ b off, o = some ⟨b, off, none⟩ ∧ S b ∧ w.cell? ⟨b, off + k, none⟩ = some x) ∧ n ≤ c
def From (base : Nat) : Nat → Prop := fun b => base ≤ b
def Stays (S S' : Nat → Prop) (w w' : World) : Prop := ∀ b, S b → b < w.heap.size → S' b ∧ w'.heap[b]? = w.heap[b]?
theorem blk_of_cell {w : World} {p : Addr} {v : Value} (hc : w.cell? p = some v) : p.block < w.heap.size := by
 rcases Nat.lt_or_ge p.block w.heap.size with h | h
 ·exact h
 ·simp [World.cell?, Array.getElem?_eq_none h] at hc
theorem RowAt.keep {w w' : World} {S S' : Nat → Prop} {size n : Nat} {v : Value} {xs : List Value} (h : RowAt w S size v n xs) (hs : Stays S S' w w') : RowAt w' S' size v n xs := by
 obtain ⟨h1, h2, o, c, rfl, h3, h4⟩ := h
 refine ⟨h1, h2, o, c, rfl, fun k x hx => ?_, h4⟩
 obtain ⟨b, off, rfl, hb, hc⟩ := h3 k x hx
 have hs' := hs b hb (blk_of_cell hc)
 exact ⟨b, off, rfl, hs'.1, by rw [World.cell?_of_block (w := w) hs'.2]; exact hc⟩
theorem RowAt.of_owns {w : World} {base size n : Nat} {e : TypeId} {v : Value} {xs : List Value} (h : w.ownsRow base e size v n xs) : RowAt w (From base) size v n xs := by
 obtain ⟨h1, h2⟩ := h
 rcases h2 with ⟨rfl, rfl⟩ | ⟨g, cap, cur, rfl, hg, hh, hc1, hc2, hc3, hc4⟩
 ·have : xs = [] := List.eq_nil_of_length_eq_zero (by omega)
  subst this
  exact ⟨by simp, by unfold maxLen; omega, none, 0, rfl, fun k x hx => by simp at hx, Nat.le_refl _⟩
 ·refine ⟨h1, by omega, _, cap, rfl, fun k x hx => ⟨g, 0, rfl, hg, ?_⟩, hc1⟩
  rw [Nat.zero_add, cell_of_row w g k cur e (0, 0) hh]
  rw [← hc4, List.getElem?_take] at hx
  split at hx
  ·simpa using hx
  ·cases hx
theorem RowAt.at {w : World} {S : Nat → Prop} {size n : Nat} {v : Value} {xs : List Value} (h : RowAt w S size v n xs) (hp : 0 < xs.length) : ∃ b off c, v = .slice (some ⟨b, off, none⟩) n c ∧ S b ∧ b < w.heap.size ∧ ∀ k x, xs[k]? = some x → w.cell? ⟨b, off + k, none⟩ = some x := by
 obtain ⟨h1, h2, o, c, rfl, h3, _⟩ := h
 obtain ⟨b, off, rfl, hb, hc⟩ := h3 0 xs[0] (List.getElem?_eq_getElem hp)
 refine ⟨b, off, c, rfl, hb, blk_of_cell hc, fun k x hx => ?_⟩
 obtain ⟨b', off', e, _, hc'⟩ := h3 k x hx
 injection e with e; injection e with e1 e2; subst e1 e2
 exact hc'

inductive ExIn (w : World) (S : Nat → Prop) : List Ex → List Value → Prop
 | nil : ExIn w S [] []
 | cons (op : ByteArray) (n : Int) (s : ByteArray) (l es : List Ex) (lv : Value) (xs ys : List Value) : RowAt w S 4 lv l.length xs → ExIn w S l xs → ExIn w S es ys → ExIn w S (.mk op n s l :: es) (.string op :: .int .i64 n :: .string s :: lv :: ys)
theorem ExIn.keep {w w' : World} {S S' : Nat → Prop} {es : List Ex} {xs : List Value} (h : ExIn w S es xs) (hs : Stays S S' w w') : ExIn w' S' es xs := by
 induction h with
 | nil => exact .nil
 | cons op n s l es lv xs ys h1 _ _ ih1 ih2 => exact .cons op n s l es lv xs ys (h1.keep hs) ih1 ih2
theorem ExIn.length {w : World} {S : Nat → Prop} {es : List Ex} {xs : List Value} (h : ExIn w S es xs) : xs.length = es.length * 4 := by
 induction h with
 | nil => rfl
 | cons op n s l es lv xs ys h1 _ _ _ ih2 => simp only [List.length_cons, ih2]; omega
theorem ExIn.append {w : World} {S : Nat → Prop} {es fs : List Ex} {xs ys : List Value} (h : ExIn w S es xs) (g : ExIn w S fs ys) : ExIn w S (es ++ fs) (xs ++ ys) := by
 induction h with
 | nil => exact g
 | cons op n s l es lv xs ys h1 h2 _ _ ih2 => exact .cons op n s l _ lv xs _ h1 h2 ih2
theorem ExIn.one {w : World} {S : Nat → Prop} {e : Ex} {xs : List Value} (h : ExIn w S [e] xs) : ∃ op n s l lv ys, e = .mk op n s l ∧ xs = [.string op, .int .i64 n, .string s, lv] ∧ RowAt w S 4 lv l.length ys ∧ ExIn w S l ys := by
 cases h with
 | cons op n s l es lv xs ys h1 h2 h3 =>
  cases h3
  exact ⟨op, n, s, l, lv, xs, rfl, rfl, h1, h2⟩
theorem ExIn.one' {w : World} {S : Nat → Prop} {e : Ex} {xs : List Value} (h : ExIn w S [e] xs) : ∃ op n s l o c ys, e = .mk op n s l ∧ xs = [.string op, .int .i64 n, .string s, .slice o l.length c] ∧ RowAt w S 4 (.slice o l.length c) l.length ys ∧ ExIn w S l ys := by
 obtain ⟨op, n, s, l, lv, ys, rfl, rfl, h1, h2⟩ := h.one
 obtain ⟨a1, a2, o, c, rfl, a3⟩ := h1
 exact ⟨op, n, s, l, o, c, ys, rfl, rfl, ⟨a1, a2, o, c, rfl, a3⟩, h2⟩
def ExV (w : World) (S : Nat → Prop) (e : Ex) (v : Value) : Prop := ∃ xs, v = .agg xs ∧ ExIn w S [e] xs.toList
theorem ExV.one {w : World} {S : Nat → Prop} {e : Ex} {v : Value} (h : ExV w S e v) : ∃ op n s l o c ys, e = .mk op n s l ∧ v = .agg #[.string op, .int .i64 n, .string s, .slice o l.length c] ∧ RowAt w S 4 (.slice o l.length c) l.length ys ∧ ExIn w S l ys := by
 obtain ⟨xs, rfl, h⟩ := h
 obtain ⟨op, n, s, l, o, c, ys, rfl, hx, h1, h2⟩ := h.one'
 refine ⟨op, n, s, l, o, c, ys, rfl, ?_, h1, h2⟩
 congr 1
 apply Array.ext'
 rw [hx]
def varCells (l : List Ex) : List Value := l.flatMap fun e => [.string e.op, .int .i64 e.n]
def nameCells (l : List Ex) : List Value := l.map fun e => .string e.op
theorem RowAt.form {w : World} {S : Nat → Prop} {size n : Nat} {v : Value} {xs : List Value} (h : RowAt w S size v n xs) : ∃ o c, v = .slice o n c := by
 obtain ⟨_, _, o, c, h, _⟩ := h; exact ⟨o, c, h⟩

theorem RowAt.cap {w : World} {S : Nat → Prop} {size n c : Nat} {o : Option Addr} {xs : List Value} (h : RowAt w S size (.slice o n c) n xs) : n ≤ c := by
 obtain ⟨_, _, o', c', e, _, h4⟩ := h
 injection e with e1 e2 e3
 omega
theorem nameCells_at {ns : List Ex} {i : Nat} (hi : i < ns.length) : (nameCells ns)[i]? = some (.string ns[i].op) := by
 simp [nameCells, hi]
theorem varCells_at : ∀ {vs : List Ex} {i : Nat} (hi : i < vs.length), (varCells vs)[i * 2]? = some (.string vs[i].op) ∧ (varCells vs)[i * 2 + 1]? = some (.int .i64 vs[i].n)
 | [], i, hi => by simp at hi
 | v :: vs, 0, _ => ⟨rfl, rfl⟩
 | v :: vs, i + 1, hi => by
  have := varCells_at (vs := vs) (i := i) (by simpa using hi)
  have e : varCells (v :: vs) = .string v.op :: .int .i64 v.n :: varCells vs := rfl
  rw [e, show (i + 1) * 2 = i * 2 + 1 + 1 from by omega, List.getElem?_cons_succ, List.getElem?_cons_succ, List.getElem?_cons_succ, List.getElem?_cons_succ]
  exact this
theorem varCells_length : ∀ (vs : List Ex), (varCells vs).length = vs.length * 2
 | [] => rfl
 | v :: vs => by have := varCells_length vs; simp only [varCells, List.flatMap_cons, List.length_append, List.length_cons, List.length_nil] at this ⊢; omega
theorem nameCells_length (ns : List Ex) : (nameCells ns).length = ns.length := by simp [nameCells]
theorem ExIn.at {w : World} {S : Nat → Prop} {l : List Ex} {xs : List Value} (h : ExIn w S l xs) : ∀ {i : Nat} (hi : i < l.length), ∃ op n s es o c ys, l[i] = .mk op n s es ∧ xs[i * 4]? = some (.string op) ∧ xs[i * 4 + 1]? = some (.int .i64 n) ∧ xs[i * 4 + 2]? = some (.string s) ∧ xs[i * 4 + 3]? = some (.slice o es.length c) ∧ RowAt w S 4 (.slice o es.length c) es.length ys ∧ ExIn w S es ys := by
 induction h with
 | nil => intro i hi; simp at hi
 | cons op n s l es lv xs ys h1 h2 h3 _ ih =>
  intro i hi
  cases i with
  | zero =>
   obtain ⟨o, c, rfl⟩ := h1.form
   exact ⟨op, n, s, l, o, c, xs, rfl, rfl, rfl, rfl, rfl, h1, h2⟩
  | succ i =>
   obtain ⟨op', n', s', l', o, c, zs, e, a0, a1, a2, a3, a4, a5⟩ := ih (i := i) (by simpa using hi)
   refine ⟨op', n', s', l', o, c, zs, by simpa using e, ?_, ?_, ?_, ?_, a4, a5⟩
   ·rw [show (i + 1) * 4 = i * 4 + 1 + 1 + 1 + 1 from by omega]; simpa using a0
   ·rw [show (i + 1) * 4 + 1 = i * 4 + 1 + 1 + 1 + 1 + 1 from by omega]; simpa using a1
   ·rw [show (i + 1) * 4 + 2 = i * 4 + 2 + 1 + 1 + 1 + 1 from by omega]; simpa using a2
   ·rw [show (i + 1) * 4 + 3 = i * 4 + 3 + 1 + 1 + 1 + 1 from by omega]; simpa using a3
theorem size_part {l : List Ex} {i : Nat} (hi : i < l.length) {op : ByteArray} {n : Int} {s : ByteArray} {es : List Ex} (e : l[i] = .mk op n s es) : SizeOf.sizeOf es < SizeOf.sizeOf l := by
 have h := List.sizeOf_lt_of_mem (List.getElem_mem hi)
 rw [e] at h
 simp only [Ex.mk.sizeOf_spec] at h
 omega
theorem blk4 {w : World} {b : Nat} {x y z u : Value} {t : TypeId} (h : w.heap[b]? = some (.cells #[x, y, z, u] t (0, 0))) : w.cell? ⟨b, 0, none⟩ = some x ∧ w.cell? ⟨b, 1, none⟩ = some y ∧ w.cell? ⟨b, 2, none⟩ = some z ∧ w.cell? ⟨b, 3, none⟩ = some u ∧ ∀ k, w.frozen? ⟨b, k, none⟩ = false :=
 ⟨by simp [World.cell?, h], by simp [World.cell?, h], by simp [World.cell?, h], by simp [World.cell?, h], fun k => by simp [World.frozen?, h]⟩
abbrev teObj (op : ByteArray) (n : Int) (s : ByteArray) (v : Value) : Obj := .cells #[.string op, .int .i64 n, .string s, v] 92
theorem two_new (w : World) (o1 o2 : Obj) : ((w.alloc o1).alloc o2).heap[w.heap.size + 1]? = some o2 := by
 have := heap_alloc_new (w.alloc o1) o2
 rw [World.size_alloc] at this; exact this

theorem Tryz.infoVar : (Tryz.prog.info? 157).map (fun i => (i.zero, i.size, i.bytes)) = some (some (.agg #[.string ⟨#[]⟩, .int .i64 0]), 2, 24) := by kernel_rfl
end Go.Proofs.YtiejfopholdbnaaGreatDoor
