/-
  THE DOCUMENT's OPERATORS: lustrumref2.IsApply BY CONTRACT: its loop.
-/
import Derived.Test.YtpiglmaojonbnaaGreatDoorP36
import Derived.Deep.AppendLies
import Derived.Deep.RegionHeld
import Derived.OwnWalk
namespace Go.Proofs.YtpiglmaojonbnaaGreatDoor
open Go.RowKit

theorem owns_keepO {w w' : World} {base size n : Nat} {e : TypeId} {v : Value} {xs : List Value} (h : w.ownsRow base e size v n xs) (hk : Below w.heap.size w w') : w'.ownsRow base e size v n xs := by
  have hl := h.lt
  obtain ⟨h1, h2⟩ := h
  refine ⟨h1, ?_⟩
  rcases h2 with h2 | ⟨g, cap, cur, rfl, hb, hg, r⟩
  · exact .inl h2
  · exact .inr ⟨g, cap, cur, rfl, hb, by rw [hk.block g (hl g rfl).2]; exact hg, r⟩
theorem Tryz.infoI : (Tryz.prog.info? 3).map (fun i => (i.zero, i.size, i.bytes)) = some (some (.int .i64 0), 1, 8) := by kernel_rfl
theorem kinds_of_owns {w : World} {base n : Nat} {o : Option Addr} {c : Nat} {l : List Int} (h : w.ownsRow base 3 1 (.slice o n c) n (l.map (Value.int .i64))) (hn : l.length = n) (hm : n ≤ maxLen) : KindsAt w (.slice o n c) l := by
  subst hn
  refine ⟨hm, o, c, rfl, fun k x hk => ?_⟩
  have hlt := (List.getElem?_eq_some_iff.1 hk).1
  obtain ⟨g, cap, e, _, _⟩ := h.form (by omega)
  obtain ⟨rfl, rfl⟩ : o = some ⟨g, 0, none⟩ ∧ c = cap := by simpa using e
  have hadd' : ∀ j, (⟨g, 0, none⟩ : Addr).add j = ⟨g, 0 + j, none⟩ := fun j => by unfold Addr.add; split <;> simp_all
  refine ⟨g, 0, rfl, ?_⟩
  rw [← hadd']
  exact h.cells (g := g) rfl k _ (by simp [hk])
/-- What IsApply tells. -/
def isAns (ok : Bool) (res : Int) : Int := if ok = true then (if res = 0 then 5 else 0) else 5
/-- All are right values. -/
def allR (l : List (Int × Int)) : Bool := l.all fun x => rightB x.1 x.2 x.1

set_option maxRecDepth 100000 in
set_option maxHeartbeats 1000000 in
theorem isApply_goes (op : ByteArray) (l : List (Int × Int)) (res : Int) (v : Value) (w : World) (hv : ValsAt w v l) (hs : l.length ≤ 10) (hA : ArityIs op l.length true) (h : ¬ (l.length : Int) < 1) (h1 : (op.toList == [112, 114, 101]) = false) (h2 : (op.toList == [45, 62]) = false) (h3 : (op.toList == [102, 98, 121]) = false)
    (hR : allR l = true → ∀ w v, KindsAt w v (l.map (·.1)) → Calls Tryz.prog 23 #[.string op, v] w fun e w' => e = .returned (.int .i64 res) ∧ Below w.heap.size w w') :
    Calls Tryz.prog 9 #[.string op, v] w fun e w' => e = .returned (.int .i64 (isAns (allR l) res)) ∧ Below w.heap.size w w' := by
  obtain ⟨hl, o, c, rfl, hc⟩ := hv
  have d1 : ((l.length : Int) < 1) = False := eq_false h
  clear h
  have HC : Hid (∀ k x, l[k]? = some x → ∃ b off, o = some ⟨b, off, none⟩ ∧ w.cell? ⟨b, off + k * 2, none⟩ = some (.int .i64 x.1) ∧ w.cell? ⟨b, off + k * 2 + 1, none⟩ = some (.int .i64 x.2)) := hc
  have HL : Hid (l.length ≤ maxLen) := hl
  have HLT : Hid (l.length ≤ 10) := hs
  have HR : Hid (allR l = true → ∀ w v, KindsAt w v (l.map (·.1)) → Calls Tryz.prog 23 #[.string op, v] w fun e w' => e = .returned (.int .i64 res) ∧ Below w.heap.size w w') := hR
  obtain ⟨i0, hi0, hz0, hz1, hz2⟩ := info_parts Tryz.infoI
  clear hc hl hs hR
  go_enter Tryz.func9, Tryz.ntmps9
  go_wp2_with (go_at_call 22; refine (hA _).mono ?_; rintro e w' ⟨rfl, hw'⟩; have hw2 := hw'.symm; subst hw2)
  go_loopw [7, 8] (fun s t wr => ∃ (j : Nat) (so : Option Addr) (sc : Nat), j ≤ l.length ∧ t = .int .i64 j ∧ s = .slice so j sc ∧ wr.ownsRow w.heap.size 3 1 (.slice so j sc) j (((l.take j).map (·.1)).map (Value.int .i64)) ∧ Hid (allR (l.take j) = true) ∧ Below w.heap.size w wr) (fun _ t _ => l.length - (intOf t).toNat)
  case atStart => exact ⟨0, none, 0, Nat.zero_le _, rfl, rfl, World.ownsRow_nil _ _ _ _, rfl, Below.refl _ _⟩
  case round =>
    obtain ⟨j, so, sc, hj, rfl, rfl, hown, HRB, hb⟩ := hrel
    have HW : Hid (Below w.heap.size w wr) := hb
    by_cases hjl : j < l.length
    · obtain ⟨⟨xk, xn⟩, hx⟩ : ∃ x, l[j]? = some x := ⟨_, List.getElem?_eq_getElem hjl⟩
      obtain ⟨b0, off, rfl, hcx, hcy⟩ := HC.out j _ hx
      simp only at hcx hcy
      have q0 := cell_keep HW.out hcx
      have q1 := cell_keep HW.out hcy
      have i0' : (0 : Int) ≤ (j : Int) := by omega
      have i1' : (j : Int) < (l.length : Int) := by omega
      have HJ : Hid (j < l.length) := hjl
      have N4 : Hid (wrap64 ((j : Int) + 1) = (j : Int) + 1) := by have := HLT.out; unfold Hid wrap64; omega
      have HM : Hid (j + 1 ≤ maxLen) := by have := HLT.out; unfold Hid maxLen; omega
      have HBY : Hid ((j + 1) * 8 ≤ 140737488355328) := by have := HLT.out; unfold Hid; omega
      have HO : Hid (∀ w', Below wr.heap.size wr w' → ∀ o', (w'.alloc o').ownsRow w.heap.size 3 1 (.slice so j sc) j (((l.take j).map (·.1)).map (Value.int .i64))) := fun w' hw' o' => (owns_keepO hown hw').alloc o'
      have HRW : Hid (∀ k, (Value.slice so j sc).ownBlock = some k → w.heap.size ≤ k) := fun k hk => (hown.lt k hk).1
      have HSZ : Hid (∀ w', Below wr.heap.size wr w' → ∀ o', w.heap.size ≤ (w'.alloc o').heap.size) := fun w' hw' o' => Nat.le_trans (Nat.le_trans hb.size hw'.size) (by simp)
      have etk : ((l.take (j + 1)).map (·.1)).map (Value.int .i64) = ((l.take j).map (·.1)).map (Value.int .i64) ++ [.int .i64 xk] := by rw [List.take_add_one, hx]; simp
      have eal : allR (l.take (j + 1)) = rightB xk xn xk := by
        have := HRB.out
        unfold allR at this ⊢
        rw [List.take_add_one, hx, List.all_append, this]; simp
      have ETK : Hid _ := etk
      have EAL : Hid (allR (l.take (j + 1)) = rightB xk xn xk) := eal
      have HNO : Hid (rightB xk xn xk = false → allR l = false) := by
        intro hf
        unfold allR
        rw [List.all_eq_false]
        exact ⟨(xk, xn), List.mem_of_getElem? hx, by simp [hf]⟩
      clear hj hown hb hjl hx hcx hcy etk eal
      rcases hrr : rightB xk xn xk
      · go_wp2
        go_region_held (fun w' => w'.cell? ⟨b0, off + j * 2, none⟩ = some (.int .i64 xk) ∧ w'.cell? ⟨b0, off + j * 2 + 1, none⟩ = some (.int .i64 xn)) ((first | go_keep | exact ⟨cell_keep HB1.out q0, cell_keep HB1.out q1⟩))
          (first | (go_at_call 5; refine (right_any _ _ _ _).mono ?_; rintro e wr1 ⟨rfl, hb1⟩; have HB1 : Hid (Below wr.heap.size wr wr1) := Below.trans (Below.drew (Below.refl _ _)) hb1; clear hb1))
        have q2 := cell_keep HB1.out q0
        go_wp2
        go_ret
        exact ⟨by rw [HNO.out hrr]; rfl, HW.out.trans (HB1.out.mono HW.out.size)⟩
      · go_wp2
        go_region_held (fun w' => w'.cell? ⟨b0, off + j * 2, none⟩ = some (.int .i64 xk) ∧ w'.cell? ⟨b0, off + j * 2 + 1, none⟩ = some (.int .i64 xn)) ((first | go_keep | exact ⟨cell_keep HB1.out q0, cell_keep HB1.out q1⟩))
          (first | (go_at_call 5; refine (right_any _ _ _ _).mono ?_; rintro e wr1 ⟨rfl, hb1⟩; have HB1 : Hid (Below wr.heap.size wr wr1) := Below.trans (Below.drew (Below.refl _ _)) hb1; clear hb1))
        have q2 := cell_keep HB1.out q0
        go_wp2_with (first
          | (at_builtin; refine wpList_append_lies _ rfl _ _ 67 rfl w.heap.size 3 i0 _ 1 8 Tryz.underlying67 hi0 hz0 hz1 hz2 rfl (by omega) (.slice so j sc) j _ rfl (HO.out wr1 HB1.out _) ⟨wr1.heap.size, 0, none⟩ 1 1 [.int .i64 xk] rfl rfl (World.news_of_block (heap_alloc_new wr1 (.cells #[.int .i64 xk] 3))) (by simp [Value.oneCell']) (by omega) HM.out HBY.out (HSZ.out wr1 HB1.out _) _ rfl ?_; intro g cap w3 hown3 hgrow hat hlt3)
          | go_in)
        have hb3 : Below w.heap.size w w3 := ((HW.out.trans (HB1.out.mono HW.out.size)).alloc (Nat.le_trans HW.out.size HB1.out.size) _).grown hgrow (HSZ.out wr1 HB1.out _) HRW.out
        rw [← ETK.out] at hown3
        exact ⟨⟨j + 1, _, _, HJ.out, by rw [N4.out]; rfl, rfl, hown3, by unfold Hid; rw [EAL.out, hrr], hb3⟩, by rw [N4.out]; have := HJ.out; simp [intOf]; omega⟩
    · obtain rfl : j = l.length := by omega
      rw [List.take_length] at hown HRB
      have hk := kinds_of_owns hown (by simp) (by have := HLT.out; unfold maxLen; omega)
      have HK : Hid (Calls Tryz.prog 23 #[.string op, .slice so l.length sc] wr fun e w' => e = .returned (.int .i64 res) ∧ Below wr.heap.size wr w') := HR.out HRB.out wr _ hk
      have E0 : Hid (allR l = true) := HRB
      clear hown hk HR HRB hj hjl hb HC
      by_cases hr0 : res = 0
      · have d0 : (res == 0) = true := beq_iff_eq.2 hr0
        have E1 : Hid (isAns (allR l) res = 5) := by unfold Hid isAns; rw [if_pos E0.out, if_pos hr0]
        clear hr0
        go_wp2_with (first | (go_at_call 23; refine HK.out.mono ?_; rintro e w' ⟨rfl, hb'⟩; have HB' : Hid (Below wr.heap.size wr w') := hb'; clear hb'))
        go_ret
        exact ⟨by rw [E1.out]; rfl, HW.out.trans (HB'.out.mono HW.out.size)⟩
      · have d0 : (res == 0) = false := beq_eq_false_iff_ne.2 hr0
        have E1 : Hid (isAns (allR l) res = 0) := by unfold Hid isAns; rw [if_pos E0.out, if_neg hr0]
        clear hr0
        go_wp2_with (first | (go_at_call 23; refine HK.out.mono ?_; rintro e w' ⟨rfl, hb'⟩; have HB' : Hid (Below wr.heap.size wr w') := hb'; clear hb'))
        go_ret
        exact ⟨by rw [E1.out]; rfl, HW.out.trans (HB'.out.mono HW.out.size)⟩
end Go.Proofs.YtpiglmaojonbnaaGreatDoor
