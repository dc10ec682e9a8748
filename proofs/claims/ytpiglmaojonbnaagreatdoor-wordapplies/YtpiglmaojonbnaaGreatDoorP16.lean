/-
  package word: kindsOf, ask BY CONTRACT; words one behind the other.
-/
import Derived.Test.YtpiglmaojonbnaaGreatDoorP12
import Derived.Test.YtpiglmaojonbnaaGreatDoorP15
namespace Go.Proofs.YtpiglmaojonbnaaGreatDoor
open Go.RowKit Go.Maps

/-- Words one behind the other, in none of the graph's blocks. -/
def WordsAt (F : Nat → Prop) (w : World) (v : Value) (ls : List (List Int)) : Prop := ls.length ≤ 100 ∧ ∃ o c, v = .slice o ls.length c ∧ ∀ k l, ls[k]? = some l → ∃ b off o' c', o = some ⟨b, off, none⟩ ∧ ¬ F b ∧ w.cell? ⟨b, off + k, none⟩ = some (.slice o' l.length c') ∧ LitsAt F w (.slice o' l.length c') l
theorem WordsAt.move {F F' : Nat → Prop} {w w' : World} {v : Value} {ls : List (List Int)} (h : WordsAt F w v ls) (hm : Mvd F F' w w') : WordsAt F' w' v ls := by
  obtain ⟨hl, o, c, rfl, h⟩ := h
  refine ⟨hl, o, c, rfl, fun k l hk => ?_⟩
  obtain ⟨b, off, o', c', e, hn, hc, hL⟩ := h k l hk
  have := hm.cell hc hn
  exact ⟨b, off, o', c', e, this.2, this.1, hL.move hm⟩
theorem WordsAt.get {F : Nat → Prop} {w : World} {o : Option Addr} {n c : Nat} {ls : List (List Int)} (h : WordsAt F w (.slice o n c) ls) {k : Nat} {l : List Int} (hk : ls[k]? = some l) : ∃ b off o' c', o = some ⟨b, off, none⟩ ∧ ¬ F b ∧ w.cell? ⟨b, off + k, none⟩ = some (.slice o' l.length c') ∧ LitsAt F w (.slice o' l.length c') l := by
  obtain ⟨_, o1, c1, e, h⟩ := h
  obtain ⟨b, off, o', c', rfl, r⟩ := h k l hk
  obtain ⟨rfl, _, _⟩ : o = some ⟨b, off, none⟩ ∧ n = ls.length ∧ c = c1 := by simpa using e
  exact ⟨b, off, o', c', rfl, r⟩
/-- A word's type by its length. -/
def kindL (l : List Int) : Int := if l.length = 1 then 1 else if l.length = 8 then 2 else 0
set_option maxRecDepth 100000 in
set_option maxHeartbeats 1000000 in
theorem wkinds_any {F : Nat → Prop} {w : World} (o : Option Addr) (n c : Nat) (ls : List (List Int)) (hv : WordsAt F w (.slice o n c) ls) (hn : n = ls.length) :
    Calls Tryz.prog 35 #[.slice o n c] w fun e w' => ∃ V, e = .returned (.slice (some ⟨V, 0, none⟩) n n) ∧ w'.heap[V]? = some (.cells (rowI (ls.map kindL)) 3 (0, 0)) ∧ Below w.heap.size w w' := by
  obtain ⟨i0, hi0, hz0, hz1, hz2⟩ := info_parts Tryz.infoInt
  have hll := hv.1
  have HV : Hid (WordsAt F w (.slice o n c) ls) := hv
  have HN : Hid (n = ls.length) := hn
  have HBY : Hid (i0.bytes * n ≤ 281474976710656) := by unfold Hid; rw [hz2]; omega
  have HMX : Hid (n ≤ maxLen) := by unfold Hid maxLen; omega
  have HLL : Hid (n ≤ 100) := by unfold Hid; omega
  clear hv hn hll
  go_enter Tryz.func35, Tryz.ntmps35
  go_wp2_with (first
    | (at_make; refine wpList_make_full _ rfl _ _ 67 rfl 0 3 i0 _ 1 Tryz.underlying67 hi0 hz0 hz1 .i64 .i64 _ _ n rfl rfl (by simp) (by simp) HBY.out HMX.out (Nat.zero_le _) ?_; intro w1 hown1 hgr1)
    | go_in)
  have hV1 := made_ints hown1
  have HR1 : Hid (w1.heap[w.heap.size]? = some (.cells (rowI (rowP ((ls.take 0).map kindL) n)) 3 (0, 0))) := hV1
  have HB1 : Hid (Below w.heap.size w w1) := ⟨hgr1.os, hgr1.tape, hgr1.output, hgr1.size, fun k hk => hgr1.block k hk (by simp)⟩
  clear hown1 hgr1 hV1 hi0 hz0 hz1 hz2 HBY HMX
  go_loopw [11] (fun t wr => ∃ j : Nat, j ≤ n ∧ t = .int .i64 j ∧ wr.heap[w.heap.size]? = some (.cells (rowI (rowP ((ls.take j).map kindL) n)) 3 (0, 0)) ∧ Below w.heap.size w wr) (fun t _ => n - (intOf t).toNat)
  case atStart => exact ⟨0, Nat.zero_le _, rfl, HR1.out, HB1.out⟩
  case round =>
    obtain ⟨j, hj, rfl, hrow, hb⟩ := hrel
    have HW : Hid (Below w.heap.size w wr) := hb
    by_cases hjl : j < n
    · obtain ⟨l, hl⟩ : ∃ l, ls[j]? = some l := ⟨_, List.getElem?_eq_getElem (by have := HN.out; omega)⟩
      obtain ⟨b, off, o', c', rfl, _, hc, hL⟩ := HV.out.get hl
      have hln := hL.1
      have q0 := cell_keep hb hc
      have hlj : ((ls.take j).map kindL).length = j := by have := HN.out; simp; omega
      have hlt : ((ls.take j).map kindL).length < n := by omega
      have c0 := rowP_cell hrow hlt
      have f0 : wr.frozen? ⟨w.heap.size, j, none⟩ = false := frozen_row hrow
      have hst := rowP_store hrow hlt (kindL l)
      rw [hlj] at c0 hst
      have e2 : (ls.take j).map kindL ++ [kindL l] = (ls.take (j + 1)).map kindL := by rw [List.take_add_one, hl]; simp
      rw [e2] at hst
      have hid : kindL l = 0 → wr.heap[w.heap.size]? = some (.cells (rowI (rowP ((ls.take (j + 1)).map kindL) n)) 3 (0, 0)) := fun h0 => by
        rw [hrow, ← e2, h0]
        congr 3
        unfold rowP
        have : n - ((ls.take j).map kindL).length = (n - ((ls.take j).map kindL ++ [0]).length) + 1 := by simp at hlj ⊢; omega
        rw [this, List.replicate_succ]
        simp
      have HID : Hid (kindL l = 0 → wr.heap[w.heap.size]? = _) := hid
      have HST : Hid ((wr.setCell ⟨w.heap.size, j, none⟩ (.int .i64 (kindL l))).heap[w.heap.size]? = _) := hst
      have i0' : (0 : Int) ≤ (j : Int) := by omega
      have i1' : (j : Int) < (n : Int) := by omega
      have N4 : Hid (wrap64 ((j : Int) + 1) = (j : Int) + 1) := by have := HLL.out; unfold Hid wrap64; omega
      have HJ : Hid (j < n) := hjl
      clear hj hrow hb hjl hl hc hL hlj hlt hst e2 hid
      by_cases h1 : l.length = 1
      · have E : Hid (kindL l = 1) := by unfold Hid kindL; rw [if_pos h1]
        rw [E.out] at HST
        have d1 : (((l.length : Nat) : Int) == 1) = true := by simp; omega
        clear h1 hln
        go_wp2
        exact ⟨⟨j + 1, HJ.out, by rw [N4.out]; rfl, HST.out, HW.out.setCell (Nat.le_refl _) _⟩, by rw [N4.out]; have := HJ.out; simp [intOf]; omega⟩
      · have d1 : (((l.length : Nat) : Int) == 1) = false := by simp; omega
        by_cases h8 : l.length = 8
        · have E : Hid (kindL l = 2) := by unfold Hid kindL; rw [if_neg h1, if_pos h8]
          rw [E.out] at HST
          have d2 : (((l.length : Nat) : Int) == 8) = true := by simp; omega
          clear h1 h8 hln
          go_wp2
          exact ⟨⟨j + 1, HJ.out, by rw [N4.out]; rfl, HST.out, HW.out.setCell (Nat.le_refl _) _⟩, by rw [N4.out]; have := HJ.out; simp [intOf]; omega⟩
        · have E : Hid (kindL l = 0) := by unfold Hid kindL; rw [if_neg h1, if_neg h8]
          have d2 : (((l.length : Nat) : Int) == 8) = false := by simp; omega
          have HS0 : Hid (wr.heap[w.heap.size]? = _) := HID.out E.out
          clear h1 h8 hln HST
          go_wp2
          exact ⟨⟨j + 1, HJ.out, by rw [N4.out]; rfl, HS0.out, HW.out⟩, by rw [N4.out]; have := HJ.out; simp [intOf]; omega⟩
    · obtain rfl : j = n := by omega
      rw [List.take_of_length_le (by rw [HN.out]; exact Nat.le_refl _), rowP_all (by rw [List.length_map, HN.out])] at hrow
      have HR' : Hid _ := hrow
      clear hrow hb hj hjl
      go_wp2
      go_ret
      exact ⟨_, rfl, HR'.out, HW.out⟩
theorem andG_one {gs : List (Int × Int)} {x : Int} (hx : 0 ≤ x) : andG gs x 1 = gs := by
  refine andG_same ?_
  unfold offB oneB
  rcases (by omega : x = 0 ∨ 1 ≤ x) with rfl | h
  · left; decide
  · right; left
    have : min x 1 = 1 := by omega
    rw [this]; simp
set_option maxRecDepth 100000 in
theorem mand_one {G : Nat} {gs : List (Int × Int)} {ins : Nat} {F : Nat → Prop} {w : World} (h : GrAt G gs ins F w) (hl : gs.length < 89000) (x : Int) (hx : HasL gs x) :
    Calls Tryz.prog 36 #[.agg #[.pointer (some ⟨G, 0, none⟩)], .int .i64 x, .int .i64 1] w fun e w' => ∃ y F', e = .returned (.int .i64 y) ∧ GrAt G gs ins F' w' ∧ Mvd F F' w w' := by
  have hb1 : Below w.heap.size w (w.alloc (.cells #[.pointer (some ⟨G, 0, none⟩)] 60)) := (Below.refl _ _).alloc (Nat.le_refl _) _
  have H1 : Hid (GrAt G gs ins F (w.alloc (.cells #[.pointer (some ⟨G, 0, none⟩)] 60))) := h.below hb1
  have HM : Hid (Mvd F F w (w.alloc (.cells #[.pointer (some ⟨G, 0, none⟩)] 60))) := Mvd.of_below hb1
  have HL : Hid (gs.length < 90000) := by unfold Hid; omega
  have HX : Hid (HasL gs x) := hx
  have E : Hid (andG gs x 1 = gs) := andG_one hx.1
  clear h hl hx hb1
  go_enter Tryz.func36, Tryz.ntmps36
  go_wp2_with (first
    | (go_at_call 56; refine (and_ok H1.out HL.out _ _ HX.out (HasL.one _)).mono ?_; rw [E.out]; rintro e w' ⟨rfl, F', hG, hm⟩)
    | (go_at_call 55; refine (made_any _ _).mono ?_; rintro e w' ⟨rfl, rfl⟩))
  go_ret
  exact ⟨_, F', rfl, hG, HM.out.trans hm⟩
/-- A wrong shape is thrown. -/
def ThrewS (e : Ending) : Prop := e = .panicked [{ v := .iface 80 (.agg #[]), recovered := false }]
/-- Words are as an operator must have them. -/
def askB (op : List UInt8) (ls : List (List Int)) : Bool := (resK op (ls.map kindL)).isSome && !ls.isEmpty
end Go.Proofs.YtpiglmaojonbnaaGreatDoor
