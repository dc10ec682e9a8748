/-
  package word: turned, sum BY CONTRACT; words of literals in memory.
-/
import Derived.Test.YtpiglmaojonbnaaGreatDoorP10
import Derived.Test.YtpiglmaojonbnaaGreatDoorP09
namespace Go.Proofs.YtpiglmaojonbnaaGreatDoor
open Go.RowKit Go.Maps

/-- Literals one behind the other, in none of the graph's blocks. -/
def LitsAt (F : Nat → Prop) (w : World) (v : Value) (l : List Int) : Prop := l.length ≤ 1000 ∧ ∃ o c, v = .slice o l.length c ∧ ∀ k x, l[k]? = some x → ∃ b off, o = some ⟨b, off, none⟩ ∧ ¬ F b ∧ w.cell? ⟨b, off + k, none⟩ = some (.int .i64 x)
theorem LitsAt.move {F F' : Nat → Prop} {w w' : World} {v : Value} {l : List Int} (h : LitsAt F w v l) (hm : Mvd F F' w w') : LitsAt F' w' v l := by
  obtain ⟨hl, o, c, rfl, h⟩ := h
  refine ⟨hl, o, c, rfl, fun k x hk => ?_⟩
  obtain ⟨b, off, e, hn, hc⟩ := h k x hk
  have := hm.cell hc hn
  exact ⟨b, off, e, this.2, this.1⟩
theorem LitsAt.ints {F : Nat → Prop} {w : World} {v : Value} {l : List Int} (h : LitsAt F w v l) : IntsAt w v l := by
  obtain ⟨hl, o, c, rfl, h⟩ := h
  refine ⟨by unfold maxLen; omega, o, c, rfl, fun k x hk => ?_⟩
  obtain ⟨b, off, e, _, hc⟩ := h k x hk
  exact ⟨b, off, e, hc⟩
theorem lits_row {F : Nat → Prop} {w : World} {V : Nat} {l : List Int} {t : TypeId} {c : Nat} (hV : w.heap[V]? = some (.cells (rowI l) t (0, 0))) (hn : ¬ F V) (hl : l.length ≤ 1000) : LitsAt F w (.slice (some ⟨V, 0, none⟩) l.length c) l :=
  ⟨hl, _, c, rfl, fun k x hk => ⟨V, 0, rfl, hn, by rw [Nat.zero_add, cell_of_row w V _ _ t (0, 0) hV]; exact rowI_get hk⟩⟩
theorem cell_in {w : World} {p : Addr} {v : Value} (hc : w.cell? p = some v) : p.block < w.heap.size := by
  rcases Nat.lt_or_ge p.block w.heap.size with h | h
  · exact h
  · simp [World.cell?, Array.getElem?_eq_none h] at hc
theorem cell_apart {w : World} {V i : Nat} {u : Value} {p : Addr} (h : p.block ≠ V) : (w.setCell ⟨V, i, none⟩ u).cell? p = w.cell? p := by
  have e : (w.setCell ⟨V, i, none⟩ u).heap[p.block]? = w.heap[p.block]? := Below.heap_setCell w ⟨V, i, none⟩ u p.block h
  simp only [World.cell?, e]
theorem LitsAt.at {F : Nat → Prop} {w : World} {o : Option Addr} {n c : Nat} {l : List Int} (h : LitsAt F w (.slice o n c) l) {j : Nat} {x : Int} (hx : l[j]? = some x) : ∃ b off, o = some ⟨b, off, none⟩ ∧ b < w.heap.size ∧ ∀ F' w', Mvd F F' w w' → ¬ F' b ∧ w'.cell? ⟨b, off + j, none⟩ = some (.int .i64 x) := by
  obtain ⟨_, o', c', e, h⟩ := h
  obtain ⟨b, off, rfl, hn, hc⟩ := h j x hx
  obtain ⟨rfl, _, _⟩ : o = some ⟨b, off, none⟩ ∧ n = l.length ∧ c = c' := by simpa using e
  exact ⟨b, off, rfl, cell_in hc, fun F' w' hm => ⟨(hm.cell hc hn).2, (hm.cell hc hn).1⟩⟩
/-- Words were made. -/
structure Mads (gs gs' : List (Int × Int)) (k : Nat) (l : List Int) (f : List Bool → Nat → Bool) : Prop where
  ext : Ext gs gs'
  len : gs'.length ≤ gs.length + k
  has : ∀ x ∈ l, HasL gs' x
  val : ∀ inp (i : Nat) x, l[i]? = some x → valL gs' inp x = f inp i
/-- The bits of literals. -/
def bitsL (gs : List (Int × Int)) (inp : List Bool) (l : List Int) (i : Nat) : Bool := valL gs inp (l.getD i 0)
theorem bitsL_get {gs : List (Int × Int)} {inp : List Bool} {l : List Int} {i : Nat} {x : Int} (h : l[i]? = some x) : bitsL gs inp l i = valL gs inp x := by unfold bitsL; rw [List.getD_eq_getElem?_getD, h]; rfl
theorem Mads.bits {gs gs' : List (Int × Int)} {k : Nat} {l : List Int} {f : List Bool → Nat → Bool} (h : Mads gs gs' k l f) (inp : List Bool) {i : Nat} (hi : i < l.length) : bitsL gs' inp l i = f inp i := by
  have e : l[i]? = some l[i] := List.getElem?_eq_getElem hi
  rw [bitsL_get e, h.val inp i _ e]
theorem HasL.zero (gs : List (Int × Int)) : HasL gs 0 := by unfold HasL; omega
theorem HasL.one (gs : List (Int × Int)) : HasL gs 1 := by unfold HasL; omega
theorem Mads.nil {gs gs' : List (Int × Int)} {k : Nat} (h : Ext gs gs') (hl : gs'.length ≤ gs.length + k) (f : List Bool → Nat → Bool) : Mads gs gs' k [] f := ⟨h, hl, fun x hx => by simp at hx, fun _ i x hx => by simp at hx⟩
/-- One literal more. -/
theorem Mads.snoc {gs g1 g2 : List (Int × Int)} {k m : Nat} {l : List Int} {f : List Bool → Nat → Bool} {x : Int} {h : List Bool → Bool} (hs : Mads gs g1 k l f) (hx : Mad g1 g2 m x h) (hf : ∀ inp, h inp = f inp l.length) : Mads gs g2 (k + m) (l ++ [x]) f := by
  refine ⟨hs.ext.trans hx.ext, by have := hs.len; have := hx.len; omega, fun y hy => ?_, fun inp i y hy => ?_⟩
  · rcases List.mem_append.1 hy with hy | hy
    · exact (hs.has y hy).ext hx.ext
    · simp at hy; subst hy; exact hx.has
  · rcases Nat.lt_or_ge i l.length with hi | hi
    · rw [List.getElem?_append_left hi] at hy
      rw [hx.ext.val inp (hs.has y (List.mem_of_getElem? hy)), hs.val inp i y hy]
    · rw [List.getElem?_append_right hi] at hy
      have h0 : i - l.length = 0 := by
        rcases Nat.eq_zero_or_pos (i - l.length) with h | h
        · exact h
        · rw [List.getElem?_eq_none (by simp; omega)] at hy; cases hy
      rw [h0] at hy
      simp at hy
      subst hy
      have : i = l.length := by omega
      rw [hx.val inp, hf inp, this]
/-- More gates, nothing said of them. -/
theorem Mads.more {gs g1 g2 : List (Int × Int)} {k m : Nat} {l : List Int} {f : List Bool → Nat → Bool} (hs : Mads gs g1 k l f) (he : Ext g1 g2) (hm : g2.length ≤ g1.length + m) : Mads gs g2 (k + m) l f :=
  ⟨hs.ext.trans he, by have := hs.len; omega, fun y hy => (hs.has y hy).ext he, fun inp i y hy => by rw [he.val inp (hs.has y (List.mem_of_getElem? hy)), hs.val inp i y hy]⟩
theorem Mads.to {gs g1 : List (Int × Int)} {k m : Nat} {l : List Int} {f f' : List Bool → Nat → Bool} (hs : Mads gs g1 k l f) (hk : k ≤ m) (hf : ∀ inp i, i < l.length → f inp i = f' inp i) : Mads gs g1 m l f' :=
  ⟨hs.ext, by have := hs.len; omega, hs.has, fun inp i y hy => by rw [hs.val inp i y hy, hf inp i (List.getElem?_eq_some_iff.1 hy).1]⟩

set_option maxRecDepth 100000 in
set_option maxHeartbeats 1000000 in
theorem turned_any {F : Nat → Prop} {w : World} (v : Value) (l : List Int) (hv : LitsAt F w v l) (hI : ∀ x ∈ l, I64 x) :
    Calls Tryz.prog 40 #[v] w fun e w' => ∃ V, e = .returned (.slice (some ⟨V, 0, none⟩) l.length l.length) ∧ w.heap.size ≤ V ∧ w'.heap[V]? = some (.cells (rowI (l.map turnL)) 39 (0, 0)) ∧ Below w.heap.size w w' := by
  obtain ⟨i0, hi0, hz0, hz1, hz2⟩ := info_parts Tryz.infoLit
  obtain ⟨hlen, o, c, rfl, hc⟩ := hv
  have HC : Hid (∀ k x, l[k]? = some x → ∃ b off, o = some ⟨b, off, none⟩ ∧ ¬ F b ∧ w.cell? ⟨b, off + k, none⟩ = some (.int .i64 x)) := hc
  have HI : Hid (∀ x ∈ l, I64 x) := hI
  have HBY : Hid (i0.bytes * l.length ≤ 281474976710656) := by unfold Hid; rw [hz2]; omega
  have HMX : Hid (l.length ≤ maxLen) := by unfold Hid maxLen; omega
  have HLL : Hid (l.length ≤ 1000) := hlen
  clear hc hI hlen
  go_enter Tryz.func40, Tryz.ntmps40
  go_wp2_with (first
    | (at_make; refine wpList_make_full _ rfl _ _ 38 rfl 0 39 i0 _ 1 Tryz.underlying38 hi0 hz0 hz1 .i64 .i64 _ _ l.length rfl rfl (by simp) (by simp) HBY.out HMX.out (Nat.zero_le _) ?_; intro w1 hown1 hgr1)
    | go_in)
  have hV1 := made_lits hown1
  have HR1 : Hid (w1.heap[w.heap.size]? = some (.cells (rowI (rowP ((l.take 0).map turnL) l.length)) 39 (0, 0))) := hV1
  have HB1 : Hid (Below w.heap.size w w1) := ⟨hgr1.os, hgr1.tape, hgr1.output, hgr1.size, fun k hk => hgr1.block k hk (by simp)⟩
  clear hown1 hgr1 hV1 hi0 hz0 hz1 hz2 HBY HMX
  go_loopw [11] (fun t wr => ∃ j : Nat, j ≤ l.length ∧ t = .int .i64 j ∧ wr.heap[w.heap.size]? = some (.cells (rowI (rowP ((l.take j).map turnL) l.length)) 39 (0, 0)) ∧ Below w.heap.size w wr) (fun t _ => l.length - (intOf t).toNat)
  case atStart => exact ⟨0, Nat.zero_le _, rfl, HR1.out, HB1.out⟩
  case round =>
    obtain ⟨j, hj, rfl, hrow, hb⟩ := hrel
    have HW : Hid (Below w.heap.size w wr) := hb
    by_cases hjl : j < l.length
    · obtain ⟨x, hx⟩ : ∃ x, l[j]? = some x := ⟨_, List.getElem?_eq_getElem hjl⟩
      obtain ⟨b, off, rfl, _, hcx⟩ := HC.out j x hx
      have q0 := cell_keep hb hcx
      have ix := HI.out x (List.mem_of_getElem? hx)
      have hlj : ((l.take j).map turnL).length = j := by simp; omega
      have hlt : ((l.take j).map turnL).length < l.length := by omega
      have c0 := rowP_cell hrow hlt
      have f0 : wr.frozen? ⟨w.heap.size, j, none⟩ = false := frozen_row hrow
      have hst := rowP_store hrow hlt (turnL x)
      rw [hlj] at c0 hst
      have e2 : (l.take j).map turnL ++ [turnL x] = (l.take (j + 1)).map turnL := by rw [List.take_add_one, hx]; simp
      rw [e2] at hst
      have HST : Hid _ := hst
      have i0' : (0 : Int) ≤ (j : Int) := by omega
      have i1' : (j : Int) < (l.length : Int) := by omega
      have N4 : Hid (wrap64 ((j : Int) + 1) = (j : Int) + 1) := by have := HLL.out; unfold Hid wrap64; omega
      have HJ : Hid (j < l.length) := hjl
      clear hj hrow hb hjl hx hcx hlj hlt hst e2
      go_wp2_with (go_at_call 60; refine (not_any _ _ (by assumption)).mono ?_; rintro e w' ⟨rfl, hw⟩; have hw2 := hw.symm; subst hw2)
      exact ⟨⟨j + 1, HJ.out, by rw [N4.out]; rfl, HST.out, HW.out.setCell (Nat.le_refl _) _⟩, by rw [N4.out]; have := HJ.out; simp [intOf]; omega⟩
    · obtain rfl : j = l.length := by omega
      rw [List.take_length, rowP_all (by simp)] at hrow
      have HR' : Hid _ := hrow
      clear hrow hb
      go_wp2
      go_ret
      exact ⟨_, rfl, Nat.le_refl _, HR'.out, HW.out⟩
end Go.Proofs.YtpiglmaojonbnaaGreatDoor
