/-
  flow.kindsOf, flow.numbersOf BY CONTRACT.
-/
import Derived.Test.YtgcaohpaopemnaaDoorP07
namespace Go.Proofs.YtgcaohpaopemnaaDoor
open Go.RowKit Go.Maps

def rowO (l : List Int) : Array Value := (l.map (Value.int .i64)).toArray
theorem rowO_get {l : List Int} {k : Nat} {x : Int} (h : l[k]? = some x) : (rowO l)[k]? = some (.int .i64 x) := by simp [rowO, h]
theorem rowO_set (l : List Int) (k : Nat) (x : Int) : (rowO l).setIfInBounds k (.int .i64 x) = rowO (l.set k x) := by simp [rowO, List.map_set]
theorem frozen_rowO {w : World} {g i : Nat} {cs : Array Value} {t : TypeId} (h : w.heap[g]? = some (.cells cs t (0, 0))) : w.frozen? ⟨g, i, none⟩ = false := by simp [World.frozen?, h]
theorem setCell_atO {w : World} {g i : Nat} {cs : Array Value} {t : TypeId} {fr : Nat × Nat} (h : w.heap[g]? = some (.cells cs t fr)) (u : Value) : (w.setCell ⟨g, i, none⟩ u).heap[g]? = some (.cells (cs.setIfInBounds i u) t fr) := by
  simp only [World.setCell, Array.getElem?_modify, if_true, h, Option.map_some]
  rfl
/-- What a slice of gates looks like. -/
theorem made_intsO {w : World} {V n : Nat} (h : w.ownsRow 0 3 1 (.slice (some ⟨V, 0, none⟩) n n) n (madeCells (Value.int .i64 0).cells (n * 1)).toList) : w.heap[V]? = some (.cells (rowO (List.replicate n 0)) 3 (0, 0)) := by
  obtain ⟨_, h2⟩ := h
  rcases h2 with ⟨h2, _⟩ | ⟨g, cap, cur, e, _, hg, _, _, hs, ht⟩
  · cases h2
  · obtain ⟨rfl, rfl⟩ : V = g ∧ n = cap := by simpa using e
    rw [hg]
    have e1 : (madeCells (Value.int .i64 0).cells (n * 1)).toList = List.replicate n (.int .i64 0) := by rw [Nat.mul_one]; exact toList_madeCells_one _ _
    rw [e1] at ht
    have e2 : cur.toList = List.replicate n (.int .i64 0) := by rw [← ht, List.take_of_length_le (by simp [hs])]
    have : cur = rowO (List.replicate n 0) := by
      apply Array.toList_inj.1
      rw [e2]
      simp [rowO]
    rw [this]
/-- The first j are there. -/
def upTo (xs : List Int) (j : Nat) : List Int := xs.take j ++ List.replicate (xs.length - j) 0
theorem upTo_zero (xs : List Int) : upTo xs 0 = List.replicate xs.length 0 := by simp [upTo]
theorem upTo_all (xs : List Int) : upTo xs xs.length = xs := by simp [upTo]
theorem upTo_length {xs : List Int} {j : Nat} (h : j ≤ xs.length) : (upTo xs j).length = xs.length := by simp [upTo]; omega
theorem upTo_set {xs : List Int} {j : Nat} {x : Int} (h : xs[j]? = some x) : (upTo xs j).set j x = upTo xs (j + 1) := by
  have hj := (List.getElem?_eq_some_iff.1 h).1
  unfold upTo
  have hl : (xs.take j).length = j := by simp; omega
  rw [List.set_append_right _ _ (by omega), hl, Nat.sub_self, List.take_add_one, h]
  have e : xs.length - j = (xs.length - (j + 1)) + 1 := by omega
  rw [e, List.replicate_succ]
  simp
theorem kinds_row {w : World} {V : Nat} {xs : List Int} {t : TypeId} {c : Nat} (h : w.heap[V]? = some (.cells (rowO xs) t (0, 0))) (hm : xs.length ≤ maxLen) : KindsAt w (.slice (some ⟨V, 0, none⟩) xs.length c) xs := by
  refine ⟨hm, _, c, rfl, fun k x hk => ⟨V, 0, rfl, ?_⟩⟩
  rw [Nat.zero_add, cell_of_row w V k _ t (0, 0) h]
  exact rowO_get hk
set_option maxRecDepth 100000 in
set_option maxHeartbeats 1000000 in
theorem kindsOf_any (l : List (Int × Int)) (hs : l.length ≤ 10) (v : Value) (w : World) (hv : ValsAt w v l) :
    Calls Tryd.prog 12 #[v] w fun e w' => ∃ v', e = .returned v' ∧ KindsAt w' v' (l.map (·.1)) ∧ Below w.heap.size w w' := by
  obtain ⟨hl, o, c, rfl, hc⟩ := hv
  obtain ⟨i0, hi0, hz0, hz1, hz2⟩ := info_parts Tryd.infoI
  have HC : Hid (∀ k x, l[k]? = some x → ∃ b off, o = some ⟨b, off, none⟩ ∧ w.cell? ⟨b, off + k * 2, none⟩ = some (.int .i64 x.1) ∧ w.cell? ⟨b, off + k * 2 + 1, none⟩ = some (.int .i64 x.2)) := hc
  have HBY : Hid (i0.bytes * l.length ≤ 281474976710656) := by unfold Hid; rw [hz2]; omega
  have HMX : Hid (l.length ≤ maxLen) := hl
  have HLT : Hid (l.length ≤ 10) := hs
  clear hc hl hs
  go_enter Tryd.func12, Tryd.ntmps12
  go_wp2_with (first
    | (at_make; refine wpList_make_full _ rfl _ _ 55 rfl 0 3 i0 _ 1 Tryd.underlying55 hi0 hz0 hz1 .i64 .i64 _ _ l.length rfl rfl (by simp) (by simp) HBY.out HMX.out (Nat.zero_le _) ?_; intro w1 hown1 hgr1)
    | go_in)
  have hV1 := made_intsO hown1
  have HR1 : Hid (w1.heap[w.heap.size]? = some (.cells (rowO (upTo (l.map (·.1)) 0)) 3 (0, 0))) := by unfold Hid; rw [upTo_zero, List.length_map]; exact hV1
  have HB1 : Hid (Below w.heap.size w w1) := ⟨hgr1.os, hgr1.tape, hgr1.output, hgr1.size, fun k hk => hgr1.block k hk (by simp)⟩
  clear hown1 hgr1 hV1 hi0 hz0 hz1 hz2 HBY
  go_loopw [11] (fun t wr => ∃ j : Nat, j ≤ l.length ∧ t = .int .i64 j ∧ wr.heap[w.heap.size]? = some (.cells (rowO (upTo (l.map (·.1)) j)) 3 (0, 0)) ∧ Below w.heap.size w wr) (fun t _ => l.length - (intOf t).toNat)
  case atStart => exact ⟨0, Nat.zero_le _, rfl, HR1.out, HB1.out⟩
  case round =>
    obtain ⟨j, hj, rfl, hrow, hb⟩ := hrel
    by_cases hjl : j < l.length
    · obtain ⟨⟨xk, xn⟩, hx⟩ : ∃ x, l[j]? = some x := ⟨_, List.getElem?_eq_getElem hjl⟩
      obtain ⟨b0, off, rfl, hcx, hcy⟩ := HC.out j _ hx
      simp only at hcx hcy
      have hb0 : b0 < w.heap.size := cell_lt hcx
      have q0 := cell_keep hb hcx
      have q1 := cell_keep hb hcy
      have hVr : w.heap.size < wr.heap.size := (Array.getElem?_eq_some_iff.1 hrow).1
      have i0' : (0 : Int) ≤ (j : Int) := by omega
      have i1' : (j : Int) < (l.length : Int) := by omega
      have HJ : Hid (j < l.length) := hjl
      have N4 : Hid (wrap64 ((j : Int) + 1) = (j : Int) + 1) := by have := HLT.out; unfold Hid wrap64; omega
      have hxm : (l.map (·.1))[j]? = some xk := by rw [List.getElem?_map, hx]; rfl
      obtain ⟨y, hy⟩ : ∃ y, (upTo (l.map (·.1)) j)[j]? = some y := ⟨_, List.getElem?_eq_getElem (by rw [upTo_length (by simp; omega)]; simp; exact hjl)⟩
      have hrow' : (wr.alloc (.cells #[.int .i64 xk, .int .i64 xn] 24)).heap[w.heap.size]? = some (.cells (rowO (upTo (l.map (·.1)) j)) 3 (0, 0)) := orow _ hrow
      have fV : (wr.alloc (.cells #[.int .i64 xk, .int .i64 xn] 24)).frozen? ⟨w.heap.size, j, none⟩ = false := frozen_rowO hrow'
      have xV : (wr.alloc (.cells #[.int .i64 xk, .int .i64 xn] 24)).cell? ⟨w.heap.size, j, none⟩ = some (.int .i64 y) := by rw [cell_of_row _ _ _ _ _ (0, 0) hrow']; exact rowO_get hy
      have HE : Hid (((wr.setCell ⟨w.heap.size, j, none⟩ (.int .i64 xk)).alloc (.cells #[.int .i64 xk, .int .i64 xn] 24)).heap[w.heap.size]? = some (.cells (rowO (upTo (l.map (·.1)) (j + 1))) 3 (0, 0))) := by
        unfold Hid
        exact orow _ (by rw [setCell_atO hrow, rowO_set, upTo_set hxm])
      have HB : Hid (Below w.heap.size w ((wr.setCell ⟨w.heap.size, j, none⟩ (.int .i64 xk)).alloc (.cells #[.int .i64 xk, .int .i64 xn] 24))) := (hb.setCell (Nat.le_refl _) _).alloc (by rw [World.size_setCell]; exact hb.size) _
      clear hj hjl hx hcx hcy hxm hy hrow hrow' hb
      go_wp2
      exact ⟨⟨j + 1, HJ.out, by rw [N4.out]; rfl, HE.out, HB.out⟩, by rw [N4.out]; have := HJ.out; simp [intOf]; omega⟩
    · obtain rfl : j = l.length := by omega
      have e : upTo (l.map (·.1)) l.length = l.map (·.1) := by have := upTo_all (l.map (·.1)); rwa [List.length_map] at this
      rw [e] at hrow
      have hk := kinds_row (c := l.length) hrow (by rw [List.length_map]; exact HMX.out)
      rw [List.length_map] at hk
      have HK : Hid (KindsAt wr (.slice (some ⟨w.heap.size, 0, none⟩) l.length l.length) (l.map (·.1))) := hk
      have HB : Hid (Below w.heap.size w wr) := hb
      clear hk e hrow hb hjl hj
      go_wp2
      go_ret
      exact ⟨_, rfl, HK.out, HB.out⟩
set_option maxRecDepth 100000 in
set_option maxHeartbeats 1000000 in
theorem numbersOf_any (l : List (Int × Int)) (hs : l.length ≤ 10) (v : Value) (w : World) (hv : ValsAt w v l) :
    Calls Tryd.prog 15 #[v] w fun e w' => ∃ v', e = .returned v' ∧ KindsAt w' v' (l.map (·.2)) ∧ Below w.heap.size w w' := by
  obtain ⟨hl, o, c, rfl, hc⟩ := hv
  obtain ⟨i0, hi0, hz0, hz1, hz2⟩ := info_parts Tryd.infoI
  have HC : Hid (∀ k x, l[k]? = some x → ∃ b off, o = some ⟨b, off, none⟩ ∧ w.cell? ⟨b, off + k * 2, none⟩ = some (.int .i64 x.1) ∧ w.cell? ⟨b, off + k * 2 + 1, none⟩ = some (.int .i64 x.2)) := hc
  have HBY : Hid (i0.bytes * l.length ≤ 281474976710656) := by unfold Hid; rw [hz2]; omega
  have HMX : Hid (l.length ≤ maxLen) := hl
  have HLT : Hid (l.length ≤ 10) := hs
  clear hc hl hs
  go_enter Tryd.func15, Tryd.ntmps15
  go_wp2_with (first
    | (at_make; refine wpList_make_full _ rfl _ _ 55 rfl 0 3 i0 _ 1 Tryd.underlying55 hi0 hz0 hz1 .i64 .i64 _ _ l.length rfl rfl (by simp) (by simp) HBY.out HMX.out (Nat.zero_le _) ?_; intro w1 hown1 hgr1)
    | go_in)
  have hV1 := made_intsO hown1
  have HR1 : Hid (w1.heap[w.heap.size]? = some (.cells (rowO (upTo (l.map (·.2)) 0)) 3 (0, 0))) := by unfold Hid; rw [upTo_zero, List.length_map]; exact hV1
  have HB1 : Hid (Below w.heap.size w w1) := ⟨hgr1.os, hgr1.tape, hgr1.output, hgr1.size, fun k hk => hgr1.block k hk (by simp)⟩
  clear hown1 hgr1 hV1 hi0 hz0 hz1 hz2 HBY
  go_loopw [11] (fun t wr => ∃ j : Nat, j ≤ l.length ∧ t = .int .i64 j ∧ wr.heap[w.heap.size]? = some (.cells (rowO (upTo (l.map (·.2)) j)) 3 (0, 0)) ∧ Below w.heap.size w wr) (fun t _ => l.length - (intOf t).toNat)
  case atStart => exact ⟨0, Nat.zero_le _, rfl, HR1.out, HB1.out⟩
  case round =>
    obtain ⟨j, hj, rfl, hrow, hb⟩ := hrel
    by_cases hjl : j < l.length
    · obtain ⟨⟨xk, xn⟩, hx⟩ : ∃ x, l[j]? = some x := ⟨_, List.getElem?_eq_getElem hjl⟩
      obtain ⟨b0, off, rfl, hcx, hcy⟩ := HC.out j _ hx
      simp only at hcx hcy
      have hb0 : b0 < w.heap.size := cell_lt hcx
      have q0 := cell_keep hb hcx
      have q1 := cell_keep hb hcy
      have hVr : w.heap.size < wr.heap.size := (Array.getElem?_eq_some_iff.1 hrow).1
      have i0' : (0 : Int) ≤ (j : Int) := by omega
      have i1' : (j : Int) < (l.length : Int) := by omega
      have HJ : Hid (j < l.length) := hjl
      have N4 : Hid (wrap64 ((j : Int) + 1) = (j : Int) + 1) := by have := HLT.out; unfold Hid wrap64; omega
      have hxm : (l.map (·.2))[j]? = some xn := by rw [List.getElem?_map, hx]; rfl
      obtain ⟨y, hy⟩ : ∃ y, (upTo (l.map (·.2)) j)[j]? = some y := ⟨_, List.getElem?_eq_getElem (by rw [upTo_length (by simp; omega)]; simp; exact hjl)⟩
      have hrow' : (wr.alloc (.cells #[.int .i64 xk, .int .i64 xn] 24)).heap[w.heap.size]? = some (.cells (rowO (upTo (l.map (·.2)) j)) 3 (0, 0)) := orow _ hrow
      have fV : (wr.alloc (.cells #[.int .i64 xk, .int .i64 xn] 24)).frozen? ⟨w.heap.size, j, none⟩ = false := frozen_rowO hrow'
      have xV : (wr.alloc (.cells #[.int .i64 xk, .int .i64 xn] 24)).cell? ⟨w.heap.size, j, none⟩ = some (.int .i64 y) := by rw [cell_of_row _ _ _ _ _ (0, 0) hrow']; exact rowO_get hy
      have HE : Hid (((wr.setCell ⟨w.heap.size, j, none⟩ (.int .i64 xn)).alloc (.cells #[.int .i64 xk, .int .i64 xn] 24)).heap[w.heap.size]? = some (.cells (rowO (upTo (l.map (·.2)) (j + 1))) 3 (0, 0))) := by
        unfold Hid
        exact orow _ (by rw [setCell_atO hrow, rowO_set, upTo_set hxm])
      have HB : Hid (Below w.heap.size w ((wr.setCell ⟨w.heap.size, j, none⟩ (.int .i64 xn)).alloc (.cells #[.int .i64 xk, .int .i64 xn] 24))) := (hb.setCell (Nat.le_refl _) _).alloc (by rw [World.size_setCell]; exact hb.size) _
      clear hj hjl hx hcx hcy hxm hy hrow hrow' hb
      go_wp2
      exact ⟨⟨j + 1, HJ.out, by rw [N4.out]; rfl, HE.out, HB.out⟩, by rw [N4.out]; have := HJ.out; simp [intOf]; omega⟩
    · obtain rfl : j = l.length := by omega
      have e : upTo (l.map (·.2)) l.length = l.map (·.2) := by have := upTo_all (l.map (·.2)); rwa [List.length_map] at this
      rw [e] at hrow
      have hk := kinds_row (c := l.length) hrow (by rw [List.length_map]; exact HMX.out)
      rw [List.length_map] at hk
      have HK : Hid (KindsAt wr (.slice (some ⟨w.heap.size, 0, none⟩) l.length l.length) (l.map (·.2))) := hk
      have HB : Hid (Below w.heap.size w wr) := hb
      clear hk e hrow hb hjl hj
      go_wp2
      go_ret
      exact ⟨_, rfl, HK.out, HB.out⟩
end Go.Proofs.YtgcaohpaopemnaaDoor
