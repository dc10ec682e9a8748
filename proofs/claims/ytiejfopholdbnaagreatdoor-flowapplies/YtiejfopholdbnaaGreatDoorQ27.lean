/-
  package order: rows of ints by a function; slices.Index of ints BY CONTRACT; how often each is among the users (mathematics).
-/
import Derived.Test.YtiejfopholdbnaaGreatDoorQ26
namespace Go.Proofs.YtiejfopholdbnaaGreatDoor
open Go.RowKit Go.Maps
set_option maxRecDepth 100000
set_option maxHeartbeats 1000000

def rowF (n : Nat) (g : Nat → Int) : List Int := (List.range n).map g
theorem rowF_length (n : Nat) (g : Nat → Int) : (rowF n g).length = n := by simp [rowF]
theorem rowF_at {n k : Nat} (g : Nat → Int) (h : k < n) : (rowF n g)[k]? = some (g k) := by simp [rowF, h]
theorem rowF_set {n k : Nat} (g : Nat → Int) (v : Int) : (rowF n g).set k v = rowF n (fun j => if j = k then v else g j) := by
 apply List.ext_getElem?
 intro j
 by_cases hj : j < n
 ·rw [rowF_at _ hj]
  by_cases e : k = j
  ·subst e
   rw [List.getElem?_set_self (by rw [rowF_length]; exact hj), if_pos rfl]
  ·rw [List.getElem?_set_ne e, rowF_at _ hj, if_neg (fun h => e h.symm)]
 ·rw [List.getElem?_eq_none (by rw [List.length_set, rowF_length]; omega), List.getElem?_eq_none (by rw [rowF_length]; omega)]
theorem rowF_congr {n : Nat} {g h : Nat → Int} (e : ∀ k, k < n → g k = h k) : rowF n g = rowF n h := List.map_congr_left fun k hk => e k (List.mem_range.1 hk)
def WtAt (w : World) (W n : Nat) (g : Nat → Int) : Prop := w.heap[W]? = some (.cells ((rowF n g).map (Value.int .i64)).toArray 3 (0, 0))
theorem WtAt.cell {w : World} {W n : Nat} {g : Nat → Int} (h : WtAt w W n g) {k : Nat} (hk : k < n) : w.cell? ⟨W, k, none⟩ = some (.int .i64 (g k)) := by
 rw [cell_of_row w W k _ _ (0, 0) h]
 simp [rowF, hk]
theorem WtAt.free {w : World} {W n : Nat} {g : Nat → Int} (h : WtAt w W n g) (k : Nat) : w.frozen? ⟨W, k, none⟩ = false := by
 unfold WtAt at h
 simp [World.frozen?, h]
theorem WtAt.set {w : World} {W n : Nat} {g : Nat → Int} (h : WtAt w W n g) (k : Nat) (v : Int) : WtAt (w.setCell ⟨W, k, none⟩ (.int .i64 v)) W n (fun j => if j = k then v else g j) := by
 unfold WtAt
 rw [heap_setCell_same w W k _ _ _ h, ← rowF_set]
 simp [List.map_set]
theorem WtAt.lt {w : World} {W n : Nat} {g : Nat → Int} (h : WtAt w W n g) : W < w.heap.size := (Array.getElem?_eq_some_iff.1 h).1
theorem WtAt.made (w : World) (n : Nat) : WtAt (w.alloc (.cells (Array.replicate n (.int .i64 0)) 3)) w.heap.size n (fun _ => 0) := by
 unfold WtAt
 rw [heap_alloc_new]
 congr 2
 apply Array.toList_inj.1
 apply List.ext_getElem?
 intro j
 simp only [Array.toList_replicate, List.getElem?_replicate, rowF, List.getElem?_map]
 by_cases hj : j < n
 ·simp [hj]
 ·simp [hj]
theorem WtAt.ints {w : World} {W n : Nat} {g : Nat → Int} (h : WtAt w W n g) (hn : n ≤ maxLen) : IntsAt w (.slice (some ⟨W, 0, none⟩) n n) (rowF n g) := by
 refine ⟨by rw [rowF_length]; exact hn, _, n, by rw [rowF_length], fun k x hk => ⟨W, 0, rfl, ?_⟩⟩
 have hkn : k < n := by have := (List.getElem?_eq_some_iff.1 hk).1; rw [rowF_length] at this; exact this
 rw [rowF_at _ hkn] at hk
 rw [Nat.zero_add, h.cell hkn, Option.some.inj hk]
def idxI (l : List Int) (x : Int) : Int := match l.findIdx? (· == x) with
 | some k => k
 | none => -1
theorem idxI_some {l : List Int} {x : Int} {j : Nat} (h : l[j]? = some x) (hb : ∀ i, i < j → l[i]? ≠ some x) : idxI l x = j := by
 have hj := (List.getElem?_eq_some_iff.1 h).1
 have hf : l.findIdx? (· == x) = some j := by
  rw [List.findIdx?_eq_some_iff_getElem]
  refine ⟨hj, by have := (List.getElem?_eq_some_iff.1 h).2; simpa using this, fun i hi => ?_⟩
  have := hb i hi
  rw [List.getElem?_eq_getElem (by omega)] at this
  simpa using this
 unfold idxI
 rw [hf]
theorem idxI_none {l : List Int} {x : Int} (hb : ∀ i, i < l.length → l[i]? ≠ some x) : idxI l x = -1 := by
 have hf : l.findIdx? (· == x) = none := by
  rw [List.findIdx?_eq_none_iff]
  intro y hy
  obtain ⟨i, hi⟩ := List.mem_iff_getElem?.1 hy
  have := hb i (List.getElem?_eq_some_iff.1 hi).1
  rw [hi] at this
  simpa using this
 unfold idxI
 rw [hf]
theorem indexI_any (w : World) (l : List Int) (o : Option Addr) (c : Nat) (x : Int) (h : IntsAt w (.slice o l.length c) l) (hl : l.length ≤ 100000) :
  Calls Tryz.prog 82 #[.slice o l.length c, .int .i64 x] w fun e w' => e = .returned (.int .i64 (idxI l x)) ∧ Below w.heap.size w w' := by
 have HI := hidP h
 have HL := hidP hl
 clear h hl
 go_enter Tryz.func82, Tryz.ntmps82
 go_wp2
 go_loopw [8] (fun t wr => ∃ (j : Nat), j ≤ l.length ∧ t = .int .i64 j ∧ Hid (Below w.heap.size w wr ∧ ∀ i, i < j → l[i]? ≠ some x)) (fun t _ => l.length - (intOf t).toNat)
 case atStart => exact ⟨0, Nat.zero_le _, rfl, ⟨Below.refl _ _, fun i hi => absurd hi (by omega)⟩⟩
 case round =>
  obtain ⟨j, hj, rfl, HJ⟩ := hrel
  by_cases hjl : j < l.length
  ·obtain ⟨y, hy⟩ : ∃ y, l[j]? = some y := ⟨_, List.getElem?_eq_getElem hjl⟩
   obtain ⟨b, off, rfl, hc⟩ := HI.out.get hy
   have y0 := cell_keep HJ.out.1 hc
   have i0' : (0 : Int) ≤ (j : Int) := by omega
   have i1' : (j : Int) < (l.length : Int) := by omega
   have HJL := hidP hjl
   have N4 : Hid (wrap64 ((j : Int) + 1) = (j : Int) + 1) := by have := HL.out; unfold Hid wrap64; omega
   by_cases hxy : x = y
   ·have HE : Hid (idxI l x = (j : Int) ∧ Below w.heap.size w wr) := ⟨idxI_some (by rw [hy, hxy]) HJ.out.2, HJ.out.1⟩
    have d0 : (x == y) = true := by rw [hxy]; exact beq_self_eq_true y
    clear hy hc hj hjl hxy HJ
    go_wp2
    go_ret
    exact ⟨by rw [HE.out.1]; rfl, HE.out.2⟩
   ·have d0 : (x == y) = false := beq_eq_false_iff_ne.2 hxy
    have HN : Hid (Below w.heap.size w wr ∧ ∀ i, i < j + 1 → l[i]? ≠ some x) := ⟨HJ.out.1, fun i hi => by
     by_cases e : i = j
     ·rw [e, hy]
      intro h
      exact hxy (Option.some.inj h).symm
     ·exact HJ.out.2 i (by omega)⟩
    clear hy hc hj hjl hxy HJ
    go_wp2
    exact ⟨⟨j + 1, HJL.out, by rw [N4.out]; rfl, HN.out⟩, by rw [N4.out]; have := HJL.out; simp [intOf]; omega⟩
  ·obtain rfl : j = l.length := by omega
   have HE : Hid (idxI l x = -1 ∧ Below w.heap.size w wr) := ⟨idxI_none HJ.out.2, HJ.out.1⟩
   clear hj hjl HJ
   go_wp2
   go_ret
   exact ⟨by rw [HE.out.1]; rfl, HE.out.2⟩
def usC (nd : List (List Nat)) (i j k u : Nat) : Nat := if u < i then (ndA nd u).count k else if u = i then ((ndA nd i).take j).count k else 0
theorem usC_zero (nd : List (List Nat)) (k u : Nat) : usC nd 0 0 k u = 0 := by
 unfold usC
 rw [if_neg (Nat.not_lt_zero _)]
 split
 ·simp
 ·rfl
theorem usC_next (nd : List (List Nat)) (i k u : Nat) : usC nd i (ndA nd i).length k u = usC nd (i + 1) 0 k u := by
 unfold usC
 by_cases h : u < i
 ·rw [if_pos h, if_pos (by omega)]
 ·rw [if_neg h]
  by_cases e : u = i
  ·subst e
   rw [if_pos rfl, if_pos (by omega), List.take_length]
  ·rw [if_neg e, if_neg (by omega)]
   split <;> simp
theorem usC_step {nd : List (List Nat)} {i j x : Nat} (h : (ndA nd i)[j]? = some x) (k u : Nat) : usC nd i (j + 1) k u = usC nd i j k u + (if u = i ∧ k = x then 1 else 0) := by
 unfold usC
 by_cases hu : u < i
 ·rw [if_pos hu, if_pos hu, if_neg (by omega)]
  rfl
 ·rw [if_neg hu, if_neg hu]
  by_cases e : u = i
  ·rw [if_pos e, if_pos e, List.take_add_one, h, List.count_append]
   by_cases ek : k = x
   ·subst ek
    rw [if_pos ⟨e, rfl⟩]
    simp
   ·rw [if_neg (fun hh => ek hh.2)]
    simp [Ne.symm ek]
  ·rw [if_neg e, if_neg e, if_neg (fun hh => e hh.1)]
structure UsIs (nd us : List (List Nat)) (i j : Nat) : Prop where
 len : us.length = nd.length
 cnt : ∀ (k : Nat) (l : List Nat), us[k]? = some l → ∀ u, l.count u = usC nd i j k u
 lt : ∀ (k : Nat) (l : List Nat), us[k]? = some l → ∀ u ∈ l, u < nd.length
theorem UsIs.start (nd : List (List Nat)) : UsIs nd (List.replicate nd.length []) 0 0 :=
 ⟨by simp, fun k l h u => by rw [repl_at h, usC_zero]; rfl, fun k l h u hu => by rw [repl_at h] at hu; simp at hu⟩
theorem UsIs.next {nd us : List (List Nat)} {i : Nat} (h : UsIs nd us i (ndA nd i).length) : UsIs nd us (i + 1) 0 :=
 ⟨h.len, fun k l hl u => by rw [h.cnt k l hl u, usC_next], h.lt⟩
theorem UsIs.step {nd us : List (List Nat)} {i j x : Nat} {l : List Nat} (h : UsIs nd us i j) (hi : i < nd.length) (hx : (ndA nd i)[j]? = some x) (hl : us[x]? = some l) : UsIs nd (us.set x (l ++ [i])) i (j + 1) := by
 have hxl := (List.getElem?_eq_some_iff.1 hl).1
 refine ⟨by rw [List.length_set]; exact h.len, fun k m hm u => ?_, fun k m hm u hu => ?_⟩
 ·rw [usC_step hx]
  by_cases e : x = k
  ·subst e
   rw [List.getElem?_set_self hxl] at hm
   obtain rfl := Option.some.inj hm
   rw [List.count_append, h.cnt x l hl u]
   by_cases eu : u = i
   ·subst eu
    rw [if_pos ⟨rfl, rfl⟩]
    simp
   ·rw [if_neg (fun hh => eu hh.1)]
    simp [Ne.symm eu]
  ·rw [List.getElem?_set_ne e] at hm
   rw [h.cnt k m hm u, if_neg (fun hh => e hh.2.symm)]
   rfl
 ·by_cases e : x = k
  ·subst e
   rw [List.getElem?_set_self hxl] at hm
   obtain rfl := Option.some.inj hm
   rcases List.mem_append.1 hu with hu | hu
   ·exact h.lt x l hl u hu
   ·rw [List.mem_singleton.1 hu]; exact hi
  ·rw [List.getElem?_set_ne e] at hm
   exact h.lt k m hm u hu
def cI (l : List Nat) : List Int := l.map fun k => ((k : Nat) : Int)
theorem cI_length (l : List Nat) : (cI l).length = l.length := by simp [cI]
theorem cI_at {l : List Nat} {j x : Nat} (h : l[j]? = some x) : (cI l)[j]? = some (x : Int) := by simp [cI, h]
theorem cI_snoc (l : List Nat) (x : Nat) : cI (l ++ [x]) = cI l ++ [(x : Int)] := by simp [cI]
theorem RwsAt.read {w : World} {base nb : Nat} {F : Nat → Prop} {nd : List (List Nat)} (h : RwsAt w base nb F (nd.map cI)) {i : Nat} {l : List Nat} (hl : nd[i]? = some l) : ∃ o c, w.cell? ⟨nb, i, none⟩ = some (.slice o l.length c) ∧ ∀ (j x : Nat), l[j]? = some x → ∃ b, o = some ⟨b, 0, none⟩ ∧ w.cell? ⟨b, j, none⟩ = some (.int .i64 (x : Int)) := by
 have hl' : (nd.map cI)[i]? = some (cI l) := by rw [List.getElem?_map, hl]; rfl
 obtain ⟨o, c, h1, _, h3, _⟩ := h.at hl'
 rw [cI_length] at h1 h3
 refine ⟨o, c, h1, fun j x hj => ?_⟩
 have hjl := (List.getElem?_eq_some_iff.1 hj).1
 obtain ⟨g, cap, e, _, _⟩ := h3.form (by omega)
 obtain ⟨rfl, rfl⟩ : o = some ⟨g, 0, none⟩ ∧ c = cap := by simpa using e
 refine ⟨g, rfl, ?_⟩
 have := h3.cells (g := g) rfl j (.int .i64 (x : Int)) (by rw [List.getElem?_map, cI_at hj]; rfl)
 rwa [Addr.add_lit, Nat.zero_add] at this
theorem ndA_some {nd : List (List Nat)} {i : Nat} {l : List Nat} (h : nd[i]? = some l) : ndA nd i = l := by unfold ndA; rw [h]; rfl
def tot (nd : List (List Nat)) : Nat → Nat
 | 0 => 0
 | i + 1 => tot nd i + (ndA nd i).length
theorem tot_mono (nd : List (List Nat)) {i j : Nat} (h : i ≤ j) : tot nd i ≤ tot nd j := by
 induction j with
 | zero => have e : i = 0 := (by omega); subst e; exact Nat.le_refl _
 | succ j ih =>
  by_cases e : i = j + 1
  ·rw [e]; exact Nat.le_refl _
  ·have := ih (by omega)
   simp only [tot]
   omega
structure InS (w : World) (W U n : Nat) (g : Nat → Int) (us : List (List Nat)) (wr : World) : Prop where
 wts : WtAt wr W n g
 usr : RwsAt wr w.heap.size U (fun k => k = W) (us.map cI)
 ne : W ≠ U
 wb : w.heap.size ≤ W
 below : Below w.heap.size w wr
theorem InS.keep {w wr w' : World} {W U n : Nat} {g : Nat → Int} {us : List (List Nat)} (h : InS w W U n g us wr) (hb : Below wr.heap.size wr w') : InS w W U n g us w' :=
 ⟨(hb.block _ h.wts.lt).trans h.wts, h.usr.below hb, h.ne, h.wb, h.below.trans (hb.mono h.below.size)⟩
theorem InS.store {w wr : World} {W U n : Nat} {g : Nat → Int} {us : List (List Nat)} (h : InS w W U n g us wr) (k : Nat) (v : Int) : InS w W U n (fun j => if j = k then v else g j) us (wr.setCell ⟨W, k, none⟩ (.int .i64 v)) := by
 have hset : ∀ q, q ≠ W → (wr.setCell ⟨W, k, none⟩ (.int .i64 v)).heap[q]? = wr.heap[q]? := fun q hq => Below.heap_setCell wr ⟨W, k, none⟩ _ q hq
 refine ⟨h.wts.set k v, h.usr.move (by rw [size_setCell]; exact Nat.le_refl _) (fun q _ hF _ => hset q hF) (hset U (fun e => h.ne e.symm)), h.ne, h.wb, ?_⟩
 have h1 := h.below
 exact ⟨h1.os, h1.tape, h1.output, by rw [size_setCell]; exact h1.size, fun q hq => (hset q (by have := h.wb; omega)).trans (h1.block q hq)⟩
theorem InS.grown {w wr w' : World} {W U n : Nat} {g : Nat → Int} {us : List (List Nat)} (h : InS w W U n g us wr) {x i : Nat} {l : List Nat} (hl : us[x]? = some l) {o : Option Addr} {c gg cap : Nat} (hc : wr.cell? ⟨U, x, none⟩ = some (.slice o l.length c)) (hg : wr.grownBy w' (Value.slice o l.length c).ownBlock) (ha : (Value.slice o l.length c).ownBlock = some gg ∨ gg = wr.heap.size) (ho : w'.ownsRow w.heap.size 3 1 (.slice (some ⟨gg, 0, none⟩) (l.length + 1) cap) (l.length + 1) ((cI l).map (Value.int .i64) ++ [.int .i64 (i : Int)])) : InS w W U n g (us.set x (l ++ [i])) (w'.setCell ⟨U, x, none⟩ (.slice (some ⟨gg, 0, none⟩) (l.length + 1) cap)) := by
 have hl' : (us.map cI)[x]? = some (cI l) := by rw [List.getElem?_map, hl]; rfl
 obtain ⟨o', c', h1, _, h3, h4⟩ := h.usr.at hl'
 rw [cI_length] at h1 h3 h4
 obtain ⟨rfl, rfl⟩ : o = o' ∧ c = c' := by rw [hc] at h1; simpa using h1
 have hlen : (cI (l ++ [i])).length = l.length + 1 := by rw [cI_length]; simp
 have hu := h.usr.grown (i := x) (l := cI l) (l' := cI (l ++ [i])) (g := gg) (cap := cap) (w' := w') hl' (by rw [cI_length]; exact hc) (by rw [cI_length]; exact hg) (by rw [cI_length]; exact ha) (by rw [hlen, cI_snoc]; simpa using ho)
 rw [hlen, ← List.map_set] at hu
 have hset : ∀ q, q ≠ U → (w'.setCell ⟨U, x, none⟩ (.slice (some ⟨gg, 0, none⟩) (l.length + 1) cap)).heap[q]? = w'.heap[q]? := fun q hq => Below.heap_setCell w' ⟨U, x, none⟩ _ q hq
 refine ⟨(hset W h.ne).trans ((hg.block W h.wts.lt (fun e => (h4 W e.symm).2 rfl)).trans h.wts), hu, h.ne, h.wb, ?_⟩
 have h5 : Below w.heap.size w w' := h.below.grown hg h.below.size (fun k hk => (h3.lt k hk).1)
 obtain ⟨vs, _, _, h6, _⟩ := h.usr
 exact ⟨h5.os, h5.tape, h5.output, by rw [size_setCell]; exact h5.size, fun q hq => (hset q (by omega)).trans (h5.block q hq)⟩
end Go.Proofs.YtiejfopholdbnaaGreatDoor
