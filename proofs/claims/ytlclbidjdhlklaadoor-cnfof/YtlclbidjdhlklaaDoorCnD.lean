/-
  package cnf: numbered; Of's small functions; slices.ContainsFunc of literals BY CONTRACT.
-/
import Derived.Test.YtlclbidjdhlklaaDoorCnC
namespace Go.Proofs.YtlclbidjdhlklaaDoor
open Go.RowKit Go.Maps

/-- A row of ints; what is there so far, and zeros. -/
def rowI (l : List Int) : Array Value := (l.map (Value.int .i64)).toArray
def rowP (os : List Int) (m : Nat) : List Int := os ++ List.replicate (m - os.length) 0
theorem rowI_get {l : List Int} {k : Nat} {x : Int} (h : l[k]? = some x) : (rowI l)[k]? = some (.int .i64 x) := by simp [rowI, h]
theorem rowI_set (l : List Int) (k : Nat) (x : Int) : (rowI l).setIfInBounds k (.int .i64 x) = rowI (l.set k x) := by simp [rowI, List.map_set]
theorem rowP_all {os : List Int} {m : Nat} (h : os.length = m) : rowP os m = os := by simp [rowP, h]
theorem rowP_at {os : List Int} {m : Nat} (h : os.length < m) : (rowP os m)[os.length]? = some 0 := by
  unfold rowP
  rw [List.getElem?_append_right (Nat.le_refl _), Nat.sub_self, List.getElem?_replicate, if_pos (by omega)]
theorem rowP_set {os : List Int} {m : Nat} (h : os.length < m) (x : Int) : (rowP os m).set os.length x = rowP (os ++ [x]) m := by
  unfold rowP
  rw [List.set_append_right _ _ (Nat.le_refl _), Nat.sub_self]
  have : m - os.length = (m - (os ++ [x]).length) + 1 := by simp; omega
  rw [this, List.replicate_succ]
  simp
theorem rowP_more {os : List Int} {m : Nat} (h : os.length < m) : rowP (os ++ [0]) m = rowP os m := by
  unfold rowP
  have : m - os.length = (m - (os ++ [0]).length) + 1 := by simp; omega
  rw [this, List.replicate_succ]
  simp
theorem rowP_store {w : World} {V : Nat} {os : List Int} {m : Nat} {t : TypeId} (hV : w.heap[V]? = some (.cells (rowI (rowP os m)) t (0, 0))) (h : os.length < m) (x : Int) :
    (w.setCell ⟨V, os.length, none⟩ (.int .i64 x)).heap[V]? = some (.cells (rowI (rowP (os ++ [x]) m)) t (0, 0)) := by
  rw [heap_setCell_at hV, rowI_set, rowP_set h]
theorem rowP_cell {w : World} {V : Nat} {os : List Int} {m : Nat} {t : TypeId} (hV : w.heap[V]? = some (.cells (rowI (rowP os m)) t (0, 0))) (h : os.length < m) : w.cell? ⟨V, os.length, none⟩ = some (.int .i64 0) := by
  rw [cell_of_row w V _ _ t (0, 0) hV]; exact rowI_get (rowP_at h)
theorem made_ints {w : World} {V n : Nat} (h : w.ownsRow 0 3 1 (.slice (some ⟨V, 0, none⟩) n n) n (madeCells (Value.int .i64 0).cells (n * 1)).toList) : w.heap[V]? = some (.cells (rowI (rowP [] n)) 3 (0, 0)) := by
  obtain ⟨_, h2⟩ := h
  rcases h2 with ⟨h2, _⟩ | ⟨g, cap, cur, e, _, hg, _, _, hs, ht⟩
  · cases h2
  · obtain ⟨rfl, rfl⟩ : V = g ∧ n = cap := by simpa using e
    rw [hg]
    have e1 : (madeCells (Value.int .i64 0).cells (n * 1)).toList = List.replicate n (.int .i64 0) := by rw [Nat.mul_one]; exact toList_madeCells_one _ _
    rw [e1] at ht
    have e2 : cur.toList = List.replicate n (.int .i64 0) := by rw [← ht, List.take_of_length_le (by simp [hs])]
    have : cur = rowI (rowP [] n) := by
      apply Array.toList_inj.1
      rw [e2]
      simp [rowI, rowP]
    rw [this]
theorem Tryd.infoInt : (Tryd.prog.info? 3).map (fun i => (i.zero, i.size, i.bytes)) = some (some (.int .i64 0), 1, 8) := by kernel_rfl
set_option maxRecDepth 100000 in
set_option maxHeartbeats 4000000 in
theorem numbered_any (w : World) (V n : Nat) (l : List Bool) (hV : w.heap[V]? = some (.cells (rowB l) 4 (0, 0))) (hn : l.length = n) (hs : n ≤ 100000) :
    Calls Tryd.prog 27 #[.slice (some ⟨V, 0, none⟩) n n] w fun e w' => ∃ U, w.heap.size ≤ U ∧ e = .returned (.tuple #[.int .i64 (cntT l n : Int), .slice (some ⟨U, 0, none⟩) n n]) ∧ w'.heap[U]? = some (.cells (rowI (numL l n)) 3 (0, 0)) ∧ Below w.heap.size w w' := by
  obtain ⟨i0, hi0, hz0, hz1, hz2⟩ := info_parts Tryd.infoInt
  have HV : Hid (w.heap[V]? = some (.cells (rowB l) 4 (0, 0))) := hV
  have HN : Hid (l.length = n) := hn
  have HS : Hid (n ≤ 100000) := hs
  have HBY : Hid (i0.bytes * n ≤ 281474976710656) := by unfold Hid; rw [hz2]; omega
  have HMX : Hid (n ≤ maxLen) := by unfold Hid maxLen; omega
  clear hV hn hs
  go_enter Tryd.func27, Tryd.ntmps27
  go_wp2_with (first
    | (at_make; refine wpList_make_full _ rfl _ _ 23 rfl 0 3 i0 _ 1 Tryd.underlying23 hi0 hz0 hz1 .i64 .i64 _ _ n rfl rfl (by simp) (by simp) HBY.out HMX.out (Nat.zero_le _) ?_; intro w1 hown1 hgr1)
    | go_in)
  have hV1 := made_ints hown1
  have HR1 : Hid (w1.heap[w.heap.size]? = some (.cells (rowI (rowP (numL l 0) n)) 3 (0, 0))) := hV1
  have HB1 : Hid (Below w.heap.size w w1) := ⟨hgr1.os, hgr1.tape, hgr1.output, hgr1.size, fun k hk => hgr1.block k hk (by simp)⟩
  clear hown1 hgr1 hV1 hi0 hz0 hz1 hz2 HBY HMX
  go_loopw [4, 13] (fun c t wr => ∃ j : Nat, j ≤ n ∧ t = .int .i64 j ∧ c = .int .i64 (cntT l j : Int) ∧ wr.heap[w.heap.size]? = some (.cells (rowI (rowP (numL l j) n)) 3 (0, 0)) ∧ Below w.heap.size w wr) (fun _ t _ => n - (intOf t).toNat)
  case atStart => exact ⟨0, Nat.zero_le _, rfl, rfl, HR1.out, HB1.out⟩
  case round =>
    obtain ⟨j, hj, rfl, rfl, hrow, hb⟩ := hrel
    have HW : Hid (Below w.heap.size w wr) := hb
    by_cases hjl : j < n
    · obtain ⟨b, hx⟩ : ∃ b, l[j]? = some b := ⟨_, List.getElem?_eq_getElem (by have := HN.out; omega)⟩
      have q0 : wr.cell? ⟨V, j, none⟩ = some (.bool b) := by
        have := row_keep hb HV.out
        rw [cell_of_row wr V _ _ _ (0, 0) this]; exact rowB_get hx
      have hlj : (numL l j).length = j := numL_length l j
      have hlt : (numL l j).length < n := by omega
      have c0 := rowP_cell hrow hlt
      have f0 : wr.frozen? ⟨w.heap.size, j, none⟩ = false := frozen_row hrow
      have hst := rowP_store hrow hlt (numA l j)
      rw [hlj] at c0 hst
      rw [← numL_succ] at hst
      have hgd : l.getD j false = b := by rw [List.getD_eq_getElem?_getD, hx]; rfl
      have hcs := cntT_succ l j
      rw [hgd] at hcs
      have hcl := cntT_le l j
      have hid : numA l j = 0 → wr.heap[w.heap.size]? = some (.cells (rowI (rowP (numL l (j + 1)) n)) 3 (0, 0)) := fun h0 => by
        rw [numL_succ, h0, rowP_more hlt]; exact hrow
      have HID : Hid (numA l j = 0 → wr.heap[w.heap.size]? = _) := hid
      have HST : Hid ((wr.setCell ⟨w.heap.size, j, none⟩ (.int .i64 (numA l j))).heap[w.heap.size]? = _) := hst
      have i0' : (0 : Int) ≤ (j : Int) := by omega
      have i1' : (j : Int) < (n : Int) := by omega
      have N4 : Hid (wrap64 ((j : Int) + 1) = (j : Int) + 1) := by have := HS.out; unfold Hid wrap64; omega
      have N5 : Hid (wrap64 ((cntT l j : Int) + 1) = (cntT l j : Int) + 1) := by have := HS.out; unfold Hid wrap64; omega
      have HJ : Hid (j < n) := hjl
      cases b
      · have E : Hid (numA l j = 0) := by unfold Hid numA; rw [hgd]; rfl
        have HC : Hid (cntT l (j + 1) = cntT l j) := by unfold Hid; rw [hcs]; rfl
        have HS0 : Hid (wr.heap[w.heap.size]? = _) := HID.out E.out
        clear hj hrow hb hjl hx hlj hlt hst hid hgd hcs hcl c0 f0 HST HID
        go_wp2
        exact ⟨⟨j + 1, HJ.out, by rw [N4.out]; rfl, by rw [HC.out], HS0.out, HW.out⟩, by rw [N4.out]; have := HJ.out; simp [intOf]; omega⟩
      · have E : Hid (numA l j = (cntT l j : Int) + 1) := by unfold Hid numA; rw [hgd]; rfl
        have HC : Hid (cntT l (j + 1) = cntT l j + 1) := by unfold Hid; rw [hcs]; rfl
        rw [E.out] at HST
        clear hj hrow hb hjl hx hlj hlt hst hid hgd hcs hcl HID
        go_wp2
        rw [N5.out]
        exact ⟨⟨j + 1, HJ.out, by rw [N4.out]; rfl, by rw [HC.out]; rfl, HST.out, HW.out.setCell (Nat.le_refl _) _⟩, by rw [N4.out]; have := HJ.out; simp [intOf]; omega⟩
    · obtain rfl : j = n := by omega
      rw [rowP_all (numL_length l j)] at hrow
      have HR' : Hid _ := hrow
      clear hrow hb hj hjl
      go_wp2
      go_ret2
      exact ⟨_, Nat.le_refl _, rfl, HR'.out, HW.out⟩

set_option maxRecDepth 100000 in
theorem of1_any {G : Nat} {gs : List (Int × Int)} {ins : Nat} {F : Nat → Prop} {w : World} (h : GrAt G gs ins F w) (hl : gs.length ≤ 100000) (C : Nat) (hC : w.cell? ⟨C, 0, none⟩ = some (.pointer (some ⟨G, 0, none⟩))) (x : Int) (hx : I64 x) :
    Calls Tryd.prog 25 #[.int .i64 x, .pointer (some ⟨C, 0, none⟩)] w fun e w' => e = .returned (.bool (!hasB gs x)) ∧ w' = w := by
  have H0 : Hid (GrAt G gs ins F w) := h
  have HL : Hid (gs.length ≤ 100000) := hl
  clear h
  unfold I64 at hx
  by_cases hneg : x < 0
  · have E : Hid (hasB gs x = false) := hasB_f (by unfold HasL; omega)
    clear hl hx
    go_enter Tryd.func25, Tryd.ntmps25
    go_wp2
    go_ret
    exact ⟨by rw [E.out]; rfl, rfl⟩
  · have n1 : wrap64 (x.tdiv 2) = x / 2 := by rw [Int.tdiv_eq_ediv_of_nonneg (by omega)]; unfold wrap64; omega
    have d0 : (x < 0) = False := eq_false hneg
    by_cases hbig : (gs.length : Int) + 1 ≤ x / 2
    · have E : Hid (hasB gs x = false) := hasB_f (by unfold HasL; omega)
      have d1 : ((gs.length : Int) + 1 ≤ x / 2) = True := eq_true hbig
      clear hl hx hneg hbig
      go_enter Tryd.func25, Tryd.ntmps25
      go_wp2_with (go_at_call 23; refine (gates_any H0.out HL.out).mono ?_; rintro e w' ⟨rfl, hw⟩; have hw2 := hw.symm; subst hw2)
      go_ret
      exact ⟨by rw [E.out]; rfl, rfl⟩
    · have E : Hid (hasB gs x = true) := hasB_t (by unfold HasL; omega)
      have d1 : ((gs.length : Int) + 1 ≤ x / 2) = False := eq_false hbig
      clear hl hx hneg hbig
      go_enter Tryd.func25, Tryd.ntmps25
      go_wp2_with (go_at_call 23; refine (gates_any H0.out HL.out).mono ?_; rintro e w' ⟨rfl, hw⟩; have hw2 := hw.symm; subst hw2)
      go_ret
      exact ⟨by rw [E.out]; rfl, rfl⟩
set_option maxRecDepth 100000 in
set_option maxHeartbeats 1000000 in
theorem oindex_any {G : Nat} {gs : List (Int × Int)} {ins : Nat} {F : Nat → Prop} {w : World} (h : GrAt G gs ins F w) (hgl : gs.length ≤ 100000) (C : Nat) (hC : w.cell? ⟨C, 0, none⟩ = some (.pointer (some ⟨G, 0, none⟩))) (o : Option Addr) (n c : Nat) (ps : List Int) (hp : IntsAt w (.slice o n c) ps) (hn : n = ps.length) (hl : n ≤ 1000) (hI : ∀ x ∈ ps, I64 x) :
    Calls Tryd.prog 44 #[.slice o n c, .func (.func 25) #[] #[.pointer (some ⟨C, 0, none⟩)]] w fun e w' => (∃ i : Int, e = .returned (.int .i64 i) ∧ (decide (0 ≤ i) = ps.any fun x => !hasB gs x)) ∧ w' = w := by
  have H0 : Hid (GrAt G gs ins F w) := h
  have HGL : Hid (gs.length ≤ 100000) := hgl
  have HCC : Hid (w.cell? ⟨C, 0, none⟩ = some (.pointer (some ⟨G, 0, none⟩))) := hC
  have HP : Hid (IntsAt w (.slice o n c) ps) := hp
  have HN : Hid (n = ps.length) := hn
  have HL : Hid (n ≤ 1000) := hl
  have HI : Hid (∀ x ∈ ps, I64 x) := hI
  clear hp hn hl h hgl hC hI
  go_enter Tryd.func44, Tryd.ntmps44
  go_wp2
  go_loop [8] (fun t => ∃ j : Nat, j ≤ n ∧ t = .int .i64 j ∧ ∀ k x, k < j → ps[k]? = some x → (!hasB gs x) = false) (fun t => n - (intOf t).toNat)
  case atStart => exact ⟨0, Nat.zero_le _, rfl, fun k x hk => by omega⟩
  case round =>
    obtain ⟨j, hj, rfl, hall⟩ := hrel
    have HALL : Hid (∀ k x, k < j → ps[k]? = some x → (!hasB gs x) = false) := hall
    by_cases hjl : j < n
    · obtain ⟨x, hx⟩ : ∃ x, ps[j]? = some x := ⟨_, List.getElem?_eq_getElem (by have := HN.out; omega)⟩
      obtain ⟨b, off, rfl, hcx⟩ := HP.out.get hx
      have HIX : Hid (I64 x) := HI.out x (List.mem_of_getElem? hx)
      have i0' : (0 : Int) ≤ (j : Int) := by omega
      have i1' : (j : Int) < (n : Int) := by omega
      have N4 : Hid (wrap64 ((j : Int) + 1) = (j : Int) + 1) := by have := HL.out; unfold Hid wrap64; omega
      have HJ : Hid (j < n) := hjl
      have HX : Hid (ps[j]? = some x) := hx
      clear hall hj hjl hx
      cases hb : !hasB gs x
      · go_wp2_with (go_at_call 25; refine (of1_any H0.out HGL.out C HCC.out _ HIX.out).mono ?_; rw [hb]; rintro e w' ⟨rfl, hw⟩; have hw2 := hw.symm; subst hw2)
        refine ⟨⟨j + 1, HJ.out, by rw [N4.out]; rfl, fun k y hk hy => ?_⟩, by rw [N4.out]; have := HJ.out; simp [intOf]; omega⟩
        rcases Nat.lt_or_ge k j with h1 | h1
        · exact HALL.out k y h1 hy
        · obtain rfl : k = j := by omega
          rw [HX.out] at hy
          cases hy
          exact hb
      · go_wp2_with (go_at_call 25; refine (of1_any H0.out HGL.out C HCC.out _ HIX.out).mono ?_; rw [hb]; rintro e w' ⟨rfl, hw⟩; have hw2 := hw.symm; subst hw2)
        go_ret
        refine ⟨⟨_, rfl, ?_⟩, rfl⟩
        have : (ps.any fun x => !hasB gs x) = true := List.any_eq_true.2 ⟨x, List.mem_of_getElem? HX.out, hb⟩
        rw [this]; simp
    · obtain rfl : j = n := by omega
      clear hall hj hjl
      go_wp2
      go_ret
      refine ⟨⟨_, rfl, ?_⟩, rfl⟩
      have : (ps.any fun x => !hasB gs x) = false := by
        rw [List.any_eq_false]
        intro x hx
        obtain ⟨k, hk, rfl⟩ := List.getElem_of_mem hx
        rw [HALL.out k _ (by have := HN.out; omega) (List.getElem?_eq_getElem hk)]
        simp
      rw [this]; simp
set_option maxRecDepth 100000 in
theorem ocontains_any {G : Nat} {gs : List (Int × Int)} {ins : Nat} {F : Nat → Prop} {w : World} (h : GrAt G gs ins F w) (hgl : gs.length ≤ 100000) (C : Nat) (hC : w.cell? ⟨C, 0, none⟩ = some (.pointer (some ⟨G, 0, none⟩))) (o : Option Addr) (n c : Nat) (ps : List Int) (hp : IntsAt w (.slice o n c) ps) (hn : n = ps.length) (hl : n ≤ 1000) (hI : ∀ x ∈ ps, I64 x) :
    Calls Tryd.prog 26 #[.slice o n c, .func (.func 25) #[] #[.pointer (some ⟨C, 0, none⟩)]] w fun e w' => e = .returned (.bool (ps.any fun x => !hasB gs x)) ∧ w' = w := by
  have HC : Hid (Calls Tryd.prog 44 #[.slice o n c, .func (.func 25) #[] #[.pointer (some ⟨C, 0, none⟩)]] w fun e w'' => (∃ i : Int, e = .returned (.int .i64 i) ∧ (decide (0 ≤ i) = ps.any fun x => !hasB gs x)) ∧ w'' = w) := oindex_any h hgl C hC o n c ps hp hn hl hI
  clear hp hn hl h hgl hC hI
  go_enter Tryd.func26, Tryd.ntmps26
  go_wp2_with (go_at_call 44; refine HC.out.mono ?_; rintro e w' ⟨⟨i, rfl, hi⟩, rfl⟩)
  go_ret
  exact ⟨by rw [← hi]; rfl, rfl⟩
end Go.Proofs.YtlclbidjdhlklaaDoor
