/-
  package cnf: Check, Text BY CONTRACT.
-/
import Derived.Test.YtlclbidjdhlklaaGreatDoorCnU
import Derived.Laws.EntriesVeiled
namespace Go.Proofs.YtlclbidjdhlklaaGreatDoor
open Go.RowKit Go.Maps

/-- A number that is 0, or of no variable. -/
def badB (n x : Int) : Bool := decide (x = 0) || decide (x < -n) || decide (n < x)
def badC (n : Int) (c : List Int) : Bool := c.any (badB n)
/-- The first clause that has one. -/
def firstB (n : Int) (cs : List (List Int)) : Option Nat := cs.findIdx? (badC n)
theorem firstB_some {n : Int} {cs : List (List Int)} {j : Nat} {c : List Int} (hj : cs[j]? = some c) (hb : badC n c = true) (h : ∀ k d, k < j → cs[k]? = some d → badC n d = false) : firstB n cs = some j := by
  unfold firstB
  have hl := (List.getElem?_eq_some_iff.1 hj).1
  rw [List.findIdx?_eq_some_iff_getElem]
  refine ⟨hl, ?_, fun k hk => ?_⟩
  · have : cs[j] = c := by have := (List.getElem?_eq_some_iff.1 hj).2; exact this
    rw [this]; exact hb
  · have := h k cs[k] hk (List.getElem?_eq_getElem (by omega))
    rw [this]; simp
theorem firstB_none {n : Int} {cs : List (List Int)} (h : ∀ k d, k < cs.length → cs[k]? = some d → badC n d = false) : firstB n cs = none := by
  unfold firstB
  rw [List.findIdx?_eq_none_iff]
  intro c hc
  obtain ⟨k, hk, rfl⟩ := List.getElem_of_mem hc
  rw [h k _ hk (List.getElem?_eq_getElem hk)]
set_option maxRecDepth 100000 in
theorem chk1_any (w : World) (B : Nat) (n x : Int) (hn : 0 ≤ n ∧ n ≤ 1000000) (hB : w.cell? ⟨B, 0, none⟩ = some (.int .i64 n)) :
    Calls Tryz.prog 20 #[.int .i64 x, .pointer (some ⟨B, 0, none⟩)] w fun e w' => e = .returned (.bool (badB n x)) ∧ w' = w := by
  have n1 : wrap64 (-n) = -n := by unfold wrap64; omega
  by_cases h0 : x = 0
  · subst h0
    have E : Hid (badB n 0 = true) := by unfold Hid badB; simp
    clear hn
    go_enter Tryz.func20, Tryz.ntmps20
    go_wp2
    go_ret
    exact ⟨by rw [E.out]; rfl, rfl⟩
  · have d0 : (x == 0) = false := by simp [h0]
    by_cases h1 : x < -n
    · have E : Hid (badB n x = true) := by unfold Hid badB; simp [h1]
      have d1 : (x < -n) = True := eq_true h1
      clear hn h0 h1
      go_enter Tryz.func20, Tryz.ntmps20
      go_wp2
      go_ret
      exact ⟨by rw [E.out]; rfl, rfl⟩
    · have d1 : (x < -n) = False := eq_false h1
      have E : Hid (badB n x = decide (n < x)) := by unfold Hid badB; simp [h0, h1]
      clear hn h0 h1
      go_enter Tryz.func20, Tryz.ntmps20
      go_wp2
      go_ret
      exact ⟨by rw [E.out]; rfl, rfl⟩
set_option maxRecDepth 100000 in
set_option maxHeartbeats 1000000 in
theorem cindex_any (w : World) (B : Nat) (m : Int) (hm : 0 ≤ m ∧ m ≤ 1000000) (hB : w.cell? ⟨B, 0, none⟩ = some (.int .i64 m)) (o : Option Addr) (n c : Nat) (ps : List Int) (hp : ∀ j x, ps[j]? = some x → ∃ b' off', o = some ⟨b', off', none⟩ ∧ w.cell? ⟨b', off' + j, none⟩ = some (.int .i64 x)) (hn : n = ps.length) (hl : n ≤ 1000000) :
    Calls Tryz.prog 31 #[.slice o n c, .func (.func 20) #[] #[.pointer (some ⟨B, 0, none⟩)]] w fun e w' => (∃ i : Int, e = .returned (.int .i64 i) ∧ (decide (0 ≤ i) = badC m ps)) ∧ w' = w := by
  have HC1 : Hid (∀ x, Calls Tryz.prog 20 #[.int .i64 x, .pointer (some ⟨B, 0, none⟩)] w fun e w' => e = .returned (.bool (badB m x)) ∧ w' = w) := fun x => chk1_any w B m x hm hB
  have HP : Hid (∀ j x, ps[j]? = some x → ∃ b' off', o = some ⟨b', off', none⟩ ∧ w.cell? ⟨b', off' + j, none⟩ = some (.int .i64 x)) := hp
  have HN : Hid (n = ps.length) := hn
  have HL : Hid (n ≤ 1000000) := hl
  clear hp hn hl hm hB
  go_enter Tryz.func31, Tryz.ntmps31
  go_wp2
  go_loop [8] (fun t => ∃ j : Nat, j ≤ n ∧ t = .int .i64 j ∧ ∀ k x, k < j → ps[k]? = some x → badB m x = false) (fun t => n - (intOf t).toNat)
  case atStart => exact ⟨0, Nat.zero_le _, rfl, fun k x hk => by omega⟩
  case round =>
    obtain ⟨j, hj, rfl, hall⟩ := hrel
    have HALL : Hid (∀ k x, k < j → ps[k]? = some x → badB m x = false) := hall
    by_cases hjl : j < n
    · obtain ⟨x, hx⟩ : ∃ x, ps[j]? = some x := ⟨_, List.getElem?_eq_getElem (by have := HN.out; omega)⟩
      obtain ⟨b, off, rfl, hcx⟩ := HP.out j x hx
      have i0' : (0 : Int) ≤ (j : Int) := by omega
      have i1' : (j : Int) < (n : Int) := by omega
      have N4 : Hid (wrap64 ((j : Int) + 1) = (j : Int) + 1) := by have := HL.out; unfold Hid wrap64; omega
      have HJ : Hid (j < n) := hjl
      have HX : Hid (ps[j]? = some x) := hx
      clear hall hj hjl hx
      cases hb : badB m x
      · go_wp2_with (go_at_call 20; refine (HC1.out _).mono ?_; rw [hb]; rintro e w' ⟨rfl, hw⟩; have hw2 := hw.symm; subst hw2)
        refine ⟨⟨j + 1, HJ.out, by rw [N4.out]; rfl, fun k y hk hy => ?_⟩, by rw [N4.out]; have := HJ.out; simp [intOf]; omega⟩
        rcases Nat.lt_or_ge k j with h1 | h1
        · exact HALL.out k y h1 hy
        · obtain rfl : k = j := by omega
          rw [HX.out] at hy
          cases hy
          exact hb
      · go_wp2_with (go_at_call 20; refine (HC1.out _).mono ?_; rw [hb]; rintro e w' ⟨rfl, hw⟩; have hw2 := hw.symm; subst hw2)
        go_ret
        refine ⟨⟨_, rfl, ?_⟩, rfl⟩
        have : badC m ps = true := List.any_eq_true.2 ⟨x, List.mem_of_getElem? HX.out, hb⟩
        rw [this]; simp
    · obtain rfl : j = n := by omega
      clear hall hj hjl
      go_wp2
      go_ret
      refine ⟨⟨_, rfl, ?_⟩, rfl⟩
      have : badC m ps = false := by
        unfold badC
        rw [List.any_eq_false]
        intro x hx
        obtain ⟨k, hk, rfl⟩ := List.getElem_of_mem hx
        rw [HALL.out k _ (by have := HN.out; omega) (List.getElem?_eq_getElem hk)]
        simp
      rw [this]; simp
set_option maxRecDepth 100000 in
theorem chk2_any (w : World) (B C : Nat) (m : Int) (hm : 0 ≤ m ∧ m ≤ 1000000) (hB : w.cell? ⟨B, 0, none⟩ = some (.int .i64 m)) (hC : w.cell? ⟨C, 0, none⟩ = some (.func (.func 20) #[] #[.pointer (some ⟨B, 0, none⟩)])) (o : Option Addr) (n c : Nat) (ps : List Int) (hp : ∀ j x, ps[j]? = some x → ∃ b' off', o = some ⟨b', off', none⟩ ∧ w.cell? ⟨b', off' + j, none⟩ = some (.int .i64 x)) (hn : n = ps.length) (hl : n ≤ 1000000) :
    Calls Tryz.prog 22 #[.slice o n c, .pointer (some ⟨C, 0, none⟩)] w fun e w' => e = .returned (.bool (badC m ps)) ∧ w' = w := by
  have HI : Hid (Calls Tryz.prog 31 #[.slice o n c, .func (.func 20) #[] #[.pointer (some ⟨B, 0, none⟩)]] w fun e w' => (∃ i : Int, e = .returned (.int .i64 i) ∧ (decide (0 ≤ i) = badC m ps)) ∧ w' = w) := cindex_any w B m hm hB o n c ps hp hn hl
  have HCN : Hid (Calls Tryz.prog 23 #[.slice o n c, .func (.func 20) #[] #[.pointer (some ⟨B, 0, none⟩)]] w fun e w' => e = .returned (.bool (badC m ps)) ∧ w' = w) := by
    clear hB hC hp hn hl hm
    unfold Hid
    go_enter Tryz.func23, Tryz.ntmps23
    go_wp2_with (go_at_call 31; refine HI.out.mono ?_; rintro e w' ⟨⟨i, rfl, hi⟩, rfl⟩)
    go_ret
    exact ⟨by rw [← hi]; rfl, rfl⟩
  clear hB hp hn hl hm HI
  go_enter Tryz.func22, Tryz.ntmps22
  go_wp2_with (go_at_call 23; refine HCN.out.mono ?_; rintro e w' ⟨rfl, hw⟩; have hw2 := hw.symm; subst hw2)
  go_ret
  exact ⟨rfl, rfl⟩
/-- A place as an int. -/
def placeI (x : Option Nat) : Int := match x with | some j => (j : Int) | none => -1
set_option maxRecDepth 100000 in
set_option maxHeartbeats 1000000 in
theorem findex_any (w : World) (B C : Nat) (m : Int) (hm : 0 ≤ m ∧ m ≤ 1000000) (hB : w.cell? ⟨B, 0, none⟩ = some (.int .i64 m)) (hC : w.cell? ⟨C, 0, none⟩ = some (.func (.func 20) #[] #[.pointer (some ⟨B, 0, none⟩)])) (o : Option Addr) (n c : Nat) (cs : List (List Int)) (hv : ClsAt w (.slice o n c) cs) (hn : n = cs.length) (hl : sizC cs ≤ 1000000) :
    Calls Tryz.prog 21 #[.slice o n c, .func (.func 22) #[] #[.pointer (some ⟨C, 0, none⟩)]] w fun e w' => e = .returned (.int .i64 (placeI (firstB m cs))) ∧ w' = w := by
  have HC2 : Hid (∀ (o : Option Addr) (n c : Nat) (ps : List Int), (∀ j x, ps[j]? = some x → ∃ b' off', o = some ⟨b', off', none⟩ ∧ w.cell? ⟨b', off' + j, none⟩ = some (.int .i64 x)) → n = ps.length → n ≤ 1000000 → Calls Tryz.prog 22 #[.slice o n c, .pointer (some ⟨C, 0, none⟩)] w fun e w' => e = .returned (.bool (badC m ps)) ∧ w' = w) := fun o n c ps hp hn hl => chk2_any w B C m hm hB hC o n c ps hp hn hl
  have HV : Hid (ClsAt w (.slice o n c) cs) := hv
  have HN : Hid (n = cs.length) := hn
  have HL : Hid (sizC cs ≤ 1000000) := hl
  have HNL : Hid (n ≤ 1000000) := by have := sizC_len cs; unfold Hid; omega
  clear hv hn hl hm hB hC
  go_enter Tryz.func21, Tryz.ntmps21
  go_wp2
  go_loop [8] (fun t => ∃ j : Nat, j ≤ n ∧ t = .int .i64 j ∧ ∀ k d, k < j → cs[k]? = some d → badC m d = false) (fun t => n - (intOf t).toNat)
  case atStart => exact ⟨0, Nat.zero_le _, rfl, fun k x hk => by omega⟩
  case round =>
    obtain ⟨j, hj, rfl, hall⟩ := hrel
    have HALL : Hid (∀ k d, k < j → cs[k]? = some d → badC m d = false) := hall
    by_cases hjl : j < n
    · obtain ⟨d, hd⟩ : ∃ d, cs[j]? = some d := ⟨_, List.getElem?_eq_getElem (by have := HN.out; omega)⟩
      obtain ⟨b, off, o', c', rfl, hcx, hin⟩ := HV.out.get hd
      have hsz := sizC_get hd
      have HCL : Hid (Calls Tryz.prog 22 #[.slice o' d.length c', .pointer (some ⟨C, 0, none⟩)] w fun e w' => e = .returned (.bool (badC m d)) ∧ w' = w) := HC2.out o' _ c' d hin rfl (by have := HL.out; omega)
      have i0' : (0 : Int) ≤ (j : Int) := by omega
      have i1' : (j : Int) < (n : Int) := by omega
      have N4 : Hid (wrap64 ((j : Int) + 1) = (j : Int) + 1) := by have := HNL.out; unfold Hid wrap64; omega
      have HJ : Hid (j < n) := hjl
      have HX : Hid (cs[j]? = some d) := hd
      clear hall hj hjl hd hin hsz
      cases hb : badC m d
      · go_wp2_with (go_at_call 22; refine HCL.out.mono ?_; rw [hb]; rintro e w' ⟨rfl, hw⟩; have hw2 := hw.symm; subst hw2)
        refine ⟨⟨j + 1, HJ.out, by rw [N4.out]; rfl, fun k y hk hy => ?_⟩, by rw [N4.out]; have := HJ.out; simp [intOf]; omega⟩
        rcases Nat.lt_or_ge k j with h1 | h1
        · exact HALL.out k y h1 hy
        · obtain rfl : k = j := by omega
          rw [HX.out] at hy
          cases hy
          exact hb
      · go_wp2_with (go_at_call 22; refine HCL.out.mono ?_; rw [hb]; rintro e w' ⟨rfl, hw⟩; have hw2 := hw.symm; subst hw2)
        go_ret
        exact ⟨by rw [firstB_some HX.out hb HALL.out]; rfl, rfl⟩
    · obtain rfl : j = n := by omega
      clear hall hj hjl
      go_wp2
      go_ret
      exact ⟨by rw [firstB_none (fun k d hk hd => HALL.out k d (by rw [HN.out]; exact hk) hd)]; rfl, rfl⟩
/-- Whether a formula is within its bounds. -/
def bndB (n : Int) (cs : List (List Int)) : Bool := decide (n < 0) || decide (150000 < n) || decide (500000 < cs.length)
/-- What Check answers. -/
def ChkP (n : Int) (cs : List (List Int)) (tb ts : TypeId) (qb qs : Value) (e : Ending) (w' : World) : Prop :=
  (bndB n cs = true ∧ e = .returned (.iface tb qb)) ∨
  (bndB n cs = false ∧ ∃ j P, firstB n cs = some j ∧ e = .returned (.iface 55 (.pointer (some ⟨P, 0, none⟩))) ∧ w'.heap[P]? = some (.cells #[.int .i64 j, .iface ts qs] 57 (0, 0))) ∨
  (bndB n cs = false ∧ firstB n cs = none ∧ e = .returned .nilIface)
set_option maxRecDepth 100000 in
set_option maxHeartbeats 4000000 in
theorem checkF_any (w : World) (n : Int) (v : Value) (cs : List (List Int)) (hv : ClsAt w v cs) (hs : sizC cs ≤ 1000000 ∨ 500000 < cs.length) (tb ts : TypeId) (qb qs : Value) (hb : w.cell? ⟨0, 0, none⟩ = some (.iface tb qb)) (hsh : w.cell? ⟨1, 0, none⟩ = some (.iface ts qs)) :
    Calls Tryz.prog 10 #[.agg #[.int .i64 n, v]] w fun e w' => ChkP n cs tb ts qb qs e w' ∧ Below w.heap.size w w' := by
  have HV : Hid (ClsAt w v cs) := hv
  obtain ⟨_, o, c, rfl, _⟩ := hv
  have hb1 : Below w.heap.size w (w.alloc (.cells #[.int .i64 n, .slice o cs.length c] 31)) := (Below.refl _ _).alloc (Nat.le_refl _) _
  have zb := cell_keep hb1 hb
  have HB1 : Hid (Below w.heap.size w (w.alloc (.cells #[.int .i64 n, .slice o cs.length c] 31))) := hb1
  by_cases h1 : n < 0
  · have E : Hid (bndB n cs = true) := by unfold Hid bndB; simp [h1]
    have d1 : (n < 0) = True := eq_true h1
    clear hs hb hsh hb1 h1
    go_enter Tryz.func10, Tryz.ntmps10
    go_wp2
    go_ret
    exact ⟨.inl ⟨E.out, rfl⟩, HB1.out⟩
  · have d1 : (n < 0) = False := eq_false h1
    by_cases h2 : 150000 < n
    · have E : Hid (bndB n cs = true) := by unfold Hid bndB; simp [h2]
      have d2 : (150000 < n) = True := eq_true h2
      clear hs hb hsh hb1 h1 h2
      go_enter Tryz.func10, Tryz.ntmps10
      go_wp2
      go_ret
      exact ⟨.inl ⟨E.out, rfl⟩, HB1.out⟩
    · have d2 : (150000 < n) = False := eq_false h2
      by_cases h3 : 500000 < cs.length
      · have E : Hid (bndB n cs = true) := by unfold Hid bndB; simp [h3]
        have d3 : ((500000 : Int) < (cs.length : Int)) = True := eq_true (by omega)
        clear hs hb hsh hb1 h1 h2 h3
        go_enter Tryz.func10, Tryz.ntmps10
        go_wp2
        go_ret
        exact ⟨.inl ⟨E.out, rfl⟩, HB1.out⟩
      · have E : Hid (bndB n cs = false) := by unfold Hid bndB; simp; omega
        have d3 : ((500000 : Int) < (cs.length : Int)) = False := eq_false (by omega)
        obtain ⟨w2, hw2⟩ : ∃ w2, w2 = (w.alloc (.cells #[.int .i64 n, .slice o cs.length c] 31)).alloc (.cells #[.func (.func 20) #[] #[.pointer (some ⟨w.heap.size, 0, none⟩)]] 51) := ⟨_, rfl⟩
        have hb2 : Below w.heap.size w w2 := by rw [hw2]; exact ((Below.refl _ _).alloc (Nat.le_refl _) _).alloc (by simp) _
        have hf2 : w2.heap[w.heap.size]? = some (.cells #[.int .i64 n, .slice o cs.length c] 31 (0, 0)) := by rw [hw2]; exact alloc_row' _ (heap_alloc_new _ _)
        have hc2 : w2.heap[w.heap.size + 1]? = some (.cells #[.func (.func 20) #[] #[.pointer (some ⟨w.heap.size, 0, none⟩)]] 51 (0, 0)) := by
          have := heap_alloc_new (w.alloc (.cells #[.int .i64 n, .slice o cs.length c] 31)) (.cells #[.func (.func 20) #[] #[.pointer (some ⟨w.heap.size, 0, none⟩)]] 51)
          rw [World.size_alloc] at this
          rw [hw2]; exact this
        have z0 : w2.cell? ⟨w.heap.size, 0, none⟩ = some (.int .i64 n) := by rw [cell_of_row w2 _ _ _ _ (0, 0) hf2]; rfl
        have z1 : w2.cell? ⟨w.heap.size + 1, 0, none⟩ = some (.func (.func 20) #[] #[.pointer (some ⟨w.heap.size, 0, none⟩)]) := by rw [cell_of_row w2 _ _ _ _ (0, 0) hc2]; rfl
        have HI : Hid (Calls Tryz.prog 21 #[.slice o cs.length c, .func (.func 22) #[] #[.pointer (some ⟨w.heap.size + 1, 0, none⟩)]] w2 fun e w' => e = .returned (.int .i64 (placeI (firstB n cs))) ∧ w' = w2) := findex_any w2 w.heap.size (w.heap.size + 1) n (by omega) z0 z1 o _ c cs (HV.out.below hb2) rfl (hs.resolve_right h3)
        have HW2 : Hid ((w.alloc (.cells #[.int .i64 n, .slice o cs.length c] 31)).alloc (.cells #[.func (.func 20) #[] #[.pointer (some ⟨w.heap.size, 0, none⟩)]] 51) = w2) := hw2.symm
        have HB2 : Hid (Below w.heap.size w w2) := hb2
        have c2 := cell_keep hb2 hsh
        clear hs hb hsh hb1 h1 h2 h3 hw2 hb2 hf2 hc2 z0 z1 zb
        have hmf : ∀ (fn : Fn) (first cap : Array Value) (w : World), (Instr.makeFunc fn first cap).run Tryz.prog w = .ok (.func fn first cap) w := fun _ _ _ _ => rfl
        cases hq : firstB n cs with
        | none =>
          go_enter Tryz.func10, Tryz.ntmps10
          go_wp2_with fail
          rw [HW2.out]
          refine HI.out.mono ?_
          rw [hq]
          rintro e w' ⟨rfl, hw⟩
          have hw2 := hw.symm
          subst hw2
          have ep : placeI none = -1 := rfl
          rw [ep]
          clear c2 HI HW2
          go_wp2
          go_ret
          exact ⟨.inr (.inr ⟨E.out, hq, rfl⟩), HB2.out⟩
        | some j =>
          go_enter Tryz.func10, Tryz.ntmps10
          go_wp2_with fail
          rw [HW2.out]
          refine HI.out.mono ?_
          rw [hq]
          rintro e w' ⟨rfl, hw⟩
          have hw2 := hw.symm
          subst hw2
          have ep : placeI (some j) = (j : Int) := rfl
          rw [ep]
          have dj : ((0 : Int) ≤ (j : Int)) = True := eq_true (by omega)
          clear HI HW2
          go_wp2
          go_ret
          exact ⟨.inr (.inl ⟨E.out, j, w2.heap.size, hq, rfl, heap_alloc_new _ _⟩), HB2.out.alloc HB2.out.size _⟩
theorem check_any (w : World) (n : Int) (v : Value) (cs : List (List Int)) (hv : ClsAt w v cs) (hs : sizC cs ≤ 1000000) (tb ts : TypeId) (qb qs : Value) (hb : w.cell? ⟨0, 0, none⟩ = some (.iface tb qb)) (hsh : w.cell? ⟨1, 0, none⟩ = some (.iface ts qs)) :
    Calls Tryz.prog 10 #[.agg #[.int .i64 n, v]] w fun e w' => ChkP n cs tb ts qb qs e w' ∧ Below w.heap.size w w' :=
  checkF_any w n v cs hv (.inl hs) tb ts qb qs hb hsh
set_option maxRecDepth 100000 in
set_option maxHeartbeats 4000000 in
theorem text_any (w : World) (n : Int) (hn : I64 n) (v : Value) (cs : List (List Int)) (hv : ClsAt w v cs) (hI : ∀ c ∈ cs, ∀ x ∈ c, I64 x) (hs : sizC cs ≤ 100000) (htab : Lib.TabIs Tryz.prog w "internal/strconv.uint64pow10" .u64 Lib.pow10Tab) (tb ts : TypeId) (qb qs : Value) (hb : w.cell? ⟨0, 0, none⟩ = some (.iface tb qb)) (hsh : w.cell? ⟨1, 0, none⟩ = some (.iface ts qs)) (hgood : bndB n cs = false ∧ firstB n cs = none) :
    Calls Tryz.prog 6 #[.agg #[.int .i64 n, v]] w fun e w' => e = .returned (.tuple #[.string ⟨(textC n cs).toArray⟩, .nilIface]) ∧ Below w.heap.size w w' := by
  have HV : Hid (ClsAt w v cs) := hv
  obtain ⟨_, o, c, rfl, _⟩ := hv
  obtain ⟨w1, hw1⟩ : ∃ w1, w1 = w.alloc (.cells #[.int .i64 n, .slice o cs.length c] 31) := ⟨_, rfl⟩
  have hb1 : Below w.heap.size w w1 := by rw [hw1]; exact (Below.refl _ _).alloc (Nat.le_refl _) _
  have hf1 : w1.heap[w.heap.size]? = some (.cells #[.int .i64 n, .slice o cs.length c] 31 (0, 0)) := by rw [hw1]; exact heap_alloc_new _ _
  have HCK : Hid (Calls Tryz.prog 10 #[.agg #[.int .i64 n, .slice o cs.length c]] w1 fun e w' => ChkP n cs tb ts qb qs e w' ∧ Below w1.heap.size w1 w') := check_any w1 n _ cs (HV.out.below hb1) (by omega) tb ts qb qs (cell_keep hb1 hb) (cell_keep hb1 hsh)
  have hn0 : 0 ≤ n := by
    have := hgood.1
    unfold bndB at this
    simp at this
    omega
  have HWR : Hid (∀ w2, Below w.heap.size w w2 → Calls Tryz.prog 14 #[.agg #[.int .i64 n, .slice o cs.length c]] w2 fun e w' => e = .returned (.string ⟨(textC n cs).toArray⟩) ∧ Below w2.heap.size w2 w') := fun w2 hb2 => written_any w2 n hn hn0 _ cs (HV.out.below hb2) hI hs ((Lib.tabBelow_of_tabIs htab) w2 hb2)
  have HW1 : Hid (w.alloc (.cells #[.int .i64 n, .slice o cs.length c] 31) = w1) := hw1.symm
  have HB1 : Hid (Below w.heap.size w w1) := hb1
  have HF1 : Hid (w1.heap[w.heap.size]? = some (.cells #[.int .i64 n, .slice o cs.length c] 31 (0, 0))) := hf1
  have HGD : Hid (bndB n cs = false ∧ firstB n cs = none) := hgood
  clear hn hI hs htab hb hsh hw1 hb1 hf1 hgood hn0
  go_enter Tryz.func6, Tryz.ntmps6
  go_wp2_with fail
  rw [HW1.out]
  refine HCK.out.mono ?_
  rintro e w2 ⟨hk, hb2⟩
  have he : e = .returned .nilIface := by
    rcases hk with ⟨h, _⟩ | ⟨_, j, P, h, _⟩ | ⟨_, _, h⟩
    · rw [HGD.out.1] at h; cases h
    · rw [HGD.out.2] at h; cases h
    · exact h
  subst he
  have hf2 := row_keep hb2 HF1.out
  have z0 : w2.cell? ⟨w.heap.size, 0, none⟩ = some (.int .i64 n) := by rw [cell_of_row w2 _ _ _ _ (0, 0) hf2]; rfl
  have z1 : w2.cell? ⟨w.heap.size, 0 + 1, none⟩ = some (.slice o cs.length c) := by rw [cell_of_row w2 _ _ _ _ (0, 0) hf2]; rfl
  have HB2 : Hid (Below w.heap.size w w2) := HB1.out.trans (hb2.mono HB1.out.size)
  clear hk hb2 hf2 HCK HW1
  go_wp2_with fail
  refine (HWR.out w2 HB2.out).mono ?_
  rintro e w3 ⟨rfl, hb3⟩
  have HB3 : Hid (Below w.heap.size w w3) := HB2.out.trans (hb3.mono HB2.out.size)
  clear hb3
  go_wp2
  go_ret2
  exact ⟨rfl, HB3.out⟩
set_option maxRecDepth 100000 in
theorem texted_any (w : World) (htab : Lib.TabIs Tryz.prog w "internal/strconv.uint64pow10" .u64 Lib.pow10Tab) (tb ts : TypeId) (qb qs : Value) (hb : w.cell? ⟨0, 0, none⟩ = some (.iface tb qb)) (hsh : w.cell? ⟨1, 0, none⟩ = some (.iface ts qs)) :
    Calls Tryz.prog 4 #[] w fun e w' => e = .returned (.bool true) ∧ Below w.heap.size w w' := by
  have HT : Hid (Calls Tryz.prog 6 #[.agg #[.int .i64 2, .slice none 0 0]] w fun e w' => e = .returned (.tuple #[.string ⟨(textC 2 []).toArray⟩, .nilIface]) ∧ Below w.heap.size w w') := text_any w 2 (by unfold I64; omega) _ [] ⟨by simp, none, 0, rfl, fun k l hk => by simp at hk⟩ (fun c hc => by simp at hc) (by simp [sizC]) htab tb ts qb qs hb hsh ⟨by decide, rfl⟩
  have e2 : Lib.itoa 2 = [50] := by rw [show (2 : Int) = ((2 : Nat) : Int) from rfl, Lib.itoa_nonneg, Lib.decDigits_one (by omega)]; rfl
  have e0 : Lib.itoa 0 = [48] := by rw [show (0 : Int) = ((0 : Nat) : Int) from rfl, Lib.itoa_nonneg, Lib.decDigits_one (by omega)]; rfl
  have e : (textC 2 []).toArray = #[112, 32, 99, 110, 102, 32, 50, 32, 48, 10] := by
    have : textC 2 [] = headB ++ ([50] ++ [32]) ++ ([48] ++ [10]) ++ [] := by
      unfold textC numB
      rw [e2]
      show headB ++ ([50] ++ [32]) ++ (Lib.itoa 0 ++ [10]) ++ [] = _
      rw [e0]
    rw [this]; rfl
  rw [e] at HT
  clear htab hb hsh e e2 e0
  go_enter Tryz.func4, Tryz.ntmps4
  go_wp2_with fail
  refine HT.out.mono ?_
  rintro e w1 ⟨rfl, hb1⟩
  have HB1 : Hid (Below w.heap.size w w1) := hb1
  clear hb1
  go_wp2
  go_ret
  exact ⟨rfl, HB1.out⟩
end Go.Proofs.YtlclbidjdhlklaaGreatDoor
