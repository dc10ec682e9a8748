/-
  package graph: gate BY ITS CONTRACT: the one that is there, or a new one.
-/
import Derived.Test.YtpiglmaojonbnaaGreatDoorP04
namespace Go.Proofs.YtpiglmaojonbnaaGreatDoor
open Go.RowKit Go.Maps

/-- What the map says of a pair that is none of the gates. -/
theorem map_new {gs : List (Int × Int)} {D : DataW Unit} {p : Int × Int} (hD : IsMap D) (h1 : I64 p.1) (h2 : I64 p.2) (hn : p ∉ gs)
    (h : ∀ q : Int × Int, I64 q.1 → I64 q.2 → q ≠ (0, 0) → (Maps.has D (pairK q) = decide (q ∈ gs)) ∧ (q ∈ gs → D.atKey (pairK q) (.lit (.int .i64 0)) = .lit (.int .i64 (2 * (gs.idxOf q : Int) + 2)))) :
    ∀ q : Int × Int, I64 q.1 → I64 q.2 → q ≠ (0, 0) → (Maps.has (D.put (pairK p) (.lit (.int .i64 (2 * (gs.length : Int) + 2)))) (pairK q) = decide (q ∈ gs ++ [p])) ∧
      (q ∈ gs ++ [p] → (D.put (pairK p) (.lit (.int .i64 (2 * (gs.length : Int) + 2)))).atKey (pairK q) (.lit (.int .i64 0)) = .lit (.int .i64 (2 * ((gs ++ [p]).idxOf q : Int) + 2))) := by
  intro q k1 k2 hq
  have hk : WideAt.IsKeyLit (pairK p) := pairLaw.key (pairKey h1 h2)
  by_cases e : q = p
  · subst e
    rw [has_put_same hD hk, atKey_put_same hD hk, idx_new hn]
    simp
  · have hne : pairK q ≠ pairK p := fun h' => e (pairK_inj k1 k2 h1 h2 h')
    rw [has_put_other hne, atKey_put_other hne, (h q k1 k2 hq).1]
    refine ⟨by simp [e], fun hm => ?_⟩
    have hm' : q ∈ gs := by simpa [e] using hm
    rw [idx_app hm', (h q k1 k2 hq).2 hm']

set_option maxRecDepth 100000 in
set_option maxHeartbeats 2000000 in
/-- The gate is there. -/
theorem gate_old {G : Nat} {gs : List (Int × Int)} {ins : Nat} {F : Nat → Prop} {w : World} (h : GrAt G gs ins F w) (a b : Int) (ha : I64 a) (hb : I64 b) (hp : (a, b) ≠ (0, 0)) (hm : (a, b) ∈ gs) :
    Calls Tryz.prog 75 #[.pointer (some ⟨G, 0, none⟩), .agg #[.int .i64 a, .int .i64 b]] w fun e w' => e = .returned (.tuple #[.int .i64 (2 * (gs.idxOf (a, b) : Int) + 2), .nilIface]) ∧ Below w.heap.size w w' := by
  have hb1 : Below w.heap.size w (w.alloc (.cells #[.int .i64 a, .int .i64 b] 58)) := (Below.refl _ _).alloc (Nat.le_refl _) _
  have h1 := h.below hb1
  obtain ⟨t, sv, mv, h3, c0, c1, c2, h4, h5, h6⟩ := h1.cells
  rcases h6 with ⟨_, h6⟩ | ⟨B, n, D, rfl, hB, hn, hown, hall⟩
  · exact absurd (h6 _ hm) hp
  · have hkey : keyOf Tryz.prog 58 (.agg #[.int .i64 a, .int .i64 b]) = some (pairK (a, b)) := pairKey (p := (a, b)) ha hb
    obtain ⟨v, ps, hrun, hR⟩ := hown.drew.look_ok pairLaw Tryz.underlying29 (litZero _) (plainElem_int Tryz.underlying39 (by decide)) hkey
    rw [(hall (a, b) ha hb hp).1, decide_eq_true hm] at hrun
    rw [(hall (a, b) ha hb hp).2 hm] at hR
    obtain ⟨x, rfl, hx, _⟩ := plainElem_int_inv Tryz.underlying39 hR
    obtain rfl : 2 * (gs.idxOf (a, b) : Int) + 2 = x := by simpa using congrArg Prod.fst hx
    clear hall hown hR h4 h5 h1 h3 hx hm hkey
    go_enter Tryz.func75, Tryz.ntmps75
    go_wp2
    go_region
    all_goals go_wp2
    all_goals go_ret2
    all_goals exact ⟨rfl, hb1.drew⟩

/-- A graph whose map is there. -/
def GrMap (G : Nat) (gs ms : List (Int × Int)) (ins : Nat) (F : Nat → Prop) (w : World) (B n : Nat) (D : DataW Unit) : Prop :=
  F G ∧ (∀ k, F k → k < w.heap.size) ∧ ∃ t sv, w.heap[G]? = some (.cells #[sv, .map (some B), .int .i64 ins] t (0, 0)) ∧
    w.ownsRow 0 58 2 sv gs.length (pcells gs) ∧ (∀ k, sv.ownBlock = some k → F k ∧ k ≠ G) ∧ F B ∧ n ≤ ms.length ∧ w.ownsMap Tryz.prog 58 (plainElem Tryz.prog 39) B n D ∧
    ∀ p : Int × Int, I64 p.1 → I64 p.2 → p ≠ (0, 0) → (Maps.has D (pairK p) = decide (p ∈ ms)) ∧ (p ∈ ms → D.atKey (pairK p) (.lit (.int .i64 0)) = .lit (.int .i64 (2 * (ms.idxOf p : Int) + 2)))
theorem GrMap.put {G : Nat} {gs : List (Int × Int)} {ins : Nat} {F : Nat → Prop} {w w' : World} {B n : Nat} {D : DataW Unit} {p : Int × Int} (h : GrMap G (gs ++ [p]) gs ins F w B n D) (h1 : I64 p.1) (h2 : I64 p.2) (hn : p ∉ gs)
    (hown : w'.ownsMap Tryz.prog 58 (plainElem Tryz.prog 39) B (n + 1) (D.put (pairK p) (.lit (.int .i64 (2 * (gs.length : Int) + 2))))) (hg : w.drew.grownBy w' (some B)) : GrRaw G (gs ++ [p]) (gs ++ [p]) ins F w' ∧ Mvd F F w w' := by
  obtain ⟨k1, k2, t, sv, k3, k4, k5, k6, k7, k8, k9⟩ := h
  have hs : w.heap.size ≤ w'.heap.size := hg.size
  have hbl : ∀ k, k < w.heap.size → k ≠ B → w'.heap[k]? = w.heap[k]? := fun k hk hne => hg.block k hk (by simpa using hne)
  have hD := k8.isMap
  obtain ⟨es, clock, hbB, _⟩ := k8
  have hGB : G ≠ B := fun e => by subst e; rw [k3] at hbB; cases hbB
  refine ⟨⟨k1, fun k hk => Nat.lt_of_lt_of_le (k2 k hk) hs, t, sv, _, by rw [hbl G (k2 G k1) hGB]; exact k3, owns_keep k4 (fun k hk => ?_), k5, .inr ⟨B, n + 1, _, rfl, k6, by simp; omega, hown, map_new ?_ h1 h2 hn k9⟩⟩, ⟨hg.os, hg.tape, hg.output, hs, fun k hk hn => hbl k hk (fun e => hn (by rw [e]; exact k6)), fun k hk => .inl hk⟩⟩
  · refine hbl k (k2 k (k5 k hk).1) (fun e => ?_)
    subst e
    obtain ⟨_, k4⟩ := k4
    rcases k4 with ⟨rfl, _⟩ | ⟨g', cap', cur', rfl, _, hg', _⟩
    · simp [Value.ownBlock] at hk
    · simp [Value.ownBlock] at hk
      subst hk
      rw [hg'] at hbB
      cases hbB
  · exact hD

/-- The map is made. -/
theorem GrRaw.made {G : Nat} {gs ms : List (Int × Int)} {ins : Nat} {F : Nat → Prop} {w : World} {t : TypeId} {sv : Value} (hG : F G) (hF : ∀ k, F k → k < w.heap.size) (h3 : w.heap[G]? = some (.cells #[sv, .map none, .int .i64 ins] t (0, 0)))
    (h4 : w.ownsRow 0 58 2 sv gs.length (pcells gs)) (h5 : ∀ k, sv.ownBlock = some k → F k ∧ k ≠ G) (h6 : ∀ p ∈ ms, p = (0, 0)) :
    GrMap G gs ms ins (With F w (w.alloc (.map #[] 0))) ((w.setCell ⟨G, 1, none⟩ (.map (some w.heap.size))).alloc (.map #[] 0)) w.heap.size 0 (.map []) ∧ Mvd F (With F w (w.alloc (.map #[] 0))) w ((w.setCell ⟨G, 1, none⟩ (.map (some w.heap.size))).alloc (.map #[] 0)) := by
  have hlt := hF G hG
  have hsz : ((w.setCell ⟨G, 1, none⟩ (.map (some w.heap.size))).alloc (.map #[] 0)).heap.size = w.heap.size + 1 := by simp [World.setCell]
  have hsz1 : (w.alloc (.map #[] 0)).heap.size = w.heap.size + 1 := by simp
  have hs1 : (w.setCell ⟨G, 1, none⟩ (.map (some w.heap.size))).heap.size = w.heap.size := size_setCell _ _ _
  have hbl : ∀ k, k < w.heap.size → k ≠ G → ((w.setCell ⟨G, 1, none⟩ (.map (some w.heap.size))).alloc (.map #[] 0)).heap[k]? = w.heap[k]? := fun k hk hne => by
    rw [Below.heap_alloc _ _ _ (by rw [hs1]; exact hk), Below.heap_setCell _ _ _ _ hne]
  refine ⟨⟨.inl hG, fun k hk => ?_, t, sv, ?_, ?_, fun k hk => ⟨.inl (h5 k hk).1, (h5 k hk).2⟩, .inr ⟨Nat.le_refl _, by rw [hsz1]; omega⟩, Nat.zero_le _, ?_, fun p _ _ hp => ⟨?_, fun hm => absurd (h6 p hm) hp⟩⟩, ⟨rfl, rfl, rfl, by rw [hsz]; omega, fun k hk hn => hbl k hk (fun e => hn (by rw [e]; exact hG)), fun k hk => ?_⟩⟩
  · rw [hsz]
    rcases hk with hk | hk
    · have := hF k hk; omega
    · rw [hsz1] at hk; exact hk.2
  · rw [Below.heap_alloc _ _ _ (by rw [hs1]; exact hlt)]
    exact heap_setCell_at h3 _
  · exact owns_keep h4 (fun k hk => hbl k (hF k (h5 k hk).1) (h5 k hk).2)
  · have := World.ownsMap_made (H := Unit) (w.setCell ⟨G, 1, none⟩ (.map (some w.heap.size))) Tryz.prog 58 (plainElem Tryz.prog 39)
    rw [hs1] at this
    exact this
  · rw [decide_eq_false (fun hm => hp (h6 p hm))]
    rfl
  · rcases hk with hk | hk
    · exact .inl hk
    · exact .inr ⟨hk.1, by rw [hsz]; rw [hsz1] at hk; exact hk.2⟩
theorem Mvd.row {F F' : Nat → Prop} {w w' : World} (h : Mvd F F' w w') {k : Nat} {o : Obj} (hk : w.heap[k]? = some o) (hn : ¬ F k) : w'.heap[k]? = some o := by
  rw [h.block k (Array.getElem?_eq_some_iff.1 hk).1 hn]; exact hk

theorem mapNil (w : World) : (binOp .eql 29 (.map none) (.map none)).run Tryz.prog w = .ok (.bool true) w := by kernel_rfl
theorem mapNot (B : Nat) (w : World) : (binOp .eql 29 (.map (some B)) (.map none)).run Tryz.prog w = .ok (.bool false) w := by kernel_rfl
set_option maxRecDepth 100000 in
set_option maxHeartbeats 2000000 in
/-- A new gate. -/
theorem gate_new {G : Nat} {gs : List (Int × Int)} {ins : Nat} {F : Nat → Prop} {w : World} (h : GrAt G gs ins F w) (hl : gs.length < 90000) (a b : Int) (ha : I64 a) (hb : I64 b) (hp : (a, b) ≠ (0, 0)) (hm : (a, b) ∉ gs) :
    Calls Tryz.prog 75 #[.pointer (some ⟨G, 0, none⟩), .agg #[.int .i64 a, .int .i64 b]] w fun e w' => e = .returned (.tuple #[.int .i64 (2 * (gs.length : Int) + 2), .nilIface]) ∧ ∃ F', GrRaw G (gs ++ [(a, b)]) (gs ++ [(a, b)]) ins F' w' ∧ Mvd F F' w w' := by
  have hb1 : Below w.heap.size w (w.alloc (.cells #[.int .i64 a, .int .i64 b] 58)) := (Below.refl _ _).alloc (Nat.le_refl _) _
  have h1 := h.below hb1
  have hkey : keyOf Tryz.prog 58 (.agg #[.int .i64 a, .int .i64 b]) = some (pairK (a, b)) := pairKey (p := (a, b)) ha hb
  obtain ⟨w1, hw1⟩ : ∃ w1, w1 = w.alloc (.cells #[.int .i64 a, .int .i64 b] 58) := ⟨_, rfl⟩
  have r1 : w1.heap[w.heap.size]? = some (.cells #[.int .i64 a, .int .i64 b] 58 (0, 0)) := by rw [hw1]; show (w.heap.push _)[w.heap.size]? = _; simp
  rw [← hw1] at hb1 h1
  have HW : Hid (w1 = w.alloc (.cells #[.int .i64 a, .int .i64 b] 58)) := hw1
  clear hw1
  obtain ⟨t, sv, mv, h3, c0, c1, c2, h4, h5, h6⟩ := h1.cells
  have hrun : (Instr.lookup 29 mv (.agg #[.int .i64 a, .int .i64 b]) true).run Tryz.prog w1.drew = .ok (.tuple #[.int .i64 0, .bool false]) w1.drew := by
    rcases h6 with ⟨rfl, _⟩ | ⟨B, n, D, rfl, hB, hn, hown, hall⟩
    · exact look_nil true pairLaw Tryz.underlying29 (litZero _) hkey
    · obtain ⟨v, ps, hrun, hR⟩ := hown.drew.look_ok pairLaw Tryz.underlying29 (litZero _) (plainElem_int Tryz.underlying39 (by decide)) hkey
      have hf := (hall (a, b) ha hb hp).1
      rw [decide_eq_false hm] at hf
      rw [hf] at hrun
      rw [atKey_of_not_has hf] at hR
      obtain ⟨x, rfl, hx, _⟩ := plainElem_int_inv Tryz.underlying39 hR
      obtain rfl : 0 = x := by simpa using congrArg Prod.fst hx
      exact hrun
  have h2 : GrAt G gs ins F w1.drew := h1
  have H2 : Hid (GrAt G gs ins F w1.drew) := h2
  have H0 : Hid (GrAt G gs ins F w) := h
  have R1 : Hid _ := r1
  have p0 := cell_of_row w1 w.heap.size 0 _ _ (0, 0) r1
  have p1 := cell_of_row w1 w.heap.size (0 + 1) _ _ (0, 0) r1
  have HL : Hid (gs.length < 90000) := hl
  have HM : Hid ((a, b) ∉ gs) := hm
  have HK : Hid (keyOf Tryz.prog 58 (.agg #[.int .i64 a, .int .i64 b]) = some (pairK (a, b))) := hkey
  clear h6 h1 h2 h h3 h4 h5 hl hm hkey r1 c0 c2
  go_enter Tryz.func75, Tryz.ntmps75
  go_wp2
  rw [← HW.out]
  clear HW
  go_region
  go_wp2_with fail
  refine (add_any H2.out HL.out a b).mono ?_
  rintro e w3 ⟨rfl, F3, hr3, hm3⟩
  have hFP : ¬ F w.heap.size := fun hf => by have := H0.out.2.2.1 _ hf; omega
  have r3 : w3.heap[w.heap.size]? = some (.cells #[.int .i64 a, .int .i64 b] 58 (0, 0)) := hm3.row (w := w1.drew) R1.out hFP
  have hPG : G ≠ w.heap.size := fun e => by have := H0.out.2.2.1 G H0.out.2.1; omega
  have hxw : (Lit.int .i64 (2 * (gs.length : Int) + 2)).wf = true := wf_of (by have := HL.out; unfold I64; omega)
  have HMV : Hid (Mvd F F3 w w3) := (Mvd.of_below hb1.drew).trans hm3
  have hmax : gs.length < maxLen := by have := HL.out; unfold maxLen; omega
  have HX : Hid (gs.length < maxLen) := hmax
  clear hmax p0 p1 c1 hrun R1 hm3 hFP hb1
  have hr3' := hr3
  obtain ⟨k1, k2, t3, sv3, mv3, k3, k4, k5, k6⟩ := hr3'
  obtain ⟨_, _, _, q3, d0, d1, d2, _, _, _⟩ := hr3.cells
  rw [k3] at q3
  simp only [Option.some.injEq, Obj.cells.injEq] at q3
  have e1 := (List.cons.inj (List.cons.inj (congrArg Array.toList q3.1)).2).1
  rw [← e1] at d1
  clear q3 e1 d0 d2 hr3
  rcases k6 with ⟨rfl, k6⟩ | ⟨B, n, D, rfl, hB, hn, hown, hall⟩
  · have hM := GrRaw.made (gs := gs ++ [(a, b)]) k1 k2 k3 k4 k5 k6
    have f1 : w3.frozen? ⟨G, 0 + 1, none⟩ = false := frozen_row k3
    have hG3 : G < w3.heap.size := k2 G k1
    have hmm := @run_makeMap Tryz.prog
    obtain ⟨w4, hw4⟩ : ∃ w4, w4 = (w3.setCell ⟨G, 1, none⟩ (.map (some w3.heap.size))).alloc (.map #[] 0) := ⟨_, rfl⟩
    rw [← hw4] at hM
    have r4 : w4.heap[w.heap.size]? = some (.cells #[.int .i64 a, .int .i64 b] 58 (0, 0)) := by
      rw [hw4]; exact alloc_row _ (by rw [Below.heap_setCell _ _ _ _ hPG.symm]; exact r3)
    have HW4 : Hid (w4 = (w3.setCell ⟨G, 1, none⟩ (.map (some w3.heap.size))).alloc (.map #[] 0)) := hw4
    clear hw4
    have HM4 : Hid _ := hM
    have HR4 : Hid _ := r4
    clear hM r4 k3 k4 k5 k6 k1 k2 r3
    have hmn := mapNil w3
    go_wp2
    rw [← HW4.out]
    clear HW4 f1 hmn hmm d1
    obtain ⟨g1, g2⟩ := HM4.out
    have g1' := g1
    obtain ⟨_, _, t4, sv4, g3, _, _, _, _, g5, _⟩ := g1
    have m1 := cell_of_row w4 G (0 + 1) _ _ (0, 0) g3
    have p0 := cell_of_row w4 w.heap.size 0 _ _ (0, 0) HR4.out
    have p1 := cell_of_row w4 w.heap.size (0 + 1) _ _ (0, 0) HR4.out
    obtain ⟨w5, hupd, hown5, hg5⟩ := World.ownsMap.update (g5.drew) pairLaw Tryz.underlying29 (by unfold maxLen; omega) HK.out (plainElem_int Tryz.underlying39 hxw)
    obtain ⟨e1, e2⟩ := g1'.put (p := (a, b)) ha hb HM.out hown5 hg5
    have HE : Hid (∃ F', GrRaw G (gs ++ [(a, b)]) (gs ++ [(a, b)]) ins F' w5 ∧ Mvd F F' w w5) := ⟨_, e1, (HMV.out.trans g2).trans e2⟩
    clear e1 e2 g1' g2 g3 g5 hown5 hg5 HM4 HR4
    go_region
    all_goals go_wp2
    all_goals go_ret2
    all_goals exact ⟨rfl, HE.out⟩
  · have g1' : GrMap G (gs ++ [(a, b)]) gs ins F3 w3 B n D := ⟨k1, k2, t3, sv3, k3, k4, k5, hB, hn, hown, hall⟩
    have hmn := mapNot B w3
    have p0 := cell_of_row w3 w.heap.size 0 _ _ (0, 0) r3
    have p1 := cell_of_row w3 w.heap.size (0 + 1) _ _ (0, 0) r3
    obtain ⟨w5, hupd, hown5, hg5⟩ := World.ownsMap.update (hown.drew) pairLaw Tryz.underlying29 (Nat.lt_of_le_of_lt hn HX.out) HK.out (plainElem_int Tryz.underlying39 hxw)
    obtain ⟨e1, e2⟩ := g1'.put (p := (a, b)) ha hb HM.out hown5 hg5
    have HE : Hid (∃ F', GrRaw G (gs ++ [(a, b)]) (gs ++ [(a, b)]) ins F' w5 ∧ Mvd F F' w w5) := ⟨_, e1, HMV.out.trans e2⟩
    clear e1 e2 g1' hown5 hg5 k1 k2 k3 k4 k5 hB hn hown hall r3
    go_wp2
    go_region
    all_goals go_wp2
    all_goals go_ret2
    all_goals exact ⟨rfl, HE.out⟩
end Go.Proofs.YtpiglmaojonbnaaGreatDoor
