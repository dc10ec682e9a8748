/-
  THE DOCUMENT's MODEL OF A GRAPH: And, Or, Xor, If BY CONTRACT.
-/
import Derived.Test.YtlclbidjdhlklaaDoorMoA
namespace Go.Proofs.YtlclbidjdhlklaaDoor
open Go.RowKit Go.Maps

theorem idx_first : ∀ {gs : List (Int × Int)} {p : Int × Int} {j : Nat}, (∀ k, k < j → gs[k]? ≠ some p) → gs[j]? = some p → gs.idxOf p = j
  | [], p, j, _, h => by simp at h
  | q :: r, p, 0, _, h => by simp at h; subst h; simp
  | q :: r, p, j + 1, h1, h => by
    have hq : q ≠ p := fun e => h1 0 (by omega) (by simp [e])
    have ih := idx_first (gs := r) (p := p) (j := j) (fun k hk => by simpa using h1 (k + 1) (by omega)) (by simpa using h)
    rw [List.idxOf_cons, ih]
    have hb : (q == p) = false := by simp [hq]
    simp [hb]
theorem not_mem_of {gs : List (Int × Int)} {p : Int × Int} (h : ∀ k, k < gs.length → gs[k]? ≠ some p) : p ∉ gs := fun hm => by
  obtain ⟨k, hk, e⟩ := List.getElem_of_mem hm
  exact h k hk (by rw [List.getElem?_eq_getElem hk, e])

set_option maxRecDepth 100000 in
set_option maxHeartbeats 2000000 in
theorem mand_le {M : Nat} {gs : List (Int × Int)} {ins : Nat} {F : Nat → Prop} {w : World} (h : MoAt M gs ins F w) (hl : gs.length < 90000) (a b : Int) (hX0 : 0 ≤ a) (hXY : a ≤ b) (hYI : b ≤ 1000000) (hab : a ≤ b) :
    Calls Tryd.prog 16 #[.pointer (some ⟨M, 0, none⟩), .int .i64 a, .int .i64 b] w fun e w' => e = .returned (.int .i64 (andX gs a b)) ∧ ∃ F', MoAt M (andY gs a b) ins F' w' ∧ Mvd F F' w w' := by
  have n1 : wrap64 (a + 1) = a + 1 := by unfold wrap64; omega
  have n2 := tmod_two hX0
  have H0 : Hid (MoAt M gs ins F w) := h
  have HL : Hid (gs.length < 90000) := hl
  have HO : Hid ((a = 0 ∨ a = turnL b) ↔ (a = 0 ∨ (b = a + 1 ∧ a % 2 = 0))) := off_iff hXY
  obtain ⟨t, o, c, h3, c0, c1, h4, h5⟩ := h.cells
  have H3 : Hid _ := h3
  have H4 : Hid (World.ownsRow _ _ _ _ _ _ _) := h4
  have H5 : Hid (∀ k, _) := h5
  clear h hl hYI hXY h3 h4 h5 c1
  by_cases hx0 : a = 0
  · have E1 : Hid (andX gs a b = 0) := by unfold Hid andX; rw [if_pos (.inl hx0)]
    have E2 : Hid (andY gs a b = gs) := by unfold Hid andY; rw [if_pos (.inl hx0)]
    have d0 : (a == 0) = true := beq_iff_eq.2 hx0
    clear hx0 HO
    go_enter Tryd.func16, Tryd.ntmps16
    go_wp2
    go_ret
    rw [E2.out]
    exact ⟨by rw [E1.out]; rfl, F, H0.out, Mvd.refl _ _⟩
  · have d0 : (a == 0) = false := beq_eq_false_iff_ne.2 hx0
    have HX0 : Hid (¬ a = 0) := hx0
    clear hx0
    by_cases hxt : b = a + 1 ∧ a % 2 = 0
    · have E1 : Hid (andX gs a b = 0) := by unfold Hid andX; rw [if_pos (HO.out.2 (.inr hxt))]
      have E2 : Hid (andY gs a b = gs) := by unfold Hid andY; rw [if_pos (HO.out.2 (.inr hxt))]
      have dt : (b == a + 1) = true := beq_iff_eq.2 hxt.1
      have dm : (a % 2 == 0) = true := beq_iff_eq.2 hxt.2
      clear hxt HO
      go_enter Tryd.func16, Tryd.ntmps16
      go_wp2
      go_ret
      rw [E2.out]
      exact ⟨by rw [E1.out]; rfl, F, H0.out, Mvd.refl _ _⟩
    · have HQ : Hid (¬ (a = 0 ∨ a = turnL b)) := fun hq => (HO.out.1 hq).elim HX0.out hxt
      by_cases hx1 : a = 1 ∨ a = b
      · have E1 : Hid (andX gs a b = b) := by unfold Hid andX; rw [if_neg HQ.out, if_pos hx1]
        have E2 : Hid (andY gs a b = gs) := by unfold Hid andY; rw [if_neg HQ.out, if_pos hx1]
        have HC : Hid ((b == a + 1) = false ∨ (b == a + 1) = true ∧ (a % 2 == 0) = false) := by
          unfold Hid
          cases h1 : (b == a + 1)
          · exact .inl rfl
          · refine .inr ⟨rfl, ?_⟩
            cases h2 : (a % 2 == 0)
            · rfl
            · exact absurd ⟨beq_iff_eq.1 h1, beq_iff_eq.1 h2⟩ hxt
        have HD : Hid ((a == 1) = true ∨ (a == 1) = false ∧ (a == b) = true) := by
          unfold Hid
          cases h1 : (a == 1)
          · refine .inr ⟨rfl, ?_⟩
            rcases hx1 with h | h
            · rw [beq_iff_eq.2 h] at h1; cases h1
            · exact beq_iff_eq.2 h
          · exact .inl rfl
        clear hx1 hxt HO
        rcases HC.out with dt | ⟨dt, dm⟩ <;> rcases HD.out with d1 | ⟨d1, dy⟩
        all_goals
          clear HC HD
          go_enter Tryd.func16, Tryd.ntmps16
          go_wp2
          go_ret
          rw [E2.out]
          exact ⟨by rw [E1.out]; rfl, F, H0.out, Mvd.refl _ _⟩
      · have HR : Hid (¬ (a = 1 ∨ a = b)) := hx1
        have d1 : (a == 1) = false := beq_eq_false_iff_ne.2 (fun h => hx1 (.inl h))
        have dy : (a == b) = false := beq_eq_false_iff_ne.2 (fun h => hx1 (.inr h))
        have HC : Hid ((b == a + 1) = false ∨ (b == a + 1) = true ∧ (a % 2 == 0) = false) := by
          unfold Hid
          cases h1 : (b == a + 1)
          · exact .inl rfl
          · refine .inr ⟨rfl, ?_⟩
            cases h2 : (a % 2 == 0)
            · rfl
            · exact absurd ⟨beq_iff_eq.1 h1, beq_iff_eq.1 h2⟩ hxt
        have HI : Hid (inpB (a, b) = false) := by unfold Hid inpB; exact decide_eq_false (fun h => HX0.out (congrArg Prod.fst h))
        obtain ⟨i0, hi0, hz0, hz1, hz2⟩ := info_parts Tryd.infoGate
        have hM : M < w.heap.size := H0.out.2.1 M H0.out.1
        have HB : Hid ((gs.length + 1) * 24 ≤ 140737488355328) := by have := HL.out; unfold Hid; omega
        have HM : Hid (gs.length + 1 ≤ maxLen) := by have := HL.out; unfold Hid maxLen; omega
        have HW : Hid (∀ o', (w.alloc o').ownsRow 0 78 3 (.slice o gs.length c) gs.length (mcells gs)) := fun o' => H4.out.alloc o'
        have HN' : Hid _ := World.news_of_block (heap_alloc_new w (.cells #[.int .i64 a, .int .i64 b, .bool false] 78))
        have HK : Hid ((Value.slice o gs.length c).ownBlock ≠ some M) := fun hk => (H5.out M hk).2 rfl
        clear hx1 hxt HO
        rcases HC.out with dt | ⟨dt, dm⟩
        all_goals
          clear HC
          go_enter Tryd.func16, Tryd.ntmps16
          go_wp2
          go_loop [8] (fun t => ∃ j : Nat, j ≤ gs.length ∧ t = .int .i64 j ∧ Hid (∀ k, k < j → gs[k]? ≠ some (a, b))) (fun t => gs.length - (intOf t).toNat)
          case atStart => exact ⟨0, Nat.zero_le _, rfl, fun k hk => by omega⟩
          case round =>
            obtain ⟨j, hj, rfl, hall⟩ := hrel
            by_cases hjl : j < gs.length
            · obtain ⟨p, hp⟩ : ∃ p, gs[j]? = some p := ⟨_, List.getElem?_eq_getElem hjl⟩
              obtain ⟨g, c', e', q0, q1, q2⟩ := gate_cells H4.out hp
              obtain ⟨rfl, rfl⟩ : o = some ⟨g, 0, none⟩ ∧ c = c' := by simpa using e'
              have i0' : (0 : Int) ≤ (j : Int) := by omega
              have i1 : (j : Int) < (gs.length : Int) := by omega
              have N2 : Hid (wrap64 (2 * (j : Int) + 2) = 2 * (j : Int) + 2) := by have := HL.out; unfold Hid wrap64; omega
              have N3 : Hid (wrap64 (2 * (j : Int)) = 2 * (j : Int)) := by have := HL.out; unfold Hid wrap64; omega
              have N4 : Hid (wrap64 ((j : Int) + 1) = (j : Int) + 1) := by have := HL.out; unfold Hid wrap64; omega
              have HP : Hid (gs[j]? = some p) := hp
              have HJ : Hid (j < gs.length) := hjl
              clear hp e' hjl hj
              have fin : p ≠ (a, b) → ∀ k, k < j + 1 → gs[k]? ≠ some (a, b) := fun hne k hk he => by
                rcases Nat.lt_or_ge k j with h1 | h1
                · exact hall.out k h1 he
                · obtain rfl : k = j := by omega
                  rw [HP.out] at he
                  exact hne (Option.some.inj he)
              have HF : Hid (p ≠ (a, b) → ∀ k, k < j + 1 → gs[k]? ≠ some (a, b)) := fin
              clear fin
              by_cases e1 : p = (a, b)
              · subst e1
                have hin : inpB (a, b) = false := HI.out
                have E1 : Hid (andX gs a b = 2 * (j : Int) + 2) := by unfold Hid andX; rw [if_neg HQ.out, if_neg HR.out, idx_first hall.out HP.out]
                have E2 : Hid (andY gs a b = gs) := by unfold Hid andY; rw [if_neg HQ.out, if_neg HR.out, if_pos (List.mem_of_getElem? HP.out)]
                have NW : Hid (wrap64 (wrap64 (2 * (j : Int)) + 2) = 2 * (j : Int) + 2) := by unfold Hid; rw [N3.out]; exact N2.out
                clear HF
                go_wp2
                go_ret
                rw [E2.out]
                exact ⟨by rw [E1.out, ← NW.out]; rfl, F, H0.out, Mvd.refl _ _⟩
              · have HE : Hid (∀ k, k < j + 1 → gs[k]? ≠ some (a, b)) := HF.out e1
                have HG : Hid (inpB p = true ∨ inpB p = false ∧ (p.1 == a) = false ∨ inpB p = false ∧ (p.1 == a) = true ∧ (p.2 == b) = false) := by
                  unfold Hid
                  cases g1 : inpB p
                  · refine .inr ?_
                    cases g2 : (p.1 == a)
                    · exact .inl ⟨rfl, rfl⟩
                    · refine .inr ⟨rfl, rfl, ?_⟩
                      cases g3 : (p.2 == b)
                      · rfl
                      · exact absurd (Prod.ext (beq_iff_eq.1 g2) (beq_iff_eq.1 g3)) e1
                  · exact .inl rfl
                clear HF e1
                rcases HG.out with g1 | ⟨g1, g2⟩ | ⟨g1, g2, g3⟩
                all_goals
                  clear HG
                  go_wp2
                  go_round
                  case rel => exact ⟨j + 1, HJ.out, by rw [N4.out]; rfl, HE⟩
                  case measure => rw [N4.out]; have := HJ.out; simp [intOf]; omega
            · obtain rfl : j = gs.length := by omega
              have hnm := not_mem_of hall.out
              have E1 : Hid (andX gs a b = 2 * (gs.length : Int) + 2) := by unfold Hid andX; rw [if_neg HQ.out, if_neg HR.out, idx_out hnm]
              have E2 : Hid (andY gs a b = gs ++ [(a, b)]) := by unfold Hid andY; rw [if_neg HQ.out, if_neg HR.out, if_neg hnm]
              clear hnm hall
              go_wp2_with (first
                | (at_builtin; refine wpList_append_lies _ rfl _ _ 52 rfl 0 78 i0 _ 3 24 Tryd.underlying52 hi0 hz0 hz1 hz2 rfl (by omega) (.slice o gs.length c) gs.length (mcells gs) rfl (HW.out _) ⟨w.heap.size, 0, none⟩ 1 1 [.int .i64 a, .int .i64 b, .bool false] rfl rfl HN'.out (by simp [Value.oneCell']) (by omega) HM.out HB.out (Nat.zero_le _) _ rfl ?_; intro g cap w3 hown3 hgrow hat hlt3; have HG3 : Hid (w3.heap[M]? = _) := heap_grown hgrow HK.out (alloc_row _ H3.out); have e0 := cell_of_row w3 M 0 _ _ (0, 0) HG3.out; have f0 := frozen_row (i := 0) HG3.out)
                | go_in)
              go_ret
              rw [← HI.out] at hown3
              obtain ⟨m1, m2, _⟩ := MoAt.grown (p := (a, b)) H0.out H3.out H5.out ((Below.refl _ _).alloc (Nat.le_refl _) _) hgrow hat hlt3 hown3
              have hwr : wrap64 (2 * ((gs.length : Int) + 1)) = 2 * (gs.length : Int) + 2 := by have := HL.out; unfold wrap64; omega
              rw [E2.out]
              exact ⟨by rw [E1.out, ← hwr]; rfl, _, m1, m2⟩

set_option maxRecDepth 100000 in
set_option maxHeartbeats 2000000 in
theorem mand_gt {M : Nat} {gs : List (Int × Int)} {ins : Nat} {F : Nat → Prop} {w : World} (h : MoAt M gs ins F w) (hl : gs.length < 90000) (a b : Int) (hX0 : 0 ≤ b) (hXY : b ≤ a) (hYI : a ≤ 1000000) (hab : b < a) :
    Calls Tryd.prog 16 #[.pointer (some ⟨M, 0, none⟩), .int .i64 a, .int .i64 b] w fun e w' => e = .returned (.int .i64 (andX gs b a)) ∧ ∃ F', MoAt M (andY gs b a) ins F' w' ∧ Mvd F F' w w' := by
  have n1 : wrap64 (b + 1) = b + 1 := by unfold wrap64; omega
  have n2 := tmod_two hX0
  have H0 : Hid (MoAt M gs ins F w) := h
  have HL : Hid (gs.length < 90000) := hl
  have HO : Hid ((b = 0 ∨ b = turnL a) ↔ (b = 0 ∨ (a = b + 1 ∧ b % 2 = 0))) := off_iff hXY
  obtain ⟨t, o, c, h3, c0, c1, h4, h5⟩ := h.cells
  have H3 : Hid _ := h3
  have H4 : Hid (World.ownsRow _ _ _ _ _ _ _) := h4
  have H5 : Hid (∀ k, _) := h5
  clear h hl hYI hXY h3 h4 h5 c1
  by_cases hx0 : b = 0
  · have E1 : Hid (andX gs b a = 0) := by unfold Hid andX; rw [if_pos (.inl hx0)]
    have E2 : Hid (andY gs b a = gs) := by unfold Hid andY; rw [if_pos (.inl hx0)]
    have d0 : (b == 0) = true := beq_iff_eq.2 hx0
    clear hx0 HO
    go_enter Tryd.func16, Tryd.ntmps16
    go_wp2
    go_ret
    rw [E2.out]
    exact ⟨by rw [E1.out]; rfl, F, H0.out, Mvd.refl _ _⟩
  · have d0 : (b == 0) = false := beq_eq_false_iff_ne.2 hx0
    have HX0 : Hid (¬ b = 0) := hx0
    clear hx0
    by_cases hxt : a = b + 1 ∧ b % 2 = 0
    · have E1 : Hid (andX gs b a = 0) := by unfold Hid andX; rw [if_pos (HO.out.2 (.inr hxt))]
      have E2 : Hid (andY gs b a = gs) := by unfold Hid andY; rw [if_pos (HO.out.2 (.inr hxt))]
      have dt : (a == b + 1) = true := beq_iff_eq.2 hxt.1
      have dm : (b % 2 == 0) = true := beq_iff_eq.2 hxt.2
      clear hxt HO
      go_enter Tryd.func16, Tryd.ntmps16
      go_wp2
      go_ret
      rw [E2.out]
      exact ⟨by rw [E1.out]; rfl, F, H0.out, Mvd.refl _ _⟩
    · have HQ : Hid (¬ (b = 0 ∨ b = turnL a)) := fun hq => (HO.out.1 hq).elim HX0.out hxt
      by_cases hx1 : b = 1 ∨ b = a
      · have E1 : Hid (andX gs b a = a) := by unfold Hid andX; rw [if_neg HQ.out, if_pos hx1]
        have E2 : Hid (andY gs b a = gs) := by unfold Hid andY; rw [if_neg HQ.out, if_pos hx1]
        have HC : Hid ((a == b + 1) = false ∨ (a == b + 1) = true ∧ (b % 2 == 0) = false) := by
          unfold Hid
          cases h1 : (a == b + 1)
          · exact .inl rfl
          · refine .inr ⟨rfl, ?_⟩
            cases h2 : (b % 2 == 0)
            · rfl
            · exact absurd ⟨beq_iff_eq.1 h1, beq_iff_eq.1 h2⟩ hxt
        have HD : Hid ((b == 1) = true ∨ (b == 1) = false ∧ (b == a) = true) := by
          unfold Hid
          cases h1 : (b == 1)
          · refine .inr ⟨rfl, ?_⟩
            rcases hx1 with h | h
            · rw [beq_iff_eq.2 h] at h1; cases h1
            · exact beq_iff_eq.2 h
          · exact .inl rfl
        clear hx1 hxt HO
        rcases HC.out with dt | ⟨dt, dm⟩ <;> rcases HD.out with d1 | ⟨d1, dy⟩
        all_goals
          clear HC HD
          go_enter Tryd.func16, Tryd.ntmps16
          go_wp2
          go_ret
          rw [E2.out]
          exact ⟨by rw [E1.out]; rfl, F, H0.out, Mvd.refl _ _⟩
      · have HR : Hid (¬ (b = 1 ∨ b = a)) := hx1
        have d1 : (b == 1) = false := beq_eq_false_iff_ne.2 (fun h => hx1 (.inl h))
        have dy : (b == a) = false := beq_eq_false_iff_ne.2 (fun h => hx1 (.inr h))
        have HC : Hid ((a == b + 1) = false ∨ (a == b + 1) = true ∧ (b % 2 == 0) = false) := by
          unfold Hid
          cases h1 : (a == b + 1)
          · exact .inl rfl
          · refine .inr ⟨rfl, ?_⟩
            cases h2 : (b % 2 == 0)
            · rfl
            · exact absurd ⟨beq_iff_eq.1 h1, beq_iff_eq.1 h2⟩ hxt
        have HI : Hid (inpB (b, a) = false) := by unfold Hid inpB; exact decide_eq_false (fun h => HX0.out (congrArg Prod.fst h))
        obtain ⟨i0, hi0, hz0, hz1, hz2⟩ := info_parts Tryd.infoGate
        have hM : M < w.heap.size := H0.out.2.1 M H0.out.1
        have HB : Hid ((gs.length + 1) * 24 ≤ 140737488355328) := by have := HL.out; unfold Hid; omega
        have HM : Hid (gs.length + 1 ≤ maxLen) := by have := HL.out; unfold Hid maxLen; omega
        have HW : Hid (∀ o', (w.alloc o').ownsRow 0 78 3 (.slice o gs.length c) gs.length (mcells gs)) := fun o' => H4.out.alloc o'
        have HN' : Hid _ := World.news_of_block (heap_alloc_new w (.cells #[.int .i64 b, .int .i64 a, .bool false] 78))
        have HK : Hid ((Value.slice o gs.length c).ownBlock ≠ some M) := fun hk => (H5.out M hk).2 rfl
        clear hx1 hxt HO
        rcases HC.out with dt | ⟨dt, dm⟩
        all_goals
          clear HC
          go_enter Tryd.func16, Tryd.ntmps16
          go_wp2
          go_loop [8] (fun t => ∃ j : Nat, j ≤ gs.length ∧ t = .int .i64 j ∧ Hid (∀ k, k < j → gs[k]? ≠ some (b, a))) (fun t => gs.length - (intOf t).toNat)
          case atStart => exact ⟨0, Nat.zero_le _, rfl, fun k hk => by omega⟩
          case round =>
            obtain ⟨j, hj, rfl, hall⟩ := hrel
            by_cases hjl : j < gs.length
            · obtain ⟨p, hp⟩ : ∃ p, gs[j]? = some p := ⟨_, List.getElem?_eq_getElem hjl⟩
              obtain ⟨g, c', e', q0, q1, q2⟩ := gate_cells H4.out hp
              obtain ⟨rfl, rfl⟩ : o = some ⟨g, 0, none⟩ ∧ c = c' := by simpa using e'
              have i0' : (0 : Int) ≤ (j : Int) := by omega
              have i1 : (j : Int) < (gs.length : Int) := by omega
              have N2 : Hid (wrap64 (2 * (j : Int) + 2) = 2 * (j : Int) + 2) := by have := HL.out; unfold Hid wrap64; omega
              have N3 : Hid (wrap64 (2 * (j : Int)) = 2 * (j : Int)) := by have := HL.out; unfold Hid wrap64; omega
              have N4 : Hid (wrap64 ((j : Int) + 1) = (j : Int) + 1) := by have := HL.out; unfold Hid wrap64; omega
              have HP : Hid (gs[j]? = some p) := hp
              have HJ : Hid (j < gs.length) := hjl
              clear hp e' hjl hj
              have fin : p ≠ (b, a) → ∀ k, k < j + 1 → gs[k]? ≠ some (b, a) := fun hne k hk he => by
                rcases Nat.lt_or_ge k j with h1 | h1
                · exact hall.out k h1 he
                · obtain rfl : k = j := by omega
                  rw [HP.out] at he
                  exact hne (Option.some.inj he)
              have HF : Hid (p ≠ (b, a) → ∀ k, k < j + 1 → gs[k]? ≠ some (b, a)) := fin
              clear fin
              by_cases e1 : p = (b, a)
              · subst e1
                have hin : inpB (b, a) = false := HI.out
                have E1 : Hid (andX gs b a = 2 * (j : Int) + 2) := by unfold Hid andX; rw [if_neg HQ.out, if_neg HR.out, idx_first hall.out HP.out]
                have E2 : Hid (andY gs b a = gs) := by unfold Hid andY; rw [if_neg HQ.out, if_neg HR.out, if_pos (List.mem_of_getElem? HP.out)]
                have NW : Hid (wrap64 (wrap64 (2 * (j : Int)) + 2) = 2 * (j : Int) + 2) := by unfold Hid; rw [N3.out]; exact N2.out
                clear HF
                go_wp2
                go_ret
                rw [E2.out]
                exact ⟨by rw [E1.out, ← NW.out]; rfl, F, H0.out, Mvd.refl _ _⟩
              · have HE : Hid (∀ k, k < j + 1 → gs[k]? ≠ some (b, a)) := HF.out e1
                have HG : Hid (inpB p = true ∨ inpB p = false ∧ (p.1 == b) = false ∨ inpB p = false ∧ (p.1 == b) = true ∧ (p.2 == a) = false) := by
                  unfold Hid
                  cases g1 : inpB p
                  · refine .inr ?_
                    cases g2 : (p.1 == b)
                    · exact .inl ⟨rfl, rfl⟩
                    · refine .inr ⟨rfl, rfl, ?_⟩
                      cases g3 : (p.2 == a)
                      · rfl
                      · exact absurd (Prod.ext (beq_iff_eq.1 g2) (beq_iff_eq.1 g3)) e1
                  · exact .inl rfl
                clear HF e1
                rcases HG.out with g1 | ⟨g1, g2⟩ | ⟨g1, g2, g3⟩
                all_goals
                  clear HG
                  go_wp2
                  go_round
                  case rel => exact ⟨j + 1, HJ.out, by rw [N4.out]; rfl, HE⟩
                  case measure => rw [N4.out]; have := HJ.out; simp [intOf]; omega
            · obtain rfl : j = gs.length := by omega
              have hnm := not_mem_of hall.out
              have E1 : Hid (andX gs b a = 2 * (gs.length : Int) + 2) := by unfold Hid andX; rw [if_neg HQ.out, if_neg HR.out, idx_out hnm]
              have E2 : Hid (andY gs b a = gs ++ [(b, a)]) := by unfold Hid andY; rw [if_neg HQ.out, if_neg HR.out, if_neg hnm]
              clear hnm hall
              go_wp2_with (first
                | (at_builtin; refine wpList_append_lies _ rfl _ _ 52 rfl 0 78 i0 _ 3 24 Tryd.underlying52 hi0 hz0 hz1 hz2 rfl (by omega) (.slice o gs.length c) gs.length (mcells gs) rfl (HW.out _) ⟨w.heap.size, 0, none⟩ 1 1 [.int .i64 b, .int .i64 a, .bool false] rfl rfl HN'.out (by simp [Value.oneCell']) (by omega) HM.out HB.out (Nat.zero_le _) _ rfl ?_; intro g cap w3 hown3 hgrow hat hlt3; have HG3 : Hid (w3.heap[M]? = _) := heap_grown hgrow HK.out (alloc_row _ H3.out); have e0 := cell_of_row w3 M 0 _ _ (0, 0) HG3.out; have f0 := frozen_row (i := 0) HG3.out)
                | go_in)
              go_ret
              rw [← HI.out] at hown3
              obtain ⟨m1, m2, _⟩ := MoAt.grown (p := (b, a)) H0.out H3.out H5.out ((Below.refl _ _).alloc (Nat.le_refl _) _) hgrow hat hlt3 hown3
              have hwr : wrap64 (2 * ((gs.length : Int) + 1)) = 2 * (gs.length : Int) + 2 := by have := HL.out; unfold wrap64; omega
              rw [E2.out]
              exact ⟨by rw [E1.out, ← hwr]; rfl, _, m1, m2⟩

theorem mand_ok {M : Nat} {gs : List (Int × Int)} {ins : Nat} {F : Nat → Prop} {w : World} (h : MoAt M gs ins F w) (hl : gs.length < 90000) (a b : Int) (ha : HasL gs a) (hb : HasL gs b) :
    Calls Tryd.prog 16 #[.pointer (some ⟨M, 0, none⟩), .int .i64 a, .int .i64 b] w fun e w' => e = .returned (.int .i64 (andL gs a b)) ∧ ∃ F', MoAt M (andG gs a b) ins F' w' ∧ Mvd F F' w w' := by
  rw [← andX_eq, ← andY_eq]
  unfold HasL at ha hb
  by_cases hab : a ≤ b
  · rw [show min a b = a by omega, show max a b = b by omega]
    exact mand_le h hl a b ha.1 hab (by omega) hab
  · rw [show min a b = b by omega, show max a b = a by omega]
    exact mand_gt h hl a b hb.1 (by omega) (by omega) (by omega)
set_option maxRecDepth 100000 in
theorem mor_ok {M : Nat} {gs : List (Int × Int)} {ins : Nat} {F : Nat → Prop} {w : World} (h : MoAt M gs ins F w) (hl : gs.length < 90000) (a b : Int) (ha : HasL gs a) (hb : HasL gs b) :
    Calls Tryd.prog 18 #[.pointer (some ⟨M, 0, none⟩), .int .i64 a, .int .i64 b] w fun e w' => e = .returned (.int .i64 (orL gs a b)) ∧ ∃ F', MoAt M (orG gs a b) ins F' w' ∧ Mvd F F' w w' := by
  have H0 : Hid (MoAt M gs ins F w) := h
  have HL : Hid (gs.length < 90000) := hl
  have A0 : Hid (0 ≤ a) := ha.1
  have B0 : Hid (0 ≤ b) := hb.1
  have A1 : Hid (a ≤ 9000000000000000000) := by unfold HasL at ha; unfold Hid; omega
  have B1 : Hid (b ≤ 9000000000000000000) := by unfold HasL at hb; unfold Hid; omega
  have HA : Hid (HasL gs (turnL a)) := ha.turn
  have HB : Hid (HasL gs (turnL b)) := hb.turn
  have hx := andL_has ha.turn hb.turn
  have hgl := (andG_length gs (turnL a) (turnL b)).2
  have X0 : Hid (0 ≤ andL gs (turnL a) (turnL b)) := hx.1
  have X1 : Hid (andL gs (turnL a) (turnL b) ≤ 9000000000000000000) := by unfold HasL at hx; unfold Hid; omega
  clear h hl ha hb hx hgl
  unfold orL orG
  go_enter Tryd.func18, Tryd.ntmps18
  go_wp2_with fail
  refine (turn_any a _ A0.out A1.out).mono ?_
  rintro e w' ⟨rfl, hw⟩
  subst hw
  go_wp2_with fail
  refine (turn_any b _ B0.out B1.out).mono ?_
  rintro e w' ⟨rfl, hw⟩
  subst hw
  go_wp2_with fail
  refine (mand_ok H0.out HL.out _ _ HA.out HB.out).mono ?_
  rintro e w1 ⟨rfl, hE⟩
  go_wp2_with fail
  refine (turn_any _ _ X0.out X1.out).mono ?_
  rintro e w' ⟨rfl, hw⟩
  subst hw
  go_wp2
  go_ret
  exact ⟨rfl, hE⟩

set_option maxRecDepth 100000 in
set_option maxHeartbeats 1000000 in
theorem mxor_ok {M : Nat} {gs : List (Int × Int)} {ins : Nat} {F : Nat → Prop} {w : World} (h : MoAt M gs ins F w) (hl : gs.length < 89990) (a b : Int) (ha : HasL gs a) (hb : HasL gs b) :
    Calls Tryd.prog 20 #[.pointer (some ⟨M, 0, none⟩), .int .i64 a, .int .i64 b] w fun e w' => e = .returned (.int .i64 (xorL gs a b)) ∧ ∃ F', MoAt M (xorG gs a b) ins F' w' ∧ Mvd F F' w w' := by
  have H0 : Hid (MoAt M gs ins F w) := h
  have h1 : HasL gs (a) := ha
  have h2 : HasL gs (turnL b) := hb.turn
  have h3 : HasL gs (turnL a) := ha.turn
  have h4 : HasL gs (b) := hb
  have l1 := andG_length gs (a) (turnL b)
  have l2 := andG_length (andG gs (a) (turnL b)) (turnL a) (b)
  have L0 : Hid (gs.length < 90000) := Nat.lt_of_lt_of_le hl (by omega)
  have L1 : Hid ((andG gs (a) (turnL b)).length < 90000) := by unfold Hid; omega
  have L2 : Hid ((andG (andG gs (a) (turnL b)) (turnL a) (b)).length < 90000) := by unfold Hid; omega
  have A1 : Hid (HasL gs (a)) := h1
  have A2 : Hid (HasL gs (turnL b)) := h2
  have A3 : Hid (HasL (andG gs (a) (turnL b)) (turnL a)) := h3.mono l1.1
  have A4 : Hid (HasL (andG gs (a) (turnL b)) (b)) := h4.mono l1.1
  have AX : Hid (HasL (andG (andG gs (a) (turnL b)) (turnL a) (b)) (andL gs (a) (turnL b))) := (andL_has h1 h2).mono l2.1
  have AY : Hid (HasL (andG (andG gs (a) (turnL b)) (turnL a) (b)) (andL (andG gs (a) (turnL b)) (turnL a) (b))) := andL_has (h3.mono l1.1) (h4.mono l1.1)
  have Ta0 : Hid (0 ≤ a) := ha.1
  have Ta1 : Hid (a ≤ 9000000000000000000) := by unfold HasL at ha; unfold Hid; omega
  have Tb0 : Hid (0 ≤ b) := hb.1
  have Tb1 : Hid (b ≤ 9000000000000000000) := by unfold HasL at hb; unfold Hid; omega
  clear h hl ha hb l1 l2 h1 h2 h3 h4
  unfold xorL xorG eitherL eitherG
  go_enter Tryd.func20, Tryd.ntmps20
  go_wp2_with fail
  refine (turn_any b _ Tb0.out Tb1.out).mono ?_
  rintro e w' ⟨rfl, hw⟩
  subst hw
  go_wp2_with fail
  refine (mand_ok H0.out L0.out _ _ A1.out A2.out).mono ?_
  rintro e w1 ⟨rfl, F1, k1, m1⟩
  have K1 : Hid (MoAt _ _ _ _ _) := k1
  have M1 : Hid (Mvd _ _ _ _) := m1
  clear k1 m1
  go_wp2_with fail
  refine (turn_any a _ Ta0.out Ta1.out).mono ?_
  rintro e w' ⟨rfl, hw⟩
  subst hw
  go_wp2_with fail
  refine (mand_ok K1.out L1.out _ _ A3.out A4.out).mono ?_
  rintro e w2 ⟨rfl, F2, k2, m2⟩
  have K2 : Hid (MoAt _ _ _ _ _) := k2
  have M2 : Hid (Mvd _ _ _ _) := m2
  clear k2 m2
  go_wp2_with fail
  refine (mor_ok K2.out L2.out _ _ AX.out AY.out).mono ?_
  rintro e w3 ⟨rfl, F3, k3, m3⟩
  have K3 : Hid (MoAt _ _ _ _ _) := k3
  have M3 : Hid (Mvd _ _ _ _) := m3
  clear k3 m3
  go_wp2
  go_ret
  exact ⟨rfl, F3, K3.out, (M1.out.trans M2.out).trans M3.out⟩

set_option maxRecDepth 100000 in
set_option maxHeartbeats 1000000 in
theorem mif_ok {M : Nat} {gs : List (Int × Int)} {ins : Nat} {F : Nat → Prop} {w : World} (h : MoAt M gs ins F w) (hl : gs.length < 89990) (c a b : Int) (hc : HasL gs c) (ha : HasL gs a) (hb : HasL gs b) :
    Calls Tryd.prog 22 #[.pointer (some ⟨M, 0, none⟩), .int .i64 c, .int .i64 a, .int .i64 b] w fun e w' => e = .returned (.int .i64 (ifL gs c a b)) ∧ ∃ F', MoAt M (ifG gs c a b) ins F' w' ∧ Mvd F F' w w' := by
  have H0 : Hid (MoAt M gs ins F w) := h
  have h1 : HasL gs (c) := hc
  have h2 : HasL gs (a) := ha
  have h3 : HasL gs (turnL c) := hc.turn
  have h4 : HasL gs (b) := hb
  have l1 := andG_length gs (c) (a)
  have l2 := andG_length (andG gs (c) (a)) (turnL c) (b)
  have L0 : Hid (gs.length < 90000) := Nat.lt_of_lt_of_le hl (by omega)
  have L1 : Hid ((andG gs (c) (a)).length < 90000) := by unfold Hid; omega
  have L2 : Hid ((andG (andG gs (c) (a)) (turnL c) (b)).length < 90000) := by unfold Hid; omega
  have A1 : Hid (HasL gs (c)) := h1
  have A2 : Hid (HasL gs (a)) := h2
  have A3 : Hid (HasL (andG gs (c) (a)) (turnL c)) := h3.mono l1.1
  have A4 : Hid (HasL (andG gs (c) (a)) (b)) := h4.mono l1.1
  have AX : Hid (HasL (andG (andG gs (c) (a)) (turnL c) (b)) (andL gs (c) (a))) := (andL_has h1 h2).mono l2.1
  have AY : Hid (HasL (andG (andG gs (c) (a)) (turnL c) (b)) (andL (andG gs (c) (a)) (turnL c) (b))) := andL_has (h3.mono l1.1) (h4.mono l1.1)
  have Tc0 : Hid (0 ≤ c) := hc.1
  have Tc1 : Hid (c ≤ 9000000000000000000) := by unfold HasL at hc; unfold Hid; omega
  clear h hl ha hb hc l1 l2 h1 h2 h3 h4
  unfold ifL ifG eitherL eitherG
  go_enter Tryd.func22, Tryd.ntmps22
  go_wp2_with fail
  refine (mand_ok H0.out L0.out _ _ A1.out A2.out).mono ?_
  rintro e w1 ⟨rfl, F1, k1, m1⟩
  have K1 : Hid (MoAt _ _ _ _ _) := k1
  have M1 : Hid (Mvd _ _ _ _) := m1
  clear k1 m1
  go_wp2_with fail
  refine (turn_any c _ Tc0.out Tc1.out).mono ?_
  rintro e w' ⟨rfl, hw⟩
  subst hw
  go_wp2_with fail
  refine (mand_ok K1.out L1.out _ _ A3.out A4.out).mono ?_
  rintro e w2 ⟨rfl, F2, k2, m2⟩
  have K2 : Hid (MoAt _ _ _ _ _) := k2
  have M2 : Hid (Mvd _ _ _ _) := m2
  clear k2 m2
  go_wp2_with fail
  refine (mor_ok K2.out L2.out _ _ AX.out AY.out).mono ?_
  rintro e w3 ⟨rfl, F3, k3, m3⟩
  have K3 : Hid (MoAt _ _ _ _ _) := k3
  have M3 : Hid (Mvd _ _ _ _) := m3
  clear k3 m3
  go_wp2
  go_ret
  exact ⟨rfl, F3, K3.out, (M1.out.trans M2.out).trans M3.out⟩
end Go.Proofs.YtlclbidjdhlklaaDoor
