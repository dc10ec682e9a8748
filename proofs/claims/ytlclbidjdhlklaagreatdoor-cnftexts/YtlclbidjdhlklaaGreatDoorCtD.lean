/-
  lustrumlaw3: slight, clauses, formulaOf BY CONTRACT.
-/
import Derived.Test.YtlclbidjdhlklaaGreatDoorCnW
import Derived.Test.YtlclbidjdhlklaaGreatDoorCtB
import Derived.Laws.AppendOwnNone
namespace Go.Proofs.YtlclbidjdhlklaaGreatDoor
open Go.RowKit Go.Maps

/-- Clauses that were handed in. -/
def ArgC (w : World) (v : Value) (cs : List (List Int)) : Prop := cs.length ≤ maxLen ∧ ((v = .slice none 0 0 ∧ cs = []) ∨ ∃ a c, v = .slice (some a) cs.length c ∧ ∀ (k : Nat) l, cs[k]? = some l → ∃ b off v', a = ⟨b, off, none⟩ ∧ w.cell? ⟨b, off + k, none⟩ = some v' ∧ ((v' = .slice none 0 0 ∧ l = []) ∨ ∃ a' c', v' = .slice (some a') l.length c' ∧ ∀ j x, l[j]? = some x → ∃ b' off', a' = ⟨b', off', none⟩ ∧ w.cell? ⟨b', off' + j, none⟩ = some (.int .i64 x)))
theorem ArgC.cls {w : World} {v : Value} {cs : List (List Int)} (h : ArgC w v cs) : ClsAt w v cs := by
  obtain ⟨hl, ⟨rfl, rfl⟩ | ⟨a, c, rfl, hc⟩⟩ := h
  · exact ⟨hl, none, 0, rfl, fun k l hk => by simp at hk⟩
  · refine ⟨hl, _, c, rfl, fun k l hk => ?_⟩
    obtain ⟨b, off, v', rfl, h1, ⟨rfl, rfl⟩ | ⟨a', c', rfl, h2⟩⟩ := hc k l hk
    · exact ⟨b, off, _, rfl, h1, none, 0, rfl, fun j x hj => by simp at hj⟩
    · refine ⟨b, off, _, rfl, h1, _, c', rfl, fun j x hj => ?_⟩
      obtain ⟨b', off', rfl, h3⟩ := h2 j x hj
      exact ⟨b', off', rfl, fun h => h, h3⟩
theorem ArgC.below {w w' : World} {v : Value} {cs : List (List Int)} (h : ArgC w v cs) (hb : Below w.heap.size w w') : ArgC w' v cs := by
  obtain ⟨hl, ⟨rfl, rfl⟩ | ⟨a, c, rfl, hc⟩⟩ := h
  · exact ⟨hl, .inl ⟨rfl, rfl⟩⟩
  · refine ⟨hl, .inr ⟨a, c, rfl, fun k l hk => ?_⟩⟩
    obtain ⟨b, off, v', rfl, h1, h2⟩ := hc k l hk
    refine ⟨b, off, v', rfl, cell_keep hb h1, ?_⟩
    rcases h2 with h2 | ⟨a', c', e, h2⟩
    · exact .inl h2
    · refine .inr ⟨a', c', e, fun j x hj => ?_⟩
      obtain ⟨b', off', e', h3⟩ := h2 j x hj
      exact ⟨b', off', e', cell_keep hb h3⟩
theorem sizC_nxt {cs : List (List Int)} {j : Nat} {d : List Int} (h : cs[j]? = some d) : sizC (cs.take (j + 1)) = sizC (cs.take j) + d.length + 1 := by
  rw [List.take_add_one, h]
  simp [sizC]; omega
/-- As many clauses and numbers as the form's own reach allows. -/
def Fits (cs : List (List Int)) : Prop := cs.length * 24 ≤ 140737488351232 ∧ ∀ c ∈ cs, c.length * 8 ≤ 140737488351232
theorem sizC_mul {B : Nat} : ∀ {cs : List (List Int)}, (∀ c ∈ cs, c.length + 1 ≤ B) → sizC cs ≤ cs.length * B
  | [], _ => by simp [sizC]
  | d :: r, h => by
    have h1 := sizC_mul (cs := r) (fun c hc => h c (List.mem_cons_of_mem _ hc))
    have h2 := h d List.mem_cons_self
    simp only [sizC, List.map_cons, List.sum_cons, List.length_cons, Nat.add_mul, Nat.one_mul] at h1 ⊢
    omega
theorem slight_or {cs : List (List Int)} (hf : Fits cs) (h : wrap64 (sizC cs : Int) ≤ 500) : sizC cs ≤ 500 ∨ 500000 < cs.length := by
  rcases Nat.lt_or_ge 500000 cs.length with h1 | h1
  · exact .inr h1
  · have h2 := sizC_mul (B := 17592186043905) (cs := cs) (fun c hc => by have := hf.2 c hc; omega)
    have h3 : cs.length * 17592186043905 ≤ 500000 * 17592186043905 := Nat.mul_le_mul_right _ h1
    left
    unfold wrap64 at h
    omega
theorem wrap_step (a d : Int) : wrap64 (wrap64 (wrap64 a + 1) + d) = wrap64 (a + d + 1) := by
  unfold wrap64; omega
set_option maxRecDepth 100000 in
set_option maxHeartbeats 2000000 in
theorem slight_any (w : World) (n : Int) (v : Value) (cs : List (List Int)) (hv : ClsAt w v cs) (hs : cs.length * 24 ≤ 140737488351232) :
    Calls Tryz.prog 5 #[.agg #[.int .i64 n, v]] w fun e w' => e = .returned (.bool (decide (wrap64 (sizC cs : Int) ≤ 500))) ∧ Below w.heap.size w w' := by
  have HV : Hid (ClsAt w v cs) := hv
  obtain ⟨_, o, c, rfl, _⟩ := hv
  obtain ⟨w1, hw1⟩ : ∃ w1, w1 = w.alloc (.cells #[.int .i64 n, .slice o cs.length c] 24) := ⟨_, rfl⟩
  have hb1 : Below w.heap.size w w1 := by rw [hw1]; exact (Below.refl _ _).alloc (Nat.le_refl _) _
  have hf1 : w1.heap[w.heap.size]? = some (.cells #[.int .i64 n, .slice o cs.length c] 24 (0, 0)) := by rw [hw1]; exact heap_alloc_new _ _
  have z1 : w1.cell? ⟨w.heap.size, 0 + 1, none⟩ = some (.slice o cs.length c) := by rw [cell_of_row w1 _ _ _ _ (0, 0) hf1]; rfl
  have HV1 : Hid (ClsAt w1 (.slice o cs.length c) cs) := HV.out.below hb1
  have HLN : Hid (cs.length * 24 ≤ 140737488351232) := hs
  have HW1 : Hid (w.alloc (.cells #[.int .i64 n, .slice o cs.length c] 24) = w1) := hw1.symm
  have HB1 : Hid (Below w.heap.size w w1) := hb1
  clear hs hw1 hb1 hf1 HV
  go_enter Tryz.func5, Tryz.ntmps5
  go_wp2
  rw [HW1.out]
  go_loop [3, 4] (fun s t => ∃ j : Nat, j ≤ cs.length ∧ t = .int .i64 j ∧ s = .int .i64 (wrap64 (sizC (cs.take j) : Int))) (fun _ t => cs.length - (intOf t).toNat)
  case atStart => exact ⟨0, Nat.zero_le _, rfl, by simp [sizC, wrap64]⟩
  case round =>
    obtain ⟨j, hj, rfl, rfl⟩ := hrel
    by_cases hjl : j < cs.length
    · obtain ⟨d, hd⟩ : ∃ d, cs[j]? = some d := ⟨_, List.getElem?_eq_getElem hjl⟩
      obtain ⟨b, off, o', c', rfl, q0, hin⟩ := HV1.out.get hd
      have hsn := sizC_nxt hd
      have HJ : Hid (j < cs.length) := hjl
      have i0' : (0 : Int) ≤ (j : Int) := by omega
      have i1' : (j : Int) < (cs.length : Int) := by omega
      have N4 : Hid (wrap64 ((j : Int) + 1) = (j : Int) + 1 ∧ wrap64 (wrap64 (wrap64 (sizC (cs.take j) : Int) + 1) + (d.length : Int)) = wrap64 (sizC (cs.take (j + 1)) : Int)) := by
        have := HLN.out
        rw [hsn, wrap_step]
        refine ⟨by unfold wrap64; omega, by rw [Int.natCast_add, Int.natCast_add]; rfl⟩
      clear hj hjl hd hin hsn
      go_wp2
      exact ⟨⟨j + 1, HJ.out, by rw [N4.out.1]; rfl, by rw [N4.out.2]⟩, by rw [N4.out.1]; have := HJ.out; simp [intOf]; omega⟩
    · obtain rfl : j = cs.length := by omega
      have HE : Hid (sizC (cs.take cs.length) = sizC cs) := by unfold Hid; rw [List.take_length]
      clear hj hjl
      go_wp2
      go_ret
      exact ⟨rfl, HB1.out⟩
/-- The blocks of a row's own. -/
def OwnF (v : Value) (L : Nat) : Nat → Prop := fun k => v.ownBlock = some k ∨ k < L
theorem cl_of_owns {w : World} {base : Nat} {v : Value} {l : List Int} {F : Nat → Prop} (h : w.ownsRow base 3 1 v l.length (l.map (Value.int .i64))) (hF : ∀ k, F k → k < base) : ClIn F w v l := by
  rcases h with ⟨_, ⟨rfl, h0⟩ | ⟨g, cap, cur, rfl, hg, hr, _, _, _, ht⟩⟩
  · obtain rfl : l = [] := List.eq_nil_of_length_eq_zero h0
    exact ClIn.nil _ _
  · refine ⟨_, cap, rfl, fun k x hk => ⟨g, 0, rfl, fun hf => by have := hF g hf; omega, ?_⟩⟩
    have hkl : k < l.length := (List.getElem?_eq_some_iff.1 hk).1
    have h1 : (cur.toList.take (l.length * 1))[k]? = some (.int .i64 x) := by rw [ht, List.getElem?_map, hk]; rfl
    rw [List.getElem?_take_of_lt (by omega), Array.getElem?_toList] at h1
    rw [Nat.zero_add, cell_of_row w g k cur _ (0, 0) hr]; exact h1
theorem grown_own {w w' : World} {v v' : Value} {g L : Nat} (hg : w.grownBy w' v.ownBlock) (hv : v'.ownBlock = some g) (hat : v.ownBlock = some g ∨ g = w.heap.size) (hlt : g < w'.heap.size) : Mvd (OwnF v L) (OwnF v' L) w w' :=
  ⟨hg.os, hg.tape, hg.output, hg.size, fun k hk hn => hg.block k hk (fun e => hn (.inl e.symm)), fun k hk => by
    rcases hk with hk | hk
    case inr => exact .inl (.inr hk)
    have : g = k := by
      rw [hv] at hk; exact Option.some.inj hk
    subst this
    rcases hat with h | h
    · exact .inl (.inl h)
    · exact .inr ⟨by omega, hlt⟩⟩
set_option maxRecDepth 100000 in
set_option maxHeartbeats 4000000 in
theorem clauses_any (w : World) (v : Value) (cs : List (List Int)) (hv : ArgC w v cs) (hs : Fits cs) :
    Calls Tryz.prog 15 #[v] w fun e w' => ∃ v', e = .returned v' ∧ (∀ w'', (∀ k, w.heap.size ≤ k → w''.heap[k]? = w'.heap[k]?) → ClsAt w'' v' cs) ∧ Below w.heap.size w w' := by
  have HA : Hid (ArgC w v cs) := hv
  obtain ⟨_, o, c, rfl, _⟩ := hv.cls
  obtain ⟨i1, hj0, hy0, hy1, hy2⟩ := info_parts Tryz.infoInt
  obtain ⟨i2, hk0, hx0, hx1, hx2⟩ := info_parts Tryz.infoClause
  have HS : Hid (Fits cs) := hs
  have HLN : Hid (cs.length * 24 ≤ 140737488351232) := hs.1
  clear hs hv
  go_enter Tryz.func15, Tryz.ntmps15
  go_wp2
  go_loopw [3, 4] (fun s t wr => ∃ (j : Nat) (so : Option Addr) (sc : Nat) (vs : List Value), j ≤ cs.length ∧ t = .int .i64 j ∧ s = .slice so j sc ∧ wr.ownsRow w.heap.size 43 1 (.slice so j sc) j vs ∧ Hid (vs.length = j ∧ ∀ (k : Nat) l, (cs.take j)[k]? = some l → ∃ v, vs[k]? = some v ∧ ClIn (OwnF (.slice so j sc) w.heap.size) wr v l) ∧ Below w.heap.size w wr) (fun _ t _ => cs.length - (intOf t).toNat)
  case atStart => exact ⟨0, none, 0, [], Nat.zero_le _, rfl, rfl, World.ownsRow_nil _ _ _ _, ⟨rfl, fun k l hk => by simp at hk⟩, Below.refl _ _⟩
  case round =>
    obtain ⟨j, so, sc, vs, hj, rfl, rfl, hown, HVS, hb⟩ := hrel
    have HB : Hid (Below w.heap.size w wr) := hb
    have HOW : Hid (wr.ownsRow w.heap.size 43 1 (.slice so j sc) j vs) := hown
    by_cases hjl : j < cs.length
    · obtain ⟨d, hd⟩ : ∃ d, cs[j]? = some d := ⟨_, List.getElem?_eq_getElem hjl⟩
      have HDL : Hid (d.length * 8 ≤ 140737488351232) := HS.out.2 d (List.mem_of_getElem? hd)
      have HD : Hid (cs[j]? = some d) := hd
      have HJ : Hid (j < cs.length) := hjl
      have i0' : (0 : Int) ≤ (j : Int) := by omega
      have i1' : (j : Int) < (cs.length : Int) := by omega
      have N4 : Hid (wrap64 ((j : Int) + 1) = (j : Int) + 1) := by have := HLN.out; unfold Hid wrap64; omega
      have HM1 : Hid (0 + d.length ≤ maxLen ∧ (0 + d.length) * 8 ≤ 140737488355328) := by have := HDL.out; unfold Hid maxLen; omega
      have HM2 : Hid (j + 1 ≤ maxLen ∧ (j + 1) * 24 ≤ 140737488355328) := by have := HLN.out; unfold Hid maxLen; omega
      obtain ⟨_, ⟨_, e0⟩ | ⟨a2, c2, e0, hc⟩⟩ := HA.out.below hb
      · rw [e0] at hjl; simp at hjl
      · obtain ⟨b, off, vd, ha2, q0, hvd⟩ := hc j d hd
        obtain ⟨rfl, rfl⟩ : o = some ⟨b, off, none⟩ ∧ c = c2 := ⟨by rw [(Value.slice.inj e0).1, ha2], (Value.slice.inj e0).2.2⟩
        have HFIN : Hid (∀ (wa : World) (va : Value), Below wr.heap.size wr wa → ClIn (OwnF (.slice so j sc) w.heap.size) wa va d → ∀ (g cap : Nat) (w3 : World), (wa.alloc (.cells #[va] 43)).grownBy w3 (Value.slice so j sc).ownBlock → ((Value.slice so j sc).ownBlock = some g ∨ g = (wa.alloc (.cells #[va] 43)).heap.size) → g < w3.heap.size → w3.ownsRow w.heap.size 43 1 (.slice (some ⟨g, 0, none⟩) (j + 1) cap) (j + 1) (vs ++ [va]) → (vs ++ [va]).length = j + 1 ∧ (∀ (k : Nat) l, (cs.take (j + 1))[k]? = some l → ∃ v, (vs ++ [va])[k]? = some v ∧ ClIn (OwnF (.slice (some ⟨g, 0, none⟩) (j + 1) cap) w.heap.size) w3 v l) ∧ Below w.heap.size w w3) := fun wa va hba hcl g cap w3 hg hat hlt hown3 => by
          have hb2 : Below wa.heap.size wa (wa.alloc (.cells #[va] 43)) := (Below.refl _ _).alloc (Nat.le_refl _) _
          have hba2 : Below wr.heap.size wr (wa.alloc (.cells #[va] 43)) := hba.trans (hb2.mono hba.size)
          have hM := grown_own (L := w.heap.size) (v' := .slice (some ⟨g, 0, none⟩) (j + 1) cap) hg rfl hat hlt
          refine ⟨by rw [List.length_append, HVS.out.1]; rfl, fun k l hk => ?_, ?_⟩
          · rcases Nat.lt_or_ge k j with h | h
            · rw [List.take_add_one, List.getElem?_append_left (by rw [List.length_take]; have := HJ.out; omega)] at hk
              obtain ⟨v0, h1, h2⟩ := HVS.out.2 k l hk
              exact ⟨v0, by rw [List.getElem?_append_left (by rw [HVS.out.1]; exact h)]; exact h1, (h2.move (Mvd.of_below hba2)).move hM⟩
            · have hkl : k = j := by
                have := (List.getElem?_eq_some_iff.1 hk).1
                rw [List.length_take] at this; omega
              subst hkl
              rw [List.getElem?_take_of_lt (Nat.lt_succ_self _), HD.out] at hk
              obtain rfl : d = l := Option.some.inj hk
              exact ⟨va, by rw [List.getElem?_append_right (by rw [HVS.out.1]; exact Nat.le_refl _), HVS.out.1, Nat.sub_self]; rfl, (hcl.move (Mvd.of_below hb2)).move hM⟩
          · have h1 := HB.out.trans (hba2.mono HB.out.size)
            refine ⟨hg.os.trans h1.os, hg.tape.trans h1.tape, hg.output.trans h1.output, Nat.le_trans h1.size hg.size, fun k hk => ?_⟩
            rw [hg.block k (Nat.lt_of_lt_of_le hk h1.size) (fun e => by have := (HOW.out.lt k e.symm).1; omega)]
            exact h1.block k hk
        have HO2 : Hid (∀ wa, Below wr.heap.size wr wa → ∀ o', (wa.alloc o').ownsRow w.heap.size 43 1 (.slice so j sc) j vs) := fun wa hba o' => (owns_keep HOW.out (fun k hk => hba.block k (HOW.out.lt k hk).2)).alloc o'
        have HFL : Hid (∀ k, OwnF (.slice so j sc) w.heap.size k → k < wr.heap.size) := fun k hk => by
          rcases hk with hk | hk
          · exact (HOW.out.lt k hk).2
          · have := hb.size; omega
        have HWL : Hid (w.heap.size ≤ wr.heap.size) := hb.size
        clear hj hjl hd hc hown hb e0 ha2
        rcases hvd with ⟨rfl, hd0⟩ | ⟨a', c', rfl, hin⟩
        · subst hd0
          have HN' : Hid _ := World.news_of_block (heap_alloc_new wr (.cells #[.slice none 0 0] 43))
          go_wp2_with (first
            | (at_builtin; refine wpList_append_own_none rfl _ _ 43 rfl 0 3 i1 1 Tryz.underlying43 hj0 (.slice none 0 0) 0 [] rfl (World.ownsRow_nil _ _ _ _) rfl ?_)
            | (at_builtin; refine wpList_append_lies _ rfl _ _ 22 rfl w.heap.size 43 i2 _ 1 24 Tryz.underlying22 hk0 hx0 hx1 hx2 rfl (by omega) (.slice so j sc) j vs rfl (HO2.out _ (Below.refl _ _) _) ⟨wr.heap.size, 0, none⟩ 1 1 [.slice none 0 0] rfl rfl HN'.out (by simp [Value.oneCell']) (by omega) HM2.out.1 HM2.out.2 (Nat.le_trans HWL.out (by simp)) _ rfl ?_; intro g cap w3 hown3 hgrow hat hlt3)
            | go_in)
          obtain ⟨m1, m2, m3⟩ := HFIN.out wr (.slice none 0 0) (Below.refl _ _) (ClIn.nil _ _) g cap w3 hgrow hat hlt3 hown3
          exact ⟨⟨j + 1, _, _, _, HJ.out, by rw [N4.out]; rfl, rfl, hown3, ⟨m1, m2⟩, m3⟩, by rw [N4.out]; have := HJ.out; simp [intOf]; omega⟩
        · have HNI : Hid (∀ k u, (d.map (Value.int .i64))[k]? = some u → wr.cell? (a'.add k) = some u) := fun k u hk => by
            rw [List.getElem?_map] at hk
            obtain ⟨x, hx, rfl⟩ := Option.map_eq_some_iff.1 hk
            obtain ⟨b', off', rfl, hin'⟩ := hin k x hx
            have hadd : (⟨b', off', none⟩ : Addr).add k = ⟨b', off' + k, none⟩ := by unfold Addr.add; split <;> simp_all
            rw [hadd]; exact hin'
          have HONE : Hid (∀ u ∈ d.map (Value.int .i64), u.oneCell' = true) := fun u hu => by
            obtain ⟨x, _, rfl⟩ := List.mem_map.1 hu
            rfl
          have HDM : Hid ((d.map (Value.int .i64)).length = d.length * 1) := by unfold Hid; simp
          clear hin
          go_wp2_with (first
            | (at_builtin; refine wpList_append_own _ rfl _ _ 43 rfl wr.heap.size 3 i1 _ 1 8 Tryz.underlying43 hj0 hy0 hy1 hy2 rfl (by omega) (.slice none 0 0) 0 [] rfl (World.ownsRow_nil _ _ _ _) a' d.length c' (d.map (Value.int .i64)) rfl HDM.out HNI.out HONE.out HM1.out.1 HM1.out.2 (Nat.le_refl _) ?_; intro va wa howna hga hnil; rw [Nat.zero_add, List.nil_append] at howna; have hcla : ClIn (OwnF (.slice so j sc) w.heap.size) wa va d := cl_of_owns howna HFL.out; have hba : Below wr.heap.size wr wa := ⟨hga.os, hga.tape, hga.output, hga.size, fun k hk => hga.block k hk (by simp [Value.ownBlock])⟩; obtain ⟨ao, ac, rfl, _⟩ := owns_form howna; have HCLA : Hid (ClIn _ _ _ _) := hcla; have HBA : Hid (Below wr.heap.size wr wa) := hba; have HN' : Hid _ := World.news_of_block (heap_alloc_new wa (.cells #[.slice ao d.length ac] 43)); clear howna hga hnil hcla hba)
            | (at_builtin; refine wpList_append_lies _ rfl _ _ 22 rfl w.heap.size 43 i2 _ 1 24 Tryz.underlying22 hk0 hx0 hx1 hx2 rfl (by omega) (.slice so j sc) j vs rfl (HO2.out _ HBA.out _) ⟨wa.heap.size, 0, none⟩ 1 1 [.slice ao d.length ac] rfl rfl HN'.out (by simp [Value.oneCell']) (by omega) HM2.out.1 HM2.out.2 (Nat.le_trans (Nat.le_trans HWL.out HBA.out.size) (by simp)) _ rfl ?_; intro g cap w3 hown3 hgrow hat hlt3)
            | go_in)
          obtain ⟨m1, m2, m3⟩ := HFIN.out wa (.slice ao d.length ac) HBA.out HCLA.out g cap w3 hgrow hat hlt3 hown3
          exact ⟨⟨j + 1, _, _, _, HJ.out, by rw [N4.out]; rfl, rfl, hown3, ⟨m1, m2⟩, m3⟩, by rw [N4.out]; have := HJ.out; simp [intOf]; omega⟩
    · obtain rfl : j = cs.length := by omega
      have HCL : Hid (∀ w'', (∀ k, w.heap.size ≤ k → w''.heap[k]? = wr.heap[k]?) → ClsAt w'' (.slice so cs.length sc) cs) := fun w'' hw'' => by
        refine ⟨by have := HLN.out; unfold maxLen; omega, so, sc, rfl, fun k l hk => ?_⟩
        have hkl : k < cs.length := (List.getElem?_eq_some_iff.1 hk).1
        obtain ⟨v0, h1, o0, c0, rfl, h2⟩ := HVS.out.2 k l (by rw [List.take_length]; exact hk)
        obtain ⟨g, cap, e, _, _⟩ := HOW.out.form (by omega)
        obtain ⟨rfl, rfl⟩ : so = some ⟨g, 0, none⟩ ∧ sc = cap := by simpa using e
        have hadd : ∀ j, (⟨g, 0, none⟩ : Addr).add j = ⟨g, 0 + j, none⟩ := fun j => by unfold Addr.add; split <;> simp_all
        have hc2 := HOW.out.cells (g := g) rfl k _ h1
        rw [hadd] at hc2
        have hgl : w.heap.size ≤ g := (HOW.out.lt g rfl).1
        refine ⟨g, 0, _, rfl, ?_, o0, c0, rfl, fun i x hi => ?_⟩
        · have e1 := hw'' g hgl
          simp only [World.cell?, e1] at hc2 ⊢
          exact hc2
        · obtain ⟨b1, f1, e2, hn, hc3⟩ := h2 i x hi
          refine ⟨b1, f1, e2, fun h => h, ?_⟩
          have e3 := hw'' b1 (by
            rcases Nat.lt_or_ge b1 w.heap.size with h | h
            · exact absurd (.inr h) hn
            · exact h)
          simp only [World.cell?, e3] at hc3 ⊢
          exact hc3
      clear hj hjl hown hb
      go_wp2
      go_ret
      exact ⟨_, rfl, HCL.out, HB.out⟩
set_option maxRecDepth 100000 in
set_option maxHeartbeats 2000000 in
theorem formulaOf_any (w : World) (n : Int) (v : Value) (cs : List (List Int)) (hv : ArgC w v cs) (hs : Fits cs) :
    Calls Tryz.prog 7 #[.agg #[.int .i64 n, v]] w fun e w' => ∃ v', e = .returned (.agg #[.int .i64 n, v']) ∧ ClsAt w' v' cs ∧ Below w.heap.size w w' := by
  have HA : Hid (ArgC w v cs) := hv
  obtain ⟨_, o, c, rfl, _⟩ := hv.cls
  obtain ⟨w1, hw1⟩ : ∃ w1, w1 = ((w.alloc (.cells #[.int .i64 n, .slice o cs.length c] 24)).alloc (.cells #[.int .i64 0, .slice none 0 0] 31)).alloc (.cells #[.int .i64 n, .slice none 0 0] 31) := ⟨_, rfl⟩
  have hb1 : Below w.heap.size w w1 := by rw [hw1]; exact (((Below.refl _ _).alloc (Nat.le_refl _) _).alloc (by simp) _).alloc (by simp <;> omega) _
  have hf1 : w1.heap[w.heap.size]? = some (.cells #[.int .i64 n, .slice o cs.length c] 24 (0, 0)) := by rw [hw1]; exact alloc_row _ (alloc_row _ (heap_alloc_new _ _))
  have hr1 : w1.heap[w.heap.size + 1]? = some (.cells #[.int .i64 0, .slice none 0 0] 31 (0, 0)) := by
    rw [hw1]
    have := heap_alloc_new (w.alloc (.cells #[.int .i64 n, .slice o cs.length c] 24)) (.cells #[.int .i64 0, .slice none 0 0] 31)
    rw [World.size_alloc] at this
    exact alloc_row _ this
  have hs1 : w1.heap[w.heap.size + 1 + 1]? = some (.cells #[.int .i64 n, .slice none 0 0] 31 (0, 0)) := by
    rw [hw1]
    have := heap_alloc_new ((w.alloc (.cells #[.int .i64 n, .slice o cs.length c] 24)).alloc (.cells #[.int .i64 0, .slice none 0 0] 31)) (.cells #[.int .i64 n, .slice none 0 0] 31)
    rw [World.size_alloc, World.size_alloc] at this
    exact this
  have hsz1 : w1.heap.size = w.heap.size + 3 := by rw [hw1]; simp
  have z0 : w1.cell? ⟨w.heap.size, 0, none⟩ = some (.int .i64 n) := by rw [cell_of_row w1 _ _ _ _ (0, 0) hf1]; rfl
  have z1 : w1.cell? ⟨w.heap.size, 0 + 1, none⟩ = some (.slice o cs.length c) := by rw [cell_of_row w1 _ _ _ _ (0, 0) hf1]; rfl
  have HR1 : Hid (w1.heap[w.heap.size + 1]? = some (.cells #[.int .i64 0, .slice none 0 0] 31 (0, 0))) := hr1
  have HS1 : Hid (w1.heap[w.heap.size + 1 + 1]? = some (.cells #[.int .i64 n, .slice none 0 0] 31 (0, 0))) := hs1
  have HCL : Hid (Calls Tryz.prog 15 #[.slice o cs.length c] w1 fun e w' => ∃ v', e = .returned v' ∧ (∀ w'', (∀ k, w1.heap.size ≤ k → w''.heap[k]? = w'.heap[k]?) → ClsAt w'' v' cs) ∧ Below w1.heap.size w1 w') := clauses_any w1 _ cs (HA.out.below hb1) hs
  have HW1 : Hid (((w.alloc (.cells #[.int .i64 n, .slice o cs.length c] 24)).alloc (.cells #[.int .i64 0, .slice none 0 0] 31)).alloc (.cells #[.int .i64 n, .slice none 0 0] 31) = w1) := hw1.symm
  have HB1 : Hid (Below w.heap.size w w1) := hb1
  have HSZ : Hid (w1.heap.size = w.heap.size + 3) := hsz1
  rw [hw1] at z0 z1
  clear hs hw1 hb1 hf1 hr1 hs1 hv hsz1
  go_enter Tryz.func7, Tryz.ntmps7
  go_wp2_with fail
  rw [HW1.out]
  refine HCL.out.mono ?_
  rintro e w2 ⟨v', rfl, hcl, hb2⟩
  obtain ⟨_, o2, c2, rfl, _⟩ := hcl w2 (fun _ _ => rfl)
  have hr2 := row_keep hb2 HR1.out
  have hs2 := row_keep hb2 HS1.out
  have y1 : w2.cell? ⟨w.heap.size + 1 + 1, 0 + 1, none⟩ = some (.slice none 0 0) := by rw [cell_of_row w2 _ _ _ _ (0, 0) hs2]; rfl
  have f1 : w2.frozen? ⟨w.heap.size + 1 + 1, 0 + 1, none⟩ = false := frozen_row hs2
  obtain ⟨w3, hw3⟩ : ∃ w3, w3 = w2.setCell ⟨w.heap.size + 1 + 1, 1, none⟩ (.slice o2 cs.length c2) := ⟨_, rfl⟩
  have hs3 : w3.heap[w.heap.size + 1 + 1]? = some (.cells #[.int .i64 n, .slice o2 cs.length c2] 31 (0, 0)) := by rw [hw3]; exact heap_setCell_at (i := 1) hs2 _
  have hr3 : w3.heap[w.heap.size + 1]? = some (.cells #[.int .i64 0, .slice none 0 0] 31 (0, 0)) := by rw [hw3, Below.heap_setCell _ _ _ _ (show w.heap.size + 1 ≠ w.heap.size + 1 + 1 by omega)]; exact hr2
  have a0 : w3.cell? ⟨w.heap.size + 1 + 1, 0, none⟩ = some (.int .i64 n) := by rw [cell_of_row w3 _ _ _ _ (0, 0) hs3]; rfl
  have a1 : w3.cell? ⟨w.heap.size + 1 + 1, 0 + 1, none⟩ = some (.slice o2 cs.length c2) := by rw [cell_of_row w3 _ _ _ _ (0, 0) hs3]; rfl
  have b0 : w3.cell? ⟨w.heap.size + 1, 0, none⟩ = some (.int .i64 0) := by rw [cell_of_row w3 _ _ _ _ (0, 0) hr3]; rfl
  have b1 : w3.cell? ⟨w.heap.size + 1, 0 + 1, none⟩ = some (.slice none 0 0) := by rw [cell_of_row w3 _ _ _ _ (0, 0) hr3]; rfl
  have g0 : w3.frozen? ⟨w.heap.size + 1, 0, none⟩ = false := frozen_row hr3
  have g1 : w3.frozen? ⟨w.heap.size + 1, 0 + 1, none⟩ = false := frozen_row hr3
  have HZ2 : Hid (_ ∧ _) := set_pair2 hr3 (.int .i64 n) (.slice o2 cs.length c2)
  have HB3 : Hid (Below w.heap.size w ((w3.setCell ⟨w.heap.size + 1, 0, none⟩ (.int .i64 n)).setCell ⟨w.heap.size + 1, 1, none⟩ (.slice o2 cs.length c2))) := by
    have h1 := HB1.out.trans (hb2.mono HB1.out.size)
    rw [hw3]
    exact ((h1.setCell (show w.heap.size ≤ w.heap.size + 1 + 1 by omega) _).setCell (show w.heap.size ≤ w.heap.size + 1 by omega) _).setCell (show w.heap.size ≤ w.heap.size + 1 by omega) _
  have HC3 : Hid (ClsAt ((w3.setCell ⟨w.heap.size + 1, 0, none⟩ (.int .i64 n)).setCell ⟨w.heap.size + 1, 1, none⟩ (.slice o2 cs.length c2)) (.slice o2 cs.length c2) cs) := hcl _ (fun k hk => by
    have := HSZ.out
    rw [hw3, Below.heap_setCell _ _ _ _ (show k ≠ w.heap.size + 1 by omega), Below.heap_setCell _ _ _ _ (show k ≠ w.heap.size + 1 by omega), Below.heap_setCell _ _ _ _ (show k ≠ w.heap.size + 1 + 1 by omega)])
  have HW3 : Hid (w2.setCell ⟨w.heap.size + 1 + 1, 1, none⟩ (.slice o2 cs.length c2) = w3) := hw3.symm
  rw [hw3] at a0 a1 b0 b1 g0 g1
  clear hcl hb2 hr2 hs2 hs3 hr3 hw3 z0 z1
  go_wp2
  rw [HW3.out]
  have u0 := HZ2.out.1
  have u1 := HZ2.out.2
  refine bodyPost_ret (v := .agg #[.int .i64 n, .slice o2 cs.length c2]) (by simp [results, Tryz.results7, go_sem, u0, u1]) rfl ?_
  exact ⟨_, rfl, HC3.out, HB3.out⟩
end Go.Proofs.YtlclbidjdhlklaaGreatDoor
