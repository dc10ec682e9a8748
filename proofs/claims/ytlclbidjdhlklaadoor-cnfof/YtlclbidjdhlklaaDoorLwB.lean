/-
  lustrumlaw3: a graph and its model, side by side.
-/
import Derived.Test.YtlclbidjdhlklaaDoorLwA
import Derived.Test.YtlclbidjdhlklaaDoorGrI
import Derived.Deep.DeepCutAuto
import Derived.Deep.CutBlock
namespace Go.Proofs.YtlclbidjdhlklaaDoor
open Go.RowKit Go.Maps

theorem cnt_app (gs : List (Int × Int)) (p : Int × Int) : cntI (gs ++ [p]) = cntI gs + if inpB p = true then 1 else 0 := by
  unfold cntI
  rw [List.filter_append, List.length_append]
  by_cases h : inpB p = true <;> simp [h]
theorem cnt_and (gs : List (Int × Int)) (a b : Int) : cntI (andG gs a b) = cntI gs := by
  unfold andG
  split
  · rfl
  · rename_i h1
    split
    · rfl
    · split
      · rfl
      · rw [cnt_app]
        have : inpB (min a b, max a b) = false := by
          unfold inpB
          refine decide_eq_false (fun h => h1 ?_)
          have : min a b = 0 := congrArg Prod.fst h
          simp [offB, this]
        simp [this]
theorem cnt_or (gs : List (Int × Int)) (a b : Int) : cntI (orG gs a b) = cntI gs := cnt_and _ _ _
theorem cnt_either (gs : List (Int × Int)) (a b c d : Int) : cntI (eitherG gs a b c d) = cntI gs := by
  unfold eitherG
  rw [cnt_or, cnt_and, cnt_and]
/-- What a statement's input names. -/
structure Mk where
  k : Int
  a : Int
  b : Int
  c : Int
/-- These, one behind the other. -/
def MakesAt (w : World) (v : Value) (l : List Mk) : Prop :=
  ∃ o c, v = .slice o l.length c ∧ ∀ i x, l[i]? = some x → I64 x.k ∧ I64 x.a ∧ I64 x.b ∧ I64 x.c ∧ ∃ b off, o = some ⟨b, off, none⟩ ∧ w.cell? ⟨b, off + i * 4, none⟩ = some (.int .i64 x.k) ∧ w.cell? ⟨b, off + i * 4 + 1, none⟩ = some (.int .i64 x.a) ∧ w.cell? ⟨b, off + i * 4 + 2, none⟩ = some (.int .i64 x.b) ∧ w.cell? ⟨b, off + i * 4 + 3, none⟩ = some (.int .i64 x.c)
theorem MakesAt.below {w w' : World} {v : Value} {l : List Mk} (h : MakesAt w v l) (hb : Below w.heap.size w w') : MakesAt w' v l := by
  obtain ⟨o, c, rfl, h⟩ := h
  refine ⟨o, c, rfl, fun i x hi => ?_⟩
  obtain ⟨h1, h2, h3, h4, b, off, e, c0, c1, c2, c3⟩ := h i x hi
  exact ⟨h1, h2, h3, h4, b, off, e, cell_keep hb c0, cell_keep hb c1, cell_keep hb c2, cell_keep hb c3⟩
/-- A graph and its model. -/
structure Both (B G M : Nat) (gs : List (Int × Int)) (ins : Nat) (F E : Nat → Prop) (W w : World) : Prop where
  gr : GrAt G gs ins F w
  mo : MoAt M gs ins E w
  dis : ∀ k, F k → ¬ E k
  fB : ∀ k, F k → B ≤ k
  eB : ∀ k, E k → B ≤ k
  bel : Below B W w
  siz : B ≤ w.heap.size
  cnt : cntI gs = ins
theorem Both.below {B G M : Nat} {gs : List (Int × Int)} {ins : Nat} {F E : Nat → Prop} {W w w' : World} (h : Both B G M gs ins F E W w) (hb : Below w.heap.size w w') : Both B G M gs ins F E W w' :=
  ⟨h.gr.below hb, h.mo.below hb, h.dis, h.fB, h.eB, h.bel.trans (hb.mono h.siz), Nat.le_trans h.siz hb.size, h.cnt⟩
/-- The graph has gone on. -/
theorem Both.half {B G M : Nat} {gs : List (Int × Int)} {ins : Nat} {F F' E : Nat → Prop} {W w w' : World} (h : Both B G M gs ins F E W w) (hm : Mvd F F' w w') :
    MoAt M gs ins E w' ∧ (∀ k, F' k → ¬ E k) ∧ (∀ k, F' k → B ≤ k) ∧ Below B W w' ∧ B ≤ w'.heap.size := by
  refine ⟨h.mo.other hm (fun k he hf => h.dis k hf he), fun k hf he => ?_, fun k hf => ?_, hm.below h.bel h.siz h.fB, Nat.le_trans h.siz hm.size⟩
  · exact hm.apart (E := E) (fun k hk => h.mo.2.1 k hk) (fun k he hf => h.dis k hf he) k he hf
  · rcases hm.more k hf with h1 | h1
    · exact h.fB k h1
    · have := h.siz; omega
/-- .. and its model. -/
theorem Both.whole {B G M : Nat} {gs gs' : List (Int × Int)} {ins ins' : Nat} {F F' E E' : Nat → Prop} {W w w' w'' : World} (h : Both B G M gs ins F E W w) (hm : Mvd F F' w w') (hg : GrAt G gs' ins' F' w') (hm2 : Mvd E E' w' w'') (ho : MoAt M gs' ins' E' w'') (hcnt : cntI gs' = ins') :
    Both B G M gs' ins' F' E' W w'' := by
  obtain ⟨h1, h2, h3, h4, h5⟩ := h.half hm
  refine ⟨hg.other hm2 h2, ho, fun k hf he => ?_, h3, fun k he => ?_, hm2.below h4 h5 h.eB, Nat.le_trans h5 hm2.size, hcnt⟩
  · exact hm2.apart (E := F') (fun k hk => hg.2.2.1 k hk) h2 k hf he
  · rcases hm2.more k he with h6 | h6
    · exact h.eB k h6
    · omega
theorem Both.start (w : World) (t u : TypeId) : Both w.heap.size w.heap.size (w.heap.size + 1) [] 0 (fun k => k = w.heap.size) (fun k => k = w.heap.size + 1) w ((w.alloc (.cells #[.slice none 0 0, .map none, .int .i64 0] t)).alloc (.cells #[.slice none 0 0, .int .i64 0] u)) := by
  have hb1 : Below w.heap.size w (w.alloc (.cells #[.slice none 0 0, .map none, .int .i64 0] t)) := (Below.refl _ _).alloc (Nat.le_refl _) _
  have hb2 : Below (w.alloc (.cells #[.slice none 0 0, .map none, .int .i64 0] t)).heap.size (w.alloc (.cells #[.slice none 0 0, .map none, .int .i64 0] t)) ((w.alloc (.cells #[.slice none 0 0, .map none, .int .i64 0] t)).alloc (.cells #[.slice none 0 0, .int .i64 0] u)) := (Below.refl _ _).alloc (Nat.le_refl _) _
  have hm := new_model (w.alloc (.cells #[.slice none 0 0, .map none, .int .i64 0] t)) u
  rw [World.size_alloc] at hm
  exact ⟨(new_graph w t).below hb2, hm, fun k h1 h2 => by omega, fun k h => by omega, fun k h => by omega, hb1.trans (hb2.mono (by simp)), by simp; omega, rfl⟩

set_option maxRecDepth 100000 in
set_option maxHeartbeats 4000000 in
theorem build_any (a : Nat → Addr) (w : World) (S : Sents a w) (v : Value) (l : List Mk) (hv : MakesAt w v l) (hl : l.length ≤ 60) :
    Calls Tryd.prog 5 #[v] w fun e w' => ∃ gs ins F E, e = .returned (.tuple #[.pointer (some ⟨w.heap.size, 0, none⟩), .pointer (some ⟨w.heap.size + 1, 0, none⟩), .bool true]) ∧ Both w.heap.size w.heap.size (w.heap.size + 1) gs ins F E w w' ∧ gs.length ≤ 200 ∧ ins ≤ gs.length := by
  have HS : Hid (Sents a w) := S
  have HV : Hid (MakesAt w v l) := hv
  obtain ⟨o, c, rfl, hc⟩ := hv
  have HB : Hid _ := Both.start w 51 54
  clear S hc
  go_enter Tryd.func5, Tryd.ntmps5
  go_wp2
  go_loopw [7] (fun t wr => ∃ (j : Nat) (gs : List (Int × Int)) (ins : Nat) (F E : Nat → Prop), j ≤ l.length ∧ t = .int .i64 j ∧ Both w.heap.size w.heap.size (w.heap.size + 1) gs ins F E w wr ∧ gs.length ≤ 3 * j ∧ ins ≤ gs.length) (fun t _ => l.length - (intOf t).toNat)
  case atStart => exact ⟨0, [], 0, _, _, Nat.zero_le _, rfl, HB.out, by simp, Nat.le_refl _⟩
  case round =>
    obtain ⟨j, gs, ins, F, E, hj, rfl, hB, hgl, hil⟩ := hrel
    have hws := hB.siz
    by_cases hjl : j < l.length
    · obtain ⟨x, hx⟩ : ∃ x, l[j]? = some x := ⟨_, List.getElem?_eq_getElem hjl⟩
      obtain ⟨o', c', e', hc⟩ := HV.out
      obtain ⟨rfl, rfl⟩ : o = o' ∧ c = c' := by simpa using e'
      obtain ⟨ik, ia, ib, ic, b0, off, rfl, c0, c1, c2, c3⟩ := hc j x hx
      clear hc e'
      have q0 := cell_keep hB.bel c0
      have q1 := cell_keep hB.bel c1
      have q2 := cell_keep hB.bel c2
      have q3 := cell_keep hB.bel c3
      have i0' : (0 : Int) ≤ (j : Int) := by omega
      have i1 : (j : Int) < (l.length : Int) := by omega
      obtain ⟨k, xa, xb, xc⟩ := x
      have hb1 : Below wr.heap.size wr (wr.alloc (.cells #[.int .i64 k, .int .i64 xa, .int .i64 xb, .int .i64 xc] 56)) := (Below.refl _ _).alloc (Nat.le_refl _) _
      have HB1 : Hid (Both _ _ _ _ _ _ _ _ _) := hB.below hb1
      have HFW := hB.gr.2.2.1
      clear c0 c1 c2 c3 hB hx HB
      obtain ⟨w1, hw1⟩ : ∃ w1, w1 = wr.alloc (.cells #[.int .i64 k, .int .i64 xa, .int .i64 xb, .int .i64 xc] 56) := ⟨_, rfl⟩
      have r1 : w1.heap[wr.heap.size]? = some (.cells #[.int .i64 k, .int .i64 xa, .int .i64 xb, .int .i64 xc] 56 (0, 0)) := by rw [hw1]; exact heap_alloc_new _ _
      have y0 := cell_of_row w1 wr.heap.size 0 _ _ (0, 0) r1
      have y1 := cell_of_row w1 wr.heap.size (0 + 1) _ _ (0, 0) r1
      have y2 := cell_of_row w1 wr.heap.size (0 + 2) _ _ (0, 0) r1
      have y3 := cell_of_row w1 wr.heap.size (0 + 3) _ _ (0, 0) r1
      rw [← hw1] at HB1 hb1
      have HW1 : Hid (w1 = wr.alloc (.cells #[.int .i64 k, .int .i64 xa, .int .i64 xb, .int .i64 xc] 56)) := hw1
      have HR1 : Hid (w1.heap[wr.heap.size]? = some (.cells #[.int .i64 k, .int .i64 xa, .int .i64 xb, .int .i64 xc] 56 (0, 0))) := r1
      have HL : Hid (gs.length ≤ 100000) := by unfold Hid; omega
      have HL9 : Hid (gs.length < 90000) := by unfold Hid; omega
      have HL8 : Hid (gs.length ≤ 90000) := by unfold Hid; omega
      have HL7 : Hid (gs.length < 89990) := by unfold Hid; omega
      have HG : Hid (gs.length ≤ 3 * j) := hgl
      have HIL : Hid (ins ≤ gs.length) := hil
      have HJ : Hid (j < l.length) := hjl
      have N4 : Hid (wrap64 ((j : Int) + 1) = (j : Int) + 1) := by unfold Hid wrap64; omega
      have HFX : Hid (∀ k, F k → k < wr.heap.size) := HFW
      have ES : Hid (w1.cell? ⟨0, 0, none⟩ = some (.iface 158 (.pointer (some (a 2))))) := (HS.out.below HB1.out.bel).g2
      clear hw1 r1 hgl hil hjl HFW hl hb1
      go_upto_region 7 with fail
      rw [← HW1.out]
      clear HW1 q0 q1 q2 q3
      go_upto_region 10 with fail
      go_cut [12] (fun s wc => s = .bool (hasB gs xa && hasB gs xb) ∧ wc = w1)
      case first =>
        by_cases ha : HasL gs xa
        · have da : hasB gs xa = true := hasB_t ha
          clear ha
          go_wp2_with (go_at_call 6; refine (mhas_any HB1.out.mo HL.out _).mono ?_; rintro e w' ⟨rfl, rfl⟩)
          go_meet
          exact ⟨by rw [da]; rfl, rfl⟩
        · have da : hasB gs xa = false := hasB_f ha
          clear ha
          go_wp2_with (go_at_call 6; refine (mhas_any HB1.out.mo HL.out _).mono ?_; rintro e w' ⟨rfl, rfl⟩)
          go_meet
          exact ⟨by rw [da]; rfl, rfl⟩
      case rest =>
        obtain ⟨rfl, rfl⟩ := hcut
        by_cases hk0 : k = 0
        · have k0 : (k == 0) = true := beq_iff_eq.2 hk0
          clear hk0
          go_wp2_with fail
          refine (input_ok HB1.out.gr HL9.out HIL.out).mono ?_
          rintro e w2 ⟨rfl, F2, g2, m2⟩
          have MO : Hid (MoAt _ _ _ _ _) := (HB1.out.half m2).1
          have G2 : Hid (GrAt _ _ _ _ _) := g2
          have M2 : Hid (Mvd _ _ _ _) := m2
          clear g2 m2
          go_wp2_with fail
          refine (minput_ok MO.out HL9.out HIL.out).mono ?_
          rintro e w3 ⟨rfl, E3, o3, m3⟩
          have HB3 : Hid (Both _ _ _ _ _ _ _ _ _) := HB1.out.whole M2.out G2.out m3 o3 (by rw [cnt_app, HB1.out.cnt]; rfl)
          clear MO G2 M2 o3 m3
          go_wp2
          go_round
          case rel => exact ⟨j + 1, _, _, _, _, HJ.out, by rw [N4.out]; rfl, HB3.out, by have := HG.out; simp; omega, by have := HIL.out; simp; omega⟩
          case measure => rw [N4.out]; have := HJ.out; simp [intOf]; omega
        by_cases hk1 : k = 1
        · have k0 : (k == 0) = false := beq_eq_false_iff_ne.2 (by rw [hk1]; decide)
          have kK : (k == 1) = true := beq_iff_eq.2 hk1
          clear hk1
          cases hh : (hasB gs xa && hasB gs xb)
          · have HN : Hid (¬ (HasL gs xa ∧ HasL gs xb)) := by
              intro hq
              rw [hasB_t hq.1, hasB_t hq.2] at hh
              cases hh
            clear hh
            go_wp2_with fail
            refine (and_bad HB1.out.gr HL8.out xa xb ia ib HN.out _ ES.out).mono ?_
            rintro e w2 ⟨rfl, hb2⟩
            have HB2 : Hid (Both _ _ _ _ _ _ _ _ _) := HB1.out.below hb2
            have S2 : Hid (Sents a w2) := HS.out.below HB2.out.bel
            clear hb2
            go_wp2_with fail
            refine (coded_shape S2.out).mono ?_
            rintro e w3 ⟨rfl, hb3⟩
            have HB3 : Hid (Both _ _ _ _ _ _ _ _ _) := HB2.out.below hb3
            clear HB2 S2 hb3
            go_wp2
            go_round
            case rel => exact ⟨j + 1, _, _, _, _, HJ.out, by rw [N4.out]; rfl, HB3.out, by have := HG.out; omega, HIL.out⟩
            case measure => rw [N4.out]; have := HJ.out; simp [intOf]; omega
          · rw [Bool.and_eq_true, hasB_iff, hasB_iff] at hh
            have HA : Hid (HasL gs xa) := hh.1
            have HBB : Hid (HasL gs xb) := hh.2
            clear hh
            go_wp2_with fail
            refine (and_ok HB1.out.gr HL9.out xa xb HA.out HBB.out).mono ?_
            rintro e w2 ⟨rfl, F2, g2, m2⟩
            have MO : Hid (MoAt _ _ _ _ _) := (HB1.out.half m2).1
            have hXF : ¬ F wr.heap.size := fun hf => by have := HFX.out _ hf; omega
            have r2 := m2.row HR1.out hXF
            have z1 := cell_of_row w2 wr.heap.size (0 + 1) _ _ (0, 0) r2
            have z2 := cell_of_row w2 wr.heap.size (0 + 2) _ _ (0, 0) r2
            have z3 := cell_of_row w2 wr.heap.size (0 + 3) _ _ (0, 0) r2
            have G2 : Hid (GrAt _ _ _ _ _) := g2
            have M2 : Hid (Mvd _ _ _ _) := m2
            clear g2 m2 r2 hXF y0 y1 y2 y3
            go_wp2_with fail
            refine (mand_ok MO.out HL9.out xa xb HA.out HBB.out).mono ?_
            rintro e w3 ⟨rfl, E3, o3, m3⟩
            have HB3 : Hid (Both _ _ _ _ _ _ _ _ _) := HB1.out.whole M2.out G2.out m3 o3 ((cnt_and gs xa xb).trans HB1.out.cnt)
            have hlen := andG_length gs xa xb
            have HLEN : Hid (_ ≤ _ ∧ _ ≤ _) := hlen
            clear MO G2 M2 o3 m3 z1 z2 z3 hlen
            go_wp2
            go_round
            case rel => exact ⟨j + 1, _, _, _, _, HJ.out, by rw [N4.out]; rfl, HB3.out, by have := HG.out; have := HLEN.out; omega, by have := HIL.out; have := HLEN.out; omega⟩
            case measure => rw [N4.out]; have := HJ.out; simp [intOf]; omega
        by_cases hk2 : k = 2
        · have k0 : (k == 0) = false := beq_eq_false_iff_ne.2 (by rw [hk2]; decide)
          have k1 : (k == 1) = false := beq_eq_false_iff_ne.2 (by rw [hk2]; decide)
          have kK : (k == 2) = true := beq_iff_eq.2 hk2
          clear hk2
          cases hh : (hasB gs xa && hasB gs xb)
          · have HN : Hid (¬ (HasL gs xa ∧ HasL gs xb)) := by
              intro hq
              rw [hasB_t hq.1, hasB_t hq.2] at hh
              cases hh
            clear hh
            go_wp2_with fail
            refine (or_bad HB1.out.gr HL8.out xa xb ia ib HN.out _ _ ES.out).mono ?_
            rintro e w2 ⟨rfl, hb2⟩
            have HB2 : Hid (Both _ _ _ _ _ _ _ _ _) := HB1.out.below hb2
            have S2 : Hid (Sents a w2) := HS.out.below HB2.out.bel
            clear hb2
            go_wp2_with fail
            refine (coded_shape S2.out).mono ?_
            rintro e w3 ⟨rfl, hb3⟩
            have HB3 : Hid (Both _ _ _ _ _ _ _ _ _) := HB2.out.below hb3
            clear HB2 S2 hb3
            go_wp2
            go_round
            case rel => exact ⟨j + 1, _, _, _, _, HJ.out, by rw [N4.out]; rfl, HB3.out, by have := HG.out; omega, HIL.out⟩
            case measure => rw [N4.out]; have := HJ.out; simp [intOf]; omega
          · rw [Bool.and_eq_true, hasB_iff, hasB_iff] at hh
            have HA : Hid (HasL gs xa) := hh.1
            have HBB : Hid (HasL gs xb) := hh.2
            clear hh
            go_wp2_with fail
            refine (or_ok HB1.out.gr HL9.out xa xb HA.out HBB.out).mono ?_
            rintro e w2 ⟨rfl, F2, g2, m2⟩
            have MO : Hid (MoAt _ _ _ _ _) := (HB1.out.half m2).1
            have hXF : ¬ F wr.heap.size := fun hf => by have := HFX.out _ hf; omega
            have r2 := m2.row HR1.out hXF
            have z1 := cell_of_row w2 wr.heap.size (0 + 1) _ _ (0, 0) r2
            have z2 := cell_of_row w2 wr.heap.size (0 + 2) _ _ (0, 0) r2
            have z3 := cell_of_row w2 wr.heap.size (0 + 3) _ _ (0, 0) r2
            have G2 : Hid (GrAt _ _ _ _ _) := g2
            have M2 : Hid (Mvd _ _ _ _) := m2
            clear g2 m2 r2 hXF y0 y1 y2 y3
            go_wp2_with fail
            refine (mor_ok MO.out HL9.out xa xb HA.out HBB.out).mono ?_
            rintro e w3 ⟨rfl, E3, o3, m3⟩
            have HB3 : Hid (Both _ _ _ _ _ _ _ _ _) := HB1.out.whole M2.out G2.out m3 o3 ((cnt_or gs xa xb).trans HB1.out.cnt)
            have hlen := orG_length gs xa xb
            have HLEN : Hid (_ ≤ _ ∧ _ ≤ _) := hlen
            clear MO G2 M2 o3 m3 z1 z2 z3 hlen
            go_wp2
            go_round
            case rel => exact ⟨j + 1, _, _, _, _, HJ.out, by rw [N4.out]; rfl, HB3.out, by have := HG.out; have := HLEN.out; omega, by have := HIL.out; have := HLEN.out; omega⟩
            case measure => rw [N4.out]; have := HJ.out; simp [intOf]; omega
        by_cases hk3 : k = 3
        · have k0 : (k == 0) = false := beq_eq_false_iff_ne.2 (by rw [hk3]; decide)
          have k1 : (k == 1) = false := beq_eq_false_iff_ne.2 (by rw [hk3]; decide)
          have k2 : (k == 2) = false := beq_eq_false_iff_ne.2 (by rw [hk3]; decide)
          have kK : (k == 3) = true := beq_iff_eq.2 hk3
          clear hk3
          cases hh : (hasB gs xa && hasB gs xb)
          · have HN : Hid (¬ (HasL gs xa ∧ HasL gs xb)) := by
              intro hq
              rw [hasB_t hq.1, hasB_t hq.2] at hh
              cases hh
            clear hh
            go_wp2_with fail
            refine (xor_bad HB1.out.gr HL8.out xa xb ia ib HN.out _ _ ES.out).mono ?_
            rintro e w2 ⟨rfl, hb2⟩
            have HB2 : Hid (Both _ _ _ _ _ _ _ _ _) := HB1.out.below hb2
            have S2 : Hid (Sents a w2) := HS.out.below HB2.out.bel
            clear hb2
            go_wp2_with fail
            refine (coded_shape S2.out).mono ?_
            rintro e w3 ⟨rfl, hb3⟩
            have HB3 : Hid (Both _ _ _ _ _ _ _ _ _) := HB2.out.below hb3
            clear HB2 S2 hb3
            go_wp2
            go_round
            case rel => exact ⟨j + 1, _, _, _, _, HJ.out, by rw [N4.out]; rfl, HB3.out, by have := HG.out; omega, HIL.out⟩
            case measure => rw [N4.out]; have := HJ.out; simp [intOf]; omega
          · rw [Bool.and_eq_true, hasB_iff, hasB_iff] at hh
            have HA : Hid (HasL gs xa) := hh.1
            have HBB : Hid (HasL gs xb) := hh.2
            clear hh
            go_wp2_with fail
            refine (xor_ok HB1.out.gr HL7.out xa xb HA.out HBB.out).mono ?_
            rintro e w2 ⟨rfl, F2, g2, m2⟩
            have MO : Hid (MoAt _ _ _ _ _) := (HB1.out.half m2).1
            have hXF : ¬ F wr.heap.size := fun hf => by have := HFX.out _ hf; omega
            have r2 := m2.row HR1.out hXF
            have z1 := cell_of_row w2 wr.heap.size (0 + 1) _ _ (0, 0) r2
            have z2 := cell_of_row w2 wr.heap.size (0 + 2) _ _ (0, 0) r2
            have z3 := cell_of_row w2 wr.heap.size (0 + 3) _ _ (0, 0) r2
            have G2 : Hid (GrAt _ _ _ _ _) := g2
            have M2 : Hid (Mvd _ _ _ _) := m2
            clear g2 m2 r2 hXF y0 y1 y2 y3
            go_wp2_with fail
            refine (mxor_ok MO.out HL7.out xa xb HA.out HBB.out).mono ?_
            rintro e w3 ⟨rfl, E3, o3, m3⟩
            have HB3 : Hid (Both _ _ _ _ _ _ _ _ _) := HB1.out.whole M2.out G2.out m3 o3 ((cnt_either gs xa (turnL xb) (turnL xa) xb).trans HB1.out.cnt)
            have hlen := eitherG_length gs xa (turnL xb) (turnL xa) xb
            have HLEN : Hid (_ ≤ _ ∧ _ ≤ _) := hlen
            clear MO G2 M2 o3 m3 z1 z2 z3 hlen
            go_wp2
            go_round
            case rel => exact ⟨j + 1, _, _, _, _, HJ.out, by rw [N4.out]; rfl, HB3.out, by have := HG.out; have := HLEN.out; unfold xorG; omega, by have := HIL.out; have := HLEN.out; unfold xorG; omega⟩
            case measure => rw [N4.out]; have := HJ.out; simp [intOf]; omega
        by_cases hk4 : k = 4
        · have k0 : (k == 0) = false := beq_eq_false_iff_ne.2 hk0
          have k1 : (k == 1) = false := beq_eq_false_iff_ne.2 hk1
          have k2 : (k == 2) = false := beq_eq_false_iff_ne.2 hk2
          have k3 : (k == 3) = false := beq_eq_false_iff_ne.2 hk3
          have kK : (k == 4) = true := beq_iff_eq.2 hk4
          clear hk0 hk1 hk2 hk3 hk4
          cases hh : (hasB gs xa && hasB gs xb)
          · have HN : Hid (¬ (HasL gs xc ∧ HasL gs xa ∧ HasL gs xb)) := by
              intro hq
              rw [hasB_t hq.2.1, hasB_t hq.2.2] at hh
              cases hh
            clear hh
            go_wp2_with fail
            refine (if_bad HB1.out.gr HL8.out xc xa xb ic ia ib HN.out _ _ ES.out).mono ?_
            rintro e w2 ⟨rfl, hb2⟩
            have HB2 : Hid (Both _ _ _ _ _ _ _ _ _) := HB1.out.below hb2
            have S2 : Hid (Sents a w2) := HS.out.below HB2.out.bel
            clear hb2
            go_wp2_with fail
            refine (coded_shape S2.out).mono ?_
            rintro e w3 ⟨rfl, hb3⟩
            have HB3 : Hid (Both _ _ _ _ _ _ _ _ _) := HB2.out.below hb3
            clear HB2 S2 hb3
            go_wp2
            go_round
            case rel => exact ⟨j + 1, _, _, _, _, HJ.out, by rw [N4.out]; rfl, HB3.out, by have := HG.out; omega, HIL.out⟩
            case measure => rw [N4.out]; have := HJ.out; simp [intOf]; omega
          · rw [Bool.and_eq_true, hasB_iff, hasB_iff] at hh
            have HA : Hid (HasL gs xa) := hh.1
            have HBB : Hid (HasL gs xb) := hh.2
            clear hh
            by_cases hc : HasL gs xc
            · have HC : Hid (HasL gs xc) := hc
              have dc : hasB gs xc = true := hasB_t hc
              clear hc
              go_wp2_with fail
              refine (if_ok HB1.out.gr HL7.out xc xa xb HC.out HA.out HBB.out).mono ?_
              rintro e w2 ⟨rfl, F2, g2, m2⟩
              have MO : Hid (MoAt _ _ _ _ _) := (HB1.out.half m2).1
              have hXF : ¬ F wr.heap.size := fun hf => by have := HFX.out _ hf; omega
              have r2 := m2.row HR1.out hXF
              have z1 := cell_of_row w2 wr.heap.size (0 + 1) _ _ (0, 0) r2
              have z2 := cell_of_row w2 wr.heap.size (0 + 2) _ _ (0, 0) r2
              have z3 := cell_of_row w2 wr.heap.size (0 + 3) _ _ (0, 0) r2
              have G2 : Hid (GrAt _ _ _ _ _) := g2
              have M2 : Hid (Mvd _ _ _ _) := m2
              clear g2 m2 r2 hXF y0 y1 y2 y3
              go_wp2_with fail
              refine (mhas_any MO.out HL.out _).mono ?_
              rintro e w' ⟨rfl, hw⟩
              subst hw
              go_wp2_with fail
              refine (mif_ok MO.out HL7.out xc xa xb HC.out HA.out HBB.out).mono ?_
              rintro e w3 ⟨rfl, E3, o3, m3⟩
              have HB3 : Hid (Both _ _ _ _ _ _ _ _ _) := HB1.out.whole M2.out G2.out m3 o3 ((cnt_either gs xc xa (turnL xc) xb).trans HB1.out.cnt)
              have hlen := eitherG_length gs xc xa (turnL xc) xb
              have HLEN : Hid (_ ≤ _ ∧ _ ≤ _) := hlen
              clear MO G2 M2 o3 m3 z1 z2 z3 hlen
              go_wp2
              go_round
              case rel => exact ⟨j + 1, _, _, _, _, HJ.out, by rw [N4.out]; rfl, HB3.out, by have := HG.out; have := HLEN.out; unfold ifG; omega, by have := HIL.out; have := HLEN.out; unfold ifG; omega⟩
              case measure => rw [N4.out]; have := HJ.out; simp [intOf]; omega
            · have HN : Hid (¬ (HasL gs xc ∧ HasL gs xa ∧ HasL gs xb)) := fun hq => hc hq.1
              have dc : hasB gs xc = false := hasB_f hc
              clear hc
              go_wp2_with fail
              refine (if_bad HB1.out.gr HL8.out xc xa xb ic ia ib HN.out _ _ ES.out).mono ?_
              rintro e w2 ⟨rfl, hb2⟩
              have HB2 : Hid (Both _ _ _ _ _ _ _ _ _) := HB1.out.below hb2
              have S2 : Hid (Sents a w2) := HS.out.below HB2.out.bel
              have z3 := cell_of_row w2 wr.heap.size (0 + 3) _ _ (0, 0) (row_keep hb2 HR1.out)
              clear hb2 y0 y1 y2 y3
              go_wp2_with fail
              refine (mhas_any HB2.out.mo HL.out _).mono ?_
              rintro e w' ⟨rfl, hw⟩
              subst hw
              go_wp2_with fail
              refine (coded_shape S2.out).mono ?_
              rintro e w3 ⟨rfl, hb3⟩
              have HB3 : Hid (Both _ _ _ _ _ _ _ _ _) := HB2.out.below hb3
              clear HB2 S2 hb3 z3
              go_wp2
              go_round
              case rel => exact ⟨j + 1, _, _, _, _, HJ.out, by rw [N4.out]; rfl, HB3.out, by have := HG.out; omega, HIL.out⟩
              case measure => rw [N4.out]; have := HJ.out; simp [intOf]; omega
        have k0 : (k == 0) = false := beq_eq_false_iff_ne.2 hk0
        have k1 : (k == 1) = false := beq_eq_false_iff_ne.2 hk1
        have k2 : (k == 2) = false := beq_eq_false_iff_ne.2 hk2
        have k3 : (k == 3) = false := beq_eq_false_iff_ne.2 hk3
        have k4 : (k == 4) = false := beq_eq_false_iff_ne.2 hk4
        clear hk0 hk1 hk2 hk3 hk4
        go_wp2
        go_round
        case rel => exact ⟨j + 1, _, _, _, _, HJ.out, by rw [N4.out]; rfl, HB1.out, by have := HG.out; omega, HIL.out⟩
        case measure => rw [N4.out]; have := HJ.out; simp [intOf]; omega
    · obtain ⟨t, mo, mc, h3, d0, d1, _, _⟩ := hB.mo.cells
      have HB0 : Hid (Both _ _ _ _ _ _ _ _ _) := hB
      have HL : Hid (gs.length ≤ 100000) := by unfold Hid; omega
      have HG : Hid (gs.length ≤ 200) := by unfold Hid; omega
      have HIL : Hid (ins ≤ gs.length) := hil
      have N5 : wrap64 ((gs.length : Int) + 1) = (gs.length : Int) + 1 := by unfold wrap64; omega
      clear hB h3 HB hgl hil
      go_wp2
      go_quiet (first
        | (go_at_call 23; exact Calls.quiet_of_same (gates_any (w := World.drewN wr _) HB0.out.gr HL.out))
        | (go_at_call 24; exact Calls.quiet_of_same (inputs_any (w := World.drewN wr _) HB0.out.gr)))
      go_wp2
      go_ret3
      exact ⟨gs, ins, F, E, rfl, HB0.out.below (below_drewM (Below.refl _ _) _), HG.out, HIL.out⟩
end Go.Proofs.YtlclbidjdhlklaaDoor
