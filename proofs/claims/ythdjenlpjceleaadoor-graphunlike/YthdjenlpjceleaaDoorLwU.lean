/-
  lustrumlaw3.GraphUnlike, WALKED: it answers true.
-/
import Derived.Test.YthdjenlpjceleaaDoorLwB
namespace Go.Proofs.YthdjenlpjceleaaDoor
open Go.RowKit Go.Maps

set_option maxRecDepth 100000 in
set_option maxHeartbeats 4000000 in
theorem unlike_walk (a : Nat → Addr) (w : World) (S : Sents a w) (v : Value) (l : List Mk) (hv : MakesAt w v l) (hlm : l.length ≤ maxLen) :
    Calls Tryd.prog 5 #[v] w fun e w' => e = .returned (.bool true) ∧ Below w.heap.size w w' := by
  have HS : Hid (Sents a w) := S
  have HV : Hid (MakesAt w v l) := hv
  obtain ⟨o, c, rfl, _⟩ := hv
  unfold maxLen at hlm
  clear S
  go_enter Tryd.func5, Tryd.ntmps5
  by_cases hl : l.length ≤ 60
  · have hd : ((60 : Int) < (l.length : Int)) = False := eq_false (by omega)
    clear hlm
    go_wp2_with fail
    refine (empty_any w).mono ?_
    rintro e w1 ⟨rfl, hb1⟩
    have HB1 : Hid (Below w.heap.size w w1) := hb1
    clear hb1
    go_wp2_with fail
    refine (build_any a w1 (HS.out.below HB1.out) _ l (HV.out.below HB1.out) hl).mono ?_
    rintro e w2 ⟨gs, ins, F, E, rfl, hB, hgl, hil⟩
    have HB2 : Hid (Both _ _ _ _ _ _ _ _ _) := hB
    have HG : Hid (gs.length ≤ 200) := hgl
    have HL : Hid (gs.length ≤ 100000) := Nat.le_trans hgl (by omega)
    have HL9 : Hid (gs.length ≤ 90000) := Nat.le_trans hgl (by omega)
    have hgs := hB.gr.1
    have HGS : Hid (Gs gs) := hgs
    have HBB : Hid (Below w.heap.size w w2) := HB1.out.trans (hB.bel.mono HB1.out.size)
    clear hB hgl hil hgs hd HV
    go_wp2
    go_loopw [7] (fun t wr => ∃ j : Nat, j ≤ gs.length ∧ t = .int .i64 ((j : Int) + 1) ∧ Below w2.heap.size w2 wr) (fun t _ => gs.length + 1 - (intOf t).toNat)
    case atStart => exact ⟨0, Nat.zero_le _, rfl, Below.refl _ _⟩
    case round =>
      obtain ⟨j, hj, rfl, hb⟩ := hrel
      have GR : Hid (GrAt _ _ _ _ _) := HB2.out.gr.below hb
      by_cases hjl : j < gs.length
      · obtain ⟨p, hp⟩ : ∃ p, gs[j]? = some p := ⟨_, List.getElem?_eq_getElem hjl⟩
        have n1 : ((j : Int) + 1 < (gs.length : Int) + 1) = True := eq_true (by omega)
        have N4 : Hid (wrap64 ((j : Int) + 1 + 1) = (j : Int) + 1 + 1) := by have := HG.out; unfold Hid wrap64; omega
        have HJ : Hid (j < gs.length) := hjl
        have HP : Hid (gs[j]? = some p) := hp
        have HBW : Hid (Below w2.heap.size w2 wr) := hb
        clear hp hj hb hjl
        go_wp2_with fail
        refine (gates_any GR.out HL.out).mono ?_
        rintro e w' ⟨rfl, hw⟩
        subst hw
        go_wp2_with fail
        refine (parts_ok GR.out HL9.out j p HP.out _ rfl).mono ?_
        rintro e w3 ⟨rfl, hb3⟩
        have HB3 : Hid (Below w2.heap.size w2 w3) := HBW.out.trans (hb3.mono HBW.out.size)
        clear hb3 HBW GR n1
        by_cases hin : inpB p = true
        · go_wp2
          go_round
          case rel => exact ⟨j + 1, HJ.out, by rw [N4.out]; rfl, HB3.out⟩
          case measure => rw [N4.out]; have := HJ.out; simp [intOf]; omega
        · have hin' : inpB p = false := by simpa using hin
          have hpe := (HGS.out.each j p HP.out).resolve_left (fun e => by rw [e] at hin; exact hin rfl)
          have c1 : (p.2 ≤ p.1) = False := eq_false (by omega)
          have c2 : (p.1 < 2) = False := eq_false (by omega)
          have c3 : ((j : Int) + 1 ≤ wrap64 (p.2 / 2)) = False := eq_false (by have := HG.out; unfold wrap64; omega)
          have c4 : p.2.tdiv 2 = p.2 / 2 := Int.tdiv_eq_ediv_of_nonneg (by omega)
          clear hin hpe
          go_wp2
          rename World => wq
          go_loopw [12] (fun t wr => ∃ m : Nat, m ≤ j ∧ t = .int .i64 ((m : Int) + 1) ∧ Below w2.heap.size w2 wr) (fun t _ => j + 1 - (intOf t).toNat)
          case atStart => exact ⟨0, Nat.zero_le _, rfl, HB3.out⟩
          case round =>
            obtain ⟨m, hm, rfl, hbm⟩ := hrel
            have GM : Hid (GrAt _ _ _ _ _) := HB2.out.gr.below hbm
            by_cases hmj : m < j
            · obtain ⟨q, hq⟩ : ∃ q, gs[m]? = some q := ⟨_, List.getElem?_eq_getElem (Nat.lt_trans hmj HJ.out)⟩
              have hne : q ≠ p := fun e => by
                rw [e] at hq
                have := HGS.out.once m j p hq HP.out (fun e' => by rw [e'] at hin'; exact absurd hin' (by decide))
                omega
              have HQ : Hid (inpB q = true ∨ inpB q = false ∧ (q.1 == p.1) = false ∨ inpB q = false ∧ (q.1 == p.1) = true ∧ (q.2 == p.2) = false) := by
                unfold Hid
                cases g1 : inpB q
                · refine .inr ?_
                  cases g2 : (q.1 == p.1)
                  · exact .inl ⟨rfl, rfl⟩
                  · refine .inr ⟨rfl, rfl, ?_⟩
                    cases g3 : (q.2 == p.2)
                    · rfl
                    · exact absurd (Prod.ext (beq_iff_eq.1 g2) (beq_iff_eq.1 g3)) hne
                · exact .inl rfl
              have HQM : Hid (gs[m]? = some q) := hq
              have HMJ : Hid (m < j) := hmj
              have HBM : Hid (Below w2.heap.size w2 wr) := hbm
              have n2 : ((m : Int) + 1 < (j : Int) + 1) = True := eq_true (by omega)
              have N5 : Hid (wrap64 ((m : Int) + 1 + 1) = (m : Int) + 1 + 1) := by have := HG.out; have := HJ.out; unfold Hid wrap64; omega
              clear hq hne hmj hbm hm
              go_wp2_with fail
              refine (parts_ok GM.out HL9.out m q HQM.out _ rfl).mono ?_
              rintro e w5 ⟨rfl, hb5⟩
              have HB5 : Hid (Below w2.heap.size w2 w5) := HBM.out.trans (hb5.mono HBM.out.size)
              clear hb5 HBM GM
              rcases HQ.out with g1 | ⟨g1, g2⟩ | ⟨g1, g2, g3⟩
              all_goals
                clear HQ
                go_wp2
                go_round
                case rel => exact ⟨m + 1, HMJ.out, by rw [N5.out]; rfl, HB5.out⟩
                case measure => rw [N5.out]; have := HMJ.out; simp [intOf]; omega
            · have n2 : ((m : Int) + 1 < (j : Int) + 1) = False := eq_false (by omega)
              have HBM : Hid (Below w2.heap.size w2 wr) := hbm
              clear hbm GM
              go_wp2
              exact ⟨⟨j + 1, HJ.out, by rw [N4.out]; rfl, HBM.out⟩, by rw [N4.out]; have := HJ.out; simp [intOf]; omega⟩
      · have n1 : ((j : Int) + 1 < (gs.length : Int) + 1) = False := eq_false (by omega)
        have HBW : Hid (Below w2.heap.size w2 wr) := hb
        clear hb
        go_wp2_with fail
        refine (gates_any GR.out HL.out).mono ?_
        rintro e w' ⟨rfl, hw⟩
        subst hw
        go_wp2
        go_ret
        exact ⟨rfl, HBB.out.trans (HBW.out.mono HBB.out.size)⟩
  · have hd : ((60 : Int) < (l.length : Int)) = True := eq_true (by omega)
    clear hlm hl
    go_wp2_with (go_at_call 7; refine (empty_any _).mono ?_; rintro e w1 ⟨rfl, hb1⟩)
    go_ret
    exact ⟨rfl, hb1⟩
end Go.Proofs.YthdjenlpjceleaaDoor
