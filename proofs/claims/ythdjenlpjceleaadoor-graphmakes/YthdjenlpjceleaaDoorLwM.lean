/-
  lustrumlaw3.GraphMakes, WALKED: it answers true.
-/
import Derived.Test.YthdjenlpjceleaaDoorLwB
namespace Go.Proofs.YthdjenlpjceleaaDoor
open Go.RowKit Go.Maps

theorem coded_none {a : Nat → Addr} {w : World} (S : Sents a w) :
    Calls Tryd.prog 10 #[.iface 112 (.pointer (some (a 8))), .int .i64 9] w fun e w' => e = .returned (.bool true) ∧ Below w.heap.size w w' := coded_sent S 8 (by omega)
set_option maxRecDepth 100000 in
set_option maxHeartbeats 4000000 in
theorem makes_walk (a : Nat → Addr) (w : World) (S : Sents a w) (v : Value) (l : List Mk) (hv : MakesAt w v l) (hlm : l.length ≤ maxLen) (n : Int) (_hn : I64 n) :
    Calls Tryd.prog 3 #[v, .int .i64 n] w fun e w' => e = .returned (.bool true) ∧ Below w.heap.size w w' := by
  have HS : Hid (Sents a w) := S
  have HV : Hid (MakesAt w v l) := hv
  obtain ⟨o, c, rfl, hv'⟩ := hv
  unfold maxLen at hlm
  clear S hv'
  go_enter Tryd.func3, Tryd.ntmps3
  by_cases hl : l.length ≤ 60
  · have hd : ((60 : Int) < (l.length : Int)) = False := eq_false (by omega)
    clear hlm
    go_wp2_with fail
    refine (empty_any w).mono ?_
    rintro e w1 ⟨rfl, hb1⟩
    have HB1 : Hid (Below w.heap.size w w1) := hb1
    clear hb1
    go_wp2_with fail
    refine (build_any a w1 (HS.out.below HB1.out) _ l (HV.out.below HB1.out) hl).mono ?_
    rintro e w2 ⟨gs, ins, F, E, rfl, hB, hgl, hil⟩
    have HB2 : Hid (Both _ _ _ _ _ _ _ _ _) := hB
    have HG : Hid (gs.length ≤ 200) := hgl
    have HL : Hid (gs.length ≤ 100000) := Nat.le_trans hgl (by omega)
    have HL9 : Hid (gs.length ≤ 90000) := Nat.le_trans hgl (by omega)
    have HBB : Hid (Below w.heap.size w w2) := HB1.out.trans (hB.bel.mono HB1.out.size)
    clear hB hgl hil hd HV hl
    go_wp2
    go_loopw [9] (fun t wr => ∃ j : Nat, j ≤ gs.length ∧ t = .int .i64 ((j : Int) + 1) ∧ Below w2.heap.size w2 wr) (fun t _ => gs.length + 1 - (intOf t).toNat)
    case atStart => exact ⟨0, Nat.zero_le _, rfl, Below.refl _ _⟩
    case round =>
      obtain ⟨j, hj, rfl, hb⟩ := hrel
      have GR : Hid (GrAt _ _ _ _ _) := HB2.out.gr.below hb
      obtain ⟨t, mo, mc, h3, d0, d1, h4, _⟩ := (HB2.out.mo.below hb).cells
      by_cases hjl : j < gs.length
      · obtain ⟨p, hp⟩ : ∃ p, gs[j]? = some p := ⟨_, List.getElem?_eq_getElem hjl⟩
        obtain ⟨g, c', e', q0, q1, q2⟩ := gate_cells h4 hp
        obtain ⟨rfl, rfl⟩ : mo = some ⟨g, 0, none⟩ ∧ mc = c' := by simpa using e'
        have n1 : ((j : Int) + 1 ≤ (gs.length : Int)) = True := eq_true (by omega)
        have N4 : Hid (wrap64 ((j : Int) + 1 + 1) = (j : Int) + 1 + 1) := by have := HG.out; unfold Hid wrap64; omega
        have N3 : wrap64 (j : Int) = (j : Int) := by have := HG.out; unfold wrap64; omega
        have hji : (j : Int) < (gs.length : Int) := by omega
        have hj0 : (0 : Int) ≤ (j : Int) := by omega
        have HJ : Hid (j < gs.length) := hjl
        have HP : Hid (gs[j]? = some p) := hp
        have HBW : Hid (Below w2.heap.size w2 wr) := hb
        have Q0 : Hid (wr.cell? _ = _) := q0
        have Q1 : Hid (wr.cell? _ = _) := q1
        have Q2 : Hid (wr.cell? _ = _) := q2
        have D0 : Hid (wr.cell? _ = _) := d0
        clear hp hj hb hjl e' h3 h4 d1 q0 q1 q2
        go_wp2_with fail
        refine (parts_ok GR.out HL9.out j p HP.out _ rfl).mono ?_
        rintro e w3 ⟨rfl, hb3⟩
        have HB3 : Hid (Below w2.heap.size w2 w3) := HBW.out.trans (hb3.mono HBW.out.size)
        have z0 := cell_keep hb3 Q0.out
        have z1 := cell_keep hb3 Q1.out
        have z2 := cell_keep hb3 Q2.out
        have zd := cell_keep hb3 D0.out
        clear hb3 HBW GR Q0 Q1 Q2 D0 d0 n1
        obtain ⟨p1, p2⟩ := p
        go_wp2
        exact ⟨⟨j + 1, HJ.out, by rw [N4.out]; rfl, HB3.out.alloc HB3.out.size _⟩, by rw [N4.out]; have := HJ.out; simp [intOf]; omega⟩
      · have n1 : ((j : Int) + 1 ≤ (gs.length : Int)) = False := eq_false (by omega)
        have HBW : Hid (Below w.heap.size w wr) := HBB.out.trans (hb.mono HBB.out.size)
        have EN : Hid (wr.cell? ⟨0, 0, none⟩ = some (.iface 112 (.pointer (some (a 8))))) := (HS.out.below HBW.out).g8
        clear hb h3 h4 d1 hj hjl
        by_cases h1 : n < 1
        · have n2 : ((1 : Int) ≤ n) = False := eq_false (by omega)
          have HN : Hid (n < 1 ∨ (gs.length : Int) + 1 ≤ n) := .inl h1
          clear h1
          go_wp2_with fail
          refine (parts_bad GR.out HL9.out n HN.out _ EN.out).mono ?_
          rintro e w3 ⟨rfl, hb3⟩
          have HB3 : Hid (Below w.heap.size w w3) := HBW.out.trans (hb3.mono HBW.out.size)
          clear hb3
          go_wp2_with fail
          refine (coded_none (HS.out.below HB3.out)).mono ?_
          rintro e w4 ⟨rfl, hb4⟩
          have HB4 : Hid (Below w.heap.size w w4) := HB3.out.trans (hb4.mono HB3.out.size)
          clear hb4
          go_wp2
          go_ret
          exact ⟨rfl, HB4.out⟩
        · have n2 : ((1 : Int) ≤ n) = True := eq_true (by omega)
          by_cases h2 : n ≤ (gs.length : Int)
          · have n3 : (n ≤ (gs.length : Int)) = True := eq_true h2
            clear h1 h2
            go_wp2
            go_ret
            exact ⟨rfl, HBW.out⟩
          · have n3 : (n ≤ (gs.length : Int)) = False := eq_false h2
            have HN : Hid (n < 1 ∨ (gs.length : Int) + 1 ≤ n) := .inr (by omega)
            clear h1 h2
            go_wp2_with fail
            refine (parts_bad GR.out HL9.out n HN.out _ EN.out).mono ?_
            rintro e w3 ⟨rfl, hb3⟩
            have HB3 : Hid (Below w.heap.size w w3) := HBW.out.trans (hb3.mono HBW.out.size)
            clear hb3
            go_wp2_with fail
            refine (coded_none (HS.out.below HB3.out)).mono ?_
            rintro e w4 ⟨rfl, hb4⟩
            have HB4 : Hid (Below w.heap.size w w4) := HB3.out.trans (hb4.mono HB3.out.size)
            clear hb4
            go_wp2
            go_ret
            exact ⟨rfl, HB4.out⟩
  · have hd : ((60 : Int) < (l.length : Int)) = True := eq_true (by omega)
    clear hlm hl
    go_wp2_with (go_at_call 7; refine (empty_any _).mono ?_; rintro e w1 ⟨rfl, hb1⟩)
    go_ret
    exact ⟨rfl, hb1⟩
end Go.Proofs.YthdjenlpjceleaaDoor
