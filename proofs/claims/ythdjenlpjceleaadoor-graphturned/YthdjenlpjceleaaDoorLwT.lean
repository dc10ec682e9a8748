/-
  lustrumlaw3.GraphTurned, WALKED: it answers true.
-/
import Derived.Test.YthdjenlpjceleaaDoorLwB
import Derived.Test.YthdjenlpjceleaaDoorGrH
namespace Go.Proofs.YthdjenlpjceleaaDoor
open Go.RowKit Go.Maps

set_option maxRecDepth 100000 in
set_option maxHeartbeats 4000000 in
theorem turned_walk (a : Nat → Addr) (w : World) (S : Sents a w) (v : Value) (l : List Mk) (hv : MakesAt w v l) (hlm : l.length ≤ maxLen) (x : Int) (ix : I64 x) (y : Int) (iy : I64 y) :
    Calls Tryd.prog 6 #[v, .int .i64 x, .int .i64 y] w fun e w' => e = .returned (.bool true) ∧ Below w.heap.size w w' := by
  have HS : Hid (Sents a w) := S
  have HV : Hid (MakesAt w v l) := hv
  obtain ⟨o, c, rfl, hv'⟩ := hv
  unfold maxLen at hlm
  clear S hv'
  go_enter Tryd.func6, Tryd.ntmps6
  by_cases hl : l.length ≤ 60
  · have hd : ((60 : Int) < (l.length : Int)) = False := eq_false (by omega)
    clear hlm
    go_wp2_with fail
    refine (empty_any w).mono ?_
    rintro e w1 ⟨rfl, hb1⟩
    have HB1 : Hid (Below w.heap.size w w1) := hb1
    clear hb1
    go_wp2_with fail
    refine (build_any a w1 (HS.out.below HB1.out) _ l (HV.out.below HB1.out) hl).mono ?_
    rintro e w2 ⟨gs, ins, F, E, rfl, hB, hgl, hil⟩
    have HB2 : Hid (Both _ _ _ _ _ _ _ _ _) := hB
    have HG : Hid (gs.length ≤ 200) := hgl
    have HL : Hid (gs.length ≤ 100000) := Nat.le_trans hgl (by omega)
    have HBB : Hid (Below w.heap.size w w2) := HB1.out.trans (hB.bel.mono HB1.out.size)
    clear hB hgl hil hd HV HS hl
    by_cases hx : HasL gs x
    · have dx : hasB gs x = true := hasB_t hx
      have HX : Hid (HasL gs x) := hx
      clear hx
      by_cases hy : HasL gs y
      · have dy : hasB gs y = true := hasB_t hy
        have HY : Hid (HasL gs y) := hy
        clear hy
        go_wp2_with (go_at_call 11; refine (mhas_any HB2.out.mo HL.out _).mono ?_; rintro e w' ⟨rfl, rfl⟩)
        rename World => w2
        have l1 := andG_length gs x y
        have hx1 := HX.out.mono l1.1
        have hy1 := HY.out.mono l1.1
        have hA := andL_has HX.out HY.out
        have hgt := HG.out
        have iA := hA.i64 (by omega)
        have hY : orL (andG gs x y) (turnL y) (turnL x) = turnL (andL gs x y) ∧ orG (andG gs x y) (turnL y) (turnL x) = andG gs x y := by
          have h := and_again gs [] x y
          rw [List.append_nil] at h
          have h2 := and_comm (andG gs x y) x y
          unfold orL orG
          rw [(turnL_eq y).2.1, (turnL_eq x).2.1, h2.1, h2.2, h.1, h.2]
          exact ⟨rfl, rfl⟩
        have hQ : ifL (xorG (andG gs x y) x y) x (turnL y) y = xorL (andG gs x y) x y := either_again (andG gs x y) x (turnL y) (turnL x) y
        have l3 := eitherG_length (andG gs x y) x (turnL y) (turnL x) y
        have l3' : (andG gs x y).length ≤ (xorG (andG gs x y) x y).length ∧ (xorG (andG gs x y) x y).length ≤ (andG gs x y).length + 3 := l3
        have hx3 := hx1.mono l3'.1
        have hy3 := hy1.mono l3'.1
        obtain ⟨gs1, hg1⟩ : ∃ gs1, gs1 = andG gs x y := ⟨_, rfl⟩
        rw [← hg1] at hY hQ l1 l3' hx1 hy1 hx3 hy3 hA
        have HG1 : Hid (andG gs x y = gs1) := hg1.symm
        clear hg1 l3
        obtain ⟨gs3, hg3⟩ : ∃ gs3, gs3 = xorG gs1 x y := ⟨_, rfl⟩
        rw [← hg3] at hQ l3' hx3 hy3
        have HG3 : Hid (xorG gs1 x y = gs3) := hg3.symm
        clear hg3
        obtain ⟨A, hAe⟩ : ∃ A, A = andL gs x y := ⟨_, rfl⟩
        rw [← hAe] at hY iA hA
        have HAE : Hid (andL gs x y = A) := hAe.symm
        clear hAe
        have L0 : Hid (gs.length < 90000) := by unfold Hid; omega
        have L1 : Hid (gs1.length < 90000) := by unfold Hid; omega
        have L1' : Hid (gs1.length < 89990) := by unfold Hid; omega
        have L3 : Hid (gs3.length < 89990) := by unfold Hid; omega
        have X1 : Hid (HasL gs1 x) := hx1
        have Y1 : Hid (HasL gs1 y) := hy1
        have X3 : Hid (HasL gs3 x) := hx3
        have Y3 : Hid (HasL gs3 y) := hy3
        have HYE : Hid (_ ∧ _) := hY
        have HQE : Hid (ifL gs3 x (turnL y) y = xorL gs1 x y) := hQ
        have ita : I64 (turnL A) := iA.turn
        have ett : turnL (turnL A) = A := (turnL_eq A).2.1
        clear l1 hx1 hy1 hA hgt hY hQ l3' hx3 hy3
        refine (and_ok HB2.out.gr L0.out x y HX.out HY.out).mono ?_
        rw [HG1.out, HAE.out]
        rintro e w3 ⟨rfl, F3, g3, m3⟩
        have G3 : Hid (GrAt _ _ _ _ _) := g3
        have M3 : Hid (Mvd _ _ _ _) := m3
        clear g3 m3
        go_wp2_with (go_at_call 17; refine (not_any _ _ (by assumption)).mono ?_; rintro e w' ⟨rfl, rfl⟩)
        refine (or_ok G3.out L1.out _ _ Y1.out.turn X1.out.turn).mono ?_
        rw [HYE.out.1, HYE.out.2]
        rintro e w4 ⟨rfl, F4, g4, m4⟩
        have G4 : Hid (GrAt _ _ _ _ _) := g4
        have M4 : Hid (Mvd _ _ _ _) := m4
        clear g4 m4
        go_wp2_with fail
        refine (xor_ok G4.out L1'.out _ _ X1.out Y1.out).mono ?_
        rw [HG3.out]
        rintro e w5 ⟨rfl, F5, g5, m5⟩
        have G5 : Hid (GrAt _ _ _ _ _) := g5
        have M5 : Hid (Mvd _ _ _ _) := m5
        clear g5 m5
        go_wp2_with (go_at_call 17; refine (not_any _ _ (by assumption)).mono ?_; rintro e w' ⟨rfl, rfl⟩)
        refine (if_ok G5.out L3.out _ _ _ X3.out Y3.out.turn Y3.out).mono ?_
        rw [HQE.out]
        rintro e w6 ⟨rfl, F6, g6, m6⟩
        have M6 : Hid (Mvd _ _ _ _) := m6
        clear g6 m6
        go_wp2_with (go_at_call 17; refine (not_any _ _ (by assumption)).mono ?_; rintro e w' ⟨rfl, rfl⟩)
        go_ret
        exact ⟨rfl, (((M3.out.trans M4.out).trans M5.out).trans M6.out).below HBB.out HBB.out.size (fun k hk => Nat.le_trans HB1.out.size (HB2.out.fB k hk))⟩
      · have dy : hasB gs y = false := hasB_f hy
        clear hy
        go_wp2_with (go_at_call 11; refine (mhas_any HB2.out.mo HL.out _).mono ?_; rintro e w' ⟨rfl, rfl⟩)
        go_ret
        exact ⟨rfl, HBB.out⟩
    · have dx : hasB gs x = false := hasB_f hx
      clear hx
      go_wp2_with (go_at_call 11; refine (mhas_any HB2.out.mo HL.out _).mono ?_; rintro e w' ⟨rfl, rfl⟩)
      go_ret
      exact ⟨rfl, HBB.out⟩
  · have hd : ((60 : Int) < (l.length : Int)) = True := eq_true (by omega)
    clear hlm hl
    go_wp2_with (go_at_call 7; refine (empty_any _).mono ?_; rintro e w1 ⟨rfl, hb1⟩)
    go_ret
    exact ⟨rfl, hb1⟩
end Go.Proofs.YthdjenlpjceleaaDoor
