/-
  lustrumlaw1.LexTexts, WALKED.
-/
import Derived.Test.YtkipbkhpomjhkaaGreatDoorTxtR
import Derived.Test.YtkipbkhpomjhkaaGreatDoorTxtT
namespace Go.Proofs.YtkipbkhpomjhkaaGreatDoor
open Go.RowKit

set_option maxRecDepth 100000 in
set_option maxHeartbeats 2000000 in
theorem texts_walk (a : Nat → Addr) (w : World) (ao : Option Addr) (n c : Nat) (K X : Nat → ByteArray) (Z : Nat → Int) (ev : Value) (T : Toks w ao n K X Z) (hn : n * 40 ≤ 140737488355328) (hX : ∀ i, i < n → (X i).size ≤ 140737488355328) (S : Sents a w)
    (hv : w.cell? ⟨11, 0, none⟩ = some ev) (hev : ev = .nilIface ∨ ∃ te pe, ev = .iface te pe) :
    Calls Tryz.prog 3 #[.slice ao n c] w fun e w' => e = .returned (.bool true) ∧ Below w.heap.size w w' := by
  go_enter Tryz.func3, Tryz.ntmps3
  go_wp2_with fail
  refine (one_any _ _ ev S.g0 hv hev).mono ?_
  rintro e w1 ⟨rfl, hb1⟩
  have H : Hid (Toks w1 ao n K X Z) := T.keep hb1
  have HT : Hid (Toks w ao n K X Z) := T
  have HS : Hid (Sents a w) := S
  have HV : Hid (w.cell? ⟨11, 0, none⟩ = some ev) := hv
  have HX : Hid (∀ i, i < n → (X i).size ≤ 140737488355328) := hX
  clear T S hv hX
  go_wp2
  go_loopw [4, 5] (fun s t wr => ∃ (i k : Nat) (z : Int), i ≤ n ∧ t = .int .i64 i ∧ s = .int .i64 z ∧ wr = w1.drewN k) (fun _ t _ => n - (intOf t).toNat)
  case atStart => exact ⟨0, 0, 0, Nat.zero_le _, rfl, rfl, rfl⟩
  case round =>
    obtain ⟨i, k, z, hi, rfl, rfl, rfl⟩ := hrel
    by_cases hlt : i < n
    · obtain ⟨b, off, rfl, _, c1, _⟩ := H.out i hlt
      have i0 : (0 : Int) ≤ (i : Int) := by omega
      have i1 : (i : Int) < (n : Int) := by omega
      have hXi := HX.out i hlt
      go_wp2
      exact ⟨⟨i + 1, _, _, by omega, by go_num, rfl, rfl⟩, by simp [intOf]; omega⟩
    · obtain rfl : i = n := by omega
      by_cases hd : 3000 < z
      · go_wp2
        go_ret
        exact ⟨rfl, below_drewN hb1 _⟩
      · have hB1 : Below w.heap.size w (w1.drewN k) := below_drewN hb1 k
        go_wp2_with fail
        refine (tokens_any _ ao i c K X Z (Toks.keep HT.out hB1) (by omega)).mono ?_
        rintro e w2 ⟨⟨v, rfl, hown⟩, hb2⟩
        obtain ⟨bo, cap, rfl, hc1, hc2, T2⟩ := toks_own hown
        have hB2 : Below w.heap.size w w2 := hB1.trans (hb2.mono hB1.size)
        have S2 := HS.out.below hB2
        have hv2 := cell_keep hB2 HV.out
        clear hown hb2
        go_wp2_with fail
        refine (text_any w2 bo i cap K X Z (a 0) (a 2) ev T2 (by omega) HX.out hc1 hc2 S2.g0 S2.g2 hv2 hev).mono ?_
        rintro e w3 ⟨hb3, h3⟩
        have hB3 : Below w.heap.size w w3 := hB2.trans (hb3.mono hB2.size)
        clear S2 hv2 T2
        rcases h3 with ⟨hok, rfl⟩ | ⟨hno, rfl⟩
        · go_wp2_with fail
          refine (tokensText_any w3 ao i c K X Z (Toks.keep HT.out hB3) (by omega) HX.out).mono ?_
          rintro e w4 ⟨hb4, h4⟩
          have hB4 : Below w.heap.size w w4 := hB3.trans (hb4.mono hB3.size)
          rcases h4 with ⟨_, rfl⟩ | ⟨hno', _⟩
          · obtain ⟨hj6, l, hl, hlen0, hs0⟩ := hok
            have HL : Hid (i = l.length) := hlen0
            have HE0 : Hid (∀ j, j < i → K j = tkK l j ∧ X j = tkX l j) := hs0
            clear hlen0 hs0
            go_wp2_with fail
            refine (lex_any _ w4 (a 0) ev (by omega) (HS.out.below hB4).g0 (cell_keep hB4 HV.out) hev).mono ?_
            rintro e w5 ⟨hb5, h5⟩
            have hB5 : Below w.heap.size w w5 := hB4.trans (hb5.mono hB4.size)
            rcases h5 with ⟨l', v', hl', rfl, hown'⟩ | ⟨l', j', p', hl', rfl, _, _⟩
            · obtain ⟨rfl, _⟩ := hl'.one hl
              obtain ⟨bo', d', rfl, T5⟩ := toks_tk hown' hl'.ne
              have HA : Hid (Toks w5 ao i K X Z) := Toks.keep HT.out hB5
              have HB : Hid (Toks w5 bo' l'.length (tkK l') (tkX l') (tkZ l')) := T5
              have hl6 : l'.length ≤ 6001 := hl'.len (by omega)
              have hlen := HL.out
              subst hlen
              clear T5 hown' HL
              go_wp2
              go_loopw [11] (fun t wr => ∃ j q : Nat, j ≤ l'.length ∧ t = .int .i64 j ∧ wr = w5.drewN q) (fun t _ => l'.length - (intOf t).toNat)
              case atStart => exact ⟨0, 0, Nat.zero_le _, rfl, rfl⟩
              case round =>
                obtain ⟨j, q, hj, rfl, rfl⟩ := hrel
                by_cases hlt : j < l'.length
                · obtain ⟨b, off, rfl, c0, c1, _⟩ := HA.out j hlt
                  obtain ⟨b', off', rfl, d0, d1, _⟩ := HB.out j hlt
                  obtain ⟨e0, e1⟩ := HE0.out j hlt
                  rw [e0] at c0
                  rw [e1] at c1
                  have i0 : (0 : Int) ≤ (j : Int) := by omega
                  have i1 : (j : Int) < (l'.length : Int) := by omega
                  clear e0 e1
                  go_wp2
                  go_quiet (fail)
                  go_wp2
                  exact ⟨⟨j + 1, _, by omega, by go_num, rfl⟩, by simp [intOf]; omega⟩
                · go_wp2
                  go_ret
                  exact ⟨rfl, below_drewN hB5 _⟩
            · exact absurd (hl'.one hl).2 (by simp)
          · exact absurd hok hno'
        · go_wp2_with fail
          refine (tokensText_any w3 ao i c K X Z (Toks.keep HT.out hB3) (by omega) HX.out).mono ?_
          rintro e w4 ⟨hb4, h4⟩
          have hB4 : Below w.heap.size w w4 := hB3.trans (hb4.mono hB3.size)
          rcases h4 with ⟨hok', _⟩ | ⟨_, rfl⟩
          · exact absurd hok' hno
          · have S4 := HS.out.below hB4
            obtain ⟨cb, tb, hrow⟩ := S4.row 2 (by omega)
            go_wp2_with fail
            refine (coded_str a (a 2) 2 3 cb tb _ S4 hrow (by omega) (fun j hj => S4.inj 2 j (by omega) (by omega) (by omega)) (fun _ => rfl) (by rw [codeOf_in (by omega)]; rfl)).mono ?_
            rintro e w5 ⟨rfl, hb5⟩
            have hB5 : Below w.heap.size w w5 := hB4.trans (hb5.mono hB4.size)
            clear S4 hrow
            go_wp2
            go_ret
            exact ⟨rfl, hB5⟩
end Go.Proofs.YtkipbkhpomjhkaaGreatDoor
