/-
  lustrumref1.TokensText BY ITS CONTRACT: the texts ahead of the last one, one blank between, if that is read as these tokens again; else nothing. Conditions: at most 2^47 tokens, and bytes in each text.
-/
import Derived.Test.YtkipbkhpomjhkaaGreatDoorTxtX
namespace Go.Proofs.YtkipbkhpomjhkaaGreatDoor
open Go.RowKit

theorem add_str (a b : ByteArray) (h : a.size + b.size ≤ 140737488365328) (W : World) : (Op.stringOp .add a b).run Tryz.prog W = .ok (.string (a ++ b)) W := run_string_add_sum W _ _ (by omega)

set_option maxRecDepth 100000 in
set_option maxHeartbeats 1000000 in
theorem tokensText_any (w : World) (ao : Option Addr) (n c : Nat) (K X : Nat → ByteArray) (Z : Nat → Int) (T : Toks w ao n K X Z) (hn : n ≤ 140737488355328) (hX : ∀ i, i < n → (X i).size ≤ 140737488355328) :
    Calls Tryz.prog 7 #[.slice ao n c] w fun e w' => Below w.heap.size w w' ∧ ((TOk n K X ∧ e = .returned (.tuple #[.string (joinT X (n - 1)), .bool true])) ∨ (¬ TOk n K X ∧ e = .returned (.tuple #[.string ⟨#[]⟩, .bool false]))) := by
  have H : Hid (Toks w ao n K X Z) := T
  have HX : Hid (∀ i, i < n → (X i).size ≤ 140737488355328) := hX
  clear T hX
  go_enter Tryz.func7, Tryz.ntmps7
  go_wp2
  go_loopw [4, 5] (fun o t wr => ∃ i k : Nat, i ≤ n - 1 ∧ (joinT X i).size ≤ 6000 ∧ t = .int .i64 i ∧ o = .string (joinT X i) ∧ wr = w.drewN k) (fun _ t _ => n - (intOf t).toNat)
  case atStart => exact ⟨0, 0, Nat.zero_le _, Nat.zero_le _, rfl, rfl, rfl⟩
  case round =>
    obtain ⟨i, k, hi, hsz, rfl, rfl, rfl⟩ := hrel
    by_cases hlt : i < n - 1
    · obtain ⟨b, off, rfl, c0, c1, _⟩ := H.out i (by omega)
      have i0 : (0 : Int) ≤ (i : Int) := by omega
      have i1 : (i : Int) < (n : Int) := by omega
      have i2 : (i : Int) + 1 < (n : Int) := by omega
      have hst := joinT_step X i
      have hXi := HX.out i (by omega)
      have hmo : Hid ((joinT X (i + 1)).size ≤ (joinT X (n - 1)).size) := joinT_mono X (by omega)
      have h1z : (ByteArray.mk #[32]).size = 1 := rfl
      by_cases hp : 0 < i
      · have hp' : (0 : Int) < (i : Int) := by omega
        rw [if_pos hp] at hst
        have a1 := add_str (joinT X i) ⟨#[32]⟩ (by omega)
        have a2 := add_str (joinT X i ++ ⟨#[32]⟩) (X i) (by rw [size_app]; omega)
        rw [← joinT_more X hp] at a2
        clear c0 hst
        by_cases hfit : (joinT X (i + 1)).size ≤ 6000
        · have hz' : ((joinT X (i + 1)).size : Int) ≤ 6000 := by omega
          go_wp2
          exact ⟨⟨i + 1, k, by omega, hfit, by go_num, rfl, rfl⟩, by simp [intOf]; omega⟩
        · have hz' : (6000 : Int) < ((joinT X (i + 1)).size : Int) := by omega
          have HNo : Hid (¬ TOk n K X) := fun h => by have := hmo.out; have := h.1; omega
          go_wp2
          go_ret2
          exact ⟨below_drewN (Below.refl _ _) _, Or.inr ⟨HNo.out, rfl⟩⟩
      · obtain rfl : i = 0 := by omega
        simp only [Nat.zero_mul, Nat.add_zero] at c0 c1
        have a2 := add_str (joinT X 0) (X 0) (by omega)
        rw [← joinT_one X] at a2
        clear c0 hst
        by_cases hfit : (joinT X 1).size ≤ 6000
        · have hz' : ((joinT X 1).size : Int) ≤ 6000 := by omega
          go_wp2
          exact ⟨⟨1, k, by omega, hfit, by go_num, rfl, rfl⟩, by simp [intOf]; omega⟩
        · have hz' : (6000 : Int) < ((joinT X 1).size : Int) := by omega
          have hmo : Hid ((joinT X 1).size ≤ (joinT X (n - 1)).size) := hmo
          have HNo : Hid (¬ TOk n K X) := fun h => by have := hmo.out; have := h.1; omega
          go_wp2
          go_ret2
          exact ⟨below_drewN (Below.refl _ _) _, Or.inr ⟨HNo.out, rfl⟩⟩
    · obtain rfl : i = n - 1 := by omega
      go_wp2_with fail
      refine (lexOf_any (joinT X (n - 1)) _ (by omega)).mono ?_
      rintro e w2 ⟨hb2, h⟩
      have hB2 : Below w.heap.size w w2 := (below_drewN (Below.refl _ _) k).trans hb2
      rcases h with ⟨l, v, hl, rfl, hown⟩ | ⟨l, j, hl, rfl⟩
      · obtain ⟨bo, d, rfl, T2⟩ := toks_tk hown hl.ne
        have hlen : l.length ≤ 6001 := hl.len (by omega)
        have hbA : Below w2.heap.size w2 (w2.alloc (.cells #[.int .i64 0, .int .i64 (-1)] 42)) := (Below.refl _ _).alloc (Nat.le_refl _) _
        have hB3 : Below w.heap.size w (w2.alloc (.cells #[.int .i64 0, .int .i64 (-1)] 42)) := hB2.trans (hbA.mono hB2.size)
        have HA : Hid (Toks (w2.alloc (.cells #[.int .i64 0, .int .i64 (-1)] 42)) ao n K X Z) := Toks.keep H.out hB3
        have HB : Hid (Toks (w2.alloc (.cells #[.int .i64 0, .int .i64 (-1)] 42)) bo l.length (tkK l) (tkX l) (tkZ l)) := Toks.keep T2 hbA
        clear T2 hown hbA
        by_cases hnm : n = l.length
        · obtain rfl : l.length = n := hnm.symm
          go_wp2
          go_loopw [8] (fun t wr => ∃ i q : Nat, i ≤ l.length ∧ t = .int .i64 i ∧ wr = (w2.alloc (.cells #[.int .i64 0, .int .i64 (-1)] 42)).drewN q ∧ Hid (∀ j, j < i → K j = tkK l j ∧ X j = tkX l j)) (fun t _ => l.length - (intOf t).toNat)
          case atStart => exact ⟨0, 0, Nat.zero_le _, rfl, rfl, fun j hj => by omega⟩
          case round =>
            obtain ⟨i, q, hi, rfl, rfl, hs⟩ := hrel
            by_cases hlt : i < l.length
            · obtain ⟨b, off, rfl, c0, c1, _⟩ := HA.out i hlt
              obtain ⟨b', off', rfl, d0, d1, _⟩ := HB.out i hlt
              have i0 : (0 : Int) ≤ (i : Int) := by omega
              have i1 : (i : Int) < (l.length : Int) := by omega
              by_cases e0 : K i = tkK l i
              · by_cases e1 : X i = tkX l i
                · have E : Hid (K i = tkK l i ∧ X i = tkX l i) := ⟨e0, e1⟩
                  rw [e0] at c0
                  rw [e1] at c1
                  clear e0 e1
                  go_wp2
                  go_quiet (fail)
                  go_wp2
                  refine ⟨⟨i + 1, _, by omega, by go_num, rfl, fun j hj => ?_⟩, by simp [intOf]; omega⟩
                  by_cases e : j = i
                  · subst e; exact E.out
                  · exact hs.out j (by omega)
                · have E : Hid (X i ≠ tkX l i) := e1
                  have q := beq_no (Ne.symm e1)
                  rw [e0] at c0
                  clear e0 e1
                  have HNo : Hid (¬ TOk l.length K X) := fun ⟨_, l', hl', hs'⟩ => by
                    obtain ⟨rfl, _⟩ := hl.one hl'
                    exact E.out (hs'.2 i hlt).2
                  go_wp2
                  go_quiet (fail)
                  go_wp2
                  go_ret2
                  exact ⟨below_drewN (below_drewN hB3 _) _, Or.inr ⟨HNo.out, rfl⟩⟩
              · have E : Hid (K i ≠ tkK l i) := e0
                have q := beq_no (Ne.symm e0)
                clear e0
                have HNo : Hid (¬ TOk l.length K X) := fun ⟨_, l', hl', hs'⟩ => by
                  obtain ⟨rfl, _⟩ := hl.one hl'
                  exact E.out (hs'.2 i hlt).1
                go_wp2
                go_quiet (fail)
                go_wp2
                go_ret2
                exact ⟨below_drewN (below_drewN hB3 _) _, Or.inr ⟨HNo.out, rfl⟩⟩
            · have hE : i = l.length := by omega
              have HOk : Hid (TOk l.length K X) := ⟨hsz, l, hl, rfl, fun j hj => hs.out j (by omega)⟩
              go_wp2
              go_ret2
              exact ⟨below_drewN hB3 _, Or.inl ⟨HOk.out, rfl⟩⟩
        · have N1 : ((l.length : Int) == (n : Int)) = false := by simp; omega
          have hno : ¬ TOk n K X := fun ⟨_, l', hl', hs'⟩ => by
            obtain ⟨rfl, _⟩ := hl.one hl'
            exact hnm hs'.1
          have HNo : Hid (¬ TOk n K X) := hno
          clear hno hnm
          go_wp2
          all_goals go_ret2
          all_goals exact ⟨hB3, Or.inr ⟨HNo.out, rfl⟩⟩
      · have hno : ¬ TOk n K X := fun ⟨_, l', hl', hs'⟩ => absurd (hl.one hl').2 (by simp)
        have HNo : Hid (¬ TOk n K X) := hno
        have hB3 : Below w.heap.size w (w2.alloc (.cells #[.int .i64 1, .int .i64 j] 42)) := hB2.alloc hB2.size _
        clear hno
        go_wp2
        go_ret2
        exact ⟨hB3, Or.inr ⟨HNo.out, rfl⟩⟩
end Go.Proofs.YtkipbkhpomjhkaaGreatDoor
