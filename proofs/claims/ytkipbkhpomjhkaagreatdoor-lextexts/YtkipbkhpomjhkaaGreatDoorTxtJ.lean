/-
  lex.alike AND lex.join BY THEIR CONTRACTS: true where both lists have the same kinds and texts; the texts ahead of the last one, one blank between. nothing where that passes 6000 bytes. Conditions: at most 2^47 tokens, and bytes in each text.
-/
import Derived.Test.YtkipbkhpomjhkaaGreatDoorTxtP
namespace Go.Proofs.YtkipbkhpomjhkaaGreatDoor
open Go.RowKit

theorem beq_no {s t : ByteArray} (h : s ≠ t) : (s.toList == t.toList) = false := by
  simp only [beq_eq_false_iff_ne, ne_eq]
  exact fun e => h (list_inj e)
set_option maxHeartbeats 1000000 in
theorem alike_any (w : World) (ao bo : Option Addr) (n m c d : Nat) (K X K' X' : Nat → ByteArray) (Z Z' : Nat → Int) (T : Toks w ao n K X Z) (T' : Toks w bo m K' X' Z') (hn : n ≤ 140737488355328) (hm : m ≤ 140737488355328) :
    Calls Tryz.prog 11 #[.slice ao n c, .slice bo m d] w fun e w' => (∃ r : Bool, e = .returned (.bool r) ∧ (r = true ↔ Same n m K X K' X')) ∧ Below w.heap.size w w' := by
  go_enter Tryz.func11, Tryz.ntmps11
  by_cases hnm : n = m
  · subst hnm
    have H : Hid (Toks w ao n K X Z) := T
    have H' : Hid (Toks w bo n K' X' Z') := T'
    clear T T'
    go_wp2
    go_loopw [13] (fun t wr => ∃ i k : Nat, i ≤ n ∧ t = .int .i64 i ∧ wr = w.drewN k ∧ Hid (∀ j, j < i → K j = K' j ∧ X j = X' j)) (fun t _ => n - (intOf t).toNat)
    case atStart => exact ⟨0, 0, Nat.zero_le _, rfl, rfl, fun j hj => by omega⟩
    case round =>
      obtain ⟨i, k, hi, rfl, rfl, hs⟩ := hrel
      by_cases hlt : i < n
      · obtain ⟨b, off, rfl, c0, c1, _⟩ := H.out i hlt
        obtain ⟨b', off', rfl, d0, d1, _⟩ := H'.out i hlt
        have i0 : (0 : Int) ≤ (i : Int) := by omega
        have i1 : (i : Int) < (n : Int) := by omega
        by_cases e0 : K i = K' i
        · by_cases e1 : X i = X' i
          · have E : Hid (K i = K' i ∧ X i = X' i) := ⟨e0, e1⟩
            rw [e0] at c0
            rw [e1] at c1
            clear e0 e1
            go_wp2
            go_quiet (fail)
            go_wp2
            refine ⟨⟨i + 1, _, by omega, by go_num, rfl, fun j hj => ?_⟩, by simp [intOf]; omega⟩
            by_cases e : j = i
            · subst e; exact E.out
            · exact hs.out j (by omega)
          · have E : Hid (X i ≠ X' i) := e1
            have q := beq_no e1
            rw [e0] at c0
            clear e0 e1
            go_wp2
            go_quiet (fail)
            go_wp2
            go_ret
            exact ⟨⟨false, rfl, ⟨fun h => (by cases h), fun h => absurd (h.2 i hlt).2 E.out⟩⟩, below_drewN (below_drewN (Below.refl _ _) _) _⟩
        · have E : Hid (K i ≠ K' i) := e0
          have q := beq_no e0
          clear e0
          go_wp2
          go_quiet (fail)
          go_wp2
          go_ret
          exact ⟨⟨false, rfl, ⟨fun h => (by cases h), fun h => absurd (h.2 i hlt).1 E.out⟩⟩, below_drewN (below_drewN (Below.refl _ _) _) _⟩
      · go_wp2
        go_ret
        obtain rfl : i = n := by omega
        exact ⟨⟨true, rfl, ⟨fun _ => ⟨rfl, hs.out⟩, fun _ => rfl⟩⟩, below_drewN (Below.refl _ _) _⟩
  · have hz : ((n : Int) == (m : Int)) = false := by simp; omega
    have E : Hid (n ≠ m) := hnm
    clear hnm
    go_wp2
    go_ret
    exact ⟨⟨false, rfl, ⟨fun h => (by cases h), fun h => absurd h.1 E.out⟩⟩, Below.refl _ _⟩

set_option maxHeartbeats 1000000 in
theorem join_any (w : World) (ao : Option Addr) (n c : Nat) (K X : Nat → ByteArray) (Z : Nat → Int) (T : Toks w ao n K X Z) (hn : n ≤ 140737488355328) (hX : ∀ i, i < n → (X i).size ≤ 140737488355328) (hnc : n ≤ c) (hc : c ≤ maxLen) :
    Calls Tryz.prog 10 #[.slice ao n c] w fun e w' => Below w.heap.size w w' ∧ (((0 < n ∧ (joinT X (n - 1)).size ≤ 6000) ∧ e = .returned (.tuple #[.string (joinT X (n - 1)), .bool true])) ∨ (¬ (0 < n ∧ (joinT X (n - 1)).size ≤ 6000) ∧ e = .returned (.tuple #[.string ⟨#[]⟩, .bool false]))) := by
  have H : Hid (Toks w ao n K X Z) := T
  have HX : Hid (∀ i, i < n → (X i).size ≤ 140737488355328) := hX
  clear T hX
  unfold maxLen at hc
  go_enter Tryz.func10, Tryz.ntmps10
  by_cases h0 : 0 < n
  · obtain ⟨b, off, rfl, _⟩ := H.out 0 h0
    have hz : ((n : Int) == 0) = false := by simp; omega
    go_wp2
    go_loopw [16] (fun t wr => ∃ i : Nat, i ≤ n - 1 ∧ (joinT X i).size ≤ 6000 ∧ t = .int .i64 i ∧ Lib.IsBuilderF 55 5 w.heap.size w.heap.size (Lib.strCells (joinT X i)) wr ∧ Below w.heap.size w wr) (fun t _ => n - (intOf t).toNat)
    case atStart => exact ⟨0, Nat.zero_le _, Nat.zero_le _, rfl, Lib.IsBuilderF.of (Lib.fresh_isBuilder 55 5 w), (Below.refl _ _).alloc (Nat.le_refl _) _⟩
    case round =>
      obtain ⟨i, hi, hsz, rfl, hI, hb⟩ := hrel
      by_cases hlt : i < n - 1
      · obtain ⟨b', off', e, c0, c1, c2⟩ := H.out i (by omega)
        obtain ⟨rfl, rfl⟩ : b = b' ∧ off = off' := by simpa using e
        have c0 := cell_keep hb c0
        have c1 := cell_keep hb c1
        have c2 := cell_keep hb c2
        have i0 : (0 : Int) ≤ (i : Int) := by omega
        have i1 : (i : Int) < (n : Int) - 1 := by omega
        have hst := joinT_step X i
        have hXi := HX.out i (by omega)
        have hmo : Hid ((joinT X (i + 1)).size ≤ (joinT X (n - 1)).size) := joinT_mono X (by omega)
        have hlt0 : w.heap.size < wr.heap.size := hI.elim (fun h => h.lt) (fun h => h.lt)
        by_cases hp : 0 < i
        · have hp' : (0 : Int) < (i : Int) := by omega
          rw [if_pos hp] at hst
          go_wp2_with fail
          refine (Tryz.Builder_WriteByte_k w.heap.size w.heap.size _ 32 _ (hI.alloc _) (by rw [Lib.strCells_length]; omega) (Nat.le_trans hb.size (by simp))).mono ?_
          rintro e W1 ⟨rfl, h1, b1, k1⟩
          have hblk : W1.heap[wr.heap.size]? = some (.cells #[.string (K i), .string (X i), .int .i64 (Z i)] 37 (0, 0)) := k1 _ _ (by show (wr.heap.push _)[wr.heap.size]? = _; simp) (fun e => by injection e with e; have := hlt0; omega) (fun c fz => by simp)
          have t1 : W1.cell? ⟨wr.heap.size, 1, none⟩ = some (.string (X i)) := by simp [World.cell?, hblk]
          have h1' : Lib.IsBuilderF 55 5 w.heap.size w.heap.size (Lib.strCells (joinT X i) ++ [.int .u8 32]) W1 := Or.inr h1
          have h1q : ∀ q, Lib.IsBuilderF 55 5 w.heap.size w.heap.size (Lib.strCells (joinT X i) ++ [.int .u8 32]) (W1.drewN q) := fun _ => h1'
          have hl : (Lib.strCells (joinT X i) ++ [Value.int .u8 32]).length = (joinT X i).size + 1 := by rw [List.length_append, Lib.strCells_length]; rfl
          have hB1 : Below w.heap.size w W1 := (hb.alloc hb.size _).trans b1
          by_cases hfit : (joinT X (i + 1)).size ≤ 6000
          · have hfi : (joinT X i).size + 1 + (X i).size ≤ 6000 := by omega
            clear hst
            go_wp2
            go_quiet (first | (go_at_call 16; exact Calls.quiet_of_same (Tryz.Builder_Len_f w.heap.size w.heap.size _ _ h1')) | fail)
            go_wp2_with fail
            refine (Tryz.Builder_WriteString_k w.heap.size w.heap.size _ (X i) _ (h1q _) (by rw [hl]; omega) (Nat.le_trans (Nat.le_trans hb.size (by simp)) b1.size)).mono ?_
            rintro e W2 ⟨rfl, h2, b2, _⟩
            have hB2 : Below w.heap.size w W2 := (below_drewN hB1 _).trans b2
            have hn2 : Lib.strCells (joinT X i) ++ [Value.int .u8 32] ++ Lib.strCells (X i) = Lib.strCells (joinT X (i + 1)) := by
              rw [joinT_more X hp, strCells_app, strCells_app]; rfl
            rw [hn2] at h2
            clear hblk t1 h1' h1q hl h1 c0 c1 c2
            go_wp2
            exact ⟨⟨i + 1, by omega, hfit, by go_num, Or.inr h2, hB2⟩, by simp [intOf]; omega⟩
          · have hfi : ¬ (joinT X i).size + 1 + (X i).size ≤ 6000 := by omega
            have hfz : (6000 : Int) < (joinT X i).size + 1 + (X i).size := by omega
            have HNo : Hid (¬ (0 < n ∧ (joinT X (n - 1)).size ≤ 6000)) := fun h => by have := hmo.out; omega
            clear hst
            go_wp2
            go_quiet (first | (go_at_call 16; exact Calls.quiet_of_same (Tryz.Builder_Len_f w.heap.size w.heap.size _ _ h1')) | fail)
            go_wp2
            go_ret2
            exact ⟨below_drewN hB1 _, Or.inr ⟨HNo.out, rfl⟩⟩
        · obtain rfl : i = 0 := by omega
          rw [if_neg (by omega)] at hst
          simp only [Nat.zero_add] at hst
          have hmo : Hid ((joinT X 1).size ≤ (joinT X (n - 1)).size) := hmo
          simp only [Nat.zero_mul, Nat.add_zero] at c0 c1 c2
          have hblk : (wr.alloc (.cells #[.string (K 0), .string (X 0), .int .i64 (Z 0)] 37)).heap[wr.heap.size]? = some (.cells #[.string (K 0), .string (X 0), .int .i64 (Z 0)] 37 (0, 0)) := by show (wr.heap.push _)[wr.heap.size]? = _; simp
          have h1' := hI.alloc (.cells #[.string (K 0), .string (X 0), .int .i64 (Z 0)] 37)
          have h1q : ∀ q, Lib.IsBuilderF 55 5 w.heap.size w.heap.size (Lib.strCells (joinT X 0)) ((wr.alloc (.cells #[.string (K 0), .string (X 0), .int .i64 (Z 0)] 37)).drewN q) := fun _ => h1'
          have hl : (Lib.strCells (joinT X 0)).length = 0 := rfl
          have hz0 : (joinT X 0).size = 0 := rfl
          have hB1 : Below w.heap.size w (wr.alloc (.cells #[.string (K 0), .string (X 0), .int .i64 (Z 0)] 37)) := hb.alloc hb.size _
          by_cases hfit : (joinT X 1).size ≤ 6000
          · have hfi : (X 0).size ≤ 6000 := by omega
            clear hst hz0
            go_wp2
            go_quiet (first | (go_at_call 16; exact Calls.quiet_of_same (Tryz.Builder_Len_f w.heap.size w.heap.size _ _ h1')) | fail)
            go_wp2_with fail
            refine (Tryz.Builder_WriteString_k w.heap.size w.heap.size _ (X 0) _ (h1q _) (by rw [hl]; omega) (Nat.le_trans hb.size (by simp))).mono ?_
            rintro e W2 ⟨rfl, h2, b2, _⟩
            have hB2 : Below w.heap.size w W2 := (below_drewN hB1 _).trans b2
            have hn2 : Lib.strCells (joinT X 0) ++ Lib.strCells (X 0) = Lib.strCells (joinT X 1) := by
              rw [joinT_one, strCells_app]
            rw [hn2] at h2
            clear hblk h1' h1q hl c0 c1 c2
            go_wp2
            exact ⟨⟨1, by omega, hfit, by go_num, Or.inr h2, hB2⟩, by simp [intOf]; omega⟩
          · have hfi : ¬ (X 0).size ≤ 6000 := by omega
            have hfz : (6000 : Int) < ((X 0).size : Int) := by omega
            have HNo : Hid (¬ (0 < n ∧ (joinT X (n - 1)).size ≤ 6000)) := fun h => by have := hmo.out; omega
            clear hst hz0
            go_wp2
            go_quiet (first | (go_at_call 16; exact Calls.quiet_of_same (Tryz.Builder_Len_f w.heap.size w.heap.size _ _ h1')) | fail)
            go_wp2
            go_ret2
            exact ⟨below_drewN hB1 _, Or.inr ⟨HNo.out, rfl⟩⟩
      · obtain rfl : i = n - 1 := by omega
        go_wp2_with fail
        refine (Tryz.Builder_String_k w.heap.size w.heap.size (joinT X (n - 1)).data.toList _ hI hb.size).mono ?_
        rintro e W1 ⟨rfl, _, b1, _⟩
        go_wp2
        go_ret2
        exact ⟨hb.trans b1, Or.inl ⟨⟨h0, hsz⟩, rfl⟩⟩
  · obtain rfl : n = 0 := by omega
    go_wp2
    go_ret2
    exact ⟨Below.refl _ _, Or.inr ⟨fun h => by omega, rfl⟩⟩
end Go.Proofs.YtkipbkhpomjhkaaGreatDoor
