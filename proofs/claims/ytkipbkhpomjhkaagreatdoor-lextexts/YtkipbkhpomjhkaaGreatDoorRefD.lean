/-
  lustrumref1.tokenOf BY ITS CONTRACT: operators, and all three cases together.
-/
import Derived.Test.YtkipbkhpomjhkaaGreatDoorRefC
namespace Go.Proofs.YtkipbkhpomjhkaaGreatDoor
open Go.RowKit

theorem three_blk (w : World) (o1 o2 o3 : Obj) : (((w.alloc o1).alloc o2).alloc o3).heap[w.heap.size + 1 + 1]? = some o3 := by
  show (((w.heap.push _).push _).push _)[w.heap.size + 1 + 1]? = _
  rw [Array.getElem?_push, if_pos (by simp)]
theorem opK_some {r : ByteArray} {n : Nat} (h0 : 0 < n) (hn : n ≤ r.size) : opK (r.extract 0 n) = kOp := by
  have h : (r.extract 0 n).toList ≠ [] := by rw [Ne, nil_iff, ByteArray.size_extract]; omega
  rw [opK, if_neg (by simpa using h)]
theorem opK_zero {r : ByteArray} : opK (r.extract 0 0) = kNone := by
  have h : (r.extract 0 0).toList = [] := by rw [nil_iff, ByteArray.size_extract]; omega
  rw [opK, if_pos (by rw [h]; rfl)]
set_option maxRecDepth 100000 in
set_option maxHeartbeats 2000000 in
theorem tokenOf_op (r : ByteArray) (w : World) (hr : 0 < r.size) (hs : r.size ≤ 6000) (hlow : lowI (byteI r 0) = false) (hdig : digI (byteI r 0) = false) :
    Calls Tryz.prog 20 #[.string r] w fun e w' => ∃ (kind text : ByteArray) (n : Nat), TokAt r 0 kind text n ∧ e = .returned (tokVal kind text) ∧ Below w.heap.size w w' := by
  have hlow' := hlow
  rw [byteI_lt hr] at hlow'
  have hdig' := hdig
  rw [byteI_lt hr] at hdig'
  go_enter Tryz.func20, Tryz.ntmps20
  by_cases h2 : 1 < r.size
  · have e2 : twoB r = amongB twoL (r.extract 0 2) := by simp [twoB, amongB, h2]
    by_cases ha : amongB twoL (r.extract 0 2) = true
    · have htw : twoB r = true := by rw [e2]; exact ha
      clear e2
      go_wp2_with (first | (go_at_call 40; refine (isLow_any _ _).mono ?_; rintro e w' ⟨rfl, rfl⟩) | (go_at_call 41; refine (refDigit_any _ _).mono ?_; rintro e w' ⟨rfl, rfl⟩) | fail)
      refine (has_blk _ _ 5 twoL (r.extract 0 2) _ rfl ?_ (by decide)).mono ?_
      · exact two_blk _ _ _
      rintro e w' ⟨rfl, rfl⟩
      go_wp2
      exact bodyPost_ret (v := .agg #[.string kOp, .string (r.extract 0 2), .int .i64 0]) (by simp [results, Tryz.results20, go_sem, kOp]) rfl ⟨kOp, r.extract 0 2, 2, op_tok hr hlow hdig (opN_two htw).symm (opK_some (by omega) (by omega)), by rw [tokVal_some kOp_some], ((Below.refl _ _).alloc (Nat.le_refl _) _).alloc (by simp) _⟩
    · have ha' : amongB twoL (r.extract 0 2) = false := by simpa using ha
      have htw : twoB r = false := by rw [e2]; exact ha'
      clear e2 ha
      by_cases ho : oneB r = true
      · have ha1 : amongB oneLL (r.extract 0 1) = true := by rw [one_among hr]; exact ho
        go_wp2_with (first | (go_at_call 40; refine (isLow_any _ _).mono ?_; rintro e w' ⟨rfl, rfl⟩) | (go_at_call 41; refine (refDigit_any _ _).mono ?_; rintro e w' ⟨rfl, rfl⟩) | fail)
        refine (has_blk _ _ 5 twoL (r.extract 0 2) _ rfl ?_ (by decide)).mono ?_
        · exact two_blk _ _ _
        rintro e w' ⟨rfl, rfl⟩
        go_wp2_with fail
        refine (has_blk _ _ 12 oneLL (r.extract 0 1) _ rfl (three_blk _ _ _ _) (by decide)).mono ?_
        rintro e w' ⟨rfl, rfl⟩
        go_wp2
        exact bodyPost_ret (v := .agg #[.string kOp, .string (r.extract 0 1), .int .i64 0]) (by simp [results, Tryz.results20, go_sem, kOp]) rfl ⟨kOp, r.extract 0 1, 1, op_tok hr hlow hdig (opN_one htw ho).symm (opK_some (by omega) (by omega)), by rw [tokVal_some kOp_some], (((Below.refl _ _).alloc (Nat.le_refl _) _).alloc (by simp) _).alloc (by simp; omega) _⟩
      · have ho' : oneB r = false := by simpa using ho
        have ha1 : amongB oneLL (r.extract 0 1) = false := by rw [one_among hr]; exact ho'
        go_wp2_with (first | (go_at_call 40; refine (isLow_any _ _).mono ?_; rintro e w' ⟨rfl, rfl⟩) | (go_at_call 41; refine (refDigit_any _ _).mono ?_; rintro e w' ⟨rfl, rfl⟩) | fail)
        refine (has_blk _ _ 5 twoL (r.extract 0 2) _ rfl ?_ (by decide)).mono ?_
        · exact two_blk _ _ _
        rintro e w' ⟨rfl, rfl⟩
        go_wp2_with fail
        refine (has_blk _ _ 12 oneLL (r.extract 0 1) _ rfl (three_blk _ _ _ _) (by decide)).mono ?_
        rintro e w' ⟨rfl, rfl⟩
        go_wp2
        exact bodyPost_ret (v := .agg #[.string ⟨#[]⟩, .string ⟨#[]⟩, .int .i64 0]) (by simp [results, Tryz.results20, go_sem]) rfl ⟨kNone, r.extract 0 0, 0, op_tok hr hlow hdig (opN_none htw ho').symm opK_zero, by rw [tokVal_none], (((Below.refl _ _).alloc (Nat.le_refl _) _).alloc (by simp) _).alloc (by simp; omega) _⟩
  · have htw : twoB r = false := by simp [twoB, h2]
    by_cases ho : oneB r = true
    · have ha1 : amongB oneLL (r.extract 0 1) = true := by rw [one_among hr]; exact ho
      go_wp2_with (first | (go_at_call 40; refine (isLow_any _ _).mono ?_; rintro e w' ⟨rfl, rfl⟩) | (go_at_call 41; refine (refDigit_any _ _).mono ?_; rintro e w' ⟨rfl, rfl⟩) | fail)
      refine (has_blk _ _ 12 oneLL (r.extract 0 1) _ rfl (three_blk _ _ _ _) (by decide)).mono ?_
      rintro e w' ⟨rfl, rfl⟩
      go_wp2
      exact bodyPost_ret (v := .agg #[.string kOp, .string (r.extract 0 1), .int .i64 0]) (by simp [results, Tryz.results20, go_sem, kOp]) rfl ⟨kOp, r.extract 0 1, 1, op_tok hr hlow hdig (opN_one htw ho).symm (opK_some (by omega) (by omega)), by rw [tokVal_some kOp_some], (((Below.refl _ _).alloc (Nat.le_refl _) _).alloc (by simp) _).alloc (by simp; omega) _⟩
    · have ho' : oneB r = false := by simpa using ho
      have ha1 : amongB oneLL (r.extract 0 1) = false := by rw [one_among hr]; exact ho'
      go_wp2_with (first | (go_at_call 40; refine (isLow_any _ _).mono ?_; rintro e w' ⟨rfl, rfl⟩) | (go_at_call 41; refine (refDigit_any _ _).mono ?_; rintro e w' ⟨rfl, rfl⟩) | fail)
      refine (has_blk _ _ 12 oneLL (r.extract 0 1) _ rfl (three_blk _ _ _ _) (by decide)).mono ?_
      rintro e w' ⟨rfl, rfl⟩
      go_wp2
      exact bodyPost_ret (v := .agg #[.string ⟨#[]⟩, .string ⟨#[]⟩, .int .i64 0]) (by simp [results, Tryz.results20, go_sem]) rfl ⟨kNone, r.extract 0 0, 0, op_tok hr hlow hdig (opN_none htw ho').symm opK_zero, by rw [tokVal_none], (((Below.refl _ _).alloc (Nat.le_refl _) _).alloc (by simp) _).alloc (by simp; omega) _⟩

theorem tokenOf_any (r : ByteArray) (w : World) (hr : 0 < r.size) (hs : r.size ≤ 6000) :
    Calls Tryz.prog 20 #[.string r] w fun e w' => ∃ (kind text : ByteArray) (n : Nat), TokAt r 0 kind text n ∧ e = .returned (tokVal kind text) ∧ Below w.heap.size w w' := by
  by_cases h1 : lowI (byteI r 0) = true
  · exact tokenOf_low r w hr hs h1
  · have h1' : lowI (byteI r 0) = false := by simpa using h1
    by_cases h2 : digI (byteI r 0) = true
    · exact tokenOf_dig r w hr hs h1' h2
    · exact tokenOf_op r w hr hs h1' (by simpa using h2)
end Go.Proofs.YtkipbkhpomjhkaaGreatDoor
