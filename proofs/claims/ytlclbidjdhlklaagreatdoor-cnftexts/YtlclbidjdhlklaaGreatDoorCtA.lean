/-
  lustrumref1: Byte, below, Decimal BY CONTRACT.
-/
import Derived.Test.YtlclbidjdhlklaaGreatDoorCtS
import Derived.Laws.BytesArg
namespace Go.Proofs.YtlclbidjdhlklaaGreatDoor
open Go.RowKit Go.Maps

set_option maxRecDepth 100000 in
set_option maxHeartbeats 1000000 in
theorem byte_any (k : Int) (h0 : 0 ≤ k) (h1 : k < 256) (w : World) : Calls Tryz.prog 45 #[.int .i64 k] w fun e w' => e = .returned (.string ⟨#[UInt8.ofNat k.toNat]⟩) ∧ Below w.heap.size w w' := by
  have hb : Below w.heap.size w (w.alloc (.cells #[.int .u8 k] 5)) := (Below.refl _ _).alloc (Nat.le_refl _) _
  have hcv : (convert 60 9 (.slice (some ⟨w.heap.size, 0, none⟩) 1 1)).run Tryz.prog (w.alloc (.cells #[.int .u8 k] 5)) = .ok (.string (strOfNums [k])) (w.alloc (.cells #[.int .u8 k] 5)) := by
    refine run_convert_bytes_arg _ 60 5 Tryz.underlying60 Tryz.underlying5 w.heap.size 0 1 1 [k] rfl (fun i hi => ?_) 9 Tryz.underlying9
    obtain rfl : i = 0 := by omega
    simp
  have hst : strOfNums [k] = ⟨#[UInt8.ofNat k.toNat]⟩ := by simp [strOfNums]
  rw [hst] at hcv
  go_enter Tryz.func45, Tryz.ntmps45
  go_wp2
  go_ret
  exact ⟨rfl, hb⟩
theorem app_one (x : List UInt8) (c : UInt8) : (⟨x.toArray⟩ : ByteArray) ++ (⟨#[c]⟩ : ByteArray) = ⟨(x ++ [c]).toArray⟩ := by
  apply ByteArray.ext
  rw [ByteArray.data_append]
  simp
theorem dec_len (n : Nat) (h : n < 1000000000) : (Lib.decDigits n).length ≤ 21 := by
  have := Lib.itoa_length_le (n : Int) (by omega) (by omega)
  rwa [Lib.itoa_nonneg] at this
set_option maxRecDepth 100000 in
set_option maxHeartbeats 2000000 in
theorem below_any (n : Nat) : ∀ (w : World), n < 1000000000 → Calls Tryz.prog 32 #[.int .i64 (-(n : Int))] w fun e w' => e = .returned (.string ⟨(Lib.decDigits n).toArray⟩) ∧ Below w.heap.size w w' := by
  induction n using Nat.strongRecOn with
  | ind n ih =>
    intro w hn
    by_cases h10 : n < 10
    · have HB : Hid (∀ w, Calls Tryz.prog 45 #[.int .i64 (48 + (n : Int))] w fun e w' => e = .returned (.string ⟨#[UInt8.ofNat (48 + (n : Int)).toNat]⟩) ∧ Below w.heap.size w w') := fun w => byte_any (48 + (n : Int)) (by omega) (by omega) w
      have h1 : (-10 : Int) < -(n : Int) := by omega
      rw [Lib.decDigits_one h10]
      clear ih
      go_enter Tryz.func32, Tryz.ntmps32
      go_wp2_with fail
      refine (HB.out _).mono ?_
      rintro e w1 ⟨rfl, hb⟩
      have e9 : (48 + (n : Int)).toNat = 48 + n := by omega
      rw [e9]
      go_wp2
      go_ret
      exact ⟨by simp, hb⟩
    · have HB : Hid (∀ (k : Int) (w : World), 0 ≤ k → k < 256 → Calls Tryz.prog 45 #[.int .i64 k] w fun e w' => e = .returned (.string ⟨#[UInt8.ofNat k.toNat]⟩) ∧ Below w.heap.size w w') := fun k w h0 h1 => byte_any k h0 h1 w
      have ed : (n : Int) / 10 = ((n / 10 : Nat) : Int) := by omega
      have HR : Hid (∀ w, Calls Tryz.prog 32 #[.int .i64 (-((n : Int) / 10))] w fun e w' => e = .returned (.string ⟨(Lib.decDigits (n / 10)).toArray⟩) ∧ Below w.heap.size w w') := fun w => ed ▸ ih (n / 10) (by omega) w (by omega)
      have h1 : ¬ (-10 : Int) < -(n : Int) := by omega
      have hl := dec_len (n / 10) (by omega)
      have hz : (⟨(Lib.decDigits (n / 10)).toArray⟩ : ByteArray).size ≤ 21 := by show (Lib.decDigits (n / 10)).toArray.size ≤ 21; simpa using hl
      have HX : Hid ((⟨(Lib.decDigits (n / 10)).toArray⟩ : ByteArray) ++ (⟨#[UInt8.ofNat (48 + n % 10)]⟩ : ByteArray) = ⟨(Lib.decDigits n).toArray⟩) := by
        unfold Hid
        rw [app_one, Lib.decDigits.eq_def n, dif_neg h10]
      rw [← HX.out]
      generalize (⟨(Lib.decDigits (n / 10)).toArray⟩ : ByteArray) = pre at HR hz ⊢
      have e2 : (-(n : Int)).tdiv 10 = -((n : Int) / 10) := by rw [Int.neg_tdiv, Int.tdiv_eq_ediv_of_nonneg (by omega)]
      have e3 : (-(n : Int)).tmod 10 = -((n : Int) % 10) := by rw [Int.neg_tmod, Int.tmod_eq_emod_of_nonneg (by omega)]
      clear ed hl HX ih
      go_enter Tryz.func32, Tryz.ntmps32
      go_wp2_with fail
      refine (HR.out _).mono ?_
      rintro e w1 ⟨rfl, hb1⟩
      go_wp2_with fail
      refine (HB.out _ _ ?_ ?_).mono ?_
      · omega
      · omega
      · rintro e w2 ⟨rfl, hb2⟩
        have ez : ¬ 9223372036854775807 < pre.size + 1 := by omega
        have hb := hb1.trans (hb2.mono hb1.size)
        have e9 : (48 + (n : Int) % 10).toNat = 48 + n % 10 := by omega
        rw [e9]
        go_wp2
        go_ret
        exact ⟨by simp, hb⟩
set_option maxRecDepth 100000 in
theorem decimal_any (n : Int) (h0 : -1000000000 < n) (h1 : n < 1000000000) (w : World) : Calls Tryz.prog 24 #[.int .i64 n] w fun e w' => e = .returned (.string ⟨(Lib.itoa n).toArray⟩) ∧ Below w.heap.size w w' := by
  by_cases hn : n < 0
  · obtain ⟨m, hm⟩ : ∃ m : Nat, n = -(m : Int) := ⟨n.natAbs, by omega⟩
    subst hm
    have hl := dec_len m (by omega)
    have HB : Hid (∀ w, Calls Tryz.prog 32 #[.int .i64 (-(m : Int))] w fun e w' => e = .returned (.string ⟨(Lib.decDigits m).toArray⟩) ∧ Below w.heap.size w w') := fun w => below_any m w (by omega)
    have HX : Hid ((⟨#[45]⟩ : ByteArray) ++ ⟨(Lib.decDigits m).toArray⟩ = ⟨(Lib.itoa (-(m : Int))).toArray⟩) := by
      unfold Hid
      rw [Lib.itoa_neg m (by omega)]
      apply ByteArray.ext
      rw [ByteArray.data_append]
      simp
    have hz : (⟨(Lib.decDigits m).toArray⟩ : ByteArray).size ≤ 21 := by show (Lib.decDigits m).toArray.size ≤ 21; simpa using hl
    rw [← HX.out]
    generalize (⟨(Lib.decDigits m).toArray⟩ : ByteArray) = t at HB hz ⊢
    have ez : ¬ 9223372036854775807 < 1 + t.size := by omega
    clear HX hl
    go_enter Tryz.func24, Tryz.ntmps24
    go_wp2_with fail
    refine (HB.out _).mono ?_
    rintro e w1 ⟨rfl, hb⟩
    go_wp2
    go_ret
    exact ⟨by simp, hb⟩
  · obtain ⟨m, rfl⟩ := Int.eq_ofNat_of_zero_le (show 0 ≤ n by omega)
    have HB : Hid (∀ w, Calls Tryz.prog 32 #[.int .i64 (-(m : Int))] w fun e w' => e = .returned (.string ⟨(Lib.itoa (m : Int)).toArray⟩) ∧ Below w.heap.size w w') := fun w => by rw [Lib.itoa_nonneg]; exact below_any m w (by omega)
    generalize (⟨(Lib.itoa (m : Int)).toArray⟩ : ByteArray) = t at HB ⊢
    go_enter Tryz.func24, Tryz.ntmps24
    go_wp2_with fail
    refine (HB.out _).mono ?_
    rintro e w1 ⟨rfl, hb⟩
    go_wp2
    go_ret
    exact ⟨by simp, hb⟩
end Go.Proofs.YtlclbidjdhlklaaGreatDoor
