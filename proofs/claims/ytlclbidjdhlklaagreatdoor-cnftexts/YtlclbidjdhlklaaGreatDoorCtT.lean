/-
  lustrumref3.TextOf BY CONTRACT.
-/
import Derived.Test.YtlclbidjdhlklaaGreatDoorCtA
import Derived.Test.YtlclbidjdhlklaaGreatDoorCnU
import Derived.Deep.RegionHeld3
namespace Go.Proofs.YtlclbidjdhlklaaGreatDoor
open Go.RowKit Go.Maps

theorem str_app (a b : ByteArray) : (a ++ b).data.toList = a.data.toList ++ b.data.toList := by
  rw [ByteArray.data_append]; simp
theorem itoa_size {n : Int} (h : I64 n) : (⟨(Lib.itoa n).toArray⟩ : ByteArray).size ≤ 21 := by
  show (Lib.itoa n).toArray.size ≤ 21
  have := Lib.itoa_length_le n h.1 h.2
  simpa using this
theorem sizC_next {cs : List (List Int)} {j : Nat} {d : List Int} (h : cs[j]? = some d) : sizC (cs.take (j + 1)) = sizC (cs.take j) + d.length + 1 := by
  rw [List.take_add_one, h]
  simp [sizC]; omega
theorem flat_next {α : Type} {l : List α} {j : Nat} {d : α} (h : l[j]? = some d) (f : α → List UInt8) : (l.take (j + 1)).flatMap f = (l.take j).flatMap f ++ f d := by
  rw [List.take_add_one, h]
  simp
/-- The first line. -/
def topC (n : Int) (cs : List (List Int)) : List UInt8 := headB ++ numB n 32 ++ numB (cs.length : Int) 10
set_option maxRecDepth 100000 in
set_option maxHeartbeats 8000000 in
theorem textOf_any (w : World) (n : Int) (v : Value) (cs : List (List Int)) (hv : ClsAt w v cs) (hs : sizC cs ≤ 1000) (hn : -1000000 ≤ n ∧ n ≤ 1000000) (hx : ∀ c ∈ cs, ∀ x ∈ c, -1000000 ≤ x ∧ x ≤ 1000000) :
    Calls Tryz.prog 11 #[.agg #[.int .i64 n, v]] w fun e w' => ∃ t : ByteArray, e = .returned (.string t) ∧ t.data.toList = textC n cs ∧ Below w.heap.size w w' := by
  have HV : Hid (ClsAt w v cs) := hv
  obtain ⟨_, o, c, rfl, _⟩ := hv
  obtain ⟨w1, hw1⟩ : ∃ w1, w1 = w.alloc (.cells #[.int .i64 n, .slice o cs.length c] 24) := ⟨_, rfl⟩
  have hb1 : Below w.heap.size w w1 := by rw [hw1]; exact (Below.refl _ _).alloc (Nat.le_refl _) _
  have hf1 : w1.heap[w.heap.size]? = some (.cells #[.int .i64 n, .slice o cs.length c] 24 (0, 0)) := by rw [hw1]; exact heap_alloc_new _ _
  have z0 : w1.cell? ⟨w.heap.size, 0, none⟩ = some (.int .i64 n) := by rw [cell_of_row w1 _ _ _ _ (0, 0) hf1]; rfl
  have z1 : w1.cell? ⟨w.heap.size, 1, none⟩ = some (.slice o cs.length c) := by rw [cell_of_row w1 _ _ _ _ (0, 0) hf1]; rfl
  have HV1 : Hid (ClsAt w1 (.slice o cs.length c) cs) := HV.out.below hb1
  have HS : Hid (sizC cs ≤ 1000) := hs
  have HLN : Hid (cs.length ≤ 1000) := by have := sizC_len cs; unfold Hid; omega
  have HX : Hid (∀ c ∈ cs, ∀ x ∈ c, -1000000 ≤ x ∧ x ≤ 1000000) := hx
  have HW1 : Hid (w.alloc (.cells #[.int .i64 n, .slice o cs.length c] 24) = w1) := hw1.symm
  have HB1 : Hid (Below w.heap.size w w1) := hb1
  obtain ⟨t1, ht1⟩ : ∃ t1 : ByteArray, t1 = ⟨(Lib.itoa n).toArray⟩ := ⟨_, rfl⟩
  obtain ⟨t2, ht2⟩ : ∃ t2 : ByteArray, t2 = ⟨(Lib.itoa (cs.length : Int)).toArray⟩ := ⟨_, rfl⟩
  have HD1 : Hid (∀ W, Calls Tryz.prog 24 #[.int .i64 n] W fun e w' => e = .returned (.string t1) ∧ Below W.heap.size W w') := fun W => by rw [ht1]; exact decimal_any n (by omega) (by omega) W
  have HD2 : Hid (∀ W, Calls Tryz.prog 24 #[.int .i64 (cs.length : Int)] W fun e w' => e = .returned (.string t2) ∧ Below W.heap.size W w') := fun W => by rw [ht2]; exact decimal_any _ (by omega) (by have := HLN.out; omega) W
  have hz1 : t1.size ≤ 21 := by rw [ht1]; exact itoa_size (by unfold I64; omega)
  have hz2 : t2.size ≤ 21 := by rw [ht2]; exact itoa_size (by have := HLN.out; unfold I64; omega)
  have HTOP : Hid (((((⟨#[112, 32, 99, 110, 102, 32]⟩ ++ t1) ++ ⟨#[32]⟩) ++ t2) ++ (⟨#[10]⟩ : ByteArray)).data.toList = topC n cs) := by
    unfold Hid topC headB numB
    rw [str_app, str_app, str_app, str_app, ht1, ht2]
    simp
  have ez1 : ¬ 9223372036854775807 < 6 + t1.size := by omega
  have ez2 : ¬ 9223372036854775807 < 6 + t1.size + 1 := by omega
  have ez3 : ¬ 9223372036854775807 < 6 + t1.size + 1 + t2.size := by omega
  have ez4 : ¬ 9223372036854775807 < 6 + t1.size + 1 + t2.size + 1 := by omega
  clear hs hn hx hw1 hb1 hf1 HV ht1 ht2
  go_enter Tryz.func11, Tryz.ntmps11
  go_wp2
  rw [HW1.out]
  go_region_held3 (fun w' => w'.cell? ⟨w.heap.size, 0, none⟩ = some (.int .i64 n) ∧ w'.cell? ⟨w.heap.size, 1, none⟩ = some (.slice o cs.length c)) ((first | exact ⟨k0, k1⟩ | exact ⟨j0, j1⟩ | exact ⟨z0, z1⟩))
    (first
      | (go_at_call 24; (with_reducible refine Calls.mono (HD2.out _) ?_); rintro e w3 ⟨rfl, hb3⟩; have k0 := cell_keep hb3 j0; have k1 := cell_keep hb3 j1)
      | (go_at_call 24; (with_reducible refine Calls.mono (HD1.out _) ?_); rintro e w2 ⟨rfl, hb2⟩; have j0 := cell_keep hb2 z0; have j1 := cell_keep hb2 z1))
  rename_i hheld
  clear hheld
  obtain ⟨out, hout⟩ : ∃ out : ByteArray, out = ((((⟨#[112, 32, 99, 110, 102, 32]⟩ ++ t1) ++ ⟨#[32]⟩) ++ t2) ++ (⟨#[10]⟩ : ByteArray)) := ⟨_, rfl⟩
  have HO0 : Hid (out.data.toList = topC n cs ∧ out.size ≤ 100) := by
    unfold Hid
    rw [hout]
    refine ⟨HTOP.out, ?_⟩
    rw [Lib.size_eq, str_app, str_app, str_app, str_app]
    simp only [List.length_append, ← Lib.size_eq]
    simp
    omega
  have HB3 : Hid (Below w1.heap.size w1 w3) := (((Below.refl _ _).drew).trans (hb2.mono (Nat.le_refl _))).trans (hb3.mono hb2.size)
  have HZ : Hid (w1.cell? ⟨w.heap.size, 0, none⟩ = some (.int .i64 n) ∧ w1.cell? ⟨w.heap.size, 1, none⟩ = some (.slice o cs.length c)) := ⟨z0, z1⟩
  rw [← hout]
  clear hb2 hb3 j0 j1 k0 k1 z0 z1 ez1 ez2 ez3 ez4 hz1 hz2 hout HTOP HD1 HD2
  go_wp2
  go_loopw [3, 4] (fun s t wr => ∃ (j : Nat) (out : ByteArray), j ≤ cs.length ∧ t = .int .i64 j ∧ s = .string out ∧ Hid (out.data.toList = topC n cs ++ (cs.take j).flatMap clauseB) ∧ Hid (out.size ≤ 100 + 30 * sizC (cs.take j)) ∧ Below w1.heap.size w1 wr) (fun _ t _ => cs.length - (intOf t).toNat)
  case atStart => exact ⟨0, out, Nat.zero_le _, rfl, rfl, by unfold Hid; rw [HO0.out.1]; simp, by unfold Hid; have := HO0.out.2; omega, HB3.out⟩
  case round =>
    obtain ⟨j, out, hj, rfl, rfl, HO, HOS, hb⟩ := hrel
    have HB : Hid (Below w1.heap.size w1 wr) := hb
    have z1 : wr.cell? ⟨w.heap.size, 0 + 1, none⟩ = some (.slice o cs.length c) := cell_keep hb HZ.out.2
    by_cases hjl : j < cs.length
    · obtain ⟨d, hd⟩ : ∃ d, cs[j]? = some d := ⟨_, List.getElem?_eq_getElem hjl⟩
      have hsz := sizC_get hd
      have hsn := sizC_next hd
      have hst := sizC_take cs j
      have hst2 := sizC_take cs (j + 1)
      have HD : Hid (cs[j]? = some d) := hd
      have HFN : Hid ((cs.take (j + 1)).flatMap clauseB = (cs.take j).flatMap clauseB ++ clauseB d) := flat_next hd _
      have HSN : Hid (sizC (cs.take (j + 1)) = sizC (cs.take j) + d.length + 1 ∧ sizC (cs.take (j + 1)) ≤ 1000) := by have := HS.out; unfold Hid; omega
      have HDX : Hid (∀ x ∈ d, -1000000 ≤ x ∧ x ≤ 1000000) := HX.out d (List.mem_of_getElem? hd)
      have HJ : Hid (j < cs.length) := hjl
      have i0' : (0 : Int) ≤ (j : Int) := by omega
      have i1' : (j : Int) < (cs.length : Int) := by omega
      have N4 : Hid (wrap64 ((j : Int) + 1) = (j : Int) + 1) := by have := HLN.out; unfold Hid wrap64; omega
      clear hj hjl hd hsz hsn hst hst2 hb
      go_wp2
      go_loopw [3, 5] (fun s t wq => ∃ (k : Nat) (out : ByteArray), k ≤ d.length ∧ t = .int .i64 k ∧ s = .string out ∧ Hid (out.data.toList = topC n cs ++ (cs.take j).flatMap clauseB ++ (d.take k).flatMap (fun x => numB x 32)) ∧ Hid (out.size ≤ 100 + 30 * (sizC (cs.take j) + k)) ∧ Below w1.heap.size w1 wq) (fun _ t _ => d.length - (intOf t).toNat)
      case atStart => exact ⟨0, out, Nat.zero_le _, rfl, rfl, by unfold Hid; rw [HO.out]; simp, HOS, HB.out⟩
      case round =>
        obtain ⟨k, out2, hk, rfl, rfl, HO2, HOS2, hb2⟩ := hrel
        have HB2 : Hid (Below w1.heap.size w1 wr) := hb2
        have z1 : wr.cell? ⟨w.heap.size, 0 + 1, none⟩ = some (.slice o cs.length c) := cell_keep hb2 HZ.out.2
        obtain ⟨b, off, o', c', e1, q0, hin⟩ := (HV1.out.below hb2).get HD.out
        subst e1
        by_cases hkl : k < d.length
        · obtain ⟨x, hx⟩ : ∃ x, d[k]? = some x := ⟨_, List.getElem?_eq_getElem hkl⟩
          obtain ⟨b', off', rfl, q1⟩ := hin k x hx
          obtain ⟨tx, htx⟩ : ∃ tx : ByteArray, tx = ⟨(Lib.itoa x).toArray⟩ := ⟨_, rfl⟩
          have hxr := HDX.out x (List.mem_of_getElem? hx)
          have HDC : Hid (∀ W, Calls Tryz.prog 24 #[.int .i64 x] W fun e w' => e = .returned (.string tx) ∧ Below W.heap.size W w') := fun W => by rw [htx]; exact decimal_any x (by omega) (by omega) W
          have hzx : tx.size ≤ 21 := by rw [htx]; exact itoa_size (by unfold I64; omega)
          have h1000 := HSN.out
          have hos := HOS2.out
          have HK : Hid (k < d.length) := hkl
          have ez1 : ¬ 9223372036854775807 < out2.size + tx.size := by omega
          have ez2 : ¬ 9223372036854775807 < out2.size + tx.size + 1 := by omega
          have HO3 : Hid ((out2 ++ tx ++ (⟨#[32]⟩ : ByteArray)).data.toList = topC n cs ++ (cs.take j).flatMap clauseB ++ (d.take (k + 1)).flatMap (fun x => numB x 32)) := by
            unfold Hid
            rw [str_app, str_app, HO2.out, flat_next hx, htx]
            simp [numB]
          have HOS3 : Hid ((out2 ++ tx ++ (⟨#[32]⟩ : ByteArray)).size ≤ 100 + 30 * (sizC (cs.take j) + (k + 1))) := by
            unfold Hid
            rw [Lib.size_eq, str_app, str_app]
            simp only [List.length_append, ← Lib.size_eq]
            simp
            omega
          have k0' : (0 : Int) ≤ (k : Int) := by omega
          have k1' : (k : Int) < (d.length : Int) := by omega
          have M4 : Hid (wrap64 ((k : Int) + 1) = (k : Int) + 1) := by unfold Hid wrap64; omega
          clear hk hkl hx hin hb2 htx hxr hzx h1000 hos
          go_wp2_with fail
          refine (HDC.out _).mono ?_
          rintro e w5 ⟨rfl, hb5⟩
          have HB5 : Hid (Below w1.heap.size w1 w5) := HB2.out.trans (hb5.mono HB2.out.size)
          clear hb5 z1 q0 q1
          go_wp2
          exact ⟨⟨k + 1, _, HK.out, by rw [M4.out]; rfl, rfl, HO3, HOS3, HB5.out⟩, by rw [M4.out]; have := HK.out; simp [intOf]; omega⟩
        · obtain rfl : k = d.length := by omega
          have HO3 : Hid ((out2 ++ (⟨#[48, 10]⟩ : ByteArray)).data.toList = topC n cs ++ (cs.take (j + 1)).flatMap clauseB) := by
            unfold Hid
            rw [str_app, HO2.out, HFN.out, List.take_length]
            unfold clauseB numB
            rw [itoa_zero]
            simp
          have h1000 := HSN.out
          have hos := HOS2.out
          have ez1 : ¬ 9223372036854775807 < out2.size + 2 := by omega
          have HOS3 : Hid ((out2 ++ (⟨#[48, 10]⟩ : ByteArray)).size ≤ 100 + 30 * sizC (cs.take (j + 1))) := by
            unfold Hid
            rw [Lib.size_eq, str_app]
            simp only [List.length_append, ← Lib.size_eq]
            simp
            omega
          clear hk hkl hin hb2 h1000 hos
          go_wp2
          exact ⟨⟨j + 1, _, HJ.out, by rw [N4.out]; rfl, rfl, HO3, HOS3, HB2.out⟩, by rw [N4.out]; have := HJ.out; simp [intOf]; omega⟩
    · obtain rfl : j = cs.length := by omega
      have HO3 : Hid (out.data.toList = textC n cs) := by
        have h := HO.out
        rw [List.take_length] at h
        unfold Hid
        rw [h]; unfold topC textC; simp
      have HBF : Hid (Below w.heap.size w wr) := HB1.out.trans (hb.mono HB1.out.size)
      clear hj hjl hb
      go_wp2
      go_ret
      exact ⟨out, rfl, HO3.out, HBF.out⟩
end Go.Proofs.YtlclbidjdhlklaaGreatDoor
