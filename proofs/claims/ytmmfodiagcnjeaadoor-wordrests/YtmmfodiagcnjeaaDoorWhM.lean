/-
  package word: value of / and mod BY CONTRACT.
-/
import Derived.Test.YtmmfodiagcnjeaaDoorWgK
import Derived.Test.YtmmfodiagcnjeaaDoorWhI
import Derived.Test.YtmmfodiagcnjeaaDoorRgD
namespace Go.Proofs.YtmmfodiagcnjeaaDoor
open Go.RowKit Go.Maps

set_option maxRecDepth 100000 in
set_option maxHeartbeats 4000000 in
theorem value_div {G : Nat} {gs : List (Int × Int)} {ins : Nat} {F : Nat → Prop} {w : World} (h : GrAt G gs ins F w) (hl : gs.length + 1020 < 80000) (o : Option Addr) (c : Nat) (a b : List Int) (hv : WordsAt F w (.slice o 2 c) [a, b]) (ha8 : a.length = 8) (hb8 : b.length = 8) (ha : ∀ x ∈ a, HasL gs x) (hb : ∀ x ∈ b, HasL gs x) :
    Calls Tryd.prog 25 #[.agg #[.pointer (some ⟨G, 0, none⟩)], .string ⟨#[47]⟩, .slice o 2 c] w (ValP G gs ins 1020 8 (fun g => ∃ q : List Bool → Nat → Bool, (∀ inp, natF (absB gs inp b) 8 ≠ 0 → natF (q inp) 8 = natF (absB gs inp a) 8 / natF (absB gs inp b) 8) ∧ g = fun inp => opB (bitsL gs inp a 7 ^^ bitsL gs inp b 7) (q inp)) (fun inp => !orF (bitsL gs inp b) 8) F w) := by
  have hb1 : Below w.heap.size w (w.alloc (.cells #[.pointer (some ⟨G, 0, none⟩)] 63)) := (Below.refl _ _).alloc (Nat.le_refl _) _
  have hmv : Mvd F F w (w.alloc (.cells #[.pointer (some ⟨G, 0, none⟩)] 63)) := Mvd.of_below hb1
  obtain ⟨b0, f0, oa, ca, rfl, _, c0, hA⟩ := (hv.move hmv).get (k := 0) rfl
  obtain ⟨b0', f0', ob, cb, e, _, c1, hB⟩ := (hv.move hmv).get (k := 1) rfl
  obtain ⟨rfl, rfl⟩ : b0 = b0' ∧ f0 = f0' := by simpa using e
  have hgg := h.below hb1
  obtain ⟨w1, hw1⟩ : ∃ w1, w1 = w.alloc (.cells #[.pointer (some ⟨G, 0, none⟩)] 63) := ⟨_, rfl⟩
  have m1 : w1.cell? ⟨w.heap.size, 0, none⟩ = some (.pointer (some ⟨G, 0, none⟩)) := by rw [hw1]; simp
  rw [← hw1] at hmv c0 c1 hA hB hgg
  rw [ha8] at c0 hA
  rw [hb8] at c1 hB
  rw [Nat.add_zero] at c0
  obtain ⟨HAL, hHAL⟩ : ∃ p : Prop, p = (∀ x ∈ a, HasL gs x) := ⟨_, rfl⟩
  have HBH : Hid (∀ x ∈ b, HasL gs x) := hb
  have HB8 : Hid (b.length = 8) := hb8
  have HLL : Hid (gs.length + 1020 < 80000) := hl
  have HBW : Hid (LitsAt F w1 (.slice ob 8 cb) b) := hB
  have HQ : Hid (∀ W : World, GrAt G gs ins F W → Mvd F F w1 W → Calls Tryd.prog 51 #[.agg #[.pointer (some ⟨G, 0, none⟩)], .slice oa 8 ca, .slice ob 8 cb] W fun e w' => ∃ (V : Nat) (out : List Int) (gs' : List (Int × Int)) (F' : Nat → Prop) (q : List Bool → Nat → Bool), e = .returned (.slice (some ⟨V, 0, none⟩) 8 8) ∧ out.length = 8 ∧ W.heap.size ≤ V ∧ w'.heap[V]? = some (.cells (rowI out) 34 (0, 0)) ∧ ¬ F' V ∧ GrAt G gs' ins F' w' ∧ Mvd F F' W w' ∧ Mads gs gs' 1010 out (fun inp => opB (bitsL gs inp a 7 ^^ bitsL gs inp b 7) (q inp)) ∧ ∀ inp, natF (absB gs inp b) 8 ≠ 0 → natF (q inp) 8 = natF (absB gs inp a) 8 / natF (absB gs inp b) 8) :=
    fun W gW mW => quotient_any gW oa ob ca cb a b (hA.move mW) (hB.move mW) ha8 hb8 ha hb (by omega)
  have HG1 : Hid (GrAt G gs ins F w1) := hgg
  have HF0 : Hid (¬ F w.heap.size) := fun hf => by have := h.2.2.1 _ hf; omega
  have HMV : Hid (Mvd F F w w1) := hmv
  have HW1 : Hid (w.alloc (.cells #[.pointer (some ⟨G, 0, none⟩)] 63) = w1) := hw1.symm
  clear h hl hv ha8 hb8 ha hb hb1 hmv hw1 hgg hA hB e hHAL HAL
  go_enter Tryd.func25, Tryd.ntmps25
  go_wp2
  rw [HW1.out]
  clear HW1
  go_quiet (fail)
  go_wp2
  have HGz : Hid (GrAt G gs ins F (w1.drewN nq)) := HG1.out
  have HMz : Hid (Mvd F F w1 (w1.drewN nq)) := ⟨rfl, rfl, rfl, Nat.le_refl _, fun _ _ _ => rfl, fun _ h => .inl h⟩
  have m1z : (w1.drewN nq).cell? ⟨w.heap.size, 0, none⟩ = some (.pointer (some ⟨G, 0, none⟩)) := m1
  obtain ⟨wz, hwz⟩ : ∃ wz, wz = w1.drewN nq := ⟨_, rfl⟩
  rw [← hwz] at HGz HMz m1z ⊢
  clear hwz m1 c0 c1
  go_region_held3 (fun w' => w'.cell? ⟨w.heap.size, 0, none⟩ = some (.pointer (some ⟨G, 0, none⟩))) ((first | exact t0.1 | exact s0.1 | go_keep))
    (first
      | (go_at_call 52; refine (isZero_any (by exact g2) _ _ _ b (by exact (HBW.out.move HMz.out).move m2.undrew) HB8.out (fun z hz => (HBH.out z hz).ext d2.ext) (by have := d2.len; have := HLL.out; omega)).mono ?_; rintro e w3 ⟨tr, gs3, F3, rfl, g3, m3, d3⟩; have t0 := m3.cell (by exact s0.1) s0.2)
      | (go_at_call 51; refine (HQ.out wz.drew (by exact HGz.out) ⟨HMz.out.os, HMz.out.tape, HMz.out.output, HMz.out.size, HMz.out.block, HMz.out.more⟩).mono ?_; rintro e w2 ⟨V, out, gs2, F2, q, rfl, h1, h2, h3, h4, g2, m2, d2, x2⟩; have s0 := m2.cell (by exact m1z) HF0.out))
  have HEND : Hid (ValP G gs ins 1020 8 (fun g => ∃ q : List Bool → Nat → Bool, (∀ inp, natF (absB gs inp b) 8 ≠ 0 → natF (q inp) 8 = natF (absB gs inp a) 8 / natF (absB gs inp b) 8) ∧ g = fun inp => opB (bitsL gs inp a 7 ^^ bitsL gs inp b 7) (q inp)) (fun inp => !orF (bitsL gs inp b) 8) F w (.returned (.tuple #[.slice (some ⟨V, 0, none⟩) 8 8, .int .i64 tr])) w3) := by
    have kV := m3.rowKept h3 h4
    have mz := HMV.out.trans HMz.out
    refine ⟨V, out, tr, gs3, F3, rfl, h1, ?_, kV.1, kV.2, g3, (mz.trans m2.undrew).trans m3, ⟨_, ⟨q, x2, rfl⟩, ⟨d2.ext.trans d3.ext, ?_, fun z hz => (d2.has z hz).ext d3.ext, fun inp i z hz => ?_⟩⟩, d3.has, fun inp => ?_⟩
    · have := mz.size; have h2' : wz.heap.size ≤ V := h2; omega
    · have := d2.len; have := d3.len; omega
    · rw [d3.ext.val inp (d2.has z (List.mem_of_getElem? hz)), d2.val inp i z hz]
    · rw [d3.val inp, show bitsL gs2 inp b = bitsL gs inp b from funext fun j => bitsL_more d2.ext inp HBH.out j]
  rename_i hheld
  clear hheld h1 h2 h3 h4 g2 m2 d2 x2 s0 t0 g3 m3 d3 m1z
  go_wp2
  go_ret2
  exact HEND.out
set_option maxRecDepth 100000 in
set_option maxHeartbeats 4000000 in
theorem value_mod {G : Nat} {gs : List (Int × Int)} {ins : Nat} {F : Nat → Prop} {w : World} (h : GrAt G gs ins F w) (hl : gs.length + 1020 < 80000) (o : Option Addr) (c : Nat) (a b : List Int) (hv : WordsAt F w (.slice o 2 c) [a, b]) (ha8 : a.length = 8) (hb8 : b.length = 8) (ha : ∀ x ∈ a, HasL gs x) (hb : ∀ x ∈ b, HasL gs x) :
    Calls Tryd.prog 25 #[.agg #[.pointer (some ⟨G, 0, none⟩)], .string ⟨#[109, 111, 100]⟩, .slice o 2 c] w (ValP G gs ins 1020 8 (fun g => ∃ q : List Bool → Nat → Bool, (∀ inp, natF (absB gs inp b) 8 ≠ 0 → natF (q inp) 8 = natF (absB gs inp a) 8 % natF (absB gs inp b) 8) ∧ g = fun inp => opB (bitsL gs inp a 7) (q inp)) (fun inp => !orF (bitsL gs inp b) 8) F w) := by
  have hb1 : Below w.heap.size w (w.alloc (.cells #[.pointer (some ⟨G, 0, none⟩)] 63)) := (Below.refl _ _).alloc (Nat.le_refl _) _
  have hmv : Mvd F F w (w.alloc (.cells #[.pointer (some ⟨G, 0, none⟩)] 63)) := Mvd.of_below hb1
  obtain ⟨b0, f0, oa, ca, rfl, _, c0, hA⟩ := (hv.move hmv).get (k := 0) rfl
  obtain ⟨b0', f0', ob, cb, e, _, c1, hB⟩ := (hv.move hmv).get (k := 1) rfl
  obtain ⟨rfl, rfl⟩ : b0 = b0' ∧ f0 = f0' := by simpa using e
  have hgg := h.below hb1
  obtain ⟨w1, hw1⟩ : ∃ w1, w1 = w.alloc (.cells #[.pointer (some ⟨G, 0, none⟩)] 63) := ⟨_, rfl⟩
  have m1 : w1.cell? ⟨w.heap.size, 0, none⟩ = some (.pointer (some ⟨G, 0, none⟩)) := by rw [hw1]; simp
  rw [← hw1] at hmv c0 c1 hA hB hgg
  rw [ha8] at c0 hA
  rw [hb8] at c1 hB
  rw [Nat.add_zero] at c0
  obtain ⟨HAL, hHAL⟩ : ∃ p : Prop, p = (∀ x ∈ a, HasL gs x) := ⟨_, rfl⟩
  have HBH : Hid (∀ x ∈ b, HasL gs x) := hb
  have HB8 : Hid (b.length = 8) := hb8
  have HLL : Hid (gs.length + 1020 < 80000) := hl
  have HBW : Hid (LitsAt F w1 (.slice ob 8 cb) b) := hB
  have HQ : Hid (∀ W : World, GrAt G gs ins F W → Mvd F F w1 W → Calls Tryd.prog 53 #[.agg #[.pointer (some ⟨G, 0, none⟩)], .slice oa 8 ca, .slice ob 8 cb] W fun e w' => ∃ (V : Nat) (out : List Int) (gs' : List (Int × Int)) (F' : Nat → Prop) (q : List Bool → Nat → Bool), e = .returned (.slice (some ⟨V, 0, none⟩) 8 8) ∧ out.length = 8 ∧ W.heap.size ≤ V ∧ w'.heap[V]? = some (.cells (rowI out) 34 (0, 0)) ∧ ¬ F' V ∧ GrAt G gs' ins F' w' ∧ Mvd F F' W w' ∧ Mads gs gs' 1010 out (fun inp => opB (bitsL gs inp a 7) (q inp)) ∧ ∀ inp, natF (absB gs inp b) 8 ≠ 0 → natF (q inp) 8 = natF (absB gs inp a) 8 % natF (absB gs inp b) 8) :=
    fun W gW mW => rest_any gW oa ob ca cb a b (hA.move mW) (hB.move mW) ha8 hb8 ha hb (by omega)
  have HG1 : Hid (GrAt G gs ins F w1) := hgg
  have HF0 : Hid (¬ F w.heap.size) := fun hf => by have := h.2.2.1 _ hf; omega
  have HMV : Hid (Mvd F F w w1) := hmv
  have HW1 : Hid (w.alloc (.cells #[.pointer (some ⟨G, 0, none⟩)] 63) = w1) := hw1.symm
  clear h hl hv ha8 hb8 ha hb hb1 hmv hw1 hgg hA hB e hHAL HAL
  go_enter Tryd.func25, Tryd.ntmps25
  go_wp2
  rw [HW1.out]
  clear HW1
  go_quiet (fail)
  go_wp2
  have HGz : Hid (GrAt G gs ins F (w1.drewN nq)) := HG1.out
  have HMz : Hid (Mvd F F w1 (w1.drewN nq)) := ⟨rfl, rfl, rfl, Nat.le_refl _, fun _ _ _ => rfl, fun _ h => .inl h⟩
  have m1z : (w1.drewN nq).cell? ⟨w.heap.size, 0, none⟩ = some (.pointer (some ⟨G, 0, none⟩)) := m1
  obtain ⟨wz, hwz⟩ : ∃ wz, wz = w1.drewN nq := ⟨_, rfl⟩
  rw [← hwz] at HGz HMz m1z ⊢
  clear hwz m1 c0 c1
  go_region_held3 (fun w' => w'.cell? ⟨w.heap.size, 0, none⟩ = some (.pointer (some ⟨G, 0, none⟩))) ((first | exact t0.1 | exact s0.1 | go_keep))
    (first
      | (go_at_call 52; refine (isZero_any (by exact g2) _ _ _ b (by exact (HBW.out.move HMz.out).move m2.undrew) HB8.out (fun z hz => (HBH.out z hz).ext d2.ext) (by have := d2.len; have := HLL.out; omega)).mono ?_; rintro e w3 ⟨tr, gs3, F3, rfl, g3, m3, d3⟩; have t0 := m3.cell (by exact s0.1) s0.2)
      | (go_at_call 53; refine (HQ.out wz.drew (by exact HGz.out) ⟨HMz.out.os, HMz.out.tape, HMz.out.output, HMz.out.size, HMz.out.block, HMz.out.more⟩).mono ?_; rintro e w2 ⟨V, out, gs2, F2, q, rfl, h1, h2, h3, h4, g2, m2, d2, x2⟩; have s0 := m2.cell (by exact m1z) HF0.out))
  have HEND : Hid (ValP G gs ins 1020 8 (fun g => ∃ q : List Bool → Nat → Bool, (∀ inp, natF (absB gs inp b) 8 ≠ 0 → natF (q inp) 8 = natF (absB gs inp a) 8 % natF (absB gs inp b) 8) ∧ g = fun inp => opB (bitsL gs inp a 7) (q inp)) (fun inp => !orF (bitsL gs inp b) 8) F w (.returned (.tuple #[.slice (some ⟨V, 0, none⟩) 8 8, .int .i64 tr])) w3) := by
    have kV := m3.rowKept h3 h4
    have mz := HMV.out.trans HMz.out
    refine ⟨V, out, tr, gs3, F3, rfl, h1, ?_, kV.1, kV.2, g3, (mz.trans m2.undrew).trans m3, ⟨_, ⟨q, x2, rfl⟩, ⟨d2.ext.trans d3.ext, ?_, fun z hz => (d2.has z hz).ext d3.ext, fun inp i z hz => ?_⟩⟩, d3.has, fun inp => ?_⟩
    · have := mz.size; have h2' : wz.heap.size ≤ V := h2; omega
    · have := d2.len; have := d3.len; omega
    · rw [d3.ext.val inp (d2.has z (List.mem_of_getElem? hz)), d2.val inp i z hz]
    · rw [d3.val inp, show bitsL gs2 inp b = bitsL gs inp b from funext fun j => bitsL_more d2.ext inp HBH.out j]
  rename_i hheld
  clear hheld h1 h2 h3 h4 g2 m2 d2 x2 s0 t0 g3 m3 d3 m1z
  go_wp2
  go_ret2
  exact HEND.out
end Go.Proofs.YtmmfodiagcnjeaaDoor

/-
  Quotient and rest with signs, as mathematics.
-/
namespace Go.Proofs.YtmmfodiagcnjeaaDoor
open Go.RowKit Go.Maps

theorem opp_num (t : Bool) (x : Nat → Bool) : natF (opB t x) 8 = (if t = true then -natF x 8 else natF x 8) % 256 := by
  have h1 := natF_lt x 8
  have h2 := natF_lt (opB t x) 8
  have e8 : (2 : Int) ^ 8 = 256 := by decide
  rw [e8] at h1 h2
  cases t with
  | false => rw [opp_off]; simp only [Bool.false_eq_true, if_false]; omega
  | true =>
    have h3 := opp_on x 8
    rw [e8] at h3
    simp only [if_true]
    rcases bI_cases (abv true x 8) with ⟨_, h⟩ | ⟨_, h⟩ <;> rw [h] at h3 <;> omega
theorem mod_ring (x y z : Int) : (x % 256 * (y % 256) + z % 256) % 256 = (x * y + z) % 256 := by
  rw [Int.add_emod, ← Int.mul_emod, Int.emod_emod_of_dvd _ (Int.dvd_refl 256), ← Int.add_emod]
/-- What was divided is the product and the rest again. -/
theorem rest_num (A B q r : Nat → Bool) (hB : natF B 8 ≠ 0)
    (hq : natF (opB (B 7) B) 8 ≠ 0 → natF q 8 = natF (opB (A 7) A) 8 / natF (opB (B 7) B) 8) (hr : natF (opB (B 7) B) 8 ≠ 0 → natF r 8 = natF (opB (A 7) A) 8 % natF (opB (B 7) B) 8) :
    (natF (opB (A 7 ^^ B 7) q) 8 * natF B 8 + natF (opB (A 7) r) 8) % 256 = natF A 8 := by
  have e8 : (2 : Int) ^ 8 = 256 := by decide
  have hA1 := natF_lt A 8
  have hB1 := natF_lt B 8
  rw [e8] at hA1 hB1
  have ea := opp_num (A 7) A
  have eb := opp_num (B 7) B
  obtain ⟨sa, hsa⟩ : ∃ sa, sa = A 7 := ⟨_, rfl⟩
  obtain ⟨sb, hsb⟩ : ∃ sb, sb = B 7 := ⟨_, rfl⟩
  rw [← hsa] at ea hq hr ⊢
  rw [← hsb] at eb hq hr ⊢
  obtain ⟨a, ha⟩ : ∃ a, a = natF (opB sa A) 8 := ⟨_, rfl⟩
  obtain ⟨b, hb⟩ : ∃ b, b = natF (opB sb B) 8 := ⟨_, rfl⟩
  rw [← ha] at ea hq hr
  rw [← hb] at eb hq hr
  have hb0 : b ≠ 0 := by
    cases sb with
    | false => simp only [Bool.false_eq_true, if_false] at eb; omega
    | true => simp only [if_true] at eb; omega
  have hq := hq hb0
  have hr := hr hb0
  have hdm := Int.mul_ediv_add_emod a b
  rw [← hq, ← hr] at hdm
  have eB : natF B 8 = (if sb = true then -b else b) % 256 := by
    cases sb with
    | false => simp only [Bool.false_eq_true, if_false] at eb ⊢; omega
    | true => simp only [if_true] at eb ⊢; omega
  have eA : natF A 8 = (if sa = true then -a else a) % 256 := by
    cases sa with
    | false => simp only [Bool.false_eq_true, if_false] at ea ⊢; omega
    | true => simp only [if_true] at ea ⊢; omega
  rw [opp_num, opp_num, eB, eA, mod_ring]
  congr 1
  cases sa <;> cases sb <;> simp <;> rw [← hdm] <;> simp [Int.mul_comm b, Int.neg_add, Int.neg_mul, Int.mul_neg]
end Go.Proofs.YtmmfodiagcnjeaaDoor

/-
  word.Of of / and mod, as a statement calls it.
-/
namespace Go.Proofs.YtmmfodiagcnjeaaDoor
open Go.RowKit Go.Maps

theorem ask_div {a b : List Int} (ha : a.length = 8) (hb : b.length = 8) : askB [47] [a, b] = true := by
  unfold askB
  rw [kinds_two ha hb]
  have : (resK [47] [2, 2]).isSome = true := by decide
  rw [this]; rfl
theorem ask_mod {a b : List Int} (ha : a.length = 8) (hb : b.length = 8) : askB [109, 111, 100] [a, b] = true := by
  unfold askB
  rw [kinds_two ha hb]
  have : (resK [109, 111, 100] [2, 2]).isSome = true := by decide
  rw [this]; rfl
/-- What Of answers, as a statement sees it. -/
def OfN (W : World) (G : Nat) (gs : List (Int × Int)) (ins : Nat) (Pr : (List Bool → Nat → Bool) → Prop) (tf : List Bool → Bool) (F : Nat → Prop) (w : World) (e : Ending) (w' : World) : Prop :=
  ∃ (V : Nat) (out : List Int) (tr : Int) (gs' : List (Int × Int)) (F' : Nat → Prop) (f : List Bool → Nat → Bool), e = .returned (.tuple #[.slice (some ⟨V, 0, none⟩) 8 8, .int .i64 tr, .nilIface]) ∧ Sq W G gs' ins F' w' ∧ Mvd F F' w w' ∧ Ext gs gs' ∧ gs'.length ≤ gs.length + 1020 ∧ Wd gs' F' w' (some ⟨V, 0, none⟩) 8 out ∧ HasL gs' tr ∧ (∀ inp, valL gs' inp tr = tf inp) ∧ Pr f ∧ ∀ inp, numW gs' inp out = natF (f inp) 8
theorem lof_any {W : World} (S : Errs W) {G : Nat} {gs : List (Int × Int)} {ins : Nat} {F : Nat → Prop} {w : World} (h : Sq W G gs ins F w) (s : ByteArray) (hs : s.size ≤ maxLen) (oa ob : Option Addr) (ca cb : Nat) (x y : List Int) (hx : Wd gs F w oa ca x) (hy : Wd gs F w ob cb y) (hl : gs.length < 89000) (Pr : (List Bool → Nat → Bool) → Prop) (tf : List Bool → Bool) (hk : askB s.data.toList [x, y] = true)
    (hval : ∀ F1 w1 o c, GrAt G gs ins F1 w1 → WordsAt F1 w1 (.slice o 2 c) [x, y] → Calls Tryd.prog 25 #[.agg #[.pointer (some ⟨G, 0, none⟩)], .string s, .slice o 2 c] w1 (ValP G gs ins 1020 8 Pr tf F1 w1)) :
    Calls Tryd.prog 9 #[.pointer (some ⟨G, 0, none⟩), .string s, .slice (some ⟨w.heap.size, 0, none⟩) 2 2] (w.alloc (.cells #[.slice oa 8 ca, .slice ob 8 cb] 31)) (OfN W G gs ins Pr tf F w) := by
  obtain ⟨⟨et, eq, he⟩, ⟨st, sq, hsh⟩⟩ := S
  have hb1 : Below w.heap.size w (w.alloc (.cells #[.slice oa 8 ca, .slice ob 8 cb] 31)) := (Below.refl _ _).alloc (Nat.le_refl _) _
  have hm : Mvd F F w (w.alloc (.cells #[.slice oa 8 ca, .slice ob 8 cb] 31)) := Mvd.of_below hb1
  refine (of_any (h.gr.below hb1) hl s hs (some ⟨w.heap.size, 0, none⟩) 2 2 [x, y] (words_two hx.at_ hy.at_ hx.len hy.len h.gr.2.2.1 _) rfl (fun l hl z hz => by
      simp at hl
      rcases hl with rfl | rfl
      · exact hx.has z hz
      · exact hy.has z hz) et st eq sq (cell_keep hb1 (cell_keep h.bel he)) (cell_keep hb1 (cell_keep h.bel hsh)) 1020 8 Pr tf (fun _ F1 w1 g1 v1 => hval F1 w1 _ _ g1 v1)).mono ?_
  rintro e w2 (⟨_, uv, tv, rfl, V, out, tr, gs', F', rfl, rfl, h1, h2, h3, h4, h5, h6, ⟨f, hf, h7⟩, h8, h9⟩ | ⟨hk', _⟩)
  · have hlit : LitsAt F' w2 (.slice (some ⟨V, 0, none⟩) 8 8) out := by have := lits_row (c := 8) h3 h4 (by omega); rw [h1] at this; exact this
    exact ⟨V, out, tr, gs', F', f, rfl, h.step (hm.trans h6) h5, hm.trans h6, h7.ext, h7.len, ⟨hlit, h1, h7.has⟩, h8, h9, hf, fun inp => numW_of h7 h1 inp⟩
  · exact absurd hk (by rw [hk']; simp)
end Go.Proofs.YtmmfodiagcnjeaaDoor

/-
  lustrumlaw3.WordRests, WALKED: it answers true.
-/
namespace Go.Proofs.YtmmfodiagcnjeaaDoor
open Go.RowKit Go.Maps

theorem inp_val (n k : Nat) (inp : List Bool) (hk : k < n) : valL (inps n) inp (2 * (k : Int) + 2) = inp.getD k false := by
  have e : inps n = (inps k ++ [(0, 0)]) ++ inps (n - (k + 1)) := by rw [inps_succ]; unfold inps; rw [List.replicate_append_replicate]; congr 1; omega
  have hh : HasL (inps k ++ [(0, 0)]) (2 * (k : Int) + 2) := by unfold HasL; rw [List.length_append, inps_length]; simp; omega
  rw [e, val_more _ _ _ hh]
  have := val_input (inps k) inp
  rw [inps_length, inps_cnt] at this
  exact this
theorem inp_num {n i : Nat} {l : List Int} {x : Int} (hi : 8 * i + 8 ≤ n) (hx : l[i]? = some x) : numW (inps n) (bitsAll l) (inpW i) = x % 256 := by
  unfold numW
  rw [← natF_bits8 x]
  refine natF_congr fun j hj => ?_
  obtain ⟨z, hz⟩ : ∃ z, (inpW i)[j]? = some z := ⟨_, List.getElem?_eq_getElem (by rw [inpW_length]; exact hj)⟩
  rw [bitsL_get hz, (inpW_get hz).2, inp_val n (8 * i + j) _ (by omega), bitsAll_get l i j x hx hj]
end Go.Proofs.YtmmfodiagcnjeaaDoor

/-
  lustrumlaw3.WordRests, WALKED: it answers true.
-/
namespace Go.Proofs.YtmmfodiagcnjeaaDoor
open Go.RowKit Go.Maps

set_option maxRecDepth 100000 in
set_option maxHeartbeats 8000000 in
theorem wordRests_walk (w : World) (S : Errs w) (na nb : Int) :
    Calls Tryd.prog 7 #[.int .i64 na, .int .i64 nb] w fun e w' => e = .returned (.bool true) ∧ Below w.heap.size w w' := by
  have HS : Hid (Errs w) := S
  clear S
  go_enter Tryd.func7, Tryd.ntmps7
  go_wp2_with fail
  refine (five_any w).mono ?_
  rintro e w1 ⟨rfl, hb1⟩
  have hg1 := new_graph w1 28
  have hq1 : Sq w w1.heap.size [] 0 (fun k => k = w1.heap.size) (w1.alloc (.cells #[.slice none 0 0, .map none, .int .i64 0] 28)) := ⟨hg1, hb1.alloc hb1.size _, fun k hk => by rw [hk]; exact hb1.size⟩
  obtain ⟨G, hG⟩ : ∃ G, G = w1.heap.size := ⟨_, rfl⟩
  have HW := wordsOf_any hg1 2 (by omega)
  rw [← hG] at hq1 HW
  have HWO : Hid (Calls Tryd.prog 19 #[.pointer (some ⟨G, 0, none⟩), .int .i64 2] (w1.alloc (.cells #[.slice none 0 0, .map none, .int .i64 0] 28)) fun e w' => ∃ (o : Option Addr) (c : Nat) (F' : Nat → Prop), e = .returned (.tuple #[.slice o 2 c, .bool true]) ∧ GrAt G (inps (8 * 2)) (8 * 2) F' w' ∧ Mvd (fun k => k = G) F' (w1.alloc (.cells #[.slice none 0 0, .map none, .int .i64 0] 28)) w' ∧ WordsAt F' w' (.slice o 2 c) ((List.range 2).map inpW)) := HW
  have HQ1 : Hid (Sq w G [] 0 (fun k => k = G) (w1.alloc (.cells #[.slice none 0 0, .map none, .int .i64 0] 28))) := hq1
  have HGE : Hid (w1.heap.size = G) := hG.symm
  clear hg1 hq1 HW hG hb1
  go_wp2_with fail
  rw [HGE.out]
  refine HWO.out.mono ?_
  rintro e w2 ⟨qo, qc, F2, rfl, g2, m2, hws⟩
  obtain ⟨qb, qf, o0, c0, rfl, hnq, q0, l0⟩ := hws.get (k := 0) rfl
  obtain ⟨qb', qf', o1, c1, e1, _, q1, l1⟩ := hws.get (k := 1) rfl
  obtain ⟨rfl, rfl⟩ : qb = qb' ∧ qf = qf' := by simpa using e1
  have HQ2 : Hid (Sq w G (inps 16) 16 F2 w2) := HQ1.out.step m2 g2
  have W0 : Hid (Wd (inps 16) F2 w2 o0 c0 (inpW 0)) := wd_inp l0 (by omega)
  have W1 : Hid (Wd (inps 16) F2 w2 o1 c1 (inpW 1)) := wd_inp l1 (by omega)
  have HNQ : Hid (¬ F2 qb) := hnq
  rw [inpW_length] at q0 q1
  rw [Nat.add_zero] at q0
  clear g2 m2 hws l0 l1 e1 hnq HWO HQ1
  have L16 : Hid ((inps 16).length = 16) := inps_length 16
  go_wp2
  go_region_held3 (fun w' => w'.cell? ⟨qb, qf, none⟩ = some (.slice o0 8 c0) ∧ w'.cell? ⟨qb, qf + 1, none⟩ = some (.slice o1 8 c1)) ((first | go_keep | exact ⟨r0.1, r1.1⟩))
    (first
      | (go_at_call 9; refine (lof_any HS.out HQ2.out.drewR ⟨#[47]⟩ (by decide) _ _ _ _ (inpW 0) (inpW 1) W0.out.drewR W1.out.drewR (by have := L16.out; omega) _ _ (ask_div (inpW_length 0) (inpW_length 1)) (fun F1 w1 o c g1 v1 => value_div g1 (by have := L16.out; omega) o c (inpW 0) (inpW 1) v1 (inpW_length 0) (inpW_length 1) W0.out.has W1.out.has)).mono ?_; rintro e w3 ⟨VQ, lQ, tQ, gs3, F3, fQ, rfl, Q3, M3, E3, N3, D3, T3, X3, P3, Y3⟩; have r0 := M3.cell (by exact q0) HNQ.out; have r1 := M3.cell (by exact q1) HNQ.out))
  obtain ⟨qq, hqq, rfl⟩ := P3
  have M23 : Mvd F2 F3 w2 w3 := M3.undrew
  have HQ3 : Hid (Sq w G gs3 16 F3 w3) := Q3
  have W03 : Hid (Wd gs3 F3 w3 o0 c0 (inpW 0)) := W0.out.move M23 E3
  have W13 : Hid (Wd gs3 F3 w3 o1 c1 (inpW 1)) := W1.out.move M23 E3
  have DQ3 : Hid (Wd gs3 F3 w3 (some ⟨VQ, 0, none⟩) 8 lQ) := D3
  have HT3 : Hid (HasL gs3 tQ) := T3
  have HE3 : Hid (Ext (inps 16) gs3) := E3
  have HX3 : Hid (∀ inp, valL gs3 inp tQ = !orF (bitsL (inps 16) inp (inpW 1)) 8) := X3
  have HQQ : Hid (∀ inp, natF (absB (inps 16) inp (inpW 1)) 8 ≠ 0 → natF (qq inp) 8 = natF (absB (inps 16) inp (inpW 0)) 8 / natF (absB (inps 16) inp (inpW 1)) 8) := hqq
  have HY3 : Hid (∀ inp, numW gs3 inp lQ = natF (opB (bitsL (inps 16) inp (inpW 0) 7 ^^ bitsL (inps 16) inp (inpW 1) 7) (qq inp)) 8) := Y3
  have L3 : Hid (gs3.length ≤ 1036) := by have := L16.out; unfold Hid; omega
  have HN3 : Hid (¬ F3 qb) := r0.2
  have q0 := r0.1
  have q1 := r1.1
  rename_i hheld
  clear hheld M23 Q3 M3 E3 N3 D3 T3 X3 Y3 hqq r0 r1 HQ2 HNQ
  go_wp2
  go_region_held3 (fun w' => w'.cell? ⟨qb, qf, none⟩ = some (.slice o0 8 c0) ∧ w'.cell? ⟨qb, qf + 1, none⟩ = some (.slice o1 8 c1)) ((first | go_keep | exact ⟨r0.1, r1.1⟩))
    (first
      | (go_at_call 9; refine (lof_any HS.out HQ3.out.drewR ⟨#[109, 111, 100]⟩ (by decide) _ _ _ _ (inpW 0) (inpW 1) W03.out.drewR W13.out.drewR (by have := L3.out; omega) _ _ (ask_mod (inpW_length 0) (inpW_length 1)) (fun F1 w1 o c g1 v1 => value_mod g1 (by have := L3.out; omega) o c (inpW 0) (inpW 1) v1 (inpW_length 0) (inpW_length 1) W03.out.has W13.out.has)).mono ?_; rintro e w4 ⟨VR, lR, tR, gs4, F4, fR, rfl, Q4, M4, E4, N4, D4, T4, X4, P4, Y4⟩; have r0 := M4.cell (by exact q0) HN3.out; have r1 := M4.cell (by exact q1) HN3.out))
  obtain ⟨rr, hrr, rfl⟩ := P4
  have M34 : Mvd F3 F4 w3 w4 := M4.undrew
  have hb0 : ∀ inp, bitsL gs3 inp (inpW 0) = bitsL (inps 16) inp (inpW 0) := fun inp => funext fun j => bitsL_more HE3.out inp (inpW_has (by omega)) j
  have hb1 : ∀ inp, bitsL gs3 inp (inpW 1) = bitsL (inps 16) inp (inpW 1) := fun inp => funext fun j => bitsL_more HE3.out inp (inpW_has (by omega)) j
  have HQ4 : Hid (Sq w G gs4 16 F4 w4) := Q4
  have W04 : Hid (Wd gs4 F4 w4 o0 c0 (inpW 0)) := W03.out.move M34 E4
  have W14 : Hid (Wd gs4 F4 w4 o1 c1 (inpW 1)) := W13.out.move M34 E4
  have DQ4 : Hid (Wd gs4 F4 w4 (some ⟨VQ, 0, none⟩) 8 lQ) := DQ3.out.move M34 E4
  have DR4 : Hid (Wd gs4 F4 w4 (some ⟨VR, 0, none⟩) 8 lR) := D4
  have HTQ4 : Hid (HasL gs4 tQ) := HT3.out.ext E4
  have HTR4 : Hid (HasL gs4 tR) := T4
  have HE4 : Hid (Ext (inps 16) gs4) := HE3.out.trans E4
  have HXQ4 : Hid (∀ inp, valL gs4 inp tQ = !orF (bitsL (inps 16) inp (inpW 1)) 8) := fun inp => by rw [E4.val inp HT3.out, HX3.out inp]
  have HXR4 : Hid (∀ inp, valL gs4 inp tR = !orF (bitsL (inps 16) inp (inpW 1)) 8) := fun inp => by rw [X4 inp, hb1 inp]
  have HRR : Hid (∀ inp, natF (absB (inps 16) inp (inpW 1)) 8 ≠ 0 → natF (rr inp) 8 = natF (absB (inps 16) inp (inpW 0)) 8 % natF (absB (inps 16) inp (inpW 1)) 8) := fun inp hB => by
    have e0 : absB gs3 inp (inpW 0) = absB (inps 16) inp (inpW 0) := by unfold absB; rw [hb0 inp]
    have e1 : absB gs3 inp (inpW 1) = absB (inps 16) inp (inpW 1) := by unfold absB; rw [hb1 inp]
    have := hrr inp (by rw [e1]; exact hB)
    rw [e0, e1] at this
    exact this
  have HYQ4 : Hid (∀ inp, numW gs4 inp lQ = natF (opB (bitsL (inps 16) inp (inpW 0) 7 ^^ bitsL (inps 16) inp (inpW 1) 7) (qq inp)) 8) := fun inp => by rw [numW_ext E4 inp DQ3.out.len DQ3.out.has, HY3.out inp]
  have HYR4 : Hid (∀ inp, numW gs4 inp lR = natF (opB (bitsL (inps 16) inp (inpW 0) 7) (rr inp)) 8) := fun inp => by rw [Y4 inp]; show natF (opB (bitsL gs3 inp (inpW 0) 7) (rr inp)) 8 = _; rw [hb0 inp]
  have L4 : Hid (gs4.length ≤ 2056) := by have := L3.out; unfold Hid; omega
  have HN4 : Hid (¬ F4 qb) := r0.2
  have q0 := r0.1
  have q1 := r1.1
  rename_i hheld
  clear hheld M34 hb0 hb1 Q4 M4 E4 N4 D4 T4 X4 Y4 hrr r0 r1 HQ3 HN3 HT3 HX3 HY3 L3 HE3 W03 W13 DQ3
  go_wp2_with fail
  refine (ltimes_any HS.out HQ4.out _ _ _ _ lQ (inpW 1) DQ4.out W14.out (by have := L4.out; omega)).mono ?_
  rintro e w5 ⟨VP, lP, gs5, F5, rfl, Q5, M5, E5, N5, D5, X5⟩
  have r0 := M5.cell q0 HN4.out
  have r1 := M5.cell q1 HN4.out
  have HADD : Hid (Calls Tryd.prog 20 #[.pointer (some ⟨G, 0, none⟩), .string ⟨#[43]⟩, .slice (some ⟨VP, 0, none⟩) 8 8, .slice (some ⟨VR, 0, none⟩) 8 8] w5 (MadeN w G gs5 16 72 (fun inp => (numW gs5 inp lP + numW gs5 inp lR) % 256) F5 w5)) := lplus_any HS.out Q5 _ _ _ _ lP lR D5 (DR4.out.move M5 E5) (by have := L4.out; omega)
  have q0 := r0.1
  have q1 := r1.1
  have HM5 : Hid (Mvd F4 F5 w4 w5) := M5
  have HE5 : Hid (Ext gs4 gs5) := E5
  have HN5 : Hid (¬ F5 qb) := r0.2
  have HX5 : Hid (∀ inp, numW gs5 inp lP = (numW gs4 inp lQ * numW gs4 inp (inpW 1)) % 256) := X5
  have L5 : Hid (gs5.length ≤ 2700) := by have := L4.out; unfold Hid; omega
  clear r0 r1 Q5 M5 E5 N5 D5 X5 HN4
  go_wp2_with fail
  refine HADD.out.mono ?_
  rintro e w6 ⟨VB, lB, gs6, F6, rfl, Q6, M6, E6, N6, D6, X6⟩
  have M46 : Mvd F4 F6 w4 w6 := HM5.out.trans M6
  have E46 : Ext gs4 gs6 := HE5.out.trans E6
  have r0 := M6.cell q0 HN5.out
  have q0 := r0.1
  have HR0 : Hid (w6.cell? ⟨qb, qf, none⟩ = some (.slice o0 8 c0) ∧ ¬ F6 qb) := r0
  have HQ6 : Hid (Sq w G gs6 16 F6 w6) := Q6
  have DB6 : Hid (Wd gs6 F6 w6 (some ⟨VB, 0, none⟩) 8 lB) := D6
  have W06 : Hid (Wd gs6 F6 w6 o0 c0 (inpW 0)) := W04.out.move M46 E46
  have HTQ6 : Hid (HasL gs6 tQ) := HTQ4.out.ext E46
  have HTR6 : Hid (HasL gs6 tR) := HTR4.out.ext E46
  have XE6 : Hid (Ext (inps 16) gs6) := HE4.out.trans E46
  have HXQ6 : Hid (∀ inp, valL gs6 inp tQ = !orF (bitsL (inps 16) inp (inpW 1)) 8 ∧ valL gs6 inp tR = !orF (bitsL (inps 16) inp (inpW 1)) 8) := fun inp => ⟨by rw [E46.val inp HTQ4.out, HXQ4.out inp], by rw [E46.val inp HTR4.out, HXR4.out inp]⟩
  have HBK : Hid (∀ inp, natF (bitsL (inps 16) inp (inpW 1)) 8 ≠ 0 → numW gs6 inp lB = numW gs6 inp (inpW 0)) := fun inp hB => by
    have e1 : numW gs4 inp (inpW 1) = numW (inps 16) inp (inpW 1) := numW_ext HE4.out inp (inpW_length 1) (inpW_has (by omega))
    have e2 : numW gs5 inp lR = numW gs4 inp lR := numW_ext HE5.out inp DR4.out.len DR4.out.has
    have e3 : numW gs6 inp (inpW 0) = numW (inps 16) inp (inpW 0) := numW_ext XE6.out inp (inpW_length 0) (inpW_has (by omega))
    have key := rest_num (bitsL (inps 16) inp (inpW 0)) (bitsL (inps 16) inp (inpW 1)) (qq inp) (rr inp) hB (HQQ.out inp) (HRR.out inp)
    rw [X6 inp]
    show (numW gs5 inp lP + numW gs5 inp lR) % 256 = _
    rw [HX5.out inp, e1, e2, e3, HYQ4.out inp, HYR4.out inp, Int.add_emod, Int.emod_emod_of_dvd _ (Int.dvd_refl 256), ← Int.add_emod]
    exact key
  have L6 : Hid (gs6.length ≤ 2800) := by have := L5.out; unfold Hid; omega
  clear M46 E46 r0 Q6 M6 E6 N6 D6 X6 HM5 HE5 HN5 HX5 L5 L4 HADD HTQ4 HTR4 HE4 HXQ4 HXR4 HYQ4 HYR4 HQ4 W04 W14 DQ4 DR4 HQQ HRR W0 W1 q1
  obtain ⟨i0, hi0, hz0, hz1, hz2⟩ := info_parts Tryd.infoLit
  have LL : Hid ((lB.map (Value.int .i64)).length = 8 * 1) := by unfold Hid; rw [List.length_map, DB6.out.len]
  have LR : Hid (((inpW 0).map (Value.int .i64)).length = 8 * 1) := by unfold Hid; rw [List.length_map, inpW_length]
  have M8 : Hid (0 + 8 ≤ maxLen ∧ (0 + 8) * 8 ≤ 140737488355328 ∧ 0 + 8 + 8 ≤ maxLen ∧ (0 + 8 + 8) * 8 ≤ 140737488355328 ∧ 0 + 8 + 8 + 2 ≤ maxLen ∧ (0 + 8 + 8 + 2) * 8 ≤ 140737488355328) := by unfold Hid maxLen; omega
  have MM9 : Hid (Mvd F6 F6 w6 w6) := Mvd.refl _ _
  have GG9 : Hid (GrAt G gs6 16 F6 w6) := HQ6.out.gr
  have LF : Hid (∀ k, w6.heap.size ≤ k → ¬ F6 k) := fun k hk hf => by have := HQ6.out.gr.2.2.1 k hf; omega
  obtain ⟨x00, hx00⟩ : ∃ x, (inpW 0)[0]? = some x := ⟨_, rfl⟩
  obtain ⟨V0, f0, hV0, _, _⟩ := W06.out.at_.at hx00
  subst hV0
  have HNW : Hid (∀ W' : World, Mvd F6 F6 w6 W' → ∀ j u, ((inpW 0).map (Value.int .i64))[j]? = some u → W'.cell? ((⟨V0, f0, none⟩ : Addr).add j) = some u) := fun W' hm j u hj => by
    rw [List.getElem?_map] at hj
    obtain ⟨x, hx, rfl⟩ := Option.map_eq_some_iff.1 hj
    obtain ⟨b, off, e, _, h2⟩ := W06.out.at_.at hx
    obtain ⟨rfl, rfl⟩ : V0 = b ∧ f0 = off := by simpa using e
    rw [Addr.add_lit]
    exact (h2 F6 W' hm).2
  have HQC : Hid (∀ W' : World, Mvd F6 F6 w6 W' → W'.cell? ⟨qb, qf, none⟩ = some (.slice (some ⟨V0, f0, none⟩) 8 c0)) := fun W' hm => (hm.cell HR0.out.1 HR0.out.2).1
  have HN2 : Hid (∀ (W : World) j u, ([tQ, tR].map (Value.int .i64))[j]? = some u → (W.alloc (.cells #[.int .i64 tQ, .int .i64 tR] 34)).cell? ((⟨W.heap.size, 0, none⟩ : Addr).add j) = some u) := fun W j u hj => by
    rw [Addr.add_lit, Nat.zero_add, World.cell?_alloc_at (w := W) _ _ W.heap.size j rfl]
    rcases j with _ | _ | j <;> simp_all
  clear hx00
  go_wp2_with (first
    | (at_builtin; refine wpList_append_lies _ rfl _ _ 31 rfl w6.heap.size 34 i0 _ 1 8 Tryd.underlying31 hi0 hz0 hz1 hz2 rfl (by omega) (.slice (some ⟨g2, 0, none⟩) 16 cap2) 16 _ rfl A2'.out ⟨wb.heap.size, 0, none⟩ 2 2 ([tQ, tR].map (Value.int .i64)) rfl rfl (HN2.out wb) (ints_one _) (by omega) M8.out.2.2.2.2.1 M8.out.2.2.2.2.2 S2'.out _ rfl ?_; intro g3 cap3 wc hown3 hgrow3 hat3 hlt3; have R2 : ∀ k, (Value.slice (some ⟨g2, 0, none⟩) 16 cap2).ownBlock = some k → w6.heap.size ≤ k := (fun k hk => (A2.out.lt k hk).1); have MC : Hid (Mvd F6 F6 w6 wc) := grown_mvd MB'.out hgrow3 R2; have GC : Hid (GrAt G gs6 16 F6 wc) := grown_gr GB'.out hgrow3 (fun k hk => LF.out k (R2 k hk)); have A3 : Hid (wc.ownsRow w6.heap.size 34 1 (.slice (some ⟨g3, 0, none⟩) 18 cap3) 18 ((lB ++ inpW 0 ++ [tQ, tR]).map (Value.int .i64))) := (by unfold Hid; rw [List.map_append, List.map_append]; exact hown3); clear hown3 hgrow3 hat3 hlt3 R2)
    | (at_builtin; refine wpList_append_lies _ rfl _ _ 31 rfl w6.heap.size 34 i0 _ 1 8 Tryd.underlying31 hi0 hz0 hz1 hz2 rfl (by omega) (.slice (some ⟨g1, 0, none⟩) 8 cap1) 8 _ rfl A1.out ⟨V0, f0, none⟩ 8 c0 ((inpW 0).map (Value.int .i64)) rfl LR.out (HNW.out _ MA.out) (ints_one _) (by omega) M8.out.2.2.1 M8.out.2.2.2.1 S1.out _ rfl ?_; intro g2 cap2 wb hown2 hgrow2 hat2 hlt2; have R1 : ∀ k, (Value.slice (some ⟨g1, 0, none⟩) 8 cap1).ownBlock = some k → w6.heap.size ≤ k := (fun k hk => (A1.out.lt k hk).1); have MB : Hid (Mvd F6 F6 w6 wb) := grown_mvd MA.out hgrow2 R1; have GB : Hid (GrAt G gs6 16 F6 wb) := grown_gr GA.out hgrow2 (fun k hk => LF.out k (R1 k hk)); have A2 : Hid (wb.ownsRow w6.heap.size 34 1 (.slice (some ⟨g2, 0, none⟩) 16 cap2) 16 (lB.map (Value.int .i64) ++ (inpW 0).map (Value.int .i64))) := hown2; have hb3 : Below wb.heap.size wb (wb.alloc (.cells #[.int .i64 tQ, .int .i64 tR] 34)) := (Below.refl _ _).alloc (Nat.le_refl _) _; have MB' : Hid (Mvd F6 F6 w6 (wb.alloc (.cells #[.int .i64 tQ, .int .i64 tR] 34))) := MB.out.trans (Mvd.of_below hb3); have GB' : Hid (GrAt G gs6 16 F6 (wb.alloc (.cells #[.int .i64 tQ, .int .i64 tR] 34))) := GB.out.below hb3; have A2' : Hid ((wb.alloc (.cells #[.int .i64 tQ, .int .i64 tR] 34)).ownsRow w6.heap.size 34 1 (.slice (some ⟨g2, 0, none⟩) 16 cap2) 16 (lB.map (Value.int .i64) ++ (inpW 0).map (Value.int .i64))) := owns_keep A2.out (fun k hk => hb3.block k ((A2.out.lt k hk).2)); have S2' : Hid (w6.heap.size ≤ (wb.alloc (.cells #[.int .i64 tQ, .int .i64 tR] 34)).heap.size) := MB'.out.size; clear hb3 hown2 hgrow2 hat2 hlt2 R1)
    | (at_builtin; refine wpList_append_lies _ rfl _ _ 31 rfl w6.heap.size 34 i0 _ 1 8 Tryd.underlying31 hi0 hz0 hz1 hz2 rfl (by omega) (.slice none 0 0) 0 [] rfl (World.ownsRow_nil _ _ _ _) ⟨VB, 0, none⟩ 8 8 (lB.map (Value.int .i64)) rfl LL.out DB6.out.news (ints_one _) (by omega) M8.out.1 M8.out.2.1 (Nat.le_refl _) _ rfl ?_; intro g1 cap1 wa hown1 hgrow1 hat1 hlt1; have MA : Hid (Mvd F6 F6 w6 wa) := grown_mvd MM9.out hgrow1 (fun k hk => by simp [Value.ownBlock] at hk); have GA : Hid (GrAt G gs6 16 F6 wa) := grown_gr GG9.out hgrow1 (fun k hk => by simp [Value.ownBlock] at hk); have A1 : Hid (wa.ownsRow w6.heap.size 34 1 (.slice (some ⟨g1, 0, none⟩) 8 cap1) 8 (lB.map (Value.int .i64))) := hown1; have S1 : Hid (w6.heap.size ≤ wa.heap.size) := MA.out.size; have q0a := HQC.out _ MA.out; clear hown1 hgrow1 hat1 hlt1))
  have IL : Hid (∀ x ∈ lB ++ inpW 0 ++ [tQ, tR], HasL gs6 x) := fun x hx => by
    rcases List.mem_append.1 hx with hx | hx
    · rcases List.mem_append.1 hx with hx | hx
      · exact DB6.out.has x hx
      · exact W06.out.has x hx
    · simp at hx
      rcases hx with rfl | rfl
      · exact HTQ6.out
      · exact HTR6.out
  refine (lbits_any _ _ 2 2 [na, nb] (ints_of_row (l := [na, nb]) (c := 2) (heap_alloc_new wc _) (by unfold maxLen; simp)) rfl (by omega)).mono ?_
  rintro e wd ⟨bo, bc, rfl, hbits, hbd⟩
  have hlen : (lB ++ inpW 0 ++ [tQ, tR]).length = 18 := by rw [List.length_append, List.length_append, DB6.out.len, inpW_length]; rfl
  have hbw : Below wc.heap.size wc wd := ((Below.refl _ _).alloc (Nat.le_refl _) _).trans (hbd.mono (by simp))
  have hmd : Mvd F6 F6 w6 wd := MC.out.trans (Mvd.of_below hbw)
  have hown := owns_keep A3.out (fun k hk => hbw.block k ((A3.out.lt k hk).2))
  have hev := eval_ok (GC.out.below hbw) (by have := L6.out; omega) _ (bitsAll [na, nb]) hbits _ (lB ++ inpW 0 ++ [tQ, tR]) (ints_of_owns hown hlen (by unfold maxLen; omega)) (fun x hx => (IL.out x hx).i64 (by have := L6.out; omega)) (by rw [bitsAll_length]; rfl) (by rw [XE6.out.cnt, inps_cnt, bitsAll_length]; rfl) (by rw [List.all_eq_true]; intro x hx; exact hasB_t (IL.out x hx)) (by omega)
  rw [hlen] at hev
  have HEV : Hid (Calls Tryd.prog 18 #[.pointer (some ⟨G, 0, none⟩), .slice bo (8 * 2) bc, .slice (some ⟨g3, 0, none⟩) 18 cap3] wd fun e w' => ∃ O, e = .returned (.tuple #[.slice (some ⟨O, 0, none⟩) 18 18, .nilIface]) ∧ w'.heap[O]? = some (.cells (rowB ((lB ++ inpW 0 ++ [tQ, tR]).map (litV (valsOf gs6 (bitsAll [na, nb]))))) 4 (0, 0)) ∧ wd.heap.size ≤ O ∧ Below wd.heap.size wd w') := hev
  have HBD : Hid (Below w.heap.size w wd) := hmd.below HQ6.out.bel HQ6.out.bel.size HQ6.out.lo
  obtain ⟨T, hT⟩ : ∃ T : Bool, T = !orF (bitsL (inps 16) (bitsAll [na, nb]) (inpW 1)) 8 := ⟨_, rfl⟩
  have hn1 : natF (bitsL (inps 16) (bitsAll [na, nb]) (inpW 1)) 8 = nb % 256 := inp_num (i := 1) (by omega) rfl
  have hTT : T = decide (nb % 256 = 0) := by rw [hT, orF_nat, hn1]; by_cases h : nb % 256 = 0 <;> simp [h]
  have H16 : Hid (((lB ++ inpW 0 ++ [tQ, tR]).map (litV (valsOf gs6 (bitsAll [na, nb]))))[16]? = some T ∧ ((lB ++ inpW 0 ++ [tQ, tR]).map (litV (valsOf gs6 (bitsAll [na, nb]))))[17]? = some T) := by
    have hx := HXQ6.out (bitsAll [na, nb])
    have hlr : (lB ++ inpW 0).length = 16 := by rw [List.length_append, DB6.out.len, inpW_length]
    refine ⟨?_, ?_⟩
    · rw [List.getElem?_map, List.getElem?_append_right (by omega), hlr, hT, ← hx.1]; rfl
    · rw [List.getElem?_map, List.getElem?_append_right (by omega), hlr, hT, ← hx.2]; rfl
  have HB3 : Hid (T = false → ∀ i, i < 8 → ∃ x : Bool, ((lB ++ inpW 0 ++ [tQ, tR]).map (litV (valsOf gs6 (bitsAll [na, nb]))))[i]? = some x ∧ ((lB ++ inpW 0 ++ [tQ, tR]).map (litV (valsOf gs6 (bitsAll [na, nb]))))[8 + i]? = some x) := fun hTf i hi => by
    have hx := HBK.out (bitsAll [na, nb]) (by rw [hn1]; intro e; rw [hTT, e] at hTf; simp at hTf)
    have k1 := numW_bits hx hi
    obtain ⟨x1, e1⟩ : ∃ x1, lB[i]? = some x1 := ⟨_, List.getElem?_eq_getElem (by rw [DB6.out.len]; exact hi)⟩
    obtain ⟨x2, e2⟩ : ∃ x2, (inpW 0)[i]? = some x2 := ⟨_, List.getElem?_eq_getElem (by rw [inpW_length]; exact hi)⟩
    rw [bitsL_get e1, bitsL_get e2] at k1
    refine ⟨valL gs6 (bitsAll [na, nb]) x1, ?_, ?_⟩
    · rw [List.getElem?_map, List.append_assoc, List.getElem?_append_left (by rw [DB6.out.len]; exact hi), e1]; rfl
    · rw [List.getElem?_map, List.append_assoc, List.getElem?_append_right (by rw [DB6.out.len]; omega), DB6.out.len, Nat.add_sub_cancel_left, List.getElem?_append_left (by rw [inpW_length]; exact hi), e2, k1]; rfl
  have HTT : Hid (T = decide (nb % 256 = 0)) := hTT
  clear hbits hbd hlen hbw hmd hown hev A1 A2 A3 A2' MA MB MB' MC GA GB GB' GC S1 S2' q0a DB6 W06 HTQ6 HTR6 XE6 HXQ6 HBK LL LR M8 MM9 GG9 LF IL L6 HQ6 hi0 hz0 hz1 hz2 hT hn1 hTT HNW HQC HN2 HR0 q0
  go_wp2_with fail
  refine HEV.out.mono ?_
  rintro e we ⟨O, rfl, hO, hOl, hbe⟩
  obtain ⟨L, hL⟩ : ∃ L, L = (lB ++ inpW 0 ++ [tQ, tR]).map (litV (valsOf gs6 (bitsAll [na, nb]))) := ⟨_, rfl⟩
  rw [← hL] at hO HB3 H16
  have HO : Hid (we.heap[O]? = some (.cells (rowB L) 4 (0, 0))) := hO
  have HBE : Hid (Below w.heap.size w we) := HBD.out.trans (hbe.mono HBD.out.size)
  have z0 : we.cell? ⟨O, 16, none⟩ = some (.bool T) := by rw [cell_of_row we O _ _ _ (0, 0) hO]; exact rowB_get H16.out.1
  have z1 : we.cell? ⟨O, 17, none⟩ = some (.bool T) := by rw [cell_of_row we O _ _ _ (0, 0) hO]; exact rowB_get H16.out.2
  clear hL hO hOl hbe HEV
  go_wp2
  by_cases hb : nb % 256 = 0
  · obtain rfl : T = true := by rw [HTT.out]; simp [hb]
    have tm : nb.tmod 256 = 0 := Int.tmod_eq_zero_of_dvd (Int.dvd_of_emod_eq_zero hb)
    have HZ : Hid (L[16]? = some true) := H16.out.1
    clear hb
    go_quiet (fail)
    go_wp2
    go_loopw [19] (fun t wr => t = .int .i64 0 ∧ Below we.heap.size we wr) (fun _ _ => 0)
    case atStart => exact ⟨rfl, rfl, rfl, rfl, Nat.le_refl _, fun _ _ => rfl⟩
    case round =>
      obtain ⟨rfl, hbr⟩ := hrel
      have HBR : Hid (Below we.heap.size we wr) := hbr
      have y0 : wr.cell? ⟨O, 16, none⟩ = some (.bool true) := by rw [cell_of_row wr O _ _ _ (0, 0) (row_keep hbr HO.out)]; exact rowB_get HZ.out
      clear hbr z0 z1
      go_wp2
      go_ret
      exact ⟨rfl, HBE.out.trans (HBR.out.mono HBE.out.size)⟩
  · obtain rfl : T = false := by rw [HTT.out]; simp [hb]
    obtain ⟨rm, hrm⟩ : ∃ rm, rm = nb.tmod 256 := ⟨_, rfl⟩
    have hr0 : rm ≠ 0 := fun e => hb (Int.emod_eq_zero_of_dvd (Int.dvd_of_tmod_eq_zero (by rw [← hrm]; exact e)))
    have tm : nb.tmod 256 = rm := hrm.symm
    have tb : (rm == 0) = false := beq_eq_false_iff_ne.2 hr0
    have tp : (rm = 0) = False := eq_false hr0
    have HB4 := HB3.out rfl
    have HB5 : Hid (∀ i, i < 8 → ∃ x : Bool, L[i]? = some x ∧ L[8 + i]? = some x) := HB4
    have HZ : Hid (L[16]? = some false) := H16.out.1
    clear hb hrm hr0 HB4
    go_quiet (fail)
    go_wp2
    clear tm tb tp
    go_loopw [19] (fun t wr => ∃ j : Nat, j ≤ 8 ∧ t = .int .i64 j ∧ Below we.heap.size we wr) (fun t _ => 8 - (intOf t).toNat)
    case atStart => exact ⟨0, Nat.zero_le _, rfl, rfl, rfl, rfl, Nat.le_refl _, fun _ _ => rfl⟩
    case round =>
      obtain ⟨j, hj, rfl, hbr⟩ := hrel
      have HBR : Hid (Below we.heap.size we wr) := hbr
      have hr := row_keep hbr HO.out
      have y0 : wr.cell? ⟨O, 16, none⟩ = some (.bool false) := by rw [cell_of_row wr O _ _ _ (0, 0) hr]; exact rowB_get HZ.out
      by_cases hjl : j < 8
      · obtain ⟨x, h0, h1⟩ := HB5.out j hjl
        have y1 : wr.cell? ⟨O, j, none⟩ = some (.bool x) := by rw [cell_of_row wr O _ _ _ (0, 0) hr]; exact rowB_get h0
        have y2 : wr.cell? ⟨O, 8 + j, none⟩ = some (.bool x) := by rw [cell_of_row wr O _ _ _ (0, 0) hr]; exact rowB_get h1
        have i0' : (0 : Int) ≤ (j : Int) := by omega
        have i1' : (j : Int) < 8 := by omega
        have i2' : (j : Int) < 18 := by omega
        have i3' : (0 : Int) ≤ 8 + (j : Int) := by omega
        have i4' : 8 + (j : Int) < 18 := by omega
        have n1 : (8 + (j : Int)).toNat = 8 + j := by omega
        have HJ : Hid (j < 8) := hjl
        have w1' : wrap64 (8 + (j : Int)) = 8 + (j : Int) := by unfold wrap64; omega
        clear hj hjl hbr hr h0 h1 z0 z1
        go_wp2
        go_quiet (fail)
        go_wp2
        exact ⟨⟨j + 1, HJ.out, rfl, ⟨HBR.out.os, HBR.out.tape, HBR.out.output, HBR.out.size, HBR.out.block⟩⟩, by have := HJ.out; simp [intOf]; omega⟩
      · obtain rfl : j = 8 := by omega
        clear hj hjl hbr hr z0 z1
        go_wp2
        go_ret
        exact ⟨rfl, HBE.out.trans (HBR.out.mono HBE.out.size)⟩
end Go.Proofs.YtmmfodiagcnjeaaDoor
