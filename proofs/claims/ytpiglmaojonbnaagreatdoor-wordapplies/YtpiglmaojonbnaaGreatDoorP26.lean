/-
  A GRAPH THAT IS WORKED ON BY A STATEMENT; made of + and *, told by numbers.
-/
import Derived.Test.YtpiglmaojonbnaaGreatDoorP24
import Derived.Test.YtpiglmaojonbnaaGreatDoorP25
import Derived.Test.YtpiglmaojonbnaaGreatDoorP20
import Derived.Test.YtpiglmaojonbnaaGreatDoorP23
namespace Go.Proofs.YtpiglmaojonbnaaGreatDoor
open Go.RowKit Go.Maps

/-- The sentinels that an operator of words may tell. -/
structure Errs (w : World) : Prop where
  ty : ∃ t q, w.cell? ⟨0, 0, none⟩ = some (.iface t q)
  sh : ∃ t q, w.cell? ⟨1, 0, none⟩ = some (.iface t q)
/-- A graph whose blocks are all new since W. -/
structure Sq (W : World) (G : Nat) (gs : List (Int × Int)) (ins : Nat) (F : Nat → Prop) (w : World) : Prop where
  gr : GrAt G gs ins F w
  bel : Below W.heap.size W w
  lo : ∀ k, F k → W.heap.size ≤ k
theorem Sq.step {W : World} {G : Nat} {gs gs' : List (Int × Int)} {ins ins' : Nat} {F F' : Nat → Prop} {w w' : World} (h : Sq W G gs ins F w) (hm : Mvd F F' w w') (hg : GrAt G gs' ins' F' w') : Sq W G gs' ins' F' w' :=
  ⟨hg, hm.below h.bel h.bel.size h.lo, fun k hk => by
    rcases hm.more k hk with h1 | h1
    · exact h.lo k h1
    · have := h.bel.size; omega⟩
/-- The number of a word. -/
def numW (gs : List (Int × Int)) (inp : List Bool) (l : List Int) : Int := natF (bitsL gs inp l) 8
theorem numW_ext {gs gs' : List (Int × Int)} (h : Ext gs gs') (inp : List Bool) {l : List Int} (hl : l.length = 8) (hH : ∀ x ∈ l, HasL gs x) : numW gs' inp l = numW gs inp l := by
  unfold numW
  refine natF_congr fun i hi => ?_
  have e : l[i]? = some l[i] := List.getElem?_eq_getElem (by omega)
  rw [bitsL_get e, bitsL_get e, h.val inp (hH _ (List.mem_of_getElem? e))]
theorem numW_of {gs gs' : List (Int × Int)} {K : Nat} {l : List Int} {f : List Bool → Nat → Bool} (h : Mads gs gs' K l f) (hl : l.length = 8) (inp : List Bool) : numW gs' inp l = natF (f inp) 8 := by
  unfold numW
  exact natF_congr fun i hi => h.bits inp (by omega)
/-- A word that a statement has made. -/
structure Wd (gs : List (Int × Int)) (F : Nat → Prop) (w : World) (o : Option Addr) (c : Nat) (l : List Int) : Prop where
  at_ : LitsAt F w (.slice o 8 c) l
  len : l.length = 8
  has : ∀ x ∈ l, HasL gs x
theorem Wd.move {gs gs' : List (Int × Int)} {F F' : Nat → Prop} {w w' : World} {o : Option Addr} {c : Nat} {l : List Int} (h : Wd gs F w o c l) (hm : Mvd F F' w w') (he : Ext gs gs') : Wd gs' F' w' o c l := ⟨h.at_.move hm, h.len, fun x hx => (h.has x hx).ext he⟩
theorem Sq.drewR {W : World} {G : Nat} {gs : List (Int × Int)} {ins : Nat} {F : Nat → Prop} {w : World} (h : Sq W G gs ins F w) : Sq W G gs ins F w.drew := ⟨h.gr.drewR, h.bel.drew, h.lo⟩
theorem Wd.drewR {gs : List (Int × Int)} {F : Nat → Prop} {w : World} {o : Option Addr} {c : Nat} {l : List Int} (h : Wd gs F w o c l) : Wd gs F w.drew o c l := h.move (Mvd.refl F w).drewR (Ext.refl _)
theorem Wd.news {gs : List (Int × Int)} {F : Nat → Prop} {w : World} {V c : Nat} {l : List Int} (h : Wd gs F w (some ⟨V, 0, none⟩) c l) : ∀ j u, (l.map (Value.int .i64))[j]? = some u → w.cell? ((⟨V, 0, none⟩ : Addr).add j) = some u := fun j u hj => by
  rw [List.getElem?_map] at hj
  obtain ⟨x, hx, rfl⟩ := Option.map_eq_some_iff.1 hj
  obtain ⟨b, off, e, _, h2⟩ := h.at_.at hx
  obtain ⟨rfl, rfl⟩ : V = b ∧ 0 = off := by simpa using e
  have hadd' : (⟨V, 0, none⟩ : Addr).add j = ⟨V, 0 + j, none⟩ := by unfold Addr.add; split <;> simp_all
  rw [hadd']
  exact (h2 F w (Mvd.refl _ _)).2
theorem ints_one (l : List Int) : ∀ u ∈ l.map (Value.int .i64), u.oneCell' = true := fun u hu => by obtain ⟨x, _, rfl⟩ := List.mem_map.1 hu; rfl
theorem ints_three (w : World) (a b c : Int) : IntsAt (w.alloc (.cells #[.int .i64 a, .int .i64 b, .int .i64 c] 3)) (.slice (some ⟨w.heap.size, 0, none⟩) 3 3) [a, b, c] :=
  ints_of_row (l := [a, b, c]) (c := 3) (heap_alloc_new w _) (by unfold maxLen; simp)
/-- Two words of one number have the same bits. -/
theorem numW_bits {gs : List (Int × Int)} {inp : List Bool} {x y : List Int} (h : numW gs inp x = numW gs inp y) {i : Nat} (hi : i < 8) : bitsL gs inp x i = bitsL gs inp y i := natF_inj h i hi
/-- What 'made' answers, by numbers. -/
def MadeN (W : World) (G : Nat) (gs : List (Int × Int)) (ins K : Nat) (f : List Bool → Int) (F : Nat → Prop) (w : World) (e : Ending) (w' : World) : Prop :=
  ∃ (V : Nat) (out : List Int) (gs' : List (Int × Int)) (F' : Nat → Prop), e = .returned (.slice (some ⟨V, 0, none⟩) 8 8) ∧ Sq W G gs' ins F' w' ∧ Mvd F F' w w' ∧ Ext gs gs' ∧ gs'.length ≤ gs.length + K ∧ Wd gs' F' w' (some ⟨V, 0, none⟩) 8 out ∧ ∀ inp, numW gs' inp out = f inp
theorem madeN_of {W : World} {G : Nat} {gs : List (Int × Int)} {ins K : Nat} {f : List Bool → Nat → Bool} {F : Nat → Prop} {w : World} {e : Ending} {w' : World} (hq : Sq W G gs ins F w) (h : MadeP G gs ins K f F w e w') : MadeN W G gs ins K (fun inp => natF (f inp) 8) F w e w' := by
  obtain ⟨V, out, gs', F', rfl, h1, h2, h3, h4, h5, h6, h7⟩ := h
  have hlit : LitsAt F' w' (.slice (some ⟨V, 0, none⟩) 8 8) out := by have := lits_row (c := 8) h3 h4 (by omega); rw [h1] at this; exact this
  exact ⟨V, out, gs', F', rfl, hq.step h6 h5, h6, h7.ext, h7.len, ⟨hlit, h1, h7.has⟩, fun inp => numW_of h7 h1 inp⟩
theorem MadeN.to {W : World} {G : Nat} {gs : List (Int × Int)} {ins K : Nat} {f g : List Bool → Int} {F : Nat → Prop} {w : World} {e : Ending} {w' : World} (h : MadeN W G gs ins K f F w e w') (hfg : ∀ inp, f inp = g inp) : MadeN W G gs ins K g F w e w' := by
  obtain ⟨V, out, gs', F', h1, h2, h3, h4, h5, h6, h7⟩ := h
  exact ⟨V, out, gs', F', h1, h2, h3, h4, h5, h6, fun inp => (h7 inp).trans (hfg inp)⟩
/-- A product of a sum is a sum of products. -/
theorem ring_mod (a b c : Int) : (a * ((b + c) % 256)) % 256 = ((a * b) % 256 + (a * c) % 256) % 256 ∧ (a * ((b + c) % 256)) % 256 = (((c + b) % 256) * a) % 256 := by
  constructor
  · rw [Int.mul_emod, Int.emod_emod_of_dvd _ (Int.dvd_refl 256), ← Int.mul_emod, ← Int.add_emod, Int.mul_add]
  · rw [Int.add_comm c b, Int.mul_comm]
end Go.Proofs.YtpiglmaojonbnaaGreatDoor

/-
  lustrumlaw3.WordRing, WALKED: it answers true.
-/
namespace Go.Proofs.YtpiglmaojonbnaaGreatDoor
open Go.RowKit Go.Maps

theorem wd_inp {F : Nat → Prop} {w : World} {o : Option Addr} {c i n : Nat} (h : LitsAt F w (.slice o (inpW i).length c) (inpW i)) (hi : 8 * i + 8 ≤ n) : Wd (inps n) F w o c (inpW i) :=
  ⟨by rw [inpW_length] at h; exact h, inpW_length i, inpW_has hi⟩
end Go.Proofs.YtpiglmaojonbnaaGreatDoor

/-
  package word: value of / and mod BY CONTRACT.
-/
namespace Go.Proofs.YtpiglmaojonbnaaGreatDoor
open Go.RowKit Go.Maps

set_option maxRecDepth 100000 in
set_option maxHeartbeats 4000000 in
theorem value_div {G : Nat} {gs : List (Int × Int)} {ins : Nat} {F : Nat → Prop} {w : World} (h : GrAt G gs ins F w) (hl : gs.length + 1020 < 80000) (o : Option Addr) (c : Nat) (a b : List Int) (hv : WordsAt F w (.slice o 2 c) [a, b]) (ha8 : a.length = 8) (hb8 : b.length = 8) (ha : ∀ x ∈ a, HasL gs x) (hb : ∀ x ∈ b, HasL gs x) :
    Calls Tryz.prog 21 #[.agg #[.pointer (some ⟨G, 0, none⟩)], .string ⟨#[47]⟩, .slice o 2 c] w (ValP G gs ins 1020 8 (fun g => ∃ q : List Bool → Nat → Bool, (∀ inp, natF (absB gs inp b) 8 ≠ 0 → natF (q inp) 8 = natF (absB gs inp a) 8 / natF (absB gs inp b) 8) ∧ g = fun inp => opB (bitsL gs inp a 7 ^^ bitsL gs inp b 7) (q inp)) (fun inp => !orF (bitsL gs inp b) 8) F w) := by
  have hb1 : Below w.heap.size w (w.alloc (.cells #[.pointer (some ⟨G, 0, none⟩)] 60)) := (Below.refl _ _).alloc (Nat.le_refl _) _
  have hmv : Mvd F F w (w.alloc (.cells #[.pointer (some ⟨G, 0, none⟩)] 60)) := Mvd.of_below hb1
  obtain ⟨b0, f0, oa, ca, rfl, _, c0, hA⟩ := (hv.move hmv).get (k := 0) rfl
  obtain ⟨b0', f0', ob, cb, e, _, c1, hB⟩ := (hv.move hmv).get (k := 1) rfl
  obtain ⟨rfl, rfl⟩ : b0 = b0' ∧ f0 = f0' := by simpa using e
  have hgg := h.below hb1
  obtain ⟨w1, hw1⟩ : ∃ w1, w1 = w.alloc (.cells #[.pointer (some ⟨G, 0, none⟩)] 60) := ⟨_, rfl⟩
  have m1 : w1.cell? ⟨w.heap.size, 0, none⟩ = some (.pointer (some ⟨G, 0, none⟩)) := by rw [hw1]; simp
  rw [← hw1] at hmv c0 c1 hA hB hgg
  rw [ha8] at c0 hA
  rw [hb8] at c1 hB
  rw [Nat.add_zero] at c0
  obtain ⟨HAL, hHAL⟩ : ∃ p : Prop, p = (∀ x ∈ a, HasL gs x) := ⟨_, rfl⟩
  have HBH : Hid (∀ x ∈ b, HasL gs x) := hb
  have HB8 : Hid (b.length = 8) := hb8
  have HLL : Hid (gs.length + 1020 < 80000) := hl
  have HBW : Hid (LitsAt F w1 (.slice ob 8 cb) b) := hB
  have HQ : Hid (∀ W : World, GrAt G gs ins F W → Mvd F F w1 W → Calls Tryz.prog 42 #[.agg #[.pointer (some ⟨G, 0, none⟩)], .slice oa 8 ca, .slice ob 8 cb] W fun e w' => ∃ (V : Nat) (out : List Int) (gs' : List (Int × Int)) (F' : Nat → Prop) (q : List Bool → Nat → Bool), e = .returned (.slice (some ⟨V, 0, none⟩) 8 8) ∧ out.length = 8 ∧ W.heap.size ≤ V ∧ w'.heap[V]? = some (.cells (rowI out) 39 (0, 0)) ∧ ¬ F' V ∧ GrAt G gs' ins F' w' ∧ Mvd F F' W w' ∧ Mads gs gs' 1010 out (fun inp => opB (bitsL gs inp a 7 ^^ bitsL gs inp b 7) (q inp)) ∧ ∀ inp, natF (absB gs inp b) 8 ≠ 0 → natF (q inp) 8 = natF (absB gs inp a) 8 / natF (absB gs inp b) 8) :=
    fun W gW mW => quotient_any gW oa ob ca cb a b (hA.move mW) (hB.move mW) ha8 hb8 ha hb (by omega)
  have HG1 : Hid (GrAt G gs ins F w1) := hgg
  have HF0 : Hid (¬ F w.heap.size) := fun hf => by have := h.2.2.1 _ hf; omega
  have HMV : Hid (Mvd F F w w1) := hmv
  have HW1 : Hid (w.alloc (.cells #[.pointer (some ⟨G, 0, none⟩)] 60) = w1) := hw1.symm
  clear h hl hv ha8 hb8 ha hb hb1 hmv hw1 hgg hA hB e hHAL HAL
  go_enter Tryz.func21, Tryz.ntmps21
  go_wp2
  rw [HW1.out]
  clear HW1
  go_quiet (fail)
  go_wp2
  have HGz : Hid (GrAt G gs ins F (w1.drewN nq)) := HG1.out
  have HMz : Hid (Mvd F F w1 (w1.drewN nq)) := ⟨rfl, rfl, rfl, Nat.le_refl _, fun _ _ _ => rfl, fun _ h => .inl h⟩
  have m1z : (w1.drewN nq).cell? ⟨w.heap.size, 0, none⟩ = some (.pointer (some ⟨G, 0, none⟩)) := m1
  obtain ⟨wz, hwz⟩ : ∃ wz, wz = w1.drewN nq := ⟨_, rfl⟩
  rw [← hwz] at HGz HMz m1z ⊢
  clear hwz m1 c0 c1
  go_region_held3 (fun w' => w'.cell? ⟨w.heap.size, 0, none⟩ = some (.pointer (some ⟨G, 0, none⟩))) ((first | exact t0.1 | exact s0.1 | go_keep))
    (first
      | (go_at_call 43; refine (isZero_any (by exact g2) _ _ _ b (by exact (HBW.out.move HMz.out).move m2.undrew) HB8.out (fun z hz => (HBH.out z hz).ext d2.ext) (by have := d2.len; have := HLL.out; omega)).mono ?_; rintro e w3 ⟨tr, gs3, F3, rfl, g3, m3, d3⟩; have t0 := m3.cell (by exact s0.1) s0.2)
      | (go_at_call 42; refine (HQ.out wz.drew (by exact HGz.out) ⟨HMz.out.os, HMz.out.tape, HMz.out.output, HMz.out.size, HMz.out.block, HMz.out.more⟩).mono ?_; rintro e w2 ⟨V, out, gs2, F2, q, rfl, h1, h2, h3, h4, g2, m2, d2, x2⟩; have s0 := m2.cell (by exact m1z) HF0.out))
  have HEND : Hid (ValP G gs ins 1020 8 (fun g => ∃ q : List Bool → Nat → Bool, (∀ inp, natF (absB gs inp b) 8 ≠ 0 → natF (q inp) 8 = natF (absB gs inp a) 8 / natF (absB gs inp b) 8) ∧ g = fun inp => opB (bitsL gs inp a 7 ^^ bitsL gs inp b 7) (q inp)) (fun inp => !orF (bitsL gs inp b) 8) F w (.returned (.tuple #[.slice (some ⟨V, 0, none⟩) 8 8, .int .i64 tr])) w3) := by
    have kV := m3.rowKept h3 h4
    have mz := HMV.out.trans HMz.out
    refine ⟨V, out, tr, gs3, F3, rfl, h1, ?_, kV.1, kV.2, g3, (mz.trans m2.undrew).trans m3, ⟨_, ⟨q, x2, rfl⟩, ⟨d2.ext.trans d3.ext, ?_, fun z hz => (d2.has z hz).ext d3.ext, fun inp i z hz => ?_⟩⟩, d3.has, fun inp => ?_⟩
    · have := mz.size; have h2' : wz.heap.size ≤ V := h2; omega
    · have := d2.len; have := d3.len; omega
    · rw [d3.ext.val inp (d2.has z (List.mem_of_getElem? hz)), d2.val inp i z hz]
    · rw [d3.val inp, show bitsL gs2 inp b = bitsL gs inp b from funext fun j => bitsL_more d2.ext inp HBH.out j]
  rename_i hheld
  clear hheld h1 h2 h3 h4 g2 m2 d2 x2 s0 t0 g3 m3 d3 m1z
  go_wp2
  go_ret2
  exact HEND.out
set_option maxRecDepth 100000 in
set_option maxHeartbeats 4000000 in
theorem value_mod {G : Nat} {gs : List (Int × Int)} {ins : Nat} {F : Nat → Prop} {w : World} (h : GrAt G gs ins F w) (hl : gs.length + 1020 < 80000) (o : Option Addr) (c : Nat) (a b : List Int) (hv : WordsAt F w (.slice o 2 c) [a, b]) (ha8 : a.length = 8) (hb8 : b.length = 8) (ha : ∀ x ∈ a, HasL gs x) (hb : ∀ x ∈ b, HasL gs x) :
    Calls Tryz.prog 21 #[.agg #[.pointer (some ⟨G, 0, none⟩)], .string ⟨#[109, 111, 100]⟩, .slice o 2 c] w (ValP G gs ins 1020 8 (fun g => ∃ q : List Bool → Nat → Bool, (∀ inp, natF (absB gs inp b) 8 ≠ 0 → natF (q inp) 8 = natF (absB gs inp a) 8 % natF (absB gs inp b) 8) ∧ g = fun inp => opB (bitsL gs inp a 7) (q inp)) (fun inp => !orF (bitsL gs inp b) 8) F w) := by
  have hb1 : Below w.heap.size w (w.alloc (.cells #[.pointer (some ⟨G, 0, none⟩)] 60)) := (Below.refl _ _).alloc (Nat.le_refl _) _
  have hmv : Mvd F F w (w.alloc (.cells #[.pointer (some ⟨G, 0, none⟩)] 60)) := Mvd.of_below hb1
  obtain ⟨b0, f0, oa, ca, rfl, _, c0, hA⟩ := (hv.move hmv).get (k := 0) rfl
  obtain ⟨b0', f0', ob, cb, e, _, c1, hB⟩ := (hv.move hmv).get (k := 1) rfl
  obtain ⟨rfl, rfl⟩ : b0 = b0' ∧ f0 = f0' := by simpa using e
  have hgg := h.below hb1
  obtain ⟨w1, hw1⟩ : ∃ w1, w1 = w.alloc (.cells #[.pointer (some ⟨G, 0, none⟩)] 60) := ⟨_, rfl⟩
  have m1 : w1.cell? ⟨w.heap.size, 0, none⟩ = some (.pointer (some ⟨G, 0, none⟩)) := by rw [hw1]; simp
  rw [← hw1] at hmv c0 c1 hA hB hgg
  rw [ha8] at c0 hA
  rw [hb8] at c1 hB
  rw [Nat.add_zero] at c0
  obtain ⟨HAL, hHAL⟩ : ∃ p : Prop, p = (∀ x ∈ a, HasL gs x) := ⟨_, rfl⟩
  have HBH : Hid (∀ x ∈ b, HasL gs x) := hb
  have HB8 : Hid (b.length = 8) := hb8
  have HLL : Hid (gs.length + 1020 < 80000) := hl
  have HBW : Hid (LitsAt F w1 (.slice ob 8 cb) b) := hB
  have HQ : Hid (∀ W : World, GrAt G gs ins F W → Mvd F F w1 W → Calls Tryz.prog 44 #[.agg #[.pointer (some ⟨G, 0, none⟩)], .slice oa 8 ca, .slice ob 8 cb] W fun e w' => ∃ (V : Nat) (out : List Int) (gs' : List (Int × Int)) (F' : Nat → Prop) (q : List Bool → Nat → Bool), e = .returned (.slice (some ⟨V, 0, none⟩) 8 8) ∧ out.length = 8 ∧ W.heap.size ≤ V ∧ w'.heap[V]? = some (.cells (rowI out) 39 (0, 0)) ∧ ¬ F' V ∧ GrAt G gs' ins F' w' ∧ Mvd F F' W w' ∧ Mads gs gs' 1010 out (fun inp => opB (bitsL gs inp a 7) (q inp)) ∧ ∀ inp, natF (absB gs inp b) 8 ≠ 0 → natF (q inp) 8 = natF (absB gs inp a) 8 % natF (absB gs inp b) 8) :=
    fun W gW mW => rest_any gW oa ob ca cb a b (hA.move mW) (hB.move mW) ha8 hb8 ha hb (by omega)
  have HG1 : Hid (GrAt G gs ins F w1) := hgg
  have HF0 : Hid (¬ F w.heap.size) := fun hf => by have := h.2.2.1 _ hf; omega
  have HMV : Hid (Mvd F F w w1) := hmv
  have HW1 : Hid (w.alloc (.cells #[.pointer (some ⟨G, 0, none⟩)] 60) = w1) := hw1.symm
  clear h hl hv ha8 hb8 ha hb hb1 hmv hw1 hgg hA hB e hHAL HAL
  go_enter Tryz.func21, Tryz.ntmps21
  go_wp2
  rw [HW1.out]
  clear HW1
  go_quiet (fail)
  go_wp2
  have HGz : Hid (GrAt G gs ins F (w1.drewN nq)) := HG1.out
  have HMz : Hid (Mvd F F w1 (w1.drewN nq)) := ⟨rfl, rfl, rfl, Nat.le_refl _, fun _ _ _ => rfl, fun _ h => .inl h⟩
  have m1z : (w1.drewN nq).cell? ⟨w.heap.size, 0, none⟩ = some (.pointer (some ⟨G, 0, none⟩)) := m1
  obtain ⟨wz, hwz⟩ : ∃ wz, wz = w1.drewN nq := ⟨_, rfl⟩
  rw [← hwz] at HGz HMz m1z ⊢
  clear hwz m1 c0 c1
  go_region_held3 (fun w' => w'.cell? ⟨w.heap.size, 0, none⟩ = some (.pointer (some ⟨G, 0, none⟩))) ((first | exact t0.1 | exact s0.1 | go_keep))
    (first
      | (go_at_call 43; refine (isZero_any (by exact g2) _ _ _ b (by exact (HBW.out.move HMz.out).move m2.undrew) HB8.out (fun z hz => (HBH.out z hz).ext d2.ext) (by have := d2.len; have := HLL.out; omega)).mono ?_; rintro e w3 ⟨tr, gs3, F3, rfl, g3, m3, d3⟩; have t0 := m3.cell (by exact s0.1) s0.2)
      | (go_at_call 44; refine (HQ.out wz.drew (by exact HGz.out) ⟨HMz.out.os, HMz.out.tape, HMz.out.output, HMz.out.size, HMz.out.block, HMz.out.more⟩).mono ?_; rintro e w2 ⟨V, out, gs2, F2, q, rfl, h1, h2, h3, h4, g2, m2, d2, x2⟩; have s0 := m2.cell (by exact m1z) HF0.out))
  have HEND : Hid (ValP G gs ins 1020 8 (fun g => ∃ q : List Bool → Nat → Bool, (∀ inp, natF (absB gs inp b) 8 ≠ 0 → natF (q inp) 8 = natF (absB gs inp a) 8 % natF (absB gs inp b) 8) ∧ g = fun inp => opB (bitsL gs inp a 7) (q inp)) (fun inp => !orF (bitsL gs inp b) 8) F w (.returned (.tuple #[.slice (some ⟨V, 0, none⟩) 8 8, .int .i64 tr])) w3) := by
    have kV := m3.rowKept h3 h4
    have mz := HMV.out.trans HMz.out
    refine ⟨V, out, tr, gs3, F3, rfl, h1, ?_, kV.1, kV.2, g3, (mz.trans m2.undrew).trans m3, ⟨_, ⟨q, x2, rfl⟩, ⟨d2.ext.trans d3.ext, ?_, fun z hz => (d2.has z hz).ext d3.ext, fun inp i z hz => ?_⟩⟩, d3.has, fun inp => ?_⟩
    · have := mz.size; have h2' : wz.heap.size ≤ V := h2; omega
    · have := d2.len; have := d3.len; omega
    · rw [d3.ext.val inp (d2.has z (List.mem_of_getElem? hz)), d2.val inp i z hz]
    · rw [d3.val inp, show bitsL gs2 inp b = bitsL gs inp b from funext fun j => bitsL_more d2.ext inp HBH.out j]
  rename_i hheld
  clear hheld h1 h2 h3 h4 g2 m2 d2 x2 s0 t0 g3 m3 d3 m1z
  go_wp2
  go_ret2
  exact HEND.out
end Go.Proofs.YtpiglmaojonbnaaGreatDoor

/-
  Quotient and rest with signs, as mathematics.
-/
namespace Go.Proofs.YtpiglmaojonbnaaGreatDoor
open Go.RowKit Go.Maps

theorem opp_num (t : Bool) (x : Nat → Bool) : natF (opB t x) 8 = (if t = true then -natF x 8 else natF x 8) % 256 := by
  have h1 := natF_lt x 8
  have h2 := natF_lt (opB t x) 8
  have e8 : (2 : Int) ^ 8 = 256 := by decide
  rw [e8] at h1 h2
  cases t with
  | false => rw [opp_off]; simp only [Bool.false_eq_true, if_false]; omega
  | true =>
    have h3 := opp_on x 8
    rw [e8] at h3
    simp only [if_true]
    rcases bI_cases (abv true x 8) with ⟨_, h⟩ | ⟨_, h⟩ <;> rw [h] at h3 <;> omega
theorem mod_ring (x y z : Int) : (x % 256 * (y % 256) + z % 256) % 256 = (x * y + z) % 256 := by
  rw [Int.add_emod, ← Int.mul_emod, Int.emod_emod_of_dvd _ (Int.dvd_refl 256), ← Int.add_emod]
/-- What was divided is the product and the rest again. -/
theorem rest_num (A B q r : Nat → Bool) (hB : natF B 8 ≠ 0)
    (hq : natF (opB (B 7) B) 8 ≠ 0 → natF q 8 = natF (opB (A 7) A) 8 / natF (opB (B 7) B) 8) (hr : natF (opB (B 7) B) 8 ≠ 0 → natF r 8 = natF (opB (A 7) A) 8 % natF (opB (B 7) B) 8) :
    (natF (opB (A 7 ^^ B 7) q) 8 * natF B 8 + natF (opB (A 7) r) 8) % 256 = natF A 8 := by
  have e8 : (2 : Int) ^ 8 = 256 := by decide
  have hA1 := natF_lt A 8
  have hB1 := natF_lt B 8
  rw [e8] at hA1 hB1
  have ea := opp_num (A 7) A
  have eb := opp_num (B 7) B
  obtain ⟨sa, hsa⟩ : ∃ sa, sa = A 7 := ⟨_, rfl⟩
  obtain ⟨sb, hsb⟩ : ∃ sb, sb = B 7 := ⟨_, rfl⟩
  rw [← hsa] at ea hq hr ⊢
  rw [← hsb] at eb hq hr ⊢
  obtain ⟨a, ha⟩ : ∃ a, a = natF (opB sa A) 8 := ⟨_, rfl⟩
  obtain ⟨b, hb⟩ : ∃ b, b = natF (opB sb B) 8 := ⟨_, rfl⟩
  rw [← ha] at ea hq hr
  rw [← hb] at eb hq hr
  have hb0 : b ≠ 0 := by
    cases sb with
    | false => simp only [Bool.false_eq_true, if_false] at eb; omega
    | true => simp only [if_true] at eb; omega
  have hq := hq hb0
  have hr := hr hb0
  have hdm := Int.mul_ediv_add_emod a b
  rw [← hq, ← hr] at hdm
  have eB : natF B 8 = (if sb = true then -b else b) % 256 := by
    cases sb with
    | false => simp only [Bool.false_eq_true, if_false] at eb ⊢; omega
    | true => simp only [if_true] at eb ⊢; omega
  have eA : natF A 8 = (if sa = true then -a else a) % 256 := by
    cases sa with
    | false => simp only [Bool.false_eq_true, if_false] at ea ⊢; omega
    | true => simp only [if_true] at ea ⊢; omega
  rw [opp_num, opp_num, eB, eA, mod_ring]
  congr 1
  cases sa <;> cases sb <;> simp <;> rw [← hdm] <;> simp [Int.mul_comm b, Int.neg_add, Int.neg_mul, Int.mul_neg]
end Go.Proofs.YtpiglmaojonbnaaGreatDoor

/-
  word.Of of / and mod, as a statement calls it.
-/
namespace Go.Proofs.YtpiglmaojonbnaaGreatDoor
open Go.RowKit Go.Maps

theorem ask_div {a b : List Int} (ha : a.length = 8) (hb : b.length = 8) : askB [47] [a, b] = true := by
  unfold askB
  rw [kinds_two ha hb]
  have : (resK [47] [2, 2]).isSome = true := by decide
  rw [this]; rfl
theorem ask_mod {a b : List Int} (ha : a.length = 8) (hb : b.length = 8) : askB [109, 111, 100] [a, b] = true := by
  unfold askB
  rw [kinds_two ha hb]
  have : (resK [109, 111, 100] [2, 2]).isSome = true := by decide
  rw [this]; rfl
/-- What Of answers, as a statement sees it. -/
def OfN (W : World) (G : Nat) (gs : List (Int × Int)) (ins : Nat) (Pr : (List Bool → Nat → Bool) → Prop) (tf : List Bool → Bool) (F : Nat → Prop) (w : World) (e : Ending) (w' : World) : Prop :=
  ∃ (V : Nat) (out : List Int) (tr : Int) (gs' : List (Int × Int)) (F' : Nat → Prop) (f : List Bool → Nat → Bool), e = .returned (.tuple #[.slice (some ⟨V, 0, none⟩) 8 8, .int .i64 tr, .nilIface]) ∧ Sq W G gs' ins F' w' ∧ Mvd F F' w w' ∧ Ext gs gs' ∧ gs'.length ≤ gs.length + 1020 ∧ Wd gs' F' w' (some ⟨V, 0, none⟩) 8 out ∧ HasL gs' tr ∧ (∀ inp, valL gs' inp tr = tf inp) ∧ Pr f ∧ ∀ inp, numW gs' inp out = natF (f inp) 8
theorem lof_any {W : World} (S : Errs W) {G : Nat} {gs : List (Int × Int)} {ins : Nat} {F : Nat → Prop} {w : World} (h : Sq W G gs ins F w) (s : ByteArray) (hs : s.size ≤ maxLen) (oa ob : Option Addr) (ca cb : Nat) (x y : List Int) (hx : Wd gs F w oa ca x) (hy : Wd gs F w ob cb y) (hl : gs.length < 89000) (Pr : (List Bool → Nat → Bool) → Prop) (tf : List Bool → Bool) (hk : askB s.data.toList [x, y] = true)
    (hval : ∀ F1 w1 o c, GrAt G gs ins F1 w1 → WordsAt F1 w1 (.slice o 2 c) [x, y] → Calls Tryz.prog 21 #[.agg #[.pointer (some ⟨G, 0, none⟩)], .string s, .slice o 2 c] w1 (ValP G gs ins 1020 8 Pr tf F1 w1)) :
    Calls Tryz.prog 8 #[.pointer (some ⟨G, 0, none⟩), .string s, .slice (some ⟨w.heap.size, 0, none⟩) 2 2] (w.alloc (.cells #[.slice oa 8 ca, .slice ob 8 cb] 38)) (OfN W G gs ins Pr tf F w) := by
  obtain ⟨⟨et, eq, he⟩, ⟨st, sq, hsh⟩⟩ := S
  have hb1 : Below w.heap.size w (w.alloc (.cells #[.slice oa 8 ca, .slice ob 8 cb] 38)) := (Below.refl _ _).alloc (Nat.le_refl _) _
  have hm : Mvd F F w (w.alloc (.cells #[.slice oa 8 ca, .slice ob 8 cb] 38)) := Mvd.of_below hb1
  refine (of_any (h.gr.below hb1) hl s hs (some ⟨w.heap.size, 0, none⟩) 2 2 [x, y] (words_two hx.at_ hy.at_ hx.len hy.len h.gr.2.2.1 _) rfl (fun l hl z hz => by
      simp at hl
      rcases hl with rfl | rfl
      · exact hx.has z hz
      · exact hy.has z hz) et st eq sq (cell_keep hb1 (cell_keep h.bel he)) (cell_keep hb1 (cell_keep h.bel hsh)) 1020 8 Pr tf (fun _ F1 w1 g1 v1 => hval F1 w1 _ _ g1 v1)).mono ?_
  rintro e w2 (⟨_, uv, tv, rfl, V, out, tr, gs', F', rfl, rfl, h1, h2, h3, h4, h5, h6, ⟨f, hf, h7⟩, h8, h9⟩ | ⟨hk', _⟩)
  · have hlit : LitsAt F' w2 (.slice (some ⟨V, 0, none⟩) 8 8) out := by have := lits_row (c := 8) h3 h4 (by omega); rw [h1] at this; exact this
    exact ⟨V, out, tr, gs', F', f, rfl, h.step (hm.trans h6) h5, hm.trans h6, h7.ext, h7.len, ⟨hlit, h1, h7.has⟩, h8, h9, hf, fun inp => numW_of h7 h1 inp⟩
  · exact absurd hk (by rw [hk']; simp)
end Go.Proofs.YtpiglmaojonbnaaGreatDoor

/-
  lustrumlaw3.WordRests, WALKED: it answers true.
-/
namespace Go.Proofs.YtpiglmaojonbnaaGreatDoor
open Go.RowKit Go.Maps

theorem inp_val (n k : Nat) (inp : List Bool) (hk : k < n) : valL (inps n) inp (2 * (k : Int) + 2) = inp.getD k false := by
  have e : inps n = (inps k ++ [(0, 0)]) ++ inps (n - (k + 1)) := by rw [inps_succ]; unfold inps; rw [List.replicate_append_replicate]; congr 1; omega
  have hh : HasL (inps k ++ [(0, 0)]) (2 * (k : Int) + 2) := by unfold HasL; rw [List.length_append, inps_length]; simp; omega
  rw [e, val_more _ _ _ hh]
  have := val_input (inps k) inp
  rw [inps_length, inps_cnt] at this
  exact this
theorem inp_num {n i : Nat} {l : List Int} {x : Int} (hi : 8 * i + 8 ≤ n) (hx : l[i]? = some x) : numW (inps n) (bitsAll l) (inpW i) = x % 256 := by
  unfold numW
  rw [← natF_bits8 x]
  refine natF_congr fun j hj => ?_
  obtain ⟨z, hz⟩ : ∃ z, (inpW i)[j]? = some z := ⟨_, List.getElem?_eq_getElem (by rw [inpW_length]; exact hj)⟩
  rw [bitsL_get hz, (inpW_get hz).2, inp_val n (8 * i + j) _ (by omega), bitsAll_get l i j x hx hj]
end Go.Proofs.YtpiglmaojonbnaaGreatDoor

/-
  lustrumlaw3.WordRests, WALKED: it answers true.
-/
namespace Go.Proofs.YtpiglmaojonbnaaGreatDoor
open Go.RowKit Go.Maps

end Go.Proofs.YtpiglmaojonbnaaGreatDoor
