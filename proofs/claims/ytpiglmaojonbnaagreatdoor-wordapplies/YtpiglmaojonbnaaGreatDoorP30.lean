/-
  package word: value of neg, - and if, BY CONTRACT.
-/
import Derived.Test.YtpiglmaojonbnaaGreatDoorP29
import Derived.Test.YtpiglmaojonbnaaGreatDoorP22
namespace Go.Proofs.YtpiglmaojonbnaaGreatDoor
open Go.RowKit Go.Maps

theorem bits_turned {gs : List (Int × Int)} {inp : List Bool} {l : List Int} {i : Nat} (hi : i < l.length) : bitsL gs inp (l.map turnL) i = !bitsL gs inp l i := by
  have hx : l[i]? = some l[i] := List.getElem?_eq_getElem hi
  rw [bitsL_get (x := turnL l[i]) (by rw [List.getElem?_map, hx]; rfl), bitsL_get hx, val_turn]
set_option maxRecDepth 100000 in
set_option maxHeartbeats 4000000 in
theorem value_neg {G : Nat} {gs : List (Int × Int)} {ins : Nat} {F : Nat → Prop} {w : World} (h : GrAt G gs ins F w) (o : Option Addr) (c : Nat) (hl : gs.length + 40 < 87000) (a : List Int) (hv : WordsAt F w (.slice o 1 c) [a]) (han : a.length = 8) (ha : ∀ x ∈ a, HasL gs x) :
    Calls Tryz.prog 21 #[.agg #[.pointer (some ⟨G, 0, none⟩)], .string ⟨#[110, 101, 103]⟩, .slice o 1 c] w (ValP G gs ins 40 8 (fun g => g = fun inp => opB true (bitsL gs inp a)) (fun _ => false) F w) := by
  have hb1 : Below w.heap.size w (w.alloc (.cells #[.pointer (some ⟨G, 0, none⟩)] 60)) := (Below.refl _ _).alloc (Nat.le_refl _) _
  have hmv : Mvd F F w (w.alloc (.cells #[.pointer (some ⟨G, 0, none⟩)] 60)) := Mvd.of_below hb1
  obtain ⟨b0, f0, oa, ca, rfl, _, c0, hA⟩ := (hv.move hmv).get (k := 0) rfl
  have hgg := h.below hb1
  obtain ⟨w1, hw1⟩ : ∃ w1, w1 = w.alloc (.cells #[.pointer (some ⟨G, 0, none⟩)] 60) := ⟨_, rfl⟩
  have m1 : w1.cell? ⟨w.heap.size, 0, none⟩ = some (.pointer (some ⟨G, 0, none⟩)) := by rw [hw1]; simp
  rw [← hw1] at hmv c0 hA hgg
  rw [han] at c0 hA
  rw [Nat.add_zero] at c0
  have HOP : Hid (∀ q, Calls Tryz.prog 38 #[.agg #[.pointer (some ⟨G, 0, none⟩)], .int .i64 1, .slice oa 8 ca] (w1.drewN q) fun e w' => ∃ V out gs' F', e = .returned (.slice (some ⟨V, 0, none⟩) 8 8) ∧ out.length = 8 ∧ w1.heap.size ≤ V ∧ w'.heap[V]? = some (.cells (rowI out) 39 (0, 0)) ∧ ¬ F' V ∧ GrAt G gs' ins F' w' ∧ Mvd F F' w1 w' ∧ Mads gs gs' 40 out (fun inp => opB true (bitsL gs inp a))) := fun q =>
    (opposite_any (w := w1.drewN q) (F := F) (by exact hgg) 1 (HasL.one _) _ 8 _ a (by exact hA) han ha (by omega)).mono (by
      rintro e w' ⟨V, out, gs', F', h1, h2, h3, h4, h5, h6, h7, h8⟩
      exact ⟨V, out, gs', F', h1, h2, h3, h4, h5, h6, h7.undrewN, h8.to (by omega) (fun inp i _ => by rw [val_one])⟩)
  have HMV : Hid (Mvd F F w w1) := hmv
  have HW1 : Hid (w.alloc (.cells #[.pointer (some ⟨G, 0, none⟩)] 60) = w1) := hw1.symm
  clear h hl hv han ha hb1 hmv hw1 hgg hA
  go_enter Tryz.func21, Tryz.ntmps21
  go_wp2
  rw [HW1.out]
  clear HW1
  go_quiet (fail)
  go_wp2_with fail
  refine (HOP.out nq).mono ?_
  rintro e w2 ⟨V, out, gs', F', rfl, h1, h2, h3, h4, h5, h6, h7⟩
  have HEND : Hid (ValP G gs ins 40 8 (fun g => g = fun inp => opB true (bitsL gs inp a)) (fun _ => false) F w (.returned (.tuple #[.slice (some ⟨V, 0, none⟩) 8 8, .int .i64 0])) w2) := valP_of HMV.out h1 h2 h3 h4 h5 h6 h7
  clear h1 h2 h3 h4 h5 h6 h7 m1 c0
  go_wp2
  go_ret2
  exact HEND.out
set_option maxRecDepth 100000 in
set_option maxHeartbeats 4000000 in
theorem value_minus {G : Nat} {gs : List (Int × Int)} {ins : Nat} {F : Nat → Prop} {w : World} (h : GrAt G gs ins F w) (o : Option Addr) (c : Nat) (hl : gs.length + 72 < 87000) (a b : List Int) (hv : WordsAt F w (.slice o 2 c) [a, b]) (han : a.length = 8) (hbn : b.length = 8) (ha : ∀ x ∈ a, HasL gs x) (hb : ∀ x ∈ b, HasL gs x) :
    Calls Tryz.prog 21 #[.agg #[.pointer (some ⟨G, 0, none⟩)], .string ⟨#[45]⟩, .slice o 2 c] w (ValP G gs ins 72 8 (fun g => g = fun inp => smB (bitsL gs inp a) (fun i => !bitsL gs inp b i) true) (fun _ => false) F w) := by
  have hb1 : Below w.heap.size w (w.alloc (.cells #[.pointer (some ⟨G, 0, none⟩)] 60)) := (Below.refl _ _).alloc (Nat.le_refl _) _
  have hmv : Mvd F F w (w.alloc (.cells #[.pointer (some ⟨G, 0, none⟩)] 60)) := Mvd.of_below hb1
  obtain ⟨b0, f0, oa, ca, rfl, _, c0, hA⟩ := (hv.move hmv).get (k := 0) rfl
  obtain ⟨b0', f0', ob, cb, e, _, c1, hB⟩ := (hv.move hmv).get (k := 1) rfl
  obtain ⟨rfl, rfl⟩ : b0 = b0' ∧ f0 = f0' := by simpa using e
  have hgg := h.below hb1
  obtain ⟨w1, hw1⟩ : ∃ w1, w1 = w.alloc (.cells #[.pointer (some ⟨G, 0, none⟩)] 60) := ⟨_, rfl⟩
  have m1 : w1.cell? ⟨w.heap.size, 0, none⟩ = some (.pointer (some ⟨G, 0, none⟩)) := by rw [hw1]; simp
  rw [← hw1] at hmv c0 c1 hA hB hgg
  rw [han] at c0 hA
  rw [hbn] at c1 hB
  rw [Nat.add_zero] at c0
  have HTU : Hid (∀ W, LitsAt F W (.slice ob 8 cb) b → Calls Tryz.prog 40 #[.slice ob 8 cb] W fun e w' => ∃ V, e = .returned (.slice (some ⟨V, 0, none⟩) 8 8) ∧ W.heap.size ≤ V ∧ w'.heap[V]? = some (.cells (rowI (b.map turnL)) 39 (0, 0)) ∧ Below W.heap.size W w') := fun W hW => by
    have ht := turned_any _ b hW (fun x hx => (hb x hx).i64 (by omega))
    rw [hbn] at ht
    exact ht
  have HSUM : Hid (∀ W V2, GrAt G gs ins F W → LitsAt F W (.slice oa 8 ca) a → LitsAt F W (.slice (some ⟨V2, 0, none⟩) 8 8) (b.map turnL) → Calls Tryz.prog 39 #[.agg #[.pointer (some ⟨G, 0, none⟩)], .slice oa 8 ca, .slice (some ⟨V2, 0, none⟩) 8 8, .int .i64 1] W fun e w' => ∃ V out c' gs' F', e = .returned (.tuple #[.slice (some ⟨V, 0, none⟩) 8 8, .int .i64 c']) ∧ out.length = 8 ∧ W.heap.size ≤ V ∧ w'.heap[V]? = some (.cells (rowI out) 39 (0, 0)) ∧ ¬ F' V ∧ GrAt G gs' ins F' w' ∧ Mvd F F' W w' ∧ Mads gs gs' 72 out (fun inp => smB (bitsL gs inp a) (fun i => !bitsL gs inp b i) true)) := fun W V2 gW aW tW => by
    have hs := sum_any gW _ _ a (b.map turnL) aW tW (by rw [List.length_map, han, hbn]) ha (fun x hx => by obtain ⟨y, hy, rfl⟩ := List.mem_map.1 hx; exact (hb y hy).turn) 1 (HasL.one _) (by rw [han]; omega)
    refine hs.mono ?_
    rw [han]
    rintro e w' ⟨V, out, c', gs', F', h1, h2, h3, h4, h5, h6, h7, h8, _, _⟩
    refine ⟨V, out, c', gs', F', h1, h2, h3, h4, h5, h6, h7, h8.to (by omega) (fun inp i hi => ?_)⟩
    rw [val_one]
    exact smB_same (n := 8) (fun j hj => ⟨rfl, bits_turned (by rw [hbn]; exact hj)⟩) (by rw [h2] at hi; exact hi)
  have HG1 : Hid (GrAt G gs ins F w1) := hgg
  have HA1 : Hid (LitsAt F w1 (.slice oa 8 ca) a) := hA
  have HBL : Hid (LitsAt F w1 (.slice ob 8 cb) b) := hB
  have HLB : Hid ((b.map turnL).length = 8) := by unfold Hid; rw [List.length_map]; exact hbn
  have HMV : Hid (Mvd F F w w1) := hmv
  have HW1 : Hid (w.alloc (.cells #[.pointer (some ⟨G, 0, none⟩)] 60) = w1) := hw1.symm
  have HF0 : Hid (¬ F w.heap.size) := fun hf => by have := h.2.2.1 _ hf; omega
  clear h hl hv han hbn ha hb hb1 hmv hw1 hgg hA hB e
  go_enter Tryz.func21, Tryz.ntmps21
  go_wp2
  rw [HW1.out]
  clear HW1
  go_quiet (fail)
  go_wp2
  have HGz : Hid (GrAt G gs ins F (w1.drewN nq)) := HG1.out
  have HMz : Hid (Mvd F F w1 (w1.drewN nq)) := ⟨rfl, rfl, rfl, Nat.le_refl _, fun _ _ _ => rfl, fun _ h => .inl h⟩
  have m1z : (w1.drewN nq).cell? ⟨w.heap.size, 0, none⟩ = some (.pointer (some ⟨G, 0, none⟩)) := m1
  have HAz : Hid (LitsAt F (w1.drewN nq) (.slice oa 8 ca) a) := HA1.out
  have HBz : Hid (LitsAt F (w1.drewN nq) (.slice ob 8 cb) b) := HBL.out
  obtain ⟨wz, hwz⟩ : ∃ wz, wz = w1.drewN nq := ⟨_, rfl⟩
  rw [← hwz] at HGz HMz m1z HAz HBz ⊢
  clear hwz m1 c0 c1
  go_region_held3 (fun w' => w'.cell? ⟨w.heap.size, 0, none⟩ = some (.pointer (some ⟨G, 0, none⟩))) ((first | exact t0.1 | exact s0 | exact m1z | go_keep))
    (first
      | (go_at_call 39; refine (HSUM.out _ V2 (by exact HG2.out) (by exact HA2.out) (by exact HT2.out)).mono ?_; rintro e w3 ⟨V, out, c', gs3, F3, rfl, h1, h2, h3, h4, g3, m3, d3⟩; have t0 := m3.cell (by exact s0) HF0.out)
      | (go_at_call 40; refine (HTU.out _ (by exact HBz.out)).mono ?_; rintro e w2 ⟨V2, rfl, v1, v2, v3⟩; have hmz : Mvd F F wz w2 := Mvd.undrew (Mvd.of_below v3); have s0 := (hmz.cell m1z HF0.out).1; have HG2 : Hid (GrAt G gs ins F w2) := GrAt.below (w := wz.drew) (by exact HGz.out) v3; have HA2 : Hid (LitsAt F w2 (.slice oa 8 ca) a) := HAz.out.move hmz; have HT2 : Hid (LitsAt F w2 (.slice (some ⟨V2, 0, none⟩) 8 8) (b.map turnL)) := (by have := lits_row (F := F) (c := 8) v2 (fun hf => by have := HGz.out.2.2.1 _ hf; have v1' : wz.heap.size ≤ V2 := v1; omega) (by rw [HLB.out]; omega); rw [HLB.out] at this; exact this)))
  have HEND : Hid (ValP G gs ins 72 8 (fun g => g = fun inp => smB (bitsL gs inp a) (fun i => !bitsL gs inp b i) true) (fun _ => false) F w (.returned (.tuple #[.slice (some ⟨V, 0, none⟩) 8 8, .int .i64 0])) w3) := valP_of (HMV.out.trans (HMz.out.trans hmz)) h1 h2 h3 h4 g3 m3 d3
  clear h1 h2 h3 h4 g3 m3 d3 t0 s0 v1 v2 v3 hmz m1z
  go_wp2
  go_ret2
  exact HEND.out
set_option maxRecDepth 100000 in
set_option maxHeartbeats 4000000 in
theorem value_if {G : Nat} {gs : List (Int × Int)} {ins : Nat} {F : Nat → Prop} {w : World} (h : GrAt G gs ins F w) (o : Option Addr) (n c : Nat) (hl : gs.length + 3 * n < 87000) (t a b : List Int) (hv : WordsAt F w (.slice o 3 c) [t, a, b]) (htn : t.length = 1) (han : a.length = n) (hbn : b.length = n) (ht : ∀ x ∈ t, HasL gs x) (ha : ∀ x ∈ a, HasL gs x) (hb : ∀ x ∈ b, HasL gs x) :
    Calls Tryz.prog 21 #[.agg #[.pointer (some ⟨G, 0, none⟩)], .string ⟨#[105, 102]⟩, .slice o 3 c] w (ValP G gs ins (3 * n) n (fun g => g = fun inp i => if bitsL gs inp t 0 = true then bitsL gs inp a i else bitsL gs inp b i) (fun _ => false) F w) := by
  have hb1 : Below w.heap.size w (w.alloc (.cells #[.pointer (some ⟨G, 0, none⟩)] 60)) := (Below.refl _ _).alloc (Nat.le_refl _) _
  have hmv : Mvd F F w (w.alloc (.cells #[.pointer (some ⟨G, 0, none⟩)] 60)) := Mvd.of_below hb1
  obtain ⟨b0, f0, ot, ct, rfl, hn0, c0, hT⟩ := (hv.move hmv).get (k := 0) rfl
  obtain ⟨b1, f1, oa, ca, e1, _, c1, hA⟩ := (hv.move hmv).get (k := 1) rfl
  obtain ⟨rfl, rfl⟩ : b0 = b1 ∧ f0 = f1 := by simpa using e1
  obtain ⟨b2, f2, ob, cb, e2, _, c2, hB⟩ := (hv.move hmv).get (k := 2) rfl
  obtain ⟨rfl, rfl⟩ : b0 = b2 ∧ f0 = f2 := by simpa using e2
  have hgg := h.below hb1
  obtain ⟨w1, hw1⟩ : ∃ w1, w1 = w.alloc (.cells #[.pointer (some ⟨G, 0, none⟩)] 60) := ⟨_, rfl⟩
  have m1 : w1.cell? ⟨w.heap.size, 0, none⟩ = some (.pointer (some ⟨G, 0, none⟩)) := by rw [hw1]; simp
  rw [← hw1] at hmv c0 c1 c2 hT hA hB hgg
  rw [htn] at c0 hT
  rw [han] at c1 hA
  rw [hbn] at c2 hB
  rw [Nat.add_zero] at c0
  obtain ⟨x, hx⟩ : ∃ x, t[0]? = some x := ⟨_, List.getElem?_eq_getElem (by omega)⟩
  obtain ⟨bt, ft, rfl, _, hmt⟩ := hT.at hx
  obtain ⟨hnt, hcx⟩ := hmt _ _ (Mvd.refl F w1)
  rw [Nat.add_zero] at hcx
  have HCH : Hid (∀ W, GrAt G gs ins F W → Mvd F F w1 W → Calls Tryz.prog 37 #[.agg #[.pointer (some ⟨G, 0, none⟩)], .int .i64 x, .slice oa n ca, .slice ob n cb] W fun e w' => ∃ V out gs' F', e = .returned (.slice (some ⟨V, 0, none⟩) n n) ∧ out.length = n ∧ W.heap.size ≤ V ∧ w'.heap[V]? = some (.cells (rowI out) 39 (0, 0)) ∧ ¬ F' V ∧ GrAt G gs' ins F' w' ∧ Mvd F F' W w' ∧ Mads gs gs' (3 * n) out (fun inp i => if bitsL gs inp t 0 = true then bitsL gs inp a i else bitsL gs inp b i)) := fun W gW mW =>
    (choice_any gW x (ht x (List.mem_of_getElem? hx)) _ _ n _ _ n a b (hA.move mW) (hB.move mW) han hbn (Nat.le_refl _) ha hb (by omega)).mono (by
      rintro e w' ⟨V, out, gs', F', h1, h2, h3, h4, h5, h6, h7, h8⟩
      exact ⟨V, out, gs', F', h1, h2, h3, h4, h5, h6, h7, h8.to (Nat.le_refl _) (fun inp i _ => by rw [bitsL_get hx])⟩)
  have HG1 : Hid (GrAt G gs ins F w1) := hgg
  have HMV : Hid (Mvd F F w w1) := hmv
  have HW1 : Hid (w.alloc (.cells #[.pointer (some ⟨G, 0, none⟩)] 60) = w1) := hw1.symm
  have HF0 : Hid (¬ F w.heap.size) := fun hf => by have := h.2.2.1 _ hf; omega
  have HN0 : Hid (¬ F b0) := hn0
  have HNT : Hid (¬ F bt) := hnt
  clear h hl hv htn han hbn ht ha hb hb1 hmv hw1 hgg hT hA hB e1 e2 hx hmt hn0 hnt
  go_enter Tryz.func21, Tryz.ntmps21
  go_wp2
  rw [HW1.out]
  clear HW1
  go_quiet (fail)
  go_wp2
  have HGz : Hid (GrAt G gs ins F (w1.drewN nq)) := HG1.out
  have HMz : Hid (Mvd F F w1 (w1.drewN nq)) := ⟨rfl, rfl, rfl, Nat.le_refl _, fun _ _ _ => rfl, fun _ h => .inl h⟩
  have m1z : (w1.drewN nq).cell? ⟨w.heap.size, 0, none⟩ = some (.pointer (some ⟨G, 0, none⟩)) := m1
  have c1z : (w1.drewN nq).cell? ⟨b0, f0 + 1, none⟩ = some (.slice oa n ca) := c1
  have hcxz : (w1.drewN nq).cell? ⟨bt, ft, none⟩ = some (.int .i64 x) := hcx
  obtain ⟨wz, hwz⟩ : ∃ wz, wz = w1.drewN nq := ⟨_, rfl⟩
  rw [← hwz] at HGz HMz m1z c1z hcxz ⊢
  clear hwz m1 c0 c1 c2 hcx
  go_region_held3 (fun w' => w'.cell? ⟨w.heap.size, 0, none⟩ = some (.pointer (some ⟨G, 0, none⟩)) ∧ w'.cell? ⟨b0, f0 + 1, none⟩ = some (.slice oa n ca) ∧ w'.cell? ⟨bt, ft, none⟩ = some (.int .i64 x)) ((first | exact ⟨t0.1, t1.1, t2.1⟩ | exact ⟨m1z, c1z, hcxz⟩ | go_keep))
    (first | (go_at_call 37; refine (HCH.out wz.drew (by exact HGz.out) ⟨HMz.out.os, HMz.out.tape, HMz.out.output, HMz.out.size, HMz.out.block, HMz.out.more⟩).mono ?_; rintro e w2 ⟨V, out, gs2, F2, rfl, h1, h2, h3, h4, g2, m2, d2⟩; have t0 := m2.cell (by exact m1z) HF0.out; have t1 := m2.cell (by exact c1z) HN0.out; have t2 := m2.cell (by exact hcxz) HNT.out))
  have HEND : Hid (ValP G gs ins (3 * n) n (fun g => g = fun inp i => if bitsL gs inp t 0 = true then bitsL gs inp a i else bitsL gs inp b i) (fun _ => false) F w (.returned (.tuple #[.slice (some ⟨V, 0, none⟩) n n, .int .i64 0])) w2) := valP_of (HMV.out.trans HMz.out) h1 (by exact h2) h3 h4 g2 m2.undrew d2
  clear h1 h2 h3 h4 g2 m2 d2 t0 t1 t2 m1z c1z hcxz
  go_wp2
  go_ret2
  exact HEND.out
end Go.Proofs.YtpiglmaojonbnaaGreatDoor
