/-
  package word: truth BY CONTRACT, operator by operator.
-/
import Derived.Test.YtpiglmaojonbnaaGreatDoorP27
namespace Go.Proofs.YtpiglmaojonbnaaGreatDoor
open Go.RowKit Go.Maps

/-- What truth answers. -/
def TruP (G : Nat) (gs : List (Int × Int)) (ins K : Nat) (f : List Bool → Bool) (F : Nat → Prop) (w : World) (e : Ending) (w' : World) : Prop := ∃ x gs' F', e = .returned (.int .i64 x) ∧ GrAt G gs' ins F' w' ∧ Mvd F F' w w' ∧ Mad gs gs' K x f
set_option maxRecDepth 100000 in
set_option maxHeartbeats 2000000 in
theorem truth_ne {G : Nat} {gs : List (Int × Int)} {ins : Nat} {F : Nat → Prop} {w : World} (h : GrAt G gs ins F w) (oa ob : Option Addr) (n ca cb : Nat) (a b : List Int) (hva : LitsAt F w (.slice oa n ca) a) (hvb : LitsAt F w (.slice ob n cb) b) (hna : a.length = n) (hnb : b.length = n) (ha : ∀ x ∈ a, HasL gs x) (hb : ∀ x ∈ b, HasL gs x) (hl : gs.length + 4 * n < 87000) :
    Calls Tryz.prog 45 #[.agg #[.pointer (some ⟨G, 0, none⟩)], .string ⟨#[60, 62]⟩, .slice oa n ca, .slice ob n cb] w (TruP G gs ins (4 * n) (fun inp => orF (fun i => bitsL gs inp a i ^^ bitsL gs inp b i) n) F w) := by
  obtain ⟨w1, hw1⟩ : ∃ w1, w1 = w.alloc (.cells #[.pointer (some ⟨G, 0, none⟩)] 60) := ⟨_, rfl⟩
  have hb1 : Below w.heap.size w w1 := by rw [hw1]; exact (Below.refl _ _).alloc (Nat.le_refl _) _
  have hmv : Mvd F F w w1 := Mvd.of_below hb1
  have m1 : w1.cell? ⟨w.heap.size, 0, none⟩ = some (.pointer (some ⟨G, 0, none⟩)) := by rw [hw1]; simp
  have HM : Hid (Mvd F F w w1) := hmv
  have HW : Hid (w.alloc (.cells #[.pointer (some ⟨G, 0, none⟩)] 60) = w1) := hw1.symm
  have HL : Hid (gs.length + 4 * n < 87000) := hl
  have HC : Hid (Calls Tryz.prog 65 #[.agg #[.pointer (some ⟨G, 0, none⟩)], .slice oa n ca, .slice ob n cb] w1 fun e w' => ∃ x gs' F', e = .returned (.int .i64 x) ∧ GrAt G gs' ins F' w' ∧ Mvd F F' w1 w' ∧ Mad gs gs' (4 * n) x (fun inp => orF (fun i => bitsL gs inp a i ^^ bitsL gs inp b i) n)) := unlike_any (h.below hb1) _ _ n _ _ a b (hva.move hmv) (hvb.move hmv) hna hnb ha hb (by omega)
  clear h hva hvb hna hnb ha hb hl hb1 hmv hw1
  go_enter Tryz.func45, Tryz.ntmps45
  go_wp2_with fail
  rw [HW.out]
  refine HC.out.mono ?_
  rintro e w2 ⟨x, g2, F2, rfl, G2, M2, D2⟩
  have HEND : Hid (GrAt G g2 ins F2 w2 ∧ Mvd F F2 w w2 ∧ Mad gs g2 (4 * n) x (fun inp => orF (fun i => bitsL gs inp a i ^^ bitsL gs inp b i) n)) := ⟨G2, HM.out.trans M2, D2⟩
  clear G2 M2 D2 m1
  go_wp2
  go_ret
  exact ⟨_, g2, F2, rfl, HEND.out.1, HEND.out.2.1, HEND.out.2.2⟩
set_option maxRecDepth 100000 in
set_option maxHeartbeats 2000000 in
theorem truth_eq {G : Nat} {gs : List (Int × Int)} {ins : Nat} {F : Nat → Prop} {w : World} (h : GrAt G gs ins F w) (oa ob : Option Addr) (n ca cb : Nat) (a b : List Int) (hva : LitsAt F w (.slice oa n ca) a) (hvb : LitsAt F w (.slice ob n cb) b) (hna : a.length = n) (hnb : b.length = n) (ha : ∀ x ∈ a, HasL gs x) (hb : ∀ x ∈ b, HasL gs x) (hl : gs.length + 4 * n < 87000) :
    Calls Tryz.prog 45 #[.agg #[.pointer (some ⟨G, 0, none⟩)], .string ⟨#[61]⟩, .slice oa n ca, .slice ob n cb] w (TruP G gs ins (4 * n) (fun inp => !orF (fun i => bitsL gs inp a i ^^ bitsL gs inp b i) n) F w) := by
  obtain ⟨w1, hw1⟩ : ∃ w1, w1 = w.alloc (.cells #[.pointer (some ⟨G, 0, none⟩)] 60) := ⟨_, rfl⟩
  have hb1 : Below w.heap.size w w1 := by rw [hw1]; exact (Below.refl _ _).alloc (Nat.le_refl _) _
  have hmv : Mvd F F w w1 := Mvd.of_below hb1
  have m1 : w1.cell? ⟨w.heap.size, 0, none⟩ = some (.pointer (some ⟨G, 0, none⟩)) := by rw [hw1]; simp
  have HM : Hid (Mvd F F w w1) := hmv
  have HW : Hid (w.alloc (.cells #[.pointer (some ⟨G, 0, none⟩)] 60) = w1) := hw1.symm
  have HL : Hid (gs.length + 4 * n < 87000) := hl
  have HC : Hid (Calls Tryz.prog 65 #[.agg #[.pointer (some ⟨G, 0, none⟩)], .slice oa n ca, .slice ob n cb] w1 fun e w' => ∃ x gs' F', e = .returned (.int .i64 x) ∧ GrAt G gs' ins F' w' ∧ Mvd F F' w1 w' ∧ Mad gs gs' (4 * n) x (fun inp => orF (fun i => bitsL gs inp a i ^^ bitsL gs inp b i) n)) := unlike_any (h.below hb1) _ _ n _ _ a b (hva.move hmv) (hvb.move hmv) hna hnb ha hb (by omega)
  clear h hva hvb hna hnb ha hb hl hb1 hmv hw1
  go_enter Tryz.func45, Tryz.ntmps45
  go_wp2_with fail
  rw [HW.out]
  refine HC.out.mono ?_
  rintro e w2 ⟨x, g2, F2, rfl, G2, M2, D2⟩
  have ix : I64 x := D2.has.i64 (by have := D2.len; have := HL.out; omega)
  have HEND : Hid (GrAt G g2 ins F2 w2 ∧ Mvd F F2 w w2 ∧ Mad gs g2 (4 * n) (turnL x) (fun inp => !orF (fun i => bitsL gs inp a i ^^ bitsL gs inp b i) n)) := ⟨G2, HM.out.trans M2, ⟨D2.ext, D2.len, D2.has.turn, fun inp => by rw [val_turn, D2.val inp]⟩⟩
  clear G2 M2 D2 m1
  go_wp2_with (go_at_call 60; refine (not_any _ _ (by assumption)).mono ?_; rintro e w' ⟨rfl, rfl⟩)
  go_ret
  exact ⟨_, g2, F2, rfl, HEND.out.1, HEND.out.2.1, HEND.out.2.2⟩
set_option maxRecDepth 100000 in
set_option maxHeartbeats 2000000 in
theorem truth_lt {G : Nat} {gs : List (Int × Int)} {ins : Nat} {F : Nat → Prop} {w : World} (h : GrAt G gs ins F w) (oa ob : Option Addr) (ca cb : Nat) (a b : List Int) (hva : LitsAt F w (.slice oa 8 ca) a) (hvb : LitsAt F w (.slice ob 8 cb) b) (hna : a.length = 8) (hnb : b.length = 8) (ha : ∀ x ∈ a, HasL gs x) (hb : ∀ x ∈ b, HasL gs x) (hl : gs.length + 32 < 87000) :
    Calls Tryz.prog 45 #[.agg #[.pointer (some ⟨G, 0, none⟩)], .string ⟨#[60]⟩, .slice oa 8 ca, .slice ob 8 cb] w (TruP G gs ins (32) (fun inp => lessB (bitsL gs inp a) (bitsL gs inp b)) F w) := by
  obtain ⟨w1, hw1⟩ : ∃ w1, w1 = w.alloc (.cells #[.pointer (some ⟨G, 0, none⟩)] 60) := ⟨_, rfl⟩
  have hb1 : Below w.heap.size w w1 := by rw [hw1]; exact (Below.refl _ _).alloc (Nat.le_refl _) _
  have hmv : Mvd F F w w1 := Mvd.of_below hb1
  have m1 : w1.cell? ⟨w.heap.size, 0, none⟩ = some (.pointer (some ⟨G, 0, none⟩)) := by rw [hw1]; simp
  have HM : Hid (Mvd F F w w1) := hmv
  have HW : Hid (w.alloc (.cells #[.pointer (some ⟨G, 0, none⟩)] 60) = w1) := hw1.symm
  have HL : Hid (gs.length + 32 < 87000) := hl
  have HC : Hid (Calls Tryz.prog 66 #[.agg #[.pointer (some ⟨G, 0, none⟩)], .slice oa 8 ca, .slice ob 8 cb] w1 fun e w' => ∃ x gs' F', e = .returned (.int .i64 x) ∧ GrAt G gs' ins F' w' ∧ Mvd F F' w1 w' ∧ Mad gs gs' (32) x (fun inp => lessB (bitsL gs inp a) (bitsL gs inp b))) := less_any (h.below hb1) _ _ _ _ a b (hva.move hmv) (hvb.move hmv) hna hnb ha hb (by omega)
  clear h hva hvb hna hnb ha hb hl hb1 hmv hw1
  go_enter Tryz.func45, Tryz.ntmps45
  go_wp2_with fail
  rw [HW.out]
  refine HC.out.mono ?_
  rintro e w2 ⟨x, g2, F2, rfl, G2, M2, D2⟩
  have HEND : Hid (GrAt G g2 ins F2 w2 ∧ Mvd F F2 w w2 ∧ Mad gs g2 (32) x (fun inp => lessB (bitsL gs inp a) (bitsL gs inp b))) := ⟨G2, HM.out.trans M2, D2⟩
  clear G2 M2 D2 m1
  go_wp2
  go_ret
  exact ⟨_, g2, F2, rfl, HEND.out.1, HEND.out.2.1, HEND.out.2.2⟩
set_option maxRecDepth 100000 in
set_option maxHeartbeats 2000000 in
theorem truth_gt {G : Nat} {gs : List (Int × Int)} {ins : Nat} {F : Nat → Prop} {w : World} (h : GrAt G gs ins F w) (oa ob : Option Addr) (ca cb : Nat) (a b : List Int) (hva : LitsAt F w (.slice oa 8 ca) a) (hvb : LitsAt F w (.slice ob 8 cb) b) (hna : a.length = 8) (hnb : b.length = 8) (ha : ∀ x ∈ a, HasL gs x) (hb : ∀ x ∈ b, HasL gs x) (hl : gs.length + 32 < 87000) :
    Calls Tryz.prog 45 #[.agg #[.pointer (some ⟨G, 0, none⟩)], .string ⟨#[62]⟩, .slice oa 8 ca, .slice ob 8 cb] w (TruP G gs ins (32) (fun inp => lessB (bitsL gs inp b) (bitsL gs inp a)) F w) := by
  obtain ⟨w1, hw1⟩ : ∃ w1, w1 = w.alloc (.cells #[.pointer (some ⟨G, 0, none⟩)] 60) := ⟨_, rfl⟩
  have hb1 : Below w.heap.size w w1 := by rw [hw1]; exact (Below.refl _ _).alloc (Nat.le_refl _) _
  have hmv : Mvd F F w w1 := Mvd.of_below hb1
  have m1 : w1.cell? ⟨w.heap.size, 0, none⟩ = some (.pointer (some ⟨G, 0, none⟩)) := by rw [hw1]; simp
  have HM : Hid (Mvd F F w w1) := hmv
  have HW : Hid (w.alloc (.cells #[.pointer (some ⟨G, 0, none⟩)] 60) = w1) := hw1.symm
  have HL : Hid (gs.length + 32 < 87000) := hl
  have HC : Hid (Calls Tryz.prog 66 #[.agg #[.pointer (some ⟨G, 0, none⟩)], .slice ob 8 cb, .slice oa 8 ca] w1 fun e w' => ∃ x gs' F', e = .returned (.int .i64 x) ∧ GrAt G gs' ins F' w' ∧ Mvd F F' w1 w' ∧ Mad gs gs' (32) x (fun inp => lessB (bitsL gs inp b) (bitsL gs inp a))) := less_any (h.below hb1) _ _ _ _ b a (hvb.move hmv) (hva.move hmv) hnb hna hb ha (by omega)
  clear h hva hvb hna hnb ha hb hl hb1 hmv hw1
  go_enter Tryz.func45, Tryz.ntmps45
  go_wp2_with fail
  rw [HW.out]
  refine HC.out.mono ?_
  rintro e w2 ⟨x, g2, F2, rfl, G2, M2, D2⟩
  have HEND : Hid (GrAt G g2 ins F2 w2 ∧ Mvd F F2 w w2 ∧ Mad gs g2 (32) x (fun inp => lessB (bitsL gs inp b) (bitsL gs inp a))) := ⟨G2, HM.out.trans M2, D2⟩
  clear G2 M2 D2 m1
  go_wp2
  go_ret
  exact ⟨_, g2, F2, rfl, HEND.out.1, HEND.out.2.1, HEND.out.2.2⟩
set_option maxRecDepth 100000 in
set_option maxHeartbeats 2000000 in
theorem truth_le {G : Nat} {gs : List (Int × Int)} {ins : Nat} {F : Nat → Prop} {w : World} (h : GrAt G gs ins F w) (oa ob : Option Addr) (ca cb : Nat) (a b : List Int) (hva : LitsAt F w (.slice oa 8 ca) a) (hvb : LitsAt F w (.slice ob 8 cb) b) (hna : a.length = 8) (hnb : b.length = 8) (ha : ∀ x ∈ a, HasL gs x) (hb : ∀ x ∈ b, HasL gs x) (hl : gs.length + 32 < 87000) :
    Calls Tryz.prog 45 #[.agg #[.pointer (some ⟨G, 0, none⟩)], .string ⟨#[60, 61]⟩, .slice oa 8 ca, .slice ob 8 cb] w (TruP G gs ins (32) (fun inp => !lessB (bitsL gs inp b) (bitsL gs inp a)) F w) := by
  obtain ⟨w1, hw1⟩ : ∃ w1, w1 = w.alloc (.cells #[.pointer (some ⟨G, 0, none⟩)] 60) := ⟨_, rfl⟩
  have hb1 : Below w.heap.size w w1 := by rw [hw1]; exact (Below.refl _ _).alloc (Nat.le_refl _) _
  have hmv : Mvd F F w w1 := Mvd.of_below hb1
  have m1 : w1.cell? ⟨w.heap.size, 0, none⟩ = some (.pointer (some ⟨G, 0, none⟩)) := by rw [hw1]; simp
  have HM : Hid (Mvd F F w w1) := hmv
  have HW : Hid (w.alloc (.cells #[.pointer (some ⟨G, 0, none⟩)] 60) = w1) := hw1.symm
  have HL : Hid (gs.length + 32 < 87000) := hl
  have HC : Hid (Calls Tryz.prog 66 #[.agg #[.pointer (some ⟨G, 0, none⟩)], .slice ob 8 cb, .slice oa 8 ca] w1 fun e w' => ∃ x gs' F', e = .returned (.int .i64 x) ∧ GrAt G gs' ins F' w' ∧ Mvd F F' w1 w' ∧ Mad gs gs' (32) x (fun inp => lessB (bitsL gs inp b) (bitsL gs inp a))) := less_any (h.below hb1) _ _ _ _ b a (hvb.move hmv) (hva.move hmv) hnb hna hb ha (by omega)
  clear h hva hvb hna hnb ha hb hl hb1 hmv hw1
  go_enter Tryz.func45, Tryz.ntmps45
  go_wp2_with fail
  rw [HW.out]
  refine HC.out.mono ?_
  rintro e w2 ⟨x, g2, F2, rfl, G2, M2, D2⟩
  have ix : I64 x := D2.has.i64 (by have := D2.len; have := HL.out; omega)
  have HEND : Hid (GrAt G g2 ins F2 w2 ∧ Mvd F F2 w w2 ∧ Mad gs g2 (32) (turnL x) (fun inp => !lessB (bitsL gs inp b) (bitsL gs inp a))) := ⟨G2, HM.out.trans M2, ⟨D2.ext, D2.len, D2.has.turn, fun inp => by rw [val_turn, D2.val inp]⟩⟩
  clear G2 M2 D2 m1
  go_wp2_with (go_at_call 60; refine (not_any _ _ (by assumption)).mono ?_; rintro e w' ⟨rfl, rfl⟩)
  go_ret
  exact ⟨_, g2, F2, rfl, HEND.out.1, HEND.out.2.1, HEND.out.2.2⟩
set_option maxRecDepth 100000 in
set_option maxHeartbeats 2000000 in
theorem truth_ge {G : Nat} {gs : List (Int × Int)} {ins : Nat} {F : Nat → Prop} {w : World} (h : GrAt G gs ins F w) (oa ob : Option Addr) (ca cb : Nat) (a b : List Int) (hva : LitsAt F w (.slice oa 8 ca) a) (hvb : LitsAt F w (.slice ob 8 cb) b) (hna : a.length = 8) (hnb : b.length = 8) (ha : ∀ x ∈ a, HasL gs x) (hb : ∀ x ∈ b, HasL gs x) (hl : gs.length + 32 < 87000) :
    Calls Tryz.prog 45 #[.agg #[.pointer (some ⟨G, 0, none⟩)], .string ⟨#[62, 61]⟩, .slice oa 8 ca, .slice ob 8 cb] w (TruP G gs ins (32) (fun inp => !lessB (bitsL gs inp a) (bitsL gs inp b)) F w) := by
  obtain ⟨w1, hw1⟩ : ∃ w1, w1 = w.alloc (.cells #[.pointer (some ⟨G, 0, none⟩)] 60) := ⟨_, rfl⟩
  have hb1 : Below w.heap.size w w1 := by rw [hw1]; exact (Below.refl _ _).alloc (Nat.le_refl _) _
  have hmv : Mvd F F w w1 := Mvd.of_below hb1
  have m1 : w1.cell? ⟨w.heap.size, 0, none⟩ = some (.pointer (some ⟨G, 0, none⟩)) := by rw [hw1]; simp
  have HM : Hid (Mvd F F w w1) := hmv
  have HW : Hid (w.alloc (.cells #[.pointer (some ⟨G, 0, none⟩)] 60) = w1) := hw1.symm
  have HL : Hid (gs.length + 32 < 87000) := hl
  have HC : Hid (Calls Tryz.prog 66 #[.agg #[.pointer (some ⟨G, 0, none⟩)], .slice oa 8 ca, .slice ob 8 cb] w1 fun e w' => ∃ x gs' F', e = .returned (.int .i64 x) ∧ GrAt G gs' ins F' w' ∧ Mvd F F' w1 w' ∧ Mad gs gs' (32) x (fun inp => lessB (bitsL gs inp a) (bitsL gs inp b))) := less_any (h.below hb1) _ _ _ _ a b (hva.move hmv) (hvb.move hmv) hna hnb ha hb (by omega)
  clear h hva hvb hna hnb ha hb hl hb1 hmv hw1
  go_enter Tryz.func45, Tryz.ntmps45
  go_wp2_with fail
  rw [HW.out]
  refine HC.out.mono ?_
  rintro e w2 ⟨x, g2, F2, rfl, G2, M2, D2⟩
  have ix : I64 x := D2.has.i64 (by have := D2.len; have := HL.out; omega)
  have HEND : Hid (GrAt G g2 ins F2 w2 ∧ Mvd F F2 w w2 ∧ Mad gs g2 (32) (turnL x) (fun inp => !lessB (bitsL gs inp a) (bitsL gs inp b))) := ⟨G2, HM.out.trans M2, ⟨D2.ext, D2.len, D2.has.turn, fun inp => by rw [val_turn, D2.val inp]⟩⟩
  clear G2 M2 D2 m1
  go_wp2_with (go_at_call 60; refine (not_any _ _ (by assumption)).mono ?_; rintro e w' ⟨rfl, rfl⟩)
  go_ret
  exact ⟨_, g2, F2, rfl, HEND.out.1, HEND.out.2.1, HEND.out.2.2⟩
set_option maxRecDepth 100000 in
set_option maxHeartbeats 2000000 in
theorem truth_and {G : Nat} {gs : List (Int × Int)} {ins : Nat} {F : Nat → Prop} {w : World} (h : GrAt G gs ins F w) (oa ob : Option Addr) (ca cb : Nat) (a b : List Int) (hva : LitsAt F w (.slice oa 1 ca) a) (hvb : LitsAt F w (.slice ob 1 cb) b) (hna : a.length = 1) (hnb : b.length = 1) (ha : ∀ x ∈ a, HasL gs x) (hb : ∀ x ∈ b, HasL gs x) (hl : gs.length + 1 < 87000) :
    Calls Tryz.prog 45 #[.agg #[.pointer (some ⟨G, 0, none⟩)], .string ⟨#[97, 110, 100]⟩, .slice oa 1 ca, .slice ob 1 cb] w (TruP G gs ins (1) (fun inp => bitsL gs inp a 0 && bitsL gs inp b 0) F w) := by
  obtain ⟨w1, hw1⟩ : ∃ w1, w1 = w.alloc (.cells #[.pointer (some ⟨G, 0, none⟩)] 60) := ⟨_, rfl⟩
  have hb1 : Below w.heap.size w w1 := by rw [hw1]; exact (Below.refl _ _).alloc (Nat.le_refl _) _
  have hmv : Mvd F F w w1 := Mvd.of_below hb1
  have m1 : w1.cell? ⟨w.heap.size, 0, none⟩ = some (.pointer (some ⟨G, 0, none⟩)) := by rw [hw1]; simp
  have HM : Hid (Mvd F F w w1) := hmv
  have HW : Hid (w.alloc (.cells #[.pointer (some ⟨G, 0, none⟩)] 60) = w1) := hw1.symm
  have HL : Hid (gs.length + 1 < 87000) := hl
  obtain ⟨x, hx⟩ : ∃ x, a[0]? = some x := ⟨_, List.getElem?_eq_getElem (by omega)⟩
  obtain ⟨y, hy⟩ : ∃ y, b[0]? = some y := ⟨_, List.getElem?_eq_getElem (by omega)⟩
  obtain ⟨ba, fa, rfl, _, hmva⟩ := hva.at hx
  obtain ⟨bb, fb, rfl, _, hmvb⟩ := hvb.at hy
  obtain ⟨hxa, hcx⟩ := hmva _ _ hmv
  obtain ⟨hyb, hcy⟩ := hmvb _ _ hmv
  rw [Nat.add_zero] at hcx hcy
  have HX : Hid (HasL gs x) := ha x (List.mem_of_getElem? hx)
  have HY : Hid (HasL gs y) := hb y (List.mem_of_getElem? hy)
  have HVX : Hid (∀ inp, valL gs inp x = bitsL gs inp a 0) := fun inp => (bitsL_get hx).symm
  have HVY : Hid (∀ inp, valL gs inp y = bitsL gs inp b 0) := fun inp => (bitsL_get hy).symm
  have HG : Hid (GrAt G gs ins F w1) := h.below hb1
  have HnM : Hid (¬ F w.heap.size) := fun hf => by have := h.2.2.1 _ hf; omega
  have Hxa : Hid (¬ F ba) := hxa
  have Hyb : Hid (¬ F bb) := hyb
  clear h hva hvb hna hnb ha hb hl hb1 hmv hw1 hx hy hmva hmvb hxa hyb
  go_enter Tryz.func45, Tryz.ntmps45
  go_wp2
  rw [HW.out]
  go_region_held3 (fun w' => w'.cell? ⟨w.heap.size, 0, none⟩ = some (.pointer (some ⟨G, 0, none⟩)) ∧ w'.cell? ⟨ba, fa, none⟩ = some (.int .i64 x) ∧ w'.cell? ⟨bb, fb, none⟩ = some (.int .i64 y)) ((first | exact ⟨q0.1, q1.1, q2.1⟩ | exact ⟨m1, hcx, hcy⟩ | go_keep))
    (first
      | (go_at_call 36; refine (mand_any (by exact HG.out) (by have := HL.out; omega) _ _ HX.out HY.out).mono ?_; rintro e w2 ⟨x1, g2, F2, rfl, G2, M2, D2⟩; have q0 := M2.cell (by exact m1) HnM.out; have q1 := M2.cell (by exact hcx) Hxa.out; have q2 := M2.cell (by exact hcy) Hyb.out))
  have HEND : Hid (GrAt G g2 ins F2 w2 ∧ Mvd F F2 w w2 ∧ Mad gs g2 (1) x1 (fun inp => bitsL gs inp a 0 && bitsL gs inp b 0)) := ⟨G2, HM.out.trans M2.undrew, ⟨D2.ext, D2.len, D2.has, fun inp => by rw [D2.val inp, HVX.out inp, HVY.out inp]⟩⟩
  clear q0 q1 q2 G2 M2 D2 m1 hcx hcy
  go_wp2
  go_ret
  exact ⟨_, g2, F2, rfl, HEND.out.1, HEND.out.2.1, HEND.out.2.2⟩
set_option maxRecDepth 100000 in
set_option maxHeartbeats 2000000 in
theorem truth_or {G : Nat} {gs : List (Int × Int)} {ins : Nat} {F : Nat → Prop} {w : World} (h : GrAt G gs ins F w) (oa ob : Option Addr) (ca cb : Nat) (a b : List Int) (hva : LitsAt F w (.slice oa 1 ca) a) (hvb : LitsAt F w (.slice ob 1 cb) b) (hna : a.length = 1) (hnb : b.length = 1) (ha : ∀ x ∈ a, HasL gs x) (hb : ∀ x ∈ b, HasL gs x) (hl : gs.length + 1 < 87000) :
    Calls Tryz.prog 45 #[.agg #[.pointer (some ⟨G, 0, none⟩)], .string ⟨#[111, 114]⟩, .slice oa 1 ca, .slice ob 1 cb] w (TruP G gs ins (1) (fun inp => bitsL gs inp a 0 || bitsL gs inp b 0) F w) := by
  obtain ⟨w1, hw1⟩ : ∃ w1, w1 = w.alloc (.cells #[.pointer (some ⟨G, 0, none⟩)] 60) := ⟨_, rfl⟩
  have hb1 : Below w.heap.size w w1 := by rw [hw1]; exact (Below.refl _ _).alloc (Nat.le_refl _) _
  have hmv : Mvd F F w w1 := Mvd.of_below hb1
  have m1 : w1.cell? ⟨w.heap.size, 0, none⟩ = some (.pointer (some ⟨G, 0, none⟩)) := by rw [hw1]; simp
  have HM : Hid (Mvd F F w w1) := hmv
  have HW : Hid (w.alloc (.cells #[.pointer (some ⟨G, 0, none⟩)] 60) = w1) := hw1.symm
  have HL : Hid (gs.length + 1 < 87000) := hl
  obtain ⟨x, hx⟩ : ∃ x, a[0]? = some x := ⟨_, List.getElem?_eq_getElem (by omega)⟩
  obtain ⟨y, hy⟩ : ∃ y, b[0]? = some y := ⟨_, List.getElem?_eq_getElem (by omega)⟩
  obtain ⟨ba, fa, rfl, _, hmva⟩ := hva.at hx
  obtain ⟨bb, fb, rfl, _, hmvb⟩ := hvb.at hy
  obtain ⟨hxa, hcx⟩ := hmva _ _ hmv
  obtain ⟨hyb, hcy⟩ := hmvb _ _ hmv
  rw [Nat.add_zero] at hcx hcy
  have HX : Hid (HasL gs x) := ha x (List.mem_of_getElem? hx)
  have HY : Hid (HasL gs y) := hb y (List.mem_of_getElem? hy)
  have HVX : Hid (∀ inp, valL gs inp x = bitsL gs inp a 0) := fun inp => (bitsL_get hx).symm
  have HVY : Hid (∀ inp, valL gs inp y = bitsL gs inp b 0) := fun inp => (bitsL_get hy).symm
  have HG : Hid (GrAt G gs ins F w1) := h.below hb1
  have HnM : Hid (¬ F w.heap.size) := fun hf => by have := h.2.2.1 _ hf; omega
  have Hxa : Hid (¬ F ba) := hxa
  have Hyb : Hid (¬ F bb) := hyb
  clear h hva hvb hna hnb ha hb hl hb1 hmv hw1 hx hy hmva hmvb hxa hyb
  go_enter Tryz.func45, Tryz.ntmps45
  go_wp2
  rw [HW.out]
  go_region_held3 (fun w' => w'.cell? ⟨w.heap.size, 0, none⟩ = some (.pointer (some ⟨G, 0, none⟩)) ∧ w'.cell? ⟨ba, fa, none⟩ = some (.int .i64 x) ∧ w'.cell? ⟨bb, fb, none⟩ = some (.int .i64 y)) ((first | exact ⟨q0.1, q1.1, q2.1⟩ | exact ⟨m1, hcx, hcy⟩ | go_keep))
    (first
      | (go_at_call 59; refine (mor_any (by exact HG.out) (by have := HL.out; omega) _ _ HX.out HY.out).mono ?_; rintro e w2 ⟨x1, g2, F2, rfl, G2, M2, D2⟩; have q0 := M2.cell (by exact m1) HnM.out; have q1 := M2.cell (by exact hcx) Hxa.out; have q2 := M2.cell (by exact hcy) Hyb.out))
  have HEND : Hid (GrAt G g2 ins F2 w2 ∧ Mvd F F2 w w2 ∧ Mad gs g2 (1) x1 (fun inp => bitsL gs inp a 0 || bitsL gs inp b 0)) := ⟨G2, HM.out.trans M2.undrew, ⟨D2.ext, D2.len, D2.has, fun inp => by rw [D2.val inp, HVX.out inp, HVY.out inp]⟩⟩
  clear q0 q1 q2 G2 M2 D2 m1 hcx hcy
  go_wp2
  go_ret
  exact ⟨_, g2, F2, rfl, HEND.out.1, HEND.out.2.1, HEND.out.2.2⟩
set_option maxRecDepth 100000 in
set_option maxHeartbeats 2000000 in
theorem truth_xor {G : Nat} {gs : List (Int × Int)} {ins : Nat} {F : Nat → Prop} {w : World} (h : GrAt G gs ins F w) (oa ob : Option Addr) (ca cb : Nat) (a b : List Int) (hva : LitsAt F w (.slice oa 1 ca) a) (hvb : LitsAt F w (.slice ob 1 cb) b) (hna : a.length = 1) (hnb : b.length = 1) (ha : ∀ x ∈ a, HasL gs x) (hb : ∀ x ∈ b, HasL gs x) (hl : gs.length + 3 < 87000) :
    Calls Tryz.prog 45 #[.agg #[.pointer (some ⟨G, 0, none⟩)], .string ⟨#[120, 111, 114]⟩, .slice oa 1 ca, .slice ob 1 cb] w (TruP G gs ins (3) (fun inp => bitsL gs inp a 0 ^^ bitsL gs inp b 0) F w) := by
  obtain ⟨w1, hw1⟩ : ∃ w1, w1 = w.alloc (.cells #[.pointer (some ⟨G, 0, none⟩)] 60) := ⟨_, rfl⟩
  have hb1 : Below w.heap.size w w1 := by rw [hw1]; exact (Below.refl _ _).alloc (Nat.le_refl _) _
  have hmv : Mvd F F w w1 := Mvd.of_below hb1
  have m1 : w1.cell? ⟨w.heap.size, 0, none⟩ = some (.pointer (some ⟨G, 0, none⟩)) := by rw [hw1]; simp
  have HM : Hid (Mvd F F w w1) := hmv
  have HW : Hid (w.alloc (.cells #[.pointer (some ⟨G, 0, none⟩)] 60) = w1) := hw1.symm
  have HL : Hid (gs.length + 3 < 87000) := hl
  obtain ⟨x, hx⟩ : ∃ x, a[0]? = some x := ⟨_, List.getElem?_eq_getElem (by omega)⟩
  obtain ⟨y, hy⟩ : ∃ y, b[0]? = some y := ⟨_, List.getElem?_eq_getElem (by omega)⟩
  obtain ⟨ba, fa, rfl, _, hmva⟩ := hva.at hx
  obtain ⟨bb, fb, rfl, _, hmvb⟩ := hvb.at hy
  obtain ⟨hxa, hcx⟩ := hmva _ _ hmv
  obtain ⟨hyb, hcy⟩ := hmvb _ _ hmv
  rw [Nat.add_zero] at hcx hcy
  have HX : Hid (HasL gs x) := ha x (List.mem_of_getElem? hx)
  have HY : Hid (HasL gs y) := hb y (List.mem_of_getElem? hy)
  have HVX : Hid (∀ inp, valL gs inp x = bitsL gs inp a 0) := fun inp => (bitsL_get hx).symm
  have HVY : Hid (∀ inp, valL gs inp y = bitsL gs inp b 0) := fun inp => (bitsL_get hy).symm
  have HG : Hid (GrAt G gs ins F w1) := h.below hb1
  have HnM : Hid (¬ F w.heap.size) := fun hf => by have := h.2.2.1 _ hf; omega
  have Hxa : Hid (¬ F ba) := hxa
  have Hyb : Hid (¬ F bb) := hyb
  clear h hva hvb hna hnb ha hb hl hb1 hmv hw1 hx hy hmva hmvb hxa hyb
  go_enter Tryz.func45, Tryz.ntmps45
  go_wp2
  rw [HW.out]
  go_region_held3 (fun w' => w'.cell? ⟨w.heap.size, 0, none⟩ = some (.pointer (some ⟨G, 0, none⟩)) ∧ w'.cell? ⟨ba, fa, none⟩ = some (.int .i64 x) ∧ w'.cell? ⟨bb, fb, none⟩ = some (.int .i64 y)) ((first | exact ⟨q0.1, q1.1, q2.1⟩ | exact ⟨m1, hcx, hcy⟩ | go_keep))
    (first
      | (go_at_call 58; refine (mxor_any (by exact HG.out) (by have := HL.out; omega) _ _ HX.out HY.out).mono ?_; rintro e w2 ⟨x1, g2, F2, rfl, G2, M2, D2⟩; have q0 := M2.cell (by exact m1) HnM.out; have q1 := M2.cell (by exact hcx) Hxa.out; have q2 := M2.cell (by exact hcy) Hyb.out))
  have HEND : Hid (GrAt G g2 ins F2 w2 ∧ Mvd F F2 w w2 ∧ Mad gs g2 (3) x1 (fun inp => bitsL gs inp a 0 ^^ bitsL gs inp b 0)) := ⟨G2, HM.out.trans M2.undrew, ⟨D2.ext, D2.len, D2.has, fun inp => by rw [D2.val inp, HVX.out inp, HVY.out inp]⟩⟩
  clear q0 q1 q2 G2 M2 D2 m1 hcx hcy
  go_wp2
  go_ret
  exact ⟨_, g2, F2, rfl, HEND.out.1, HEND.out.2.1, HEND.out.2.2⟩
set_option maxRecDepth 100000 in
set_option maxHeartbeats 2000000 in
theorem truth_imp {G : Nat} {gs : List (Int × Int)} {ins : Nat} {F : Nat → Prop} {w : World} (h : GrAt G gs ins F w) (oa ob : Option Addr) (ca cb : Nat) (a b : List Int) (hva : LitsAt F w (.slice oa 1 ca) a) (hvb : LitsAt F w (.slice ob 1 cb) b) (hna : a.length = 1) (hnb : b.length = 1) (ha : ∀ x ∈ a, HasL gs x) (hb : ∀ x ∈ b, HasL gs x) (hl : gs.length + 1 < 87000) :
    Calls Tryz.prog 45 #[.agg #[.pointer (some ⟨G, 0, none⟩)], .string ⟨#[61, 62]⟩, .slice oa 1 ca, .slice ob 1 cb] w (TruP G gs ins (1) (fun inp => !bitsL gs inp a 0 || bitsL gs inp b 0) F w) := by
  obtain ⟨w1, hw1⟩ : ∃ w1, w1 = w.alloc (.cells #[.pointer (some ⟨G, 0, none⟩)] 60) := ⟨_, rfl⟩
  have hb1 : Below w.heap.size w w1 := by rw [hw1]; exact (Below.refl _ _).alloc (Nat.le_refl _) _
  have hmv : Mvd F F w w1 := Mvd.of_below hb1
  have m1 : w1.cell? ⟨w.heap.size, 0, none⟩ = some (.pointer (some ⟨G, 0, none⟩)) := by rw [hw1]; simp
  have HM : Hid (Mvd F F w w1) := hmv
  have HW : Hid (w.alloc (.cells #[.pointer (some ⟨G, 0, none⟩)] 60) = w1) := hw1.symm
  have HL : Hid (gs.length + 1 < 87000) := hl
  obtain ⟨x, hx⟩ : ∃ x, a[0]? = some x := ⟨_, List.getElem?_eq_getElem (by omega)⟩
  obtain ⟨y, hy⟩ : ∃ y, b[0]? = some y := ⟨_, List.getElem?_eq_getElem (by omega)⟩
  obtain ⟨ba, fa, rfl, _, hmva⟩ := hva.at hx
  obtain ⟨bb, fb, rfl, _, hmvb⟩ := hvb.at hy
  obtain ⟨hxa, hcx⟩ := hmva _ _ hmv
  obtain ⟨hyb, hcy⟩ := hmvb _ _ hmv
  rw [Nat.add_zero] at hcx hcy
  have HX : Hid (HasL gs x) := ha x (List.mem_of_getElem? hx)
  have HY : Hid (HasL gs y) := hb y (List.mem_of_getElem? hy)
  have HVX : Hid (∀ inp, valL gs inp x = bitsL gs inp a 0) := fun inp => (bitsL_get hx).symm
  have HVY : Hid (∀ inp, valL gs inp y = bitsL gs inp b 0) := fun inp => (bitsL_get hy).symm
  have HG : Hid (GrAt G gs ins F w1) := h.below hb1
  have HnM : Hid (¬ F w.heap.size) := fun hf => by have := h.2.2.1 _ hf; omega
  have Hxa : Hid (¬ F ba) := hxa
  have Hyb : Hid (¬ F bb) := hyb
  have ix : I64 x := HX.out.i64 (by omega)
  clear h hva hvb hna hnb ha hb hl hb1 hmv hw1 hx hy hmva hmvb hxa hyb
  go_enter Tryz.func45, Tryz.ntmps45
  go_wp2
  rw [HW.out]
  go_region_held3 (fun w' => w'.cell? ⟨w.heap.size, 0, none⟩ = some (.pointer (some ⟨G, 0, none⟩)) ∧ w'.cell? ⟨ba, fa, none⟩ = some (.int .i64 x) ∧ w'.cell? ⟨bb, fb, none⟩ = some (.int .i64 y)) ((first | exact ⟨q0.1, q1.1, q2.1⟩ | exact ⟨m1, hcx, hcy⟩ | go_keep))
    (first
      | (go_at_call 59; refine (mor_any (by exact HG.out) (by have := HL.out; omega) _ _ HX.out.turn HY.out).mono ?_; rintro e w2 ⟨x1, g2, F2, rfl, G2, M2, D2⟩; have q0 := M2.cell (by exact m1) HnM.out; have q1 := M2.cell (by exact hcx) Hxa.out; have q2 := M2.cell (by exact hcy) Hyb.out)
      | (go_at_call 60; refine (not_any _ _ (by assumption)).mono ?_; rintro e w' ⟨rfl, rfl⟩))
  have HEND : Hid (GrAt G g2 ins F2 w2 ∧ Mvd F F2 w w2 ∧ Mad gs g2 (1) x1 (fun inp => !bitsL gs inp a 0 || bitsL gs inp b 0)) := ⟨G2, HM.out.trans M2.undrew, ⟨D2.ext, D2.len, D2.has, fun inp => by rw [D2.val inp, val_turn, HVX.out inp, HVY.out inp]⟩⟩
  clear q0 q1 q2 G2 M2 D2 m1 hcx hcy
  go_wp2
  go_ret
  exact ⟨_, g2, F2, rfl, HEND.out.1, HEND.out.2.1, HEND.out.2.2⟩
set_option maxRecDepth 100000 in
set_option maxHeartbeats 2000000 in
theorem truth_not {G : Nat} {gs : List (Int × Int)} {ins : Nat} {F : Nat → Prop} {w : World} (h : GrAt G gs ins F w) (oa ob : Option Addr) (ca cb : Nat) (a b : List Int) (hva : LitsAt F w (.slice oa 1 ca) a) (_hvb : LitsAt F w (.slice ob 1 cb) b) (hna : a.length = 1) (_hnb : b.length = 1) (ha : ∀ x ∈ a, HasL gs x) (_hb : ∀ x ∈ b, HasL gs x) (hl : gs.length + 0 < 87000) :
    Calls Tryz.prog 45 #[.agg #[.pointer (some ⟨G, 0, none⟩)], .string ⟨#[110, 111, 116]⟩, .slice oa 1 ca, .slice ob 1 cb] w (TruP G gs ins (0) (fun inp => !bitsL gs inp a 0) F w) := by
  obtain ⟨w1, hw1⟩ : ∃ w1, w1 = w.alloc (.cells #[.pointer (some ⟨G, 0, none⟩)] 60) := ⟨_, rfl⟩
  have hb1 : Below w.heap.size w w1 := by rw [hw1]; exact (Below.refl _ _).alloc (Nat.le_refl _) _
  have hmv : Mvd F F w w1 := Mvd.of_below hb1
  have HW : Hid (w.alloc (.cells #[.pointer (some ⟨G, 0, none⟩)] 60) = w1) := hw1.symm
  obtain ⟨x, hx⟩ : ∃ x, a[0]? = some x := ⟨_, List.getElem?_eq_getElem (by omega)⟩
  obtain ⟨ba, fa, rfl, _, hmva⟩ := hva.at hx
  obtain ⟨_, hcx⟩ := hmva _ _ hmv
  rw [Nat.add_zero] at hcx
  rw [hw1] at hcx
  have hX : HasL gs x := ha x (List.mem_of_getElem? hx)
  have ix : I64 x := hX.i64 (by omega)
  have HEND : Hid (GrAt G gs ins F w1 ∧ Mvd F F w w1 ∧ Mad gs gs 0 (turnL x) (fun inp => !bitsL gs inp a 0)) := ⟨h.below hb1, hmv, ⟨Ext.refl _, by omega, hX.turn, fun inp => by rw [val_turn, bitsL_get hx]⟩⟩
  clear h hva _hvb hna _hnb ha _hb hl hb1 hmv hw1 hx hmva hX
  go_enter Tryz.func45, Tryz.ntmps45
  go_wp2_with (go_at_call 60; refine (not_any _ _ (by assumption)).mono ?_; rintro e w' ⟨rfl, rfl⟩)
  go_ret
  rw [HW.out]
  exact ⟨_, gs, F, rfl, HEND.out.1, HEND.out.2.1, HEND.out.2.2⟩
end Go.Proofs.YtpiglmaojonbnaaGreatDoor
