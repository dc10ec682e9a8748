/-
  package word: a maker's and, or, xor BY CONTRACT: what they make comes to what it must.
-/
import Derived.Test.YtpiglmaojonbnaaDoorP13
import Derived.Test.YtpiglmaojonbnaaDoorP15
import Derived.Deep.RegionHeld3
namespace Go.Proofs.YtpiglmaojonbnaaDoor
open Go.RowKit Go.Maps

/-- A literal was made: with so many gates more at most; what it comes to. -/
structure Mad (gs gs' : List (Int × Int)) (k : Nat) (x : Int) (f : List Bool → Bool) : Prop where
  ext : Ext gs gs'
  len : gs'.length ≤ gs.length + k
  has : HasL gs' x
  val : ∀ inp, valL gs' inp x = f inp
theorem Mad.and {gs : List (Int × Int)} (h : Gs gs) {a b : Int} (ha : HasL gs a) (hb : HasL gs b) : Mad gs (andG gs a b) 1 (andL gs a b) (fun inp => valL gs inp a && valL gs inp b) :=
  ⟨andG_ext _ _ _, (andG_length gs a b).2, andL_has ha hb, fun inp => val_and h inp ha hb⟩
theorem Mad.or {gs : List (Int × Int)} (h : Gs gs) {a b : Int} (ha : HasL gs a) (hb : HasL gs b) : Mad gs (orG gs a b) 1 (orL gs a b) (fun inp => valL gs inp a || valL gs inp b) :=
  ⟨orG_ext _ _ _, (orG_length gs a b).2, orL_has ha hb, fun inp => val_or h inp ha hb⟩
theorem Mad.ite {gs : List (Int × Int)} (h : Gs gs) {c a b : Int} (hc : HasL gs c) (ha : HasL gs a) (hb : HasL gs b) : Mad gs (ifG gs c a b) 3 (ifL gs c a b) (fun inp => if valL gs inp c = true then valL gs inp a else valL gs inp b) := by
  obtain ⟨e, v⟩ := either_val h hc ha hc.turn hb
  refine ⟨e, (eitherG_length gs c a (turnL c) b).2, either_has hc ha hc.turn hb, fun inp => ?_⟩
  show valL (eitherG _ _ _ _ _) inp (eitherL _ _ _ _ _) = _
  rw [v inp, val_turn]
  cases valL gs inp c <;> simp
theorem Mad.xorn {gs : List (Int × Int)} (h : Gs gs) {a b : Int} (ha : HasL gs a) (hb : HasL gs b) : Mad gs (xorG gs a (turnL b)) 3 (turnL (xorL gs a (turnL b))) (fun inp => valL gs inp a ^^ valL gs inp b) := by
  obtain ⟨e, v⟩ := either_val h ha hb.turn.turn ha.turn hb.turn
  refine ⟨e, (eitherG_length gs a (turnL (turnL b)) (turnL a) (turnL b)).2, (either_has ha hb.turn.turn ha.turn hb.turn).turn, fun inp => ?_⟩
  show valL (eitherG _ _ _ _ _) inp (turnL (eitherL _ _ _ _ _)) = _
  rw [val_turn, v inp]
  simp only [val_turn]
  cases valL gs inp a <;> cases valL gs inp b <;> rfl
theorem Mvd.alloc {F F' : Nat → Prop} {w w' : World} (h : Mvd F F' w w') (o : Obj) : Mvd F F' w (w'.alloc o) :=
  h.trans (Mvd.of_below ((Below.refl _ _).alloc (Nat.le_refl _) _))
theorem Mvd.set {F F' : Nat → Prop} {w w' : World} (h : Mvd F F' w w') {V i : Nat} (hV : w.heap.size ≤ V) (u : Value) : Mvd F F' w (w'.setCell ⟨V, i, none⟩ u) :=
  ⟨h.os, h.tape, h.output, by rw [size_setCell]; exact h.size, fun k hk hn => by rw [Below.heap_setCell _ _ _ _ (fun e => by have : k = V := e; omega)]; exact h.block k hk hn, fun k hk => by rw [size_setCell]; exact h.more k hk⟩
theorem GrAt.set {G : Nat} {gs : List (Int × Int)} {ins : Nat} {F : Nat → Prop} {w : World} (h : GrAt G gs ins F w) {V : Nat} (hV : ¬ F V) (i : Nat) (u : Value) : GrAt G gs ins F (w.setCell ⟨V, i, none⟩ u) :=
  h.keep (fun k hk => Below.heap_setCell _ _ _ _ (fun e => hV (by have e' : k = V := e; rw [← e']; exact hk))) (fun _ hk => hk) (fun k hk => by rw [size_setCell]; exact h.2.2.1 k hk)
/-- A block that is none of the graph's is as it was. -/
theorem Mvd.rowKept {F F' : Nat → Prop} {w w' : World} (h : Mvd F F' w w') {k : Nat} {o : Obj} (hk : w.heap[k]? = some o) (hn : ¬ F k) : w'.heap[k]? = some o ∧ ¬ F' k := by
  have hl := (Array.getElem?_eq_some_iff.1 hk).1
  refine ⟨by rw [h.block k hl hn]; exact hk, fun hf => ?_⟩
  rcases h.more k hf with h1 | h1
  · exact hn h1
  · omega
theorem Mvd.cell {F F' : Nat → Prop} {w w' : World} (h : Mvd F F' w w') {p : Addr} {v : Value} (hc : w.cell? p = some v) (hn : ¬ F p.block) : w'.cell? p = some v ∧ ¬ F' p.block := by
  have hl : p.block < w.heap.size := by
    rcases Nat.lt_or_ge p.block w.heap.size with h | h
    · exact h
    · simp [World.cell?, Array.getElem?_eq_none h] at hc
  have e : w'.cell? p = w.cell? p := by simp only [World.cell?, h.block _ hl hn]
  refine ⟨by rw [e]; exact hc, fun hf => ?_⟩
  rcases h.more _ hf with h1 | h1
  · exact hn h1
  · omega
theorem Mvd.undrew {F F' : Nat → Prop} {w w' : World} (h : Mvd F F' w.drew w') : Mvd F F' w w' := ⟨h.os, h.tape, h.output, h.size, h.block, h.more⟩
set_option maxRecDepth 100000 in
theorem made_any (x : Int) (w : World) : Calls Tryd.prog 40 #[.int .i64 x, .nilIface] w fun e w' => e = .returned (.int .i64 x) ∧ w' = w := by
  go_enter Tryd.func40, Tryd.ntmps40
  go_wp2
  go_ret
  exact ⟨rfl, rfl⟩
set_option maxRecDepth 100000 in
theorem mand_any {G : Nat} {gs : List (Int × Int)} {ins : Nat} {F : Nat → Prop} {w : World} (h : GrAt G gs ins F w) (hl : gs.length < 89000) (a b : Int) (ha : HasL gs a) (hb : HasL gs b) :
    Calls Tryd.prog 22 #[.agg #[.pointer (some ⟨G, 0, none⟩)], .int .i64 a, .int .i64 b] w fun e w' => ∃ x gs' F', e = .returned (.int .i64 x) ∧ GrAt G gs' ins F' w' ∧ Mvd F F' w w' ∧ Mad gs gs' 1 x (fun inp => valL gs inp a && valL gs inp b) := by
  have hb1 : Below w.heap.size w (w.alloc (.cells #[.pointer (some ⟨G, 0, none⟩)] 45)) := (Below.refl _ _).alloc (Nat.le_refl _) _
  have H1 : Hid (GrAt G gs ins F (w.alloc (.cells #[.pointer (some ⟨G, 0, none⟩)] 45))) := h.below hb1
  have HM : Hid (Mvd F F w (w.alloc (.cells #[.pointer (some ⟨G, 0, none⟩)] 45))) := Mvd.of_below hb1
  have HG : Hid (Mad gs (andG gs a b) 1 (andL gs a b) (fun inp => valL gs inp a && valL gs inp b)) := Mad.and h.1 ha hb
  have HL : Hid (gs.length < 90000) := by unfold Hid; omega
  have HA : Hid (HasL gs a) := ha
  have HB : Hid (HasL gs b) := hb
  clear h hl ha hb hb1
  go_enter Tryd.func22, Tryd.ntmps22
  go_wp2_with (first
    | (go_at_call 41; refine (and_ok H1.out HL.out _ _ HA.out HB.out).mono ?_; rintro e w' ⟨rfl, F', hG, hm⟩)
    | (go_at_call 40; refine (made_any _ _).mono ?_; rintro e w' ⟨rfl, rfl⟩))
  go_ret
  exact ⟨_, _, F', rfl, hG, HM.out.trans hm, HG.out⟩
set_option maxRecDepth 100000 in
theorem mor_any {G : Nat} {gs : List (Int × Int)} {ins : Nat} {F : Nat → Prop} {w : World} (h : GrAt G gs ins F w) (hl : gs.length < 89000) (a b : Int) (ha : HasL gs a) (hb : HasL gs b) :
    Calls Tryd.prog 44 #[.agg #[.pointer (some ⟨G, 0, none⟩)], .int .i64 a, .int .i64 b] w fun e w' => ∃ x gs' F', e = .returned (.int .i64 x) ∧ GrAt G gs' ins F' w' ∧ Mvd F F' w w' ∧ Mad gs gs' 1 x (fun inp => valL gs inp a || valL gs inp b) := by
  have hb1 : Below w.heap.size w (w.alloc (.cells #[.pointer (some ⟨G, 0, none⟩)] 45)) := (Below.refl _ _).alloc (Nat.le_refl _) _
  have H1 : Hid (GrAt G gs ins F (w.alloc (.cells #[.pointer (some ⟨G, 0, none⟩)] 45))) := h.below hb1
  have HM : Hid (Mvd F F w (w.alloc (.cells #[.pointer (some ⟨G, 0, none⟩)] 45))) := Mvd.of_below hb1
  have HG : Hid (Mad gs (orG gs a b) 1 (orL gs a b) (fun inp => valL gs inp a || valL gs inp b)) := Mad.or h.1 ha hb
  have HL : Hid (gs.length < 90000) := by unfold Hid; omega
  have HA : Hid (HasL gs a) := ha
  have HB : Hid (HasL gs b) := hb
  clear h hl ha hb hb1
  go_enter Tryd.func44, Tryd.ntmps44
  go_wp2_with (first
    | (go_at_call 64; refine (or_ok H1.out HL.out _ _ HA.out HB.out).mono ?_; rintro e w' ⟨rfl, F', hG, hm⟩)
    | (go_at_call 40; refine (made_any _ _).mono ?_; rintro e w' ⟨rfl, rfl⟩))
  go_ret
  exact ⟨_, _, F', rfl, hG, HM.out.trans hm, HG.out⟩
set_option maxRecDepth 100000 in
set_option maxHeartbeats 1000000 in
theorem mxor_any {G : Nat} {gs : List (Int × Int)} {ins : Nat} {F : Nat → Prop} {w : World} (h : GrAt G gs ins F w) (hl : gs.length < 89000) (a b : Int) (ha : HasL gs a) (hb : HasL gs b) :
    Calls Tryd.prog 43 #[.agg #[.pointer (some ⟨G, 0, none⟩)], .int .i64 a, .int .i64 b] w fun e w' => ∃ x gs' F', e = .returned (.int .i64 x) ∧ GrAt G gs' ins F' w' ∧ Mvd F F' w w' ∧ Mad gs gs' 3 x (fun inp => valL gs inp a ^^ valL gs inp b) := by
  have hb1 : Below w.heap.size w (w.alloc (.cells #[.pointer (some ⟨G, 0, none⟩)] 45)) := (Below.refl _ _).alloc (Nat.le_refl _) _
  have HMD := Mad.xorn h.1 ha hb
  have H1 : Hid (GrAt G gs ins F (w.alloc (.cells #[.pointer (some ⟨G, 0, none⟩)] 45))) := h.below hb1
  have HM : Hid (Mvd F F w (w.alloc (.cells #[.pointer (some ⟨G, 0, none⟩)] 45))) := Mvd.of_below hb1
  have HG : Hid (Mad gs (xorG gs a (turnL b)) 3 (turnL (xorL gs a (turnL b))) (fun inp => valL gs inp a ^^ valL gs inp b)) := HMD
  have HL : Hid (gs.length < 89990) := by unfold Hid; omega
  have HA : Hid (HasL gs a) := ha
  have HB : Hid (HasL gs (turnL b)) := hb.turn
  have HF : Hid (¬ F w.heap.size) := fun hf => by have := h.2.2.1 _ hf; omega
  have ib : I64 b := hb.i64 (by omega)
  have ix : I64 (xorL gs a (turnL b)) := by
    have := HMD.has.turn
    rw [(turnL_eq _).2.1] at this
    exact this.i64 (by have := HMD.len; omega)
  clear h hl ha hb HMD
  obtain ⟨w1, hw1⟩ : ∃ w1, w1 = w.alloc (.cells #[.pointer (some ⟨G, 0, none⟩)] 45) := ⟨_, rfl⟩
  have c0 : w1.cell? ⟨w.heap.size, 0, none⟩ = some (.pointer (some ⟨G, 0, none⟩)) := by rw [hw1]; simp
  have HW : Hid (w1 = w.alloc (.cells #[.pointer (some ⟨G, 0, none⟩)] 45)) := hw1
  rw [← hw1] at H1 HM
  clear hw1 hb1
  go_enter Tryd.func43, Tryd.ntmps43
  go_wp2
  rw [← HW.out]
  go_region_held3 (fun w' => w'.cell? ⟨w.heap.size, 0, none⟩ = some (.pointer (some ⟨G, 0, none⟩))) ((first | go_keep | assumption))
    (first
      | (go_at_call 45; refine (not_any _ _ (by assumption)).mono ?_; rintro e w' ⟨rfl, rfl⟩)
      | (go_at_call 63; refine (xor_ok (by exact H1.out) HL.out _ _ HA.out HB.out).mono ?_; rintro e w2 ⟨rfl, F', hG, hm⟩; have c2 := (hm.cell (by exact c0) HF.out).1)
      | (go_at_call 40; refine (made_any _ _).mono ?_; rintro e w' ⟨rfl, rfl⟩))
  go_wp2
  go_ret
  exact ⟨_, _, F', rfl, hG, HM.out.trans hm.undrew, HG.out⟩
end Go.Proofs.YtpiglmaojonbnaaDoor
