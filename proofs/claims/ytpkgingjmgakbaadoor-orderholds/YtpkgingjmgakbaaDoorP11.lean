/-
  package types: the checker in memory; named, sign BY CONTRACT.
-/
import Derived.Test.YtpkgingjmgakbaaDoorP09
import Derived.Test.YtpkgingjmgakbaaDoorP10
import Derived.Test.YtpkgingjmgakbaaDoorP07
namespace Go.Proofs.YtpkgingjmgakbaaDoor
open Go.RowKit Go.Maps

theorem FnAt.look1 {w : World} {b n : Nat} {f : List UInt8 → Option Value} (h : FnAt w b n f) {t e : TypeId} (ht : Tryd.prog.underlying t = some (.map 9 e)) {z : Value} (hz : (zeroValue e).run Tryd.prog w = .ok z w) (s : ByteArray) (hs : s.size ≤ maxLen) :
    (Instr.lookup t (.map (some b)) (.string s) false).run Tryd.prog w = .ok ((f s.data.toList).getD z) w := by
  obtain ⟨D, h, k⟩ := h
  obtain ⟨v, ps, r1, r2⟩ := h.lookup strKeyed ht hz (show heldE z = some (.held z, []) from rfl) (WideMaps.keyOf_string_mk Tryd.underlying9 hs)
  obtain ⟨k1, k2⟩ := k s.data.toList
  rw [r1]
  have e1 : (DataW.held v : DataW Value) = D.atKey (.string s.data.toList) (.held z) := by
    have : some ((DataW.held v : DataW Value), ([] : List MemPlace)) = some (D.atKey (.string s.data.toList) (.held z), ps) := r2
    exact congrArg Prod.fst (Option.some.inj this)
  cases hf : f s.data.toList with
  | none =>
    rw [hf] at k1
    rw [atKey_of_not_has k1] at e1
    have e2 := DataW.held.inj e1
    rw [e2]; rfl
  | some v0 =>
    rw [k2 v0 (.held z) hf] at e1
    have e2 := DataW.held.inj e1
    rw [e2]; rfl
/-- Kinds by names, as a map holds them. -/
def kindF (kd : List UInt8 → Option Int) : List UInt8 → Option Value := fun s => (kd s).map (Value.int .i64)
/-- What a checker holds that stays: the operators' signs, kinds by names; in which blocks it lies. -/
structure CkFix (M K nK B C : Nat) (kd : List UInt8 → Option Int) (w : World) : Prop where
  signs : FnAt w M 24 (signsF B C)
  rows : SignRows B C w
  kinds : FnAt w K nK (kindF kd)
/-- Its blocks. -/
def CkBlk (M K B C : Nat) : Nat → Prop := fun k => k = M ∨ k = K ∨ k = C ∨ (B ≤ k ∧ k ≤ B + 5)
theorem CkFix.kept {M K nK B C : Nat} {kd : List UInt8 → Option Int} {w w' : World} (h : CkFix M K nK B C kd w) (hk : ∀ k, CkBlk M K B C k → w'.heap[k]? = w.heap[k]?) : CkFix M K nK B C kd w' :=
  ⟨h.signs.kept (hk _ (.inl rfl)), ⟨by rw [hk B (.inr (.inr (.inr ⟨by omega, by omega⟩)))]; exact h.rows.r0, by rw [hk (B + 1) (.inr (.inr (.inr ⟨by omega, by omega⟩)))]; exact h.rows.r1, by rw [hk (B + 1 + 1) (.inr (.inr (.inr ⟨by omega, by omega⟩)))]; exact h.rows.r2, by rw [hk (B + 1 + 1 + 1) (.inr (.inr (.inr ⟨by omega, by omega⟩)))]; exact h.rows.r3, by rw [hk (B + 1 + 1 + 1 + 1) (.inr (.inr (.inr ⟨by omega, by omega⟩)))]; exact h.rows.r4, by rw [hk (B + 1 + 1 + 1 + 1 + 1) (.inr (.inr (.inr ⟨by omega, by omega⟩)))]; exact h.rows.r5, by rw [hk C (.inr (.inr (.inl rfl)))]; exact h.rows.r6, h.rows.lo⟩, h.kinds.kept (hk _ (.inr (.inl rfl)))⟩
theorem CkFix.lt {M K nK B C : Nat} {kd : List UInt8 → Option Int} {w : World} (h : CkFix M K nK B C kd w) : ∀ k, CkBlk M K B C k → k < w.heap.size := fun k hk => by
  have h5 := (Array.getElem?_eq_some_iff.1 h.rows.r5).1
  have h6 := (Array.getElem?_eq_some_iff.1 h.rows.r6).1
  have hM := h.signs.lt
  have hK := h.kinds.lt
  rcases hk with rfl | rfl | rfl | hk <;> omega
/-- The checker: its own two blocks (F) and what stays. -/
def CkAt (X : Nat → Prop) (cb : Nat) (kd : List UInt8 → Option Int) (ps : List Int) (F : Nat → Prop) (w : World) : Prop :=
  ∃ (M K nK B C : Nat) (nv uv : Value) (po : Option Addr) (pc : Nat), w.heap[cb]? = some (.cells #[.map (some M), nv, .map (some K), uv, .slice po ps.length pc] 114 (0, 0)) ∧ CkFix M K nK B C kd w ∧ w.ownsRow 0 3 1 (.slice po ps.length pc) ps.length (ps.map (Value.int .i64)) ∧ (∀ k, F k ↔ k = cb ∨ (Value.slice po ps.length pc).ownBlock = some k) ∧ (∀ k, CkBlk M K B C k → ¬ F k ∧ X k) ∧ (∀ k, X k → k < w.heap.size)
theorem CkAt.lt {X : Nat → Prop} {cb : Nat} {kd : List UInt8 → Option Int} {ps : List Int} {F : Nat → Prop} {w : World} (h : CkAt X cb kd ps F w) : ∀ k, F k → k < w.heap.size := fun k hk => by
  obtain ⟨M, K, nK, B, C, nv, uv, po, pc, h1, h2, h3, h4, h5, h6⟩ := h
  rcases (h4 k).1 hk with rfl | hk
  · exact (Array.getElem?_eq_some_iff.1 h1).1
  · exact (h3.lt k hk).2
theorem CkAt.kept {X : Nat → Prop} {cb : Nat} {kd : List UInt8 → Option Int} {ps : List Int} {F : Nat → Prop} {w w' : World} (h : CkAt X cb kd ps F w) (hk : ∀ k, k < w.heap.size → w'.heap[k]? = w.heap[k]?) (hs : w.heap.size ≤ w'.heap.size) : CkAt X cb kd ps F w' := by
  have hlt := h.lt
  obtain ⟨M, K, nK, B, C, nv, uv, po, pc, h1, h2, h3, h4, h5, h6⟩ := h
  exact ⟨M, K, nK, B, C, nv, uv, po, pc, by rw [hk cb (Array.getElem?_eq_some_iff.1 h1).1]; exact h1, h2.kept (fun k hb => hk k (h2.lt k hb)), owns_keep h3 (fun k hb => hk k (h3.lt k hb).2), h4, h5, fun k hx => by have := h6 k hx; omega⟩
theorem CkAt.below {X : Nat → Prop} {cb : Nat} {kd : List UInt8 → Option Int} {ps : List Int} {F : Nat → Prop} {w w' : World} (h : CkAt X cb kd ps F w) (hb : Below w.heap.size w w') : CkAt X cb kd ps F w' := h.kept hb.block hb.size
theorem CkAt.base {X : Nat → Prop} {cb : Nat} {kd : List UInt8 → Option Int} {ps : List Int} {F : Nat → Prop} {w : World} (h : CkAt X cb kd ps F w) : ∀ k, X k → k < w.heap.size := by
  obtain ⟨M, K, nK, B, C, nv, uv, po, pc, h1, h2, h3, h4, h5, h6⟩ := h
  exact h6
theorem CkAt.set {X : Nat → Prop} {cb : Nat} {kd : List UInt8 → Option Int} {ps : List Int} {F : Nat → Prop} {w : World} (h : CkAt X cb kd ps F w) {V i : Nat} (hV : ¬ F V) (hX : ¬ X V) (u : Value) : CkAt X cb kd ps F (w.setCell ⟨V, i, none⟩ u) := by
  obtain ⟨M, K, nK, B, C, nv, uv, po, pc, h1, h2, h3, h4, h5, h6⟩ := h
  have hk : ∀ k, k ≠ V → (w.setCell ⟨V, i, none⟩ u).heap[k]? = w.heap[k]? := fun k hne => Below.heap_setCell w ⟨V, i, none⟩ u k hne
  refine ⟨M, K, nK, B, C, nv, uv, po, pc, ?_, h2.kept (fun k hb => hk k (fun e => hX (by rw [← e]; exact (h5 k hb).2))), owns_keep h3 (fun k hb => hk k (fun e => hV (by rw [← e]; exact (h4 k).2 (.inr hb)))), h4, h5, fun k hx => by have := h6 k hx; simpa using this⟩
  rw [hk cb (fun e => hV (by rw [← e]; exact (h4 cb).2 (.inl rfl)))]
  exact h1
-- The contract of a name.
theorem zero_int (w : World) : (zeroValue 3).run Tryd.prog w = .ok (.int .i64 0) w := by kernel_rfl
set_option maxRecDepth 100000 in
theorem named_any {X : Nat → Prop} {cb : Nat} {kd : List UInt8 → Option Int} {ps : List Int} {F : Nat → Prop} {w : World} (h : CkAt X cb kd ps F w) (s : ByteArray) (hs : s.size ≤ maxLen) (k : Int) (hk : kd s.data.toList = some k) :
    Calls Tryd.prog 62 #[.pointer (some ⟨cb, 0, none⟩), .string s] w fun e w' => e = .returned (.int .i64 k) ∧ w' = w := by
  obtain ⟨M, K, nK, B, C, nv, uv, po, pc, h1, h2, h3, h4, h5, h6⟩ := h
  have hlk := h2.kinds.look Tryd.underlying54 (zero_int w) s hs
  have e1 : kindF kd s.data.toList = some (.int .i64 k) := by unfold kindF; rw [hk]; rfl
  rw [e1] at hlk
  have hlk' : (Instr.lookup 54 (.map (some K)) (.string s) true).run Tryd.prog w = .ok (.tuple #[.int .i64 k, .bool true]) w := hlk
  have c2 : w.cell? ⟨cb, 0 + 2, none⟩ = some (.map (some K)) := by rw [cell_of_row w cb _ _ _ (0, 0) h1]; rfl
  clear h1 h2 h3 h4 h5 h6 hk hs hlk e1
  go_enter Tryd.func62, Tryd.ntmps62
  go_wp2
  go_ret
  exact ⟨rfl, rfl⟩
-- The contract of a sign, of a term that is no call.
set_option maxRecDepth 100000 in
set_option maxHeartbeats 1000000 in
theorem csign_any {X : Nat → Prop} {cb : Nat} {kd : List UInt8 → Option Int} {ps : List Int} {F : Nat → Prop} {w : World} (h : CkAt X cb kd ps F w) (op s : ByteArray) (n : Int) (lv : Value) (hs : op.size ≤ maxLen) (hc : op.data.toList ≠ lCall) (tk gv : List Int) (hr : signRow op.data.toList = some (tk, gv)) :
    Calls Tryd.prog 63 #[.pointer (some ⟨cb, 0, none⟩), .agg #[.string op, .int .i64 n, .string s, lv]] w fun e w' => Below w.heap.size w w' ∧ ∃ o1 c1 o2 c2, e = .returned (.agg #[.slice o1 tk.length c1, .slice o2 gv.length c2]) ∧ (∀ W : World, (∀ k, X k → ¬ F k → W.heap[k]? = w.heap[k]?) → IntsAt W (.slice o1 tk.length c1) tk ∧ IntsAt W (.slice o2 gv.length c2) gv) ∧ tk.length ≤ 10 ∧ gv.length = 1 := by
  obtain ⟨M, K, nK, B, C, nv, uv, po, pc, h1, h2, h3, h4, h5, h6⟩ := h
  have hb1 : Below w.heap.size w (w.alloc (.cells #[.string op, .int .i64 n, .string s, lv] 32)) := (Below.refl _ _).alloc (Nat.le_refl _) _
  obtain ⟨w1, hw1⟩ : ∃ w1, w1 = w.alloc (.cells #[.string op, .int .i64 n, .string s, lv] 32) := ⟨_, rfl⟩
  have hs1 : w1.heap.size = w.heap.size + 1 := by rw [hw1]; simp
  have hr1 : w1.heap[w.heap.size]? = some (.cells #[.string op, .int .i64 n, .string s, lv] 32 (0, 0)) := by rw [hw1]; exact heap_alloc_new _ _
  rw [← hw1] at hb1
  obtain ⟨w2, hw2⟩ : ∃ w2, w2 = w1.alloc (.cells #[.slice none 0 0, .slice none 0 0] 143) := ⟨_, rfl⟩
  have hb2 : Below w1.heap.size w1 w2 := by rw [hw2]; exact (Below.refl _ _).alloc (Nat.le_refl _) _
  have hr2 : w2.heap[w.heap.size + 1]? = some (.cells #[.slice none 0 0, .slice none 0 0] 143 (0, 0)) := by rw [hw2, ← hs1]; exact heap_alloc_new _ _
  have hb12 := hb1.trans (hb2.mono hb1.size)
  have hf2 := h2.kept (w' := w2) (fun k hk => hb12.block k (h2.lt k hk))
  have c0 : w2.cell? ⟨w.heap.size, 0, none⟩ = some (.string op) := by rw [cell_of_row w2 _ _ _ _ (0, 0) (row_keep hb2 hr1)]; rfl
  have c1 : w2.cell? ⟨cb, 0, none⟩ = some (.map (some M)) := by rw [cell_of_row w2 cb _ _ _ (0, 0) (row_keep hb12 h1)]; rfl
  have c2 : w2.cell? ⟨w.heap.size + 1, 0, none⟩ = some (.slice none 0 0) := by rw [cell_of_row w2 _ _ _ _ (0, 0) hr2]; rfl
  have c3 : w2.cell? ⟨w.heap.size + 1, 0 + 1, none⟩ = some (.slice none 0 0) := by rw [cell_of_row w2 _ _ _ _ (0, 0) hr2]; rfl
  have f2 : ∀ i, w2.frozen? ⟨w.heap.size + 1, i, none⟩ = false := fun i => frozen_row hr2
  rcases sign_look h2.rows op.data.toList with ⟨_, hn⟩ | ⟨o1, k1, o2, k2, tk', gv', e1, e2, i1, i2, l1, l2⟩
  · rw [hr] at hn; cases hn
  obtain ⟨rfl, rfl⟩ : tk = tk' ∧ gv = gv' := by rw [hr] at e2; simpa using e2
  have hlk : ∀ W, FnAt W M 24 (signsF B C) → (Instr.lookup 112 (.map (some M)) (.string op) false).run Tryd.prog W = .ok (.agg #[.slice o1 tk.length k1, .slice o2 gv.length k2]) W := fun W hW => by
    have h := hW.look1 Tryd.underlying112 (zero_sign W) op hs
    rw [e1] at h
    exact h
  have lk0 := hlk w2 hf2.signs
  have lk1 := hlk w2.drew hf2.signs
  have HW1 : Hid (w.alloc (.cells #[.string op, .int .i64 n, .string s, lv] 32) = w1) := hw1.symm
  have HW2 : Hid (w1.alloc (.cells #[.slice none 0 0, .slice none 0 0] 143) = w2) := hw2.symm
  have HS1 : Hid (w1.heap.size = w.heap.size + 1) := hs1
  have dn : (op.toList == [99, 97, 108, 108]) = false := by rw [ByteArray.toList_eq]; exact beq_eq_false_iff_ne.2 hc
  have dn' : (op.toList != [99, 97, 108, 108]) = true := by unfold bne; rw [dn]; rfl
  have HB12 : Hid (Below w.heap.size w w2) := hb12
  have HII : Hid (∀ W : World, (∀ k, X k → ¬ F k → W.heap[k]? = w.heap[k]?) → IntsAt W (.slice o1 tk.length k1) tk ∧ IntsAt W (.slice o2 gv.length k2) gv) := fun W hW => by
    have hf := h2.kept (w' := W) (fun k hk => hW k (h5 k hk).2 (h5 k hk).1)
    rcases sign_look hf.rows op.data.toList with ⟨_, hn⟩ | ⟨p1, j1, p2, j2, tk', gv', a1, a2, a3, a4, _, _⟩
    · rw [hr] at hn; cases hn
    · obtain ⟨rfl, rfl⟩ : tk = tk' ∧ gv = gv' := by rw [hr] at a2; simpa using a2
      rw [e1] at a1
      obtain ⟨⟨rfl, rfl⟩, rfl, rfl⟩ : (o1 = p1 ∧ k1 = j1) ∧ o2 = p2 ∧ k2 = j2 := by simpa using a1
      exact ⟨a3, a4⟩
  have HR2 : Hid (w2.heap[w.heap.size + 1]? = some (.cells #[.slice none 0 0, .slice none 0 0] 143 (0, 0))) := hr2
  have HLN : Hid (tk.length ≤ 10 ∧ gv.length = 1) := ⟨l1, l2⟩
  clear h1 h2 h3 h4 h5 h6 hb1 hw1 hr1 hw2 hb2 hr2 hb12 hf2 e1 e2 i1 i2 l1 l2 hlk hs1 hr hc hs
  go_enter Tryd.func63, Tryd.ntmps63
  go_wp2
  rw [HW1.out, HW2.out]
  go_region
  have hB : Below w.heap.size w ((w2.setCell ⟨w.heap.size + 1, 0, none⟩ (.slice o1 tk.length k1)).setCell ⟨w.heap.size + 1, 1, none⟩ (.slice o2 gv.length k2)).drew := ((HB12.out.setCell (by show w.heap.size ≤ w.heap.size + 1; omega) _).setCell (by show w.heap.size ≤ w.heap.size + 1; omega) _).drew
  have hR : ((w2.setCell ⟨w.heap.size + 1, 0, none⟩ (.slice o1 tk.length k1)).setCell ⟨w.heap.size + 1, 1, none⟩ (.slice o2 gv.length k2)).drew.heap[w.heap.size + 1]? = some (.cells #[.slice o1 tk.length k1, .slice o2 gv.length k2] 143 (0, 0)) := heap_setCell_at (i := 1) (heap_setCell_at (i := 0) HR2.out _) _
  obtain ⟨w3, hw3⟩ : ∃ w3, w3 = ((w2.setCell ⟨w.heap.size + 1, 0, none⟩ (.slice o1 tk.length k1)).setCell ⟨w.heap.size + 1, 1, none⟩ (.slice o2 gv.length k2)).drew := ⟨_, rfl⟩
  rw [← hw3] at hB hR ⊢
  have d0 : w3.cell? ⟨w.heap.size + 1, 0, none⟩ = some (.slice o1 tk.length k1) := by rw [cell_of_row w3 _ _ _ _ (0, 0) hR]; rfl
  have d1 : w3.cell? ⟨w.heap.size + 1, 0 + 1, none⟩ = some (.slice o2 gv.length k2) := by rw [cell_of_row w3 _ _ _ _ (0, 0) hR]; rfl
  have HB : Hid (Below w.heap.size w w3) := hB
  clear hw3 hB hR c0 c1 c2 c3 f2 lk0 lk1 dn dn'
  go_wp2
  exact bodyPost_ret (v := .agg #[.slice o1 tk.length k1, .slice o2 gv.length k2]) (by simp [results, Tryd.results63, go_sem, d0, d1]) rfl ⟨HB.out, o1, k1, o2, k2, rfl, HII.out, HLN.out.1, HLN.out.2⟩
end Go.Proofs.YtpkgingjmgakbaaDoor
