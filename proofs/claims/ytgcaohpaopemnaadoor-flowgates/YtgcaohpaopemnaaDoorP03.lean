/-
  flow.operators BY CONTRACT: a range over a map of functions that fills another one with functions that capture them.
-/
import Derived.Test.YtgcaohpaopemnaaDoorP02
import Derived.Laws.EntriesVeiled
namespace Go.Proofs.YtgcaohpaopemnaaDoor
open Go.RowKit Go.Maps

/-- A function that captures one variable. -/
def clo (c : FuncId) (p : Nat) : Value := .func (.func c) #[] #[.pointer (some ⟨p, 0, none⟩)]
/-- As far as the range has gone: what was visited has its function, with its own variable. -/
def Goes (c : FuncId) (g base f : List UInt8 → Option Value) (left : Lit → Bool) (lo : Nat) (wr : World) : Prop :=
  (∀ k v, g k = some v → left (.string k) = false → ∃ p, lo ≤ p ∧ p < wr.heap.size ∧ f k = some (clo c p) ∧ wr.cell? ⟨p, 0, none⟩ = some v) ∧ (∀ k, (g k = none ∨ left (.string k) = true) → f k = base k)
theorem Goes.step {c : FuncId} {g base f : List UInt8 → Option Value} {left : Lit → Bool} {lo : Nat} {wr w' : World} (h : Goes c g base f left lo wr) {k0 : List UInt8} {v0 : Value} (hg : g k0 = some v0) (p0 : Nat) (hp : lo ≤ p0) (hp' : p0 < w'.heap.size) (hc : w'.cell? ⟨p0, 0, none⟩ = some v0)
    (keep : ∀ p, lo ≤ p → p < wr.heap.size → w'.heap[p]? = wr.heap[p]?) (hs : wr.heap.size ≤ w'.heap.size) : Goes c g base (fset f k0 (clo c p0)) (fun z => left z && !z.sameKey (.string k0)) lo w' := by
  have hne : ∀ k, k ≠ k0 → (Lit.string k).sameKey (.string k0) = false := fun k hk => by
    cases e : (Lit.string k).sameKey (.string k0)
    · rfl
    · exact absurd (by simpa using WideAt.sameKey_eq e) hk
  have hsame : (Lit.string k0).sameKey (.string k0) = true := WideAt.sameKey_self (show WideAt.IsKeyLit (.string k0) from trivial)
  refine ⟨fun k v hk hl => ?_, fun k hk => ?_⟩
  · unfold fset
    by_cases e : k = k0
    · subst e
      rw [if_pos rfl]
      rw [hg] at hk
      exact ⟨p0, hp, hp', rfl, by rw [hc]; exact hk⟩
    · rw [if_neg e]
      simp only [hne k e, Bool.not_false, Bool.and_true] at hl
      obtain ⟨p, q1, q2, q3, q4⟩ := h.1 k v hk hl
      exact ⟨p, q1, Nat.lt_of_lt_of_le q2 hs, q3, by rw [World.cell?_of_block (keep p q1 q2)]; exact q4⟩
  · have e : k ≠ k0 := by
      rintro rfl
      rcases hk with hk | hk
      · rw [hg] at hk; cases hk
      · simp [hsame] at hk
    unfold fset
    rw [if_neg e]
    refine h.2 k (hk.imp id (fun q => ?_))
    simp only [Bool.and_eq_true] at q
    exact q.1
theorem Goes.start (c : FuncId) (g base : List UInt8 → Option Value) (D : DataW Value) (hD : ∀ k, Maps.has D (.string k) = (g k).isSome) (lo : Nat) (w : World) : Goes c g base base (Maps.has D) lo w := by
  refine ⟨fun k v hk hl => ?_, fun k _ => rfl⟩
  rw [hD, hk] at hl
  cases hl
/-- 'm[k] = v'. -/
theorem wpList_update_fn {ops : Array Oper} {rest : List Oper} {o : Oper} {a : Act} {Q : Exit → Act → World → Prop} (w : World) (hg : o.guard = none) (m x v : Operand) (t e : TypeId) (hop : o.op = Op.mapUpdate t m x v) (ht : Tryd.prog.underlying t = some (.map 9 e)) (b n : Nat) (f : List UInt8 → Option Value)
    (hm : a.eval m = .map (some b)) (h : FnAt w b n f) (hn : n < maxLen) (s : ByteArray) (hs : s.size ≤ maxLen) (hx : a.eval x = .string s) (val : Value) (hv : a.eval v = val)
    (hK : ∀ w', FnAt w' b (n + 1) (fset f s.data.toList val) → w.grownBy w' (some b) → wpList Tryd.prog ops Q rest (a.put o.dst undef) w') : wpList Tryd.prog ops Q (o :: rest) a w := by
  refine wpList_plain hg fun K' hK' => ?_
  obtain ⟨w', hrun, r1, r2⟩ := h.put ht hn s hs val
  unfold Oper.wp
  simp [execOp, hop, hm, hx, hv, hrun, Result.andThen]
  exact hK' _ _ (hK w' r1 r2)
/-- What a range's step tells. -/
theorem fn_next {w : World} {b r n : Nat} {D : DataW Value} {left : Lit → Bool} {cnt : Nat} (h : w.ranges Tryd.prog 9 heldE b r n D left cnt) {g : List UInt8 → Option Value} (hD : ∀ k, Maps.has D (.string k) = (g k).isSome ∧ ∀ v z, g k = some v → D.atKey (.string k) z = .held v) (ty : TypeId) :
    (cnt = 0 ∧ (∀ kl, left kl = false) ∧ (Instr.next (.pointer (some ⟨r, 0, none⟩)) false ty).run Tryd.prog w = .ok (.tuple #[.bool false]) w) ∨
    ∃ (s : ByteArray) (v : Value) (w' : World) (cnt' : Nat), s.size ≤ maxLen ∧ g s.data.toList = some v ∧ (Instr.next (.pointer (some ⟨r, 0, none⟩)) false ty).run Tryd.prog w = .ok (.tuple #[.bool true, .string s, v]) w' ∧
      w'.ranges Tryd.prog 9 heldE b r n D (fun x => left x && !x.sameKey (.string s.data.toList)) cnt' ∧ cnt' < cnt ∧ w.grownBy w' (some r) ∧ w'.heap.size = w.heap.size ∧ (Instr.entry (.pointer (some ⟨r, 0, none⟩))).run Tryd.prog w' = .ok (.tuple #[.string s, v]) w' := by
  rcases h.next strKeyed ty with h | ⟨key, v, kl, y, w', cnt', hkey, hlk, hv, hat, hrun, hrg, hlt, hgr, hsz, hen⟩
  · exact .inl h
  · obtain ⟨s, rfl, rfl, hs⟩ := WideMaps.string_of_keyOf Tryd.underlying9 hkey
    obtain rfl : (DataW.held v, []) = y := Option.some.inj hv
    refine .inr ⟨s, v, w', cnt', hs, ?_, hrun, hrg, hlt, hgr, hsz, hen⟩
    cases e : g s.data.toList with
    | none =>
      have h1 := (hD s.data.toList).1
      rw [e] at h1
      have h2 := atKey_of_not_has (show Maps.has D (.string s.data.toList) = false from h1) .nil
      rw [hat .nil] at h2
      cases h2
    | some v' =>
      have h2 := (hD s.data.toList).2 v' .nil e
      rw [hat .nil] at h2
      simp only [DataW.held.injEq] at h2
      rw [h2]
/-- A round: the function is made, with its own variable, and put into the map. -/
theorem round_step {w4 wr w' : World} {B b r m n cnt cnt' : Nat} {c : FuncId} {g base f : List UInt8 → Option Value} {left : Lit → Bool} {D : DataW Value} {s : ByteArray} {v : Value} (hF : FnAt wr B n f) (hr : wr.ranges Tryd.prog 9 heldE b r m D left cnt) (hG : Goes c g base f left (w4.heap.size + 1) wr) (hgw : w4.grownBy wr (some B))
    (hlo : w4.heap.size + 1 ≤ wr.heap.size) (hB : B < w4.heap.size) (hbB : b ≠ B) (hr4 : r = w4.heap.size) (hgs : g s.data.toList = some v) (hrg : w'.ranges Tryd.prog 9 heldE b r m D (fun x => left x && !x.sameKey (.string s.data.toList)) cnt') (hlt : cnt' < cnt) (hgr : wr.grownBy w' (some r)) (hsw : w'.heap.size = wr.heap.size)
    (hsz : s.size ≤ maxLen) (hn : n < maxLen) {t e : TypeId} (ht : Tryd.prog.underlying t = some (.map 9 e)) (ty : TypeId) :
    ∃ w6, (Instr.mapUpdate t (.map (some B)) (.string s) (clo c w'.heap.size)).run Tryd.prog (w'.alloc (.cells #[v] ty)) = .ok () w6 ∧ FnAt w6 B (n + 1) (fset f s.data.toList (clo c w'.heap.size)) ∧
      w6.ranges Tryd.prog 9 heldE b r m D (fun x => left x && !x.sameKey (.string s.data.toList)) cnt' ∧ Goes c g base (fset f s.data.toList (clo c w'.heap.size)) (fun x => left x && !x.sameKey (.string s.data.toList)) (w4.heap.size + 1) w6 ∧
      w4.grownBy w6 (some B) ∧ w4.heap.size + 1 ≤ w6.heap.size ∧ w6.rangeLeft b r < wr.rangeLeft b r := by
  have hB' : B < wr.heap.size := hF.lt
  have f1 : FnAt w' B n f := hF.kept (hgr.block B hB' (fun e => by have := Option.some.inj e; omega))
  have f2 : FnAt (w'.alloc (.cells #[v] ty)) B n f := f1.kept (Below.heap_alloc _ _ _ f1.lt)
  obtain ⟨w6, hrun, f3, g6⟩ := f2.put ht hn s hsz (clo c w'.heap.size)
  have ga : w'.grownBy (w'.alloc (.cells #[v] ty)) none := World.grownBy_alloc w' _ none
  have hsa : (w'.alloc (.cells #[v] ty)).heap.size = w'.heap.size + 1 := World.size_alloc _ _
  have hs6 : w'.heap.size + 1 ≤ w6.heap.size := by have := g6.size; omega
  have r1 := hrg.kept ga (by simp) (by simp)
  have r2 := r1.kept g6 (fun e => hbB (Option.some.inj e)) (fun e => by have := Option.some.inj e; omega)
  have hblk : ∀ p, p < wr.heap.size → p ≠ r → p ≠ B → w6.heap[p]? = wr.heap[p]? := fun p hp h1 h2 => by
    rw [g6.block p (by omega) (fun e => h2 (Option.some.inj e)), ga.block p (by omega) (by simp), hgr.block p hp (fun e => h1 (Option.some.inj e))]
  refine ⟨w6, hrun, f3, r2, hG.step hgs _ (by omega) (by omega) ?_ (fun p h1 h2 => hblk p h2 (by omega) (by omega)) (by omega), ⟨?_, ?_, ?_, ?_, fun p hp h1 => ?_⟩, by omega, ?_⟩
  · have e := g6.block w'.heap.size (by omega) (fun e => by have := Option.some.inj e; omega)
    rw [World.cell?_of_block (w := w'.alloc (.cells #[v] ty)) e]
    exact cell_of_row _ _ 0 _ _ (0, 0) (heap_alloc_new _ _)
  · exact g6.os.trans (ga.os.trans (hgr.os.trans hgw.os))
  · exact g6.tape.trans (ga.tape.trans (hgr.tape.trans hgw.tape))
  · exact g6.output.trans (ga.output.trans (hgr.output.trans hgw.output))
  · have := hgw.size; omega
  · rw [hblk p (by omega) (by omega) (fun e => h1 (by rw [e])), hgw.block p hp h1]
  · rw [r2.left_eq, hr.left_eq]; exact hlt
/-- The range is through. -/
def Done (B : Nat) (c : FuncId) (g base f : List UInt8 → Option Value) (w : World) : Prop :=
  (∀ k v, g k = some v → ∃ p, p ≠ B ∧ p < w.heap.size ∧ f k = some (clo c p) ∧ w.cell? ⟨p, 0, none⟩ = some v) ∧ ∀ k, g k = none → f k = base k
theorem Goes.done {c : FuncId} {g base f : List UInt8 → Option Value} {left : Lit → Bool} {lo : Nat} {w : World} (h : Goes c g base f left lo w) (hl : ∀ kl, left kl = false) {B : Nat} (hB : B < lo) :
    Done B c g base f w :=
  ⟨fun k v hk => by obtain ⟨p, h1, h2, h3, h4⟩ := h.1 k v hk (hl _); exact ⟨p, by omega, h2, h3, h4⟩, fun k hk => h.2 k (.inl hk)⟩
/-- It stays so while the map alone is written. -/
theorem done_keep {c : FuncId} {g base f : List UInt8 → Option Value} {w w' : World} {B : Nat} (h : Done B c g base f w) (hg : w.grownBy w' (some B)) :
    Done B c g base f w' :=
  ⟨fun k v hk => by obtain ⟨p, h1, h2, h3, h4⟩ := h.1 k v hk; exact ⟨p, h1, Nat.lt_of_lt_of_le h2 hg.size, h3, by rw [World.cell?_of_block (hg.block p h2 (fun e => h1 (Option.some.inj e)))]; exact h4⟩, h.2⟩
end Go.Proofs.YtgcaohpaopemnaaDoor
