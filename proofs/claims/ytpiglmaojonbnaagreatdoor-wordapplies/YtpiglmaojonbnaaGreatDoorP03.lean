/-
  GATES AS MATHEMATICS: a list of pairs of literals ((0, 0): an input); what two literals come to.
-/
import Derived.Test.YtpiglmaojonbnaaGreatDoorP01
import Derived.Maps.OwnSet
import Derived.DeepKeys4
import Derived.Deep.AppendLies
import Derived.Below
import Derived.WalkKit
namespace Go.Proofs.YtpiglmaojonbnaaGreatDoor

/-- A literal, turned. -/
def turnL (a : Int) : Int := if a % 2 = 0 then a + 1 else a - 1
/-- It needs no gate: it is false. -/
def offB (a b : Int) : Bool := decide (min a b = 0) || (decide (max a b = min a b + 1) && decide (min a b % 2 = 0))
/-- It needs no gate: it is the greater one. -/
def oneB (a b : Int) : Bool := decide (min a b = 1) || decide (min a b = max a b)
/-- Which literal two come to. -/
def andL (gs : List (Int × Int)) (a b : Int) : Int :=
  if offB a b = true then 0 else if oneB a b = true then max a b else 2 * (gs.idxOf (min a b, max a b) : Int) + 2
/-- The gates behind it. -/
def andG (gs : List (Int × Int)) (a b : Int) : List (Int × Int) :=
  if offB a b = true then gs else if oneB a b = true then gs else if (min a b, max a b) ∈ gs then gs else gs ++ [(min a b, max a b)]
/-- A literal of the gates. -/
def HasL (gs : List (Int × Int)) (a : Int) : Prop := 0 ≤ a ∧ a < 2 * ((gs.length : Int) + 1)
/-- Gates that are right: inputs, or two literals, the lesser first, both ahead; no two are the same. -/
structure Gs (gs : List (Int × Int)) : Prop where
  each : ∀ (i : Nat) (p : Int × Int), gs[i]? = some p → p = (0, 0) ∨ (2 ≤ p.1 ∧ p.1 < p.2 ∧ p.2 < 2 * ((i : Int) + 1))
  once : ∀ (i j : Nat) (p : Int × Int), gs[i]? = some p → gs[j]? = some p → p ≠ (0, 0) → i = j

theorem Gs.nil : Gs [] := ⟨fun i p h => by simp at h, fun i j p h => by simp at h⟩
theorem turnL_eq (a : Int) : turnL a / 2 = a / 2 ∧ turnL (turnL a) = a ∧ (turnL a = a + 1 ∧ a % 2 = 0 ∨ turnL a = a - 1 ∧ a % 2 = 1) := by
  unfold turnL
  split
  · rename_i h
    refine ⟨by omega, ?_, .inl ⟨rfl, h⟩⟩
    rw [if_neg (by omega)]; omega
  · rename_i h
    refine ⟨by omega, ?_, .inr ⟨rfl, by omega⟩⟩
    rw [if_pos (by omega)]; omega
theorem HasL.turn {gs : List (Int × Int)} {a : Int} (h : HasL gs a) : HasL gs (turnL a) := by
  have := (turnL_eq a).2.2
  unfold HasL at *
  omega
theorem HasL.turn_iff {gs : List (Int × Int)} {a : Int} : HasL gs (turnL a) ↔ HasL gs a := ⟨fun h => by have := h.turn; rwa [(turnL_eq a).2.1] at this, HasL.turn⟩
/-- .. as a bool. -/
def hasB (gs : List (Int × Int)) (a : Int) : Bool := decide (0 ≤ a) && decide (a < 2 * ((gs.length : Int) + 1))
theorem hasB_iff {gs : List (Int × Int)} {a : Int} : hasB gs a = true ↔ HasL gs a := by unfold hasB HasL; simp
theorem hasB_t {gs : List (Int × Int)} {a : Int} (h : HasL gs a) : hasB gs a = true := hasB_iff.2 h
theorem hasB_f {gs : List (Int × Int)} {a : Int} (h : ¬ HasL gs a) : hasB gs a = false := by
  cases hb : hasB gs a
  · rfl
  · exact absurd (hasB_iff.1 hb) h
theorem andG_length (gs : List (Int × Int)) (a b : Int) : gs.length ≤ (andG gs a b).length ∧ (andG gs a b).length ≤ gs.length + 1 := by
  unfold andG
  split
  · omega
  · split
    · omega
    · split
      · omega
      · simp
theorem HasL.mono {gs gs' : List (Int × Int)} (hl : gs.length ≤ gs'.length) {a : Int} (h : HasL gs a) : HasL gs' a := by
  unfold HasL at *
  omega
/-- What is one of the gates that are there is known by its place. -/
theorem idx_lt {gs : List (Int × Int)} {p : Int × Int} (h : p ∈ gs) : gs.idxOf p < gs.length := List.idxOf_lt_length_of_mem h
theorem idx_out {gs : List (Int × Int)} {p : Int × Int} (h : p ∉ gs) : gs.idxOf p = gs.length := List.idxOf_eq_length h
theorem idx_app {gs : List (Int × Int)} {p : Int × Int} (h : p ∈ gs) (l : List (Int × Int)) : (gs ++ l).idxOf p = gs.idxOf p := by simp [List.idxOf_append, h]
theorem idx_new {gs : List (Int × Int)} {p : Int × Int} (h : p ∉ gs) : (gs ++ [p]).idxOf p = gs.length := by simp [List.idxOf_append, h]
theorem andL_has {gs : List (Int × Int)} {a b : Int} (ha : HasL gs a) (hb : HasL gs b) : HasL (andG gs a b) (andL gs a b) := by
  unfold andG andL
  split
  · unfold HasL at *; omega
  · split
    · unfold HasL at *; omega
    · split
      · rename_i h
        have := idx_lt h
        unfold HasL; omega
      · rename_i h
        have := idx_out h
        unfold HasL; simp; omega
theorem Gs.and {gs : List (Int × Int)} (h : Gs gs) {a b : Int} (ha : HasL gs a) (hb : HasL gs b) : Gs (andG gs a b) := by
  unfold andG
  split
  · exact h
  · rename_i h1
    split
    · exact h
    · rename_i h2
      split
      · exact h
      · rename_i h3
        simp only [offB, oneB, Bool.or_eq_true, Bool.and_eq_true, decide_eq_true_eq, not_or, not_and] at h1 h2
        unfold HasL at ha hb
        refine ⟨fun i p hi => ?_, fun i j p hi hj hp => ?_⟩
        · rcases Nat.lt_or_ge i gs.length with hl | hl
          · rw [List.getElem?_append_left hl] at hi
            exact h.each i p hi
          · rw [List.getElem?_append_right hl] at hi
            have h0 : i - gs.length = 0 := by
              rcases Nat.eq_zero_or_pos (i - gs.length) with h | h
              · exact h
              · rw [List.getElem?_eq_none (by simp; omega)] at hi; cases hi
            rw [h0] at hi
            simp at hi
            subst hi
            right
            simp only
            omega
        · have key : ∀ k, (gs ++ [(min a b, max a b)])[k]? = some p → (k < gs.length ∧ gs[k]? = some p) ∨ (k = gs.length ∧ p = (min a b, max a b)) := fun k hk => by
            rcases Nat.lt_or_ge k gs.length with hl | hl
            · rw [List.getElem?_append_left hl] at hk
              exact .inl ⟨hl, hk⟩
            · rw [List.getElem?_append_right hl] at hk
              have h0 : k - gs.length = 0 := by
                rcases Nat.eq_zero_or_pos (k - gs.length) with h | h
                · exact h
                · rw [List.getElem?_eq_none (by simp; omega)] at hk; cases hk
              rw [h0] at hk
              simp at hk
              exact .inr ⟨by omega, hk.symm⟩
          rcases key i hi with ⟨_, k1⟩ | ⟨k1, k2⟩ <;> rcases key j hj with ⟨_, l1⟩ | ⟨l1, l2⟩
          · exact h.once i j p k1 l1 hp
          · subst l2; exact absurd (List.mem_of_getElem? k1) h3
          · subst k2; exact absurd (List.mem_of_getElem? l1) h3
          · omega
theorem Gs.input {gs : List (Int × Int)} (h : Gs gs) : Gs (gs ++ [(0, 0)]) := by
  have key : ∀ k p, (gs ++ [((0 : Int), (0 : Int))])[k]? = some p → (k < gs.length ∧ gs[k]? = some p) ∨ p = (0, 0) := fun k p hk => by
    rcases Nat.lt_or_ge k gs.length with hl | hl
    · rw [List.getElem?_append_left hl] at hk
      exact .inl ⟨hl, hk⟩
    · rw [List.getElem?_append_right hl] at hk
      have h0 : k - gs.length = 0 := by
        rcases Nat.eq_zero_or_pos (k - gs.length) with h | h
        · exact h
        · rw [List.getElem?_eq_none (by simp; omega)] at hk; cases hk
      rw [h0] at hk
      simp at hk
      exact .inr (by simp [← hk])
  refine ⟨fun i p hi => ?_, fun i j p hi hj hp => ?_⟩
  · rcases key i p hi with ⟨_, k⟩ | k
    · exact h.each i p k
    · exact .inl k
  · rcases key i p hi with ⟨_, k1⟩ | k1 <;> rcases key j p hj with ⟨_, l1⟩ | l1
    · exact h.once i j p k1 l1 hp
    · exact absurd l1 hp
    · exact absurd k1 hp
    · exact absurd k1 hp

/-- Or, Xor, If, by And. -/
def orL (gs : List (Int × Int)) (a b : Int) : Int := turnL (andL gs (turnL a) (turnL b))
def orG (gs : List (Int × Int)) (a b : Int) : List (Int × Int) := andG gs (turnL a) (turnL b)
/-- Either the first two, or the last two. -/
def eitherL (gs : List (Int × Int)) (a b c d : Int) : Int := orL (andG (andG gs a b) c d) (andL gs a b) (andL (andG gs a b) c d)
def eitherG (gs : List (Int × Int)) (a b c d : Int) : List (Int × Int) := orG (andG (andG gs a b) c d) (andL gs a b) (andL (andG gs a b) c d)
theorem orG_length (gs : List (Int × Int)) (a b : Int) : gs.length ≤ (orG gs a b).length ∧ (orG gs a b).length ≤ gs.length + 1 := andG_length _ _ _
theorem orL_has {gs : List (Int × Int)} {a b : Int} (ha : HasL gs a) (hb : HasL gs b) : HasL (orG gs a b) (orL gs a b) := (andL_has ha.turn hb.turn).turn
theorem Gs.or {gs : List (Int × Int)} (h : Gs gs) {a b : Int} (ha : HasL gs a) (hb : HasL gs b) : Gs (orG gs a b) := h.and ha.turn hb.turn
theorem eitherG_length (gs : List (Int × Int)) (a b c d : Int) : gs.length ≤ (eitherG gs a b c d).length ∧ (eitherG gs a b c d).length ≤ gs.length + 3 := by
  have h1 := andG_length gs a b
  have h2 := andG_length (andG gs a b) c d
  have h3 := orG_length (andG (andG gs a b) c d) (andL gs a b) (andL (andG gs a b) c d)
  unfold eitherG
  omega
theorem either_has {gs : List (Int × Int)} {a b c d : Int} (ha : HasL gs a) (hb : HasL gs b) (hc : HasL gs c) (hd : HasL gs d) : HasL (eitherG gs a b c d) (eitherL gs a b c d) := by
  have h1 := andL_has ha hb
  have h2 := andL_has (hc.mono (andG_length gs a b).1) (hd.mono (andG_length gs a b).1)
  exact orL_has (h1.mono (andG_length _ c d).1) h2
theorem Gs.either {gs : List (Int × Int)} (h : Gs gs) {a b c d : Int} (ha : HasL gs a) (hb : HasL gs b) (hc : HasL gs c) (hd : HasL gs d) : Gs (eitherG gs a b c d) := by
  have h1 := andL_has ha hb
  have h2 := andL_has (hc.mono (andG_length gs a b).1) (hd.mono (andG_length gs a b).1)
  exact ((h.and ha hb).and (hc.mono (andG_length gs a b).1) (hd.mono (andG_length gs a b).1)).or (h1.mono (andG_length _ c d).1) h2
end Go.Proofs.YtpiglmaojonbnaaGreatDoor

/-
  THE KEYS OF THE GATES' MAP: arrays of two literals.
-/
namespace Go.Proofs.YtpiglmaojonbnaaGreatDoor
open Go.RowKit Go.Maps
theorem pairLaidOut : laidOutB Tryz.prog = true := by kernel_rfl
theorem pairRow : (58 : TypeId) < Tryz.prog.types.size := of_decide_eq_true (by kernel_rfl)
theorem pairWide : (match Tryz.prog.underlying 58 with | some (.array _ _) | some (.struct _) => true | _ => false) = true := by kernel_rfl
theorem pairAt : Tryz.prog.keyTypeAt 2 58 = true := by kernel_rfl
set_option maxRecDepth 100000 in
theorem pairLaw : Keyed Tryz.prog 58 := Keyed.of_law (deep_law_laid pairLaidOut (m := 2) (by omega) pairRow pairAt pairWide)
theorem litZero (w : World) : (zeroValue 39).run Tryz.prog w = .ok (.int .i64 0) w := by kernel_rfl
def pairV (p : Int × Int) : Value := .agg #[.int .i64 p.1, .int .i64 p.2]
/-- What a pair reads as. -/
def pairK (p : Int × Int) : Lit := .string (keyBytes [.int .i64 p.1, .int .i64 p.2])
def I64 (a : Int) : Prop := -9223372036854775808 ≤ a ∧ a ≤ 9223372036854775807
theorem wf_of {a : Int} (h : I64 a) : (Lit.int .i64 a).wf = true := WalkArith.wf_i64 (by unfold I64 at h; omega)
theorem pairType : Tryz.prog.keyType 58 = true := by kernel_rfl
theorem pairCells : Tryz.prog.cellsOf 58 = 2 := by kernel_rfl
theorem litCells : Tryz.prog.cellsOf 39 = 1 := by kernel_rfl
set_option maxRecDepth 100000 in
theorem pairKey {p : Int × Int} (h1 : I64 p.1) (h2 : I64 p.2) : keyOf Tryz.prog 58 (pairV p) = some (pairK p) := by
  have hf : (pairV p).formed Tryz.prog 58 = true := by
    unfold pairV
    simp [Value.formed, Tryz.underlying58, pairCells]
  unfold keyOf
  simp only [Tryz.underlying58, pairType, hf, Bool.and_self, if_true]
  unfold Program.keyLits
  simp [Tryz.underlying58, pairCells, litCells, pairV, Value.cells, List.range, List.range.loop]
  have hl : ∀ a, I64 a → Tryz.prog.keyLits 190 39 [.int .i64 a] = some [.int .i64 a] := fun a ha => by
    unfold Program.keyLits
    simp [Tryz.underlying39, wf_of ha]
  rw [hl _ h1, hl _ h2]
  rfl
theorem pairK_inj {p q : Int × Int} (h1 : I64 p.1) (h2 : I64 p.2) (k1 : I64 q.1) (k2 : I64 q.2) (h : pairK p = pairK q) : p = q := by
  have e := pairLaw.inj (pairKey h1 h2) (h ▸ pairKey k1 k2)
  simp only [pairV, Value.agg.injEq] at e
  obtain ⟨p1, p2⟩ := p
  obtain ⟨q1, q2⟩ := q
  simp at e
  simp [e]
end Go.Proofs.YtpiglmaojonbnaaGreatDoor

/-
  A GRAPH IN MEMORY: which blocks hold it, which gates it has; how memory moves where a graph, or a model of one, is worked on.
-/
namespace Go.Proofs.YtpiglmaojonbnaaGreatDoor
open Go.RowKit Go.Maps

/-- THE WORLD HAS MOVED: of the old blocks those of F alone have turned; F' is F and new blocks. -/
structure Mvd (F F' : Nat → Prop) (w w' : World) : Prop where
  os : w'.os = w.os
  tape : w'.tape = w.tape
  output : w'.output = w.output
  size : w.heap.size ≤ w'.heap.size
  block : ∀ k, k < w.heap.size → ¬ F k → w'.heap[k]? = w.heap[k]?
  more : ∀ k, F' k → F k ∨ (w.heap.size ≤ k ∧ k < w'.heap.size)
theorem Mvd.refl (F : Nat → Prop) (w : World) : Mvd F F w w := ⟨rfl, rfl, rfl, Nat.le_refl _, fun _ _ _ => rfl, fun _ h => .inl h⟩
theorem Mvd.trans {F F' F'' : Nat → Prop} {a b c : World} (h : Mvd F F' a b) (k : Mvd F' F'' b c) : Mvd F F'' a c := by
  refine ⟨k.os.trans h.os, k.tape.trans h.tape, k.output.trans h.output, Nat.le_trans h.size k.size, fun i hi hn => ?_, fun i hi => ?_⟩
  · refine (k.block i (Nat.lt_of_lt_of_le hi h.size) (fun hf => ?_)).trans (h.block i hi hn)
    rcases h.more i hf with h1 | h1
    · exact hn h1
    · omega
  · rcases k.more i hi with h1 | h1
    · rcases h.more i h1 with h2 | h2
      · exact .inl h2
      · exact .inr ⟨h2.1, Nat.lt_of_lt_of_le h2.2 k.size⟩
    · exact .inr ⟨Nat.le_trans h.size h1.1, h1.2⟩
theorem Mvd.of_below {F : Nat → Prop} {w w' : World} (h : Below w.heap.size w w') : Mvd F F w w' := ⟨h.os, h.tape, h.output, h.size, fun k hk _ => h.block k hk, fun _ h => .inl h⟩
theorem Mvd.below {F F' : Nat → Prop} {W w w' : World} (h : Mvd F F' w w') {B : Nat} (hb : Below B W w) (hB : B ≤ w.heap.size) (hF : ∀ k, F k → B ≤ k) : Below B W w' :=
  hb.trans ⟨h.os, h.tape, h.output, h.size, fun k hk => h.block k (by omega) (fun hf => by have := hF k hf; omega)⟩
/-- F and the new blocks. -/
def With (F : Nat → Prop) (w w' : World) : Nat → Prop := fun k => F k ∨ (w.heap.size ≤ k ∧ k < w'.heap.size)

/-- THE MAP OF THE GATES. -/
def MapAt (gs : List (Int × Int)) (mv : Value) (F : Nat → Prop) (w : World) : Prop :=
  (mv = .map none ∧ ∀ p ∈ gs, p = (0, 0)) ∨
  ∃ (B n : Nat) (D : DataW Unit), mv = .map (some B) ∧ F B ∧ n ≤ gs.length ∧ w.ownsMap Tryz.prog 58 (plainElem Tryz.prog 39) B n D ∧
    ∀ p : Int × Int, I64 p.1 → I64 p.2 → p ≠ (0, 0) → (Maps.has D (pairK p) = decide (p ∈ gs)) ∧ (p ∈ gs → D.atKey (pairK p) (.lit (.int .i64 0)) = .lit (.int .i64 (2 * (gs.idxOf p : Int) + 2)))
/-- The cells of such pairs. -/
def pcells (gs : List (Int × Int)) : List Value := gs.flatMap fun p => [.int .i64 p.1, .int .i64 p.2]
theorem pcells_length (gs : List (Int × Int)) : (pcells gs).length = gs.length * 2 := by
  induction gs with
  | nil => rfl
  | cons p r ih => simp only [pcells, List.flatMap_cons] at ih ⊢; simp [ih]; omega
theorem pcells_app (gs : List (Int × Int)) (p : Int × Int) : pcells (gs ++ [p]) = pcells gs ++ [.int .i64 p.1, .int .i64 p.2] := by simp [pcells]
theorem pcells_at : ∀ (gs : List (Int × Int)) (i : Nat) (p : Int × Int), gs[i]? = some p → (pcells gs)[2 * i]? = some (.int .i64 p.1) ∧ (pcells gs)[2 * i + 1]? = some (.int .i64 p.2)
  | [], i, p, h => by simp at h
  | q :: r, 0, p, h => by simp at h; subst h; simp [pcells]
  | q :: r, i + 1, p, h => by
    have ih := pcells_at r i p (by simpa using h)
    have e : pcells (q :: r) = .int .i64 q.1 :: .int .i64 q.2 :: pcells r := by simp [pcells]
    rw [e, show 2 * (i + 1) = 2 * i + 1 + 1 by omega, show 2 * i + 1 + 1 + 1 = (2 * i + 1) + 1 + 1 by omega]
    simpa using ih
/-- THE GRAPH IN BLOCK G (its gates; those that its map has; its inputs). -/
def GrRaw (G : Nat) (gs ms : List (Int × Int)) (ins : Nat) (F : Nat → Prop) (w : World) : Prop :=
  F G ∧ (∀ k, F k → k < w.heap.size) ∧ ∃ t sv mv, w.heap[G]? = some (.cells #[sv, mv, .int .i64 ins] t (0, 0)) ∧
    w.ownsRow 0 58 2 sv gs.length (pcells gs) ∧ (∀ k, sv.ownBlock = some k → F k ∧ k ≠ G) ∧ MapAt ms mv F w
def GrAt (G : Nat) (gs : List (Int × Int)) (ins : Nat) (F : Nat → Prop) (w : World) : Prop := Gs gs ∧ GrRaw G gs gs ins F w
theorem owns_keep {w w' : World} {base size n : Nat} {e : TypeId} {v : Value} {xs : List Value} (h : w.ownsRow base e size v n xs) (hk : ∀ k, v.ownBlock = some k → w'.heap[k]? = w.heap[k]?) : w'.ownsRow base e size v n xs := by
  obtain ⟨h1, h2⟩ := h
  refine ⟨h1, ?_⟩
  rcases h2 with h2 | ⟨g, cap, cur, rfl, hb, hg, r⟩
  · exact .inl h2
  · exact .inr ⟨g, cap, cur, rfl, hb, by rw [hk g rfl]; exact hg, r⟩
theorem map_keep {w w' : World} {k : TypeId} {R : Value → Option (DataW Unit × List MemPlace)} {b n : Nat} {D : DataW Unit} (h : w.ownsMap Tryz.prog k R b n D) (hk : w'.heap[b]? = w.heap[b]?) : w'.ownsMap Tryz.prog k R b n D := by
  obtain ⟨es, clock, hb, r⟩ := h
  exact ⟨es, clock, by rw [hk]; exact hb, r⟩
theorem MapAt.keep {gs : List (Int × Int)} {mv : Value} {F F' : Nat → Prop} {w w' : World} (h : MapAt gs mv F w) (hk : ∀ k, F k → w'.heap[k]? = w.heap[k]?) (hF : ∀ k, F k → F' k) : MapAt gs mv F' w' := by
  rcases h with h | ⟨B, n, D, rfl, hB, hn, hm, r⟩
  · exact .inl h
  · exact .inr ⟨B, n, D, rfl, hF B hB, hn, map_keep hm (hk B hB), r⟩
theorem GrAt.keep {G : Nat} {gs : List (Int × Int)} {ins : Nat} {F F' : Nat → Prop} {w w' : World} (h : GrAt G gs ins F w) (hk : ∀ k, F k → w'.heap[k]? = w.heap[k]?) (hF : ∀ k, F k → F' k) (hF' : ∀ k, F' k → k < w'.heap.size) : GrAt G gs ins F' w' := by
  obtain ⟨h1, h2, _, t, sv, mv, h3, h4, h5, h6⟩ := h
  exact ⟨h1, hF G h2, hF', t, sv, mv, by rw [hk G h2]; exact h3, owns_keep h4 (fun k hk' => hk k (h5 k hk').1), fun k hk' => ⟨hF k (h5 k hk').1, (h5 k hk').2⟩, h6.keep hk hF⟩
theorem GrAt.below {G : Nat} {gs : List (Int × Int)} {ins : Nat} {F : Nat → Prop} {w w' : World} (h : GrAt G gs ins F w) (hb : Below w.heap.size w w') : GrAt G gs ins F w' :=
  h.keep (fun k hk => hb.block k (h.2.2.1 k hk)) (fun _ hk => hk) (fun k hk => Nat.lt_of_lt_of_le (h.2.2.1 k hk) hb.size)
/-- Another thing in memory is not touched. -/
theorem GrAt.other {G : Nat} {gs : List (Int × Int)} {ins : Nat} {E F F' : Nat → Prop} {w w' : World} (h : GrAt G gs ins E w) (hm : Mvd F F' w w') (hd : ∀ k, E k → ¬ F k) : GrAt G gs ins E w' :=
  h.keep (fun k hk => hm.block k (h.2.2.1 k hk) (hd k hk)) (fun _ hk => hk) (fun k hk => Nat.lt_of_lt_of_le (h.2.2.1 k hk) hm.size)
theorem Mvd.apart {E F F' : Nat → Prop} {w w' : World} (hm : Mvd F F' w w') (hE : ∀ k, E k → k < w.heap.size) (hd : ∀ k, E k → ¬ F k) : ∀ k, E k → ¬ F' k := fun k hk hf => by
  rcases hm.more k hf with h | h
  · exact hd k hk h
  · have := hE k hk; omega
/-- The graph's three cells. -/
theorem GrAt.cells {G : Nat} {gs : List (Int × Int)} {ins : Nat} {F : Nat → Prop} {w : World} (h : GrAt G gs ins F w) : ∃ t sv mv, w.heap[G]? = some (.cells #[sv, mv, .int .i64 ins] t (0, 0)) ∧
    w.cell? ⟨G, 0, none⟩ = some sv ∧ w.cell? ⟨G, 0 + 1, none⟩ = some mv ∧ w.cell? ⟨G, 0 + 2, none⟩ = some (.int .i64 ins) ∧
    w.ownsRow 0 58 2 sv gs.length (pcells gs) ∧ (∀ k, sv.ownBlock = some k → F k ∧ k ≠ G) ∧ MapAt gs mv F w := by
  obtain ⟨_, _, _, t, sv, mv, h3, h4, h5, h6⟩ := h
  exact ⟨t, sv, mv, h3, by rw [cell_of_row w G 0 _ t (0, 0) h3]; rfl, by rw [cell_of_row w G (0 + 1) _ t (0, 0) h3]; rfl, by rw [cell_of_row w G (0 + 2) _ t (0, 0) h3]; rfl, h4, h5, h6⟩
theorem GrRaw.cells {G : Nat} {gs ms : List (Int × Int)} {ins : Nat} {F : Nat → Prop} {w : World} (h : GrRaw G gs ms ins F w) : ∃ t sv mv, w.heap[G]? = some (.cells #[sv, mv, .int .i64 ins] t (0, 0)) ∧
    w.cell? ⟨G, 0, none⟩ = some sv ∧ w.cell? ⟨G, 0 + 1, none⟩ = some mv ∧ w.cell? ⟨G, 0 + 2, none⟩ = some (.int .i64 ins) ∧
    w.ownsRow 0 58 2 sv gs.length (pcells gs) ∧ (∀ k, sv.ownBlock = some k → F k ∧ k ≠ G) ∧ MapAt ms mv F w := by
  obtain ⟨_, _, t, sv, mv, h3, h4, h5, h6⟩ := h
  exact ⟨t, sv, mv, h3, by rw [cell_of_row w G 0 _ t (0, 0) h3]; rfl, by rw [cell_of_row w G (0 + 1) _ t (0, 0) h3]; rfl, by rw [cell_of_row w G (0 + 2) _ t (0, 0) h3]; rfl, h4, h5, h6⟩
theorem frozen_row {w : World} {G i : Nat} {cs : Array Value} {t : TypeId} (h : w.heap[G]? = some (.cells cs t (0, 0))) : w.frozen? ⟨G, i, none⟩ = false := by simp [World.frozen?, h]
theorem heap_setCell_at {w : World} {G i : Nat} {cs : Array Value} {t : TypeId} {fr : Nat × Nat} (h : w.heap[G]? = some (.cells cs t fr)) (u : Value) : (w.setCell ⟨G, i, none⟩ u).heap[G]? = some (.cells (cs.setIfInBounds i u) t fr) := by
  simp only [World.setCell, Array.getElem?_modify, if_true, h, Option.map_some]
  rfl
/-- What a slice of gates looks like. -/
theorem owns_form {w : World} {base size n : Nat} {e : TypeId} {v : Value} {xs : List Value} (h : w.ownsRow base e size v n xs) : ∃ o c, v = .slice o n c ∧ n ≤ maxLen := by
  obtain ⟨_, h2⟩ := h
  rcases h2 with ⟨rfl, rfl⟩ | ⟨g, cap, cur, rfl, _, _, h1, h2, _⟩
  · exact ⟨_, _, rfl, by unfold maxLen; omega⟩
  · exact ⟨_, _, rfl, by omega⟩
end Go.Proofs.YtpiglmaojonbnaaGreatDoor
