/-
  A GRAPH IN MEMORY: which blocks hold it, which gates it has; how memory moves where a graph, or a model of one, is worked on.
-/
import Derived.Test.YtpiglmaojonbnaaDoorP05
import Derived.Deep.AppendLies
import Derived.Below
import Derived.WalkKit
import Derived.Deep.QuietTactic
import Derived.BigQuiet
import Derived.WalkSmall
import Derived.LoopTactic
namespace Go.Proofs.YtpiglmaojonbnaaDoor
open Go.RowKit Go.Maps

/-- THE WORLD HAS MOVED: of the old blocks those of F alone have turned; F' is F and new blocks. -/
structure Mvd (F F' : Nat → Prop) (w w' : World) : Prop where
  os : w'.os = w.os
  tape : w'.tape = w.tape
  output : w'.output = w.output
  size : w.heap.size ≤ w'.heap.size
  block : ∀ k, k < w.heap.size → ¬ F k → w'.heap[k]? = w.heap[k]?
  more : ∀ k, F' k → F k ∨ (w.heap.size ≤ k ∧ k < w'.heap.size)
theorem Mvd.refl (F : Nat → Prop) (w : World) : Mvd F F w w := ⟨rfl, rfl, rfl, Nat.le_refl _, fun _ _ _ => rfl, fun _ h => .inl h⟩
theorem Mvd.trans {F F' F'' : Nat → Prop} {a b c : World} (h : Mvd F F' a b) (k : Mvd F' F'' b c) : Mvd F F'' a c := by
  refine ⟨k.os.trans h.os, k.tape.trans h.tape, k.output.trans h.output, Nat.le_trans h.size k.size, fun i hi hn => ?_, fun i hi => ?_⟩
  · refine (k.block i (Nat.lt_of_lt_of_le hi h.size) (fun hf => ?_)).trans (h.block i hi hn)
    rcases h.more i hf with h1 | h1
    · exact hn h1
    · omega
  · rcases k.more i hi with h1 | h1
    · rcases h.more i h1 with h2 | h2
      · exact .inl h2
      · exact .inr ⟨h2.1, Nat.lt_of_lt_of_le h2.2 k.size⟩
    · exact .inr ⟨Nat.le_trans h.size h1.1, h1.2⟩
theorem Mvd.of_below {F : Nat → Prop} {w w' : World} (h : Below w.heap.size w w') : Mvd F F w w' := ⟨h.os, h.tape, h.output, h.size, fun k hk _ => h.block k hk, fun _ h => .inl h⟩
theorem Mvd.below {F F' : Nat → Prop} {W w w' : World} (h : Mvd F F' w w') {B : Nat} (hb : Below B W w) (hB : B ≤ w.heap.size) (hF : ∀ k, F k → B ≤ k) : Below B W w' :=
  hb.trans ⟨h.os, h.tape, h.output, h.size, fun k hk => h.block k (by omega) (fun hf => by have := hF k hf; omega)⟩
/-- F and the new blocks. -/
def With (F : Nat → Prop) (w w' : World) : Nat → Prop := fun k => F k ∨ (w.heap.size ≤ k ∧ k < w'.heap.size)

/-- THE MAP OF THE GATES. -/
def MapAt (gs : List (Int × Int)) (mv : Value) (F : Nat → Prop) (w : World) : Prop :=
  (mv = .map none ∧ ∀ p ∈ gs, p = (0, 0)) ∨
  ∃ (B n : Nat) (D : DataW Unit), mv = .map (some B) ∧ F B ∧ n ≤ gs.length ∧ w.ownsMap Tryd.prog 115 (plainElem Tryd.prog 34) B n D ∧
    ∀ p : Int × Int, I64 p.1 → I64 p.2 → p ≠ (0, 0) → (Maps.has D (pairK p) = decide (p ∈ gs)) ∧ (p ∈ gs → D.atKey (pairK p) (.lit (.int .i64 0)) = .lit (.int .i64 (2 * (gs.idxOf p : Int) + 2)))
/-- The cells of such pairs. -/
def pcells (gs : List (Int × Int)) : List Value := gs.flatMap fun p => [.int .i64 p.1, .int .i64 p.2]
theorem pcells_length (gs : List (Int × Int)) : (pcells gs).length = gs.length * 2 := by
  induction gs with
  | nil => rfl
  | cons p r ih => simp only [pcells, List.flatMap_cons] at ih ⊢; simp [ih]; omega
theorem pcells_app (gs : List (Int × Int)) (p : Int × Int) : pcells (gs ++ [p]) = pcells gs ++ [.int .i64 p.1, .int .i64 p.2] := by simp [pcells]
theorem pcells_at : ∀ (gs : List (Int × Int)) (i : Nat) (p : Int × Int), gs[i]? = some p → (pcells gs)[2 * i]? = some (.int .i64 p.1) ∧ (pcells gs)[2 * i + 1]? = some (.int .i64 p.2)
  | [], i, p, h => by simp at h
  | q :: r, 0, p, h => by simp at h; subst h; simp [pcells]
  | q :: r, i + 1, p, h => by
    have ih := pcells_at r i p (by simpa using h)
    have e : pcells (q :: r) = .int .i64 q.1 :: .int .i64 q.2 :: pcells r := by simp [pcells]
    rw [e, show 2 * (i + 1) = 2 * i + 1 + 1 by omega, show 2 * i + 1 + 1 + 1 = (2 * i + 1) + 1 + 1 by omega]
    simpa using ih
/-- THE GRAPH IN BLOCK G (its gates; those that its map has; its inputs). -/
def GrRaw (G : Nat) (gs ms : List (Int × Int)) (ins : Nat) (F : Nat → Prop) (w : World) : Prop :=
  F G ∧ (∀ k, F k → k < w.heap.size) ∧ ∃ t sv mv, w.heap[G]? = some (.cells #[sv, mv, .int .i64 ins] t (0, 0)) ∧
    w.ownsRow 0 115 2 sv gs.length (pcells gs) ∧ (∀ k, sv.ownBlock = some k → F k ∧ k ≠ G) ∧ MapAt ms mv F w
def GrAt (G : Nat) (gs : List (Int × Int)) (ins : Nat) (F : Nat → Prop) (w : World) : Prop := Gs gs ∧ GrRaw G gs gs ins F w
theorem owns_keep {w w' : World} {base size n : Nat} {e : TypeId} {v : Value} {xs : List Value} (h : w.ownsRow base e size v n xs) (hk : ∀ k, v.ownBlock = some k → w'.heap[k]? = w.heap[k]?) : w'.ownsRow base e size v n xs := by
  obtain ⟨h1, h2⟩ := h
  refine ⟨h1, ?_⟩
  rcases h2 with h2 | ⟨g, cap, cur, rfl, hb, hg, r⟩
  · exact .inl h2
  · exact .inr ⟨g, cap, cur, rfl, hb, by rw [hk g rfl]; exact hg, r⟩
theorem map_keep {w w' : World} {k : TypeId} {R : Value → Option (DataW Unit × List MemPlace)} {b n : Nat} {D : DataW Unit} (h : w.ownsMap Tryd.prog k R b n D) (hk : w'.heap[b]? = w.heap[b]?) : w'.ownsMap Tryd.prog k R b n D := by
  obtain ⟨es, clock, hb, r⟩ := h
  exact ⟨es, clock, by rw [hk]; exact hb, r⟩
theorem MapAt.keep {gs : List (Int × Int)} {mv : Value} {F F' : Nat → Prop} {w w' : World} (h : MapAt gs mv F w) (hk : ∀ k, F k → w'.heap[k]? = w.heap[k]?) (hF : ∀ k, F k → F' k) : MapAt gs mv F' w' := by
  rcases h with h | ⟨B, n, D, rfl, hB, hn, hm, r⟩
  · exact .inl h
  · exact .inr ⟨B, n, D, rfl, hF B hB, hn, map_keep hm (hk B hB), r⟩
theorem GrAt.keep {G : Nat} {gs : List (Int × Int)} {ins : Nat} {F F' : Nat → Prop} {w w' : World} (h : GrAt G gs ins F w) (hk : ∀ k, F k → w'.heap[k]? = w.heap[k]?) (hF : ∀ k, F k → F' k) (hF' : ∀ k, F' k → k < w'.heap.size) : GrAt G gs ins F' w' := by
  obtain ⟨h1, h2, _, t, sv, mv, h3, h4, h5, h6⟩ := h
  exact ⟨h1, hF G h2, hF', t, sv, mv, by rw [hk G h2]; exact h3, owns_keep h4 (fun k hk' => hk k (h5 k hk').1), fun k hk' => ⟨hF k (h5 k hk').1, (h5 k hk').2⟩, h6.keep hk hF⟩
theorem GrAt.below {G : Nat} {gs : List (Int × Int)} {ins : Nat} {F : Nat → Prop} {w w' : World} (h : GrAt G gs ins F w) (hb : Below w.heap.size w w') : GrAt G gs ins F w' :=
  h.keep (fun k hk => hb.block k (h.2.2.1 k hk)) (fun _ hk => hk) (fun k hk => Nat.lt_of_lt_of_le (h.2.2.1 k hk) hb.size)
/-- Another thing in memory is not touched. -/
theorem GrAt.other {G : Nat} {gs : List (Int × Int)} {ins : Nat} {E F F' : Nat → Prop} {w w' : World} (h : GrAt G gs ins E w) (hm : Mvd F F' w w') (hd : ∀ k, E k → ¬ F k) : GrAt G gs ins E w' :=
  h.keep (fun k hk => hm.block k (h.2.2.1 k hk) (hd k hk)) (fun _ hk => hk) (fun k hk => Nat.lt_of_lt_of_le (h.2.2.1 k hk) hm.size)
theorem Mvd.apart {E F F' : Nat → Prop} {w w' : World} (hm : Mvd F F' w w') (hE : ∀ k, E k → k < w.heap.size) (hd : ∀ k, E k → ¬ F k) : ∀ k, E k → ¬ F' k := fun k hk hf => by
  rcases hm.more k hf with h | h
  · exact hd k hk h
  · have := hE k hk; omega
/-- The graph's three cells. -/
theorem GrAt.cells {G : Nat} {gs : List (Int × Int)} {ins : Nat} {F : Nat → Prop} {w : World} (h : GrAt G gs ins F w) : ∃ t sv mv, w.heap[G]? = some (.cells #[sv, mv, .int .i64 ins] t (0, 0)) ∧
    w.cell? ⟨G, 0, none⟩ = some sv ∧ w.cell? ⟨G, 0 + 1, none⟩ = some mv ∧ w.cell? ⟨G, 0 + 2, none⟩ = some (.int .i64 ins) ∧
    w.ownsRow 0 115 2 sv gs.length (pcells gs) ∧ (∀ k, sv.ownBlock = some k → F k ∧ k ≠ G) ∧ MapAt gs mv F w := by
  obtain ⟨_, _, _, t, sv, mv, h3, h4, h5, h6⟩ := h
  exact ⟨t, sv, mv, h3, by rw [cell_of_row w G 0 _ t (0, 0) h3]; rfl, by rw [cell_of_row w G (0 + 1) _ t (0, 0) h3]; rfl, by rw [cell_of_row w G (0 + 2) _ t (0, 0) h3]; rfl, h4, h5, h6⟩
theorem GrRaw.cells {G : Nat} {gs ms : List (Int × Int)} {ins : Nat} {F : Nat → Prop} {w : World} (h : GrRaw G gs ms ins F w) : ∃ t sv mv, w.heap[G]? = some (.cells #[sv, mv, .int .i64 ins] t (0, 0)) ∧
    w.cell? ⟨G, 0, none⟩ = some sv ∧ w.cell? ⟨G, 0 + 1, none⟩ = some mv ∧ w.cell? ⟨G, 0 + 2, none⟩ = some (.int .i64 ins) ∧
    w.ownsRow 0 115 2 sv gs.length (pcells gs) ∧ (∀ k, sv.ownBlock = some k → F k ∧ k ≠ G) ∧ MapAt ms mv F w := by
  obtain ⟨_, _, t, sv, mv, h3, h4, h5, h6⟩ := h
  exact ⟨t, sv, mv, h3, by rw [cell_of_row w G 0 _ t (0, 0) h3]; rfl, by rw [cell_of_row w G (0 + 1) _ t (0, 0) h3]; rfl, by rw [cell_of_row w G (0 + 2) _ t (0, 0) h3]; rfl, h4, h5, h6⟩
theorem frozen_row {w : World} {G i : Nat} {cs : Array Value} {t : TypeId} (h : w.heap[G]? = some (.cells cs t (0, 0))) : w.frozen? ⟨G, i, none⟩ = false := by simp [World.frozen?, h]
theorem heap_setCell_at {w : World} {G i : Nat} {cs : Array Value} {t : TypeId} {fr : Nat × Nat} (h : w.heap[G]? = some (.cells cs t fr)) (u : Value) : (w.setCell ⟨G, i, none⟩ u).heap[G]? = some (.cells (cs.setIfInBounds i u) t fr) := by
  simp only [World.setCell, Array.getElem?_modify, if_true, h, Option.map_some]
  rfl
/-- What a slice of gates looks like. -/
theorem owns_form {w : World} {base size n : Nat} {e : TypeId} {v : Value} {xs : List Value} (h : w.ownsRow base e size v n xs) : ∃ o c, v = .slice o n c ∧ n ≤ maxLen := by
  obtain ⟨_, h2⟩ := h
  rcases h2 with ⟨rfl, rfl⟩ | ⟨g, cap, cur, rfl, _, _, h1, h2, _⟩
  · exact ⟨_, _, rfl, by unfold maxLen; omega⟩
  · exact ⟨_, _, rfl, by omega⟩
end Go.Proofs.YtpiglmaojonbnaaDoor

/-
  package graph: Gates, Inputs, Not, BY CONTRACT.
-/
namespace Go.Proofs.YtpiglmaojonbnaaDoor
open Go.RowKit Go.Maps
theorem gates_any {G : Nat} {gs : List (Int × Int)} {ins : Nat} {F : Nat → Prop} {w : World} (h : GrAt G gs ins F w) (hl : gs.length ≤ 100000) :
    Calls Tryd.prog 70 #[.pointer (some ⟨G, 0, none⟩)] w fun e w' => e = .returned (.int .i64 ((gs.length : Int) + 1)) ∧ w' = w := by
  obtain ⟨t, sv, mv, h3, c0, c1, c2, h4, h5, h6⟩ := h.cells
  obtain ⟨o, c, rfl, hn⟩ := owns_form h4
  go_enter Tryd.func70, Tryd.ntmps70
  go_wp2
  go_ret
  exact ⟨by rw [Int.add_comm]; rfl, rfl⟩
theorem xor_one (n : Nat) : n ^^^ 1 = if n % 2 = 0 then n + 1 else n - 1 := by
  have h1 : (n ^^^ 1) / 2 = n / 2 := by rw [Nat.xor_div_two]; simp
  have h2 : (n ^^^ 1) % 2 = (n % 2 + 1) % 2 := by have := Nat.xor_mod_two_eq_one (a := n) (b := 1); omega
  split <;> omega
theorem bits_turn {a : Int} (ha : I64 a) : bits .xor .i64 a 1 = turnL a := by
  unfold I64 at ha
  have h1 : ((BitVec.ofInt 64 a).toNat : Int) = a % 18446744073709551616 := by simp [BitVec.toNat_ofInt]; omega
  show IntKind.i64.wrap ((BitVec.ofInt 64 a ^^^ BitVec.ofInt 64 1).toNat : Int) = _
  have h2 : (BitVec.ofInt 64 (1 : Int)).toNat = 1 := by decide
  rw [BitVec.toNat_xor, h2, xor_one, IntKind.wrap_i64]
  unfold turnL
  split <;> split <;> omega
theorem not_any (a : Int) (w : World) (ha : I64 a) :
    Calls Tryd.prog 45 #[.int .i64 a] w fun e w' => e = .returned (.int .i64 (turnL a)) ∧ w' = w := by
  go_enter Tryd.func45, Tryd.ntmps45
  go_wp2
  go_ret
  exact ⟨by rw [← bits_turn ha]; rfl, rfl⟩

/-- Numbers one behind the other. -/
def IntsAt (w : World) (v : Value) (l : List Int) : Prop := l.length ≤ maxLen ∧ ∃ o c, v = .slice o l.length c ∧ ∀ k x, l[k]? = some x → ∃ b off, o = some ⟨b, off, none⟩ ∧ w.cell? ⟨b, off + k, none⟩ = some (.int .i64 x)
set_option maxHeartbeats 1000000 in
theorem has_any {G : Nat} {gs : List (Int × Int)} {ins : Nat} {F : Nat → Prop} {w : World} (h : GrAt G gs ins F w) (hl : gs.length ≤ 100000) (v : Value) (l : List Int) (hv : IntsAt w v l) (hI : ∀ x ∈ l, I64 x) :
    Calls Tryd.prog 60 #[.pointer (some ⟨G, 0, none⟩), v] w fun e w' => e = .returned (.bool (l.all fun x => hasB gs x)) ∧ w' = w := by
  obtain ⟨hlen, o, c, rfl, hc⟩ := hv
  unfold maxLen at hlen
  go_enter Tryd.func60, Tryd.ntmps60
  go_wp2
  go_loop [9] (fun i => ∃ j : Nat, j ≤ l.length ∧ i = .int .i64 j ∧ ∀ k x, k < j → l[k]? = some x → HasL gs x) (fun i => l.length - (intOf i).toNat)
  case atStart => exact ⟨0, Nat.zero_le _, rfl, fun k x hk => by omega⟩
  case round =>
    obtain ⟨j, hj, rfl, hall⟩ := hrel
    by_cases hjl : j < l.length
    · obtain ⟨x, hx⟩ : ∃ x, l[j]? = some x := ⟨_, List.getElem?_eq_getElem hjl⟩
      obtain ⟨b, off, rfl, hcx⟩ := hc j x hx
      have hix := hI x (List.mem_of_getElem? hx)
      unfold I64 at hix
      have HX : Hid (∀ k x, l[k]? = some x → ∃ b' off', some (⟨b, off, none⟩ : Addr) = some ⟨b', off', none⟩ ∧ w.cell? ⟨b', off' + k, none⟩ = some (.int .i64 x)) := hc
      clear hc
      have hno : ¬ HasL gs x → (l.all fun x => hasB gs x) = false := fun hn => by
        rw [List.all_eq_false]; exact ⟨x, List.mem_of_getElem? hx, by rw [hasB_f hn]; simp⟩
      have HN : Hid (¬ HasL gs x → (l.all fun x => hasB gs x) = false) := hno
      clear hno
      have HH : Hid (∀ k x, k < j → l[k]? = some x → HasL gs x) := hall
      clear hall hI
      by_cases hneg : x < 0
      · go_wp2
        go_ret
        exact ⟨by rw [HN.out (by unfold HasL; omega)]; rfl, rfl⟩
      · by_cases hbig : (gs.length : Int) + 1 ≤ x / 2
        · go_wp2_with (go_at_call 70; refine (gates_any h hl).mono ?_; rintro e w' ⟨rfl, rfl⟩)
          go_ret
          exact ⟨by rw [HN.out (by unfold HasL; omega)]; rfl, rfl⟩
        · go_wp2_with (go_at_call 70; refine (gates_any h hl).mono ?_; rintro e w' ⟨rfl, rfl⟩)
          go_round
          case rel =>
            refine ⟨j + 1, by omega, by go_num, fun k y hk hy => ?_⟩
            rcases Nat.lt_or_ge k j with h1 | h1
            · exact HH.out k y h1 hy
            · obtain rfl : k = j := by omega
              rw [hx] at hy
              cases hy
              unfold HasL; omega
          case measure => simp [intOf]; omega
    · obtain rfl : j = l.length := by omega
      have he : (l.all fun x => hasB gs x) = true := by
        rw [List.all_eq_true]
        intro x hx
        obtain ⟨k, hk, rfl⟩ := List.getElem_of_mem hx
        exact hasB_t (hall k _ hk (List.getElem?_eq_getElem hk))
      have HE : Hid ((l.all fun x => hasB gs x) = true) := he
      clear he hc hI
      go_wp2
      go_ret
      exact ⟨by rw [HE.out]; rfl, rfl⟩
end Go.Proofs.YtpiglmaojonbnaaDoor
