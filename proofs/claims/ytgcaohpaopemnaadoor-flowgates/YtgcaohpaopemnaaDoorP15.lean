/-
  package graph: Xor, If, Input, Parts BY CONTRACT.
-/
import Derived.Test.YtgcaohpaopemnaaDoorP14
import Derived.Test.YtgcaohpaopemnaaDoorP01
namespace Go.Proofs.YtgcaohpaopemnaaDoor
open Go.RowKit Go.Maps
def xorL (gs : List (Int × Int)) (a b : Int) : Int := eitherL gs a (turnL b) (turnL a) b
def xorG (gs : List (Int × Int)) (a b : Int) : List (Int × Int) := eitherG gs a (turnL b) (turnL a) b
def ifL (gs : List (Int × Int)) (c a b : Int) : Int := eitherL gs c a (turnL c) b
def ifG (gs : List (Int × Int)) (c a b : Int) : List (Int × Int) := eitherG gs c a (turnL c) b

set_option maxRecDepth 100000 in
theorem xor_bad {G : Nat} {gs : List (Int × Int)} {ins : Nat} {F : Nat → Prop} {w : World} (h : GrAt G gs ins F w) (hl : gs.length ≤ 90000) (a b : Int) (ha : I64 a) (hb : I64 b) (hn : ¬ (HasL gs a ∧ HasL gs b)) (t : TypeId) (p : Value) (he : w.cell? ⟨0, 0, none⟩ = some (.iface t p)) :
    Calls Tryd.prog 90 #[.pointer (some ⟨G, 0, none⟩), .int .i64 a, .int .i64 b] w fun e w' => e = .returned (.tuple #[.int .i64 0, .iface t p]) ∧ Below w.heap.size w w' := by
  have H0 : Hid (GrAt G gs ins F w) := h
  have HL : Hid (gs.length ≤ 90000) := hl
  have HN : Hid (¬ (HasL gs a ∧ HasL gs (turnL b) ∧ HasL gs (turnL a) ∧ HasL gs b)) := fun h => hn ⟨h.1, h.2.2.2⟩
  clear h hl hn
  go_enter Tryd.func90, Tryd.ntmps90
  go_wp2_with (first
    | (go_at_call 81; refine (not_any _ _ (by assumption)).mono ?_; rintro e w' ⟨rfl, rfl⟩)
    | (go_at_call 89; refine (either_bad H0.out HL.out _ _ _ _ ha hb.turn ha.turn hb HN.out t p he).mono ?_; rintro e w' ⟨rfl, hb1⟩))
  go_ret2
  exact ⟨rfl, hb1⟩
set_option maxRecDepth 100000 in
theorem xor_ok {G : Nat} {gs : List (Int × Int)} {ins : Nat} {F : Nat → Prop} {w : World} (h : GrAt G gs ins F w) (hl : gs.length < 89990) (a b : Int) (ha : HasL gs a) (hb : HasL gs b) :
    Calls Tryd.prog 90 #[.pointer (some ⟨G, 0, none⟩), .int .i64 a, .int .i64 b] w fun e w' => e = .returned (.tuple #[.int .i64 (xorL gs a b), .nilIface]) ∧ ∃ F', GrAt G (xorG gs a b) ins F' w' ∧ Mvd F F' w w' := by
  have H0 : Hid (GrAt G gs ins F w) := h
  have HL : Hid (gs.length < 89990) := hl
  have ia := ha.i64 (by omega)
  have ib := hb.i64 (by omega)
  have HA : Hid (HasL gs a) := ha
  have HB : Hid (HasL gs b) := hb
  clear h hl ha hb
  unfold xorL xorG
  go_enter Tryd.func90, Tryd.ntmps90
  go_wp2_with (first
    | (go_at_call 81; refine (not_any _ _ (by assumption)).mono ?_; rintro e w' ⟨rfl, rfl⟩)
    | (go_at_call 89; refine (either_ok H0.out HL.out _ _ _ _ HA.out HB.out.turn HA.out.turn HB.out).mono ?_; rintro e w' ⟨rfl, hE⟩))
  go_ret2
  exact ⟨rfl, hE⟩
set_option maxRecDepth 100000 in
theorem if_bad {G : Nat} {gs : List (Int × Int)} {ins : Nat} {F : Nat → Prop} {w : World} (h : GrAt G gs ins F w) (hl : gs.length ≤ 90000) (c a b : Int) (hc : I64 c) (ha : I64 a) (hb : I64 b) (hn : ¬ (HasL gs c ∧ HasL gs a ∧ HasL gs b)) (t : TypeId) (p : Value) (he : w.cell? ⟨0, 0, none⟩ = some (.iface t p)) :
    Calls Tryd.prog 78 #[.pointer (some ⟨G, 0, none⟩), .int .i64 c, .int .i64 a, .int .i64 b] w fun e w' => e = .returned (.tuple #[.int .i64 0, .iface t p]) ∧ Below w.heap.size w w' := by
  have H0 : Hid (GrAt G gs ins F w) := h
  have HL : Hid (gs.length ≤ 90000) := hl
  have HN : Hid (¬ (HasL gs c ∧ HasL gs a ∧ HasL gs (turnL c) ∧ HasL gs b)) := fun h => hn ⟨h.1, h.2.1, h.2.2.2⟩
  clear h hl hn
  go_enter Tryd.func78, Tryd.ntmps78
  go_wp2_with (first
    | (go_at_call 81; refine (not_any _ _ (by assumption)).mono ?_; rintro e w' ⟨rfl, rfl⟩)
    | (go_at_call 89; refine (either_bad H0.out HL.out _ _ _ _ hc ha hc.turn hb HN.out t p he).mono ?_; rintro e w' ⟨rfl, hb1⟩))
  go_ret2
  exact ⟨rfl, hb1⟩
set_option maxRecDepth 100000 in
theorem if_ok {G : Nat} {gs : List (Int × Int)} {ins : Nat} {F : Nat → Prop} {w : World} (h : GrAt G gs ins F w) (hl : gs.length < 89990) (c a b : Int) (hc : HasL gs c) (ha : HasL gs a) (hb : HasL gs b) :
    Calls Tryd.prog 78 #[.pointer (some ⟨G, 0, none⟩), .int .i64 c, .int .i64 a, .int .i64 b] w fun e w' => e = .returned (.tuple #[.int .i64 (ifL gs c a b), .nilIface]) ∧ ∃ F', GrAt G (ifG gs c a b) ins F' w' ∧ Mvd F F' w w' := by
  have H0 : Hid (GrAt G gs ins F w) := h
  have HL : Hid (gs.length < 89990) := hl
  have ic := hc.i64 (by omega)
  have HA : Hid (HasL gs a) := ha
  have HB : Hid (HasL gs b) := hb
  have HC : Hid (HasL gs c) := hc
  clear h hl ha hb hc
  unfold ifL ifG
  go_enter Tryd.func78, Tryd.ntmps78
  go_wp2_with (first
    | (go_at_call 81; refine (not_any _ _ (by assumption)).mono ?_; rintro e w' ⟨rfl, rfl⟩)
    | (go_at_call 89; refine (either_ok H0.out HL.out _ _ _ _ HC.out HA.out HC.out.turn HB.out).mono ?_; rintro e w' ⟨rfl, hE⟩))
  go_ret2
  exact ⟨rfl, hE⟩

theorem MapAt.input {gs : List (Int × Int)} {mv : Value} {F : Nat → Prop} {w : World} (h : MapAt gs mv F w) : MapAt (gs ++ [(0, 0)]) mv F w := by
  rcases h with ⟨rfl, h⟩ | ⟨B, n, D, rfl, hB, hn, hm, r⟩
  · exact .inl ⟨rfl, fun p hp => by
      rcases List.mem_append.1 hp with hp | hp
      · exact h p hp
      · simpa using hp⟩
  · refine .inr ⟨B, n, D, rfl, hB, by simp; omega, hm, fun p h1 h2 hp => ?_⟩
    obtain ⟨r1, r2⟩ := r p h1 h2 hp
    refine ⟨by rw [r1]; simp [hp], fun hp' => ?_⟩
    have hm : p ∈ gs := by
      rcases List.mem_append.1 hp' with hp' | hp'
      · exact hp'
      · exact absurd (by simpa using hp') hp
    rw [r2 hm, idx_app hm]
theorem GrRaw.setIns {G : Nat} {gs ms : List (Int × Int)} {ins : Nat} {F : Nat → Prop} {w : World} (h : GrRaw G gs ms ins F w) (n : Nat) : GrRaw G gs ms n F (w.setCell ⟨G, 2, none⟩ (.int .i64 n)) ∧ Mvd F F w (w.setCell ⟨G, 2, none⟩ (.int .i64 n)) := by
  obtain ⟨k1, k2, t, sv, mv, k3, k4, k5, k6⟩ := h
  have hbl : ∀ k, k ≠ G → (w.setCell ⟨G, 2, none⟩ (.int .i64 n)).heap[k]? = w.heap[k]? := fun k hk => Below.heap_setCell _ _ _ _ hk
  refine ⟨⟨k1, fun k hk => by rw [size_setCell]; exact k2 k hk, t, sv, mv, heap_setCell_at k3 _, owns_keep k4 (fun k hk => hbl k (k5 k hk).2), k5, ?_⟩, ⟨rfl, rfl, rfl, by rw [size_setCell]; exact Nat.le_refl _, fun k _ hn => hbl k (fun e => hn (by rw [e]; exact k1)), fun k hk => .inl hk⟩⟩
  rcases k6 with k6 | ⟨B, m, D, rfl, hB, hn, hm, r⟩
  · exact .inl k6
  · refine .inr ⟨B, m, D, rfl, hB, hn, map_keep hm (hbl B (fun e => ?_)), r⟩
    subst e
    obtain ⟨es, clock, hbB, _⟩ := hm
    rw [k3] at hbB
    cases hbB
theorem results_tmp4 {fn : Func} {t u v x : Tmp} (h : fn.results = #[.tmp t, .tmp u, .tmp v, .tmp x]) (tmps : Array Value) (P : Program) (w : World) :
    (results fn tmps).run P w = .ok (.tuple #[tmps.getD t undef, tmps.getD u undef, tmps.getD v undef, tmps.getD x undef]) w := by
  simp [results, h]
/-- An input's pair. -/
def inpB (p : Int × Int) : Bool := decide (p = (0, 0))
set_option maxRecDepth 100000 in
theorem pair_eq (a b : Int) (ha : I64 a) (hb : I64 b) (w : World) : (Op.equalIn 10000 102 (.agg #[.int .i64 a, .int .i64 b]) (.agg #[.int .i64 0, .int .i64 0])).run Tryd.prog w = .ok (inpB (a, b)) w := by
  have h0 : I64 0 := by unfold I64; omega
  obtain ⟨r, hr, hi⟩ := run_equal_deep w (m := 2) (by omega) pairAt pairWide (pairKey (p := (a, b)) ha hb) (pairKey (p := (0, 0)) h0 h0)
  have e : r = inpB (a, b) := by
    unfold inpB
    by_cases hab : (a, b) = ((0 : Int), (0 : Int))
    · rw [decide_eq_true hab]
      exact hi.2 (by rw [hab])
    · rw [decide_eq_false hab]
      cases r
      · rfl
      · exact absurd (pairK_inj (p := (a, b)) (q := (0, 0)) ha hb h0 h0 (hi.1 rfl)) hab
  rw [e] at hr
  exact hr
set_option maxRecDepth 100000 in
theorem isInput_any (a b : Int) (ha : I64 a) (hb : I64 b) (w : World) : Calls Tryd.prog 58 #[.agg #[.int .i64 a, .int .i64 b]] w fun e w' => e = .returned (.bool (inpB (a, b))) ∧ w' = w.alloc (.cells #[.int .i64 a, .int .i64 b] 102) := by
  have hq := pair_eq a b ha hb (w.alloc (.cells #[.int .i64 a, .int .i64 b] 102))
  go_enter Tryd.func58, Tryd.ntmps58
  go_wp2
  go_ret
  exact ⟨rfl, rfl⟩

theorem pair_cells {w : World} {v : Value} {gs : List (Int × Int)} (h : w.ownsRow 0 102 2 v gs.length (pcells gs)) {i : Nat} {p : Int × Int} (hi : gs[i]? = some p) : ∃ g c, v = .slice (some ⟨g, 0, none⟩) gs.length c ∧ g < w.heap.size ∧ w.cell? ⟨g, i * 2, none⟩ = some (.int .i64 p.1) ∧ w.cell? ⟨g, i * 2 + 1, none⟩ = some (.int .i64 p.2) := by
  have hlt : i < gs.length := (List.getElem?_eq_some_iff.1 hi).1
  obtain ⟨g, cap, rfl, _, hg⟩ := h.form (by omega)
  have hc := h.cells (g := g) rfl
  have hadd : ∀ j, (⟨g, 0, none⟩ : Addr).add j = ⟨g, j, none⟩ := fun j => by unfold Addr.add; split <;> simp_all
  have e := pcells_at gs i p hi
  refine ⟨g, cap, rfl, hg, ?_, ?_⟩
  · have := hc _ _ e.1
    rw [hadd] at this
    rw [show i * 2 = 2 * i by omega]; exact this
  · have := hc _ _ e.2
    rw [hadd] at this
    rw [show i * 2 + 1 = 2 * i + 1 by omega]; exact this
theorem Gs.i64 {gs : List (Int × Int)} (h : Gs gs) (hl : gs.length ≤ 90000) {i : Nat} {p : Int × Int} (hi : gs[i]? = some p) : I64 p.1 ∧ I64 p.2 := by
  have hlt : i < gs.length := (List.getElem?_eq_some_iff.1 hi).1
  rcases h.each i p hi with rfl | ⟨h1, h2, h3⟩
  · unfold I64; simp
  · unfold I64; omega

end Go.Proofs.YtgcaohpaopemnaaDoor
