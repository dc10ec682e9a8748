/-
  package graph: Xor, If, Input, Parts BY CONTRACT.
-/
import Derived.Test.YtpiglmaojonbnaaDoorP10
import Derived.OwnWalk
namespace Go.Proofs.YtpiglmaojonbnaaDoor
open Go.RowKit Go.Maps
def xorL (gs : List (Int × Int)) (a b : Int) : Int := eitherL gs a (turnL b) (turnL a) b
def xorG (gs : List (Int × Int)) (a b : Int) : List (Int × Int) := eitherG gs a (turnL b) (turnL a) b
def ifL (gs : List (Int × Int)) (c a b : Int) : Int := eitherL gs c a (turnL c) b
def ifG (gs : List (Int × Int)) (c a b : Int) : List (Int × Int) := eitherG gs c a (turnL c) b

set_option maxRecDepth 100000 in
theorem xor_bad {G : Nat} {gs : List (Int × Int)} {ins : Nat} {F : Nat → Prop} {w : World} (h : GrAt G gs ins F w) (hl : gs.length ≤ 90000) (a b : Int) (ha : I64 a) (hb : I64 b) (hn : ¬ (HasL gs a ∧ HasL gs b)) (t : TypeId) (p : Value) (he : w.cell? ⟨1, 0, none⟩ = some (.iface t p)) :
    Calls Tryd.prog 63 #[.pointer (some ⟨G, 0, none⟩), .int .i64 a, .int .i64 b] w fun e w' => e = .returned (.tuple #[.int .i64 0, .iface t p]) ∧ Below w.heap.size w w' := by
  have H0 : Hid (GrAt G gs ins F w) := h
  have HL : Hid (gs.length ≤ 90000) := hl
  have HN : Hid (¬ (HasL gs a ∧ HasL gs (turnL b) ∧ HasL gs (turnL a) ∧ HasL gs b)) := fun h => hn ⟨h.1, h.2.2.2⟩
  clear h hl hn
  go_enter Tryd.func63, Tryd.ntmps63
  go_wp2_with (first
    | (go_at_call 45; refine (not_any _ _ (by assumption)).mono ?_; rintro e w' ⟨rfl, rfl⟩)
    | (go_at_call 62; refine (either_bad H0.out HL.out _ _ _ _ ha hb.turn ha.turn hb HN.out t p he).mono ?_; rintro e w' ⟨rfl, hb1⟩))
  go_ret2
  exact ⟨rfl, hb1⟩
set_option maxRecDepth 100000 in
theorem xor_ok {G : Nat} {gs : List (Int × Int)} {ins : Nat} {F : Nat → Prop} {w : World} (h : GrAt G gs ins F w) (hl : gs.length < 89990) (a b : Int) (ha : HasL gs a) (hb : HasL gs b) :
    Calls Tryd.prog 63 #[.pointer (some ⟨G, 0, none⟩), .int .i64 a, .int .i64 b] w fun e w' => e = .returned (.tuple #[.int .i64 (xorL gs a b), .nilIface]) ∧ ∃ F', GrAt G (xorG gs a b) ins F' w' ∧ Mvd F F' w w' := by
  have H0 : Hid (GrAt G gs ins F w) := h
  have HL : Hid (gs.length < 89990) := hl
  have ia := ha.i64 (by omega)
  have ib := hb.i64 (by omega)
  have HA : Hid (HasL gs a) := ha
  have HB : Hid (HasL gs b) := hb
  clear h hl ha hb
  unfold xorL xorG
  go_enter Tryd.func63, Tryd.ntmps63
  go_wp2_with (first
    | (go_at_call 45; refine (not_any _ _ (by assumption)).mono ?_; rintro e w' ⟨rfl, rfl⟩)
    | (go_at_call 62; refine (either_ok H0.out HL.out _ _ _ _ HA.out HB.out.turn HA.out.turn HB.out).mono ?_; rintro e w' ⟨rfl, hE⟩))
  go_ret2
  exact ⟨rfl, hE⟩
set_option maxRecDepth 100000 in
theorem if_bad {G : Nat} {gs : List (Int × Int)} {ins : Nat} {F : Nat → Prop} {w : World} (h : GrAt G gs ins F w) (hl : gs.length ≤ 90000) (c a b : Int) (hc : I64 c) (ha : I64 a) (hb : I64 b) (hn : ¬ (HasL gs c ∧ HasL gs a ∧ HasL gs b)) (t : TypeId) (p : Value) (he : w.cell? ⟨1, 0, none⟩ = some (.iface t p)) :
    Calls Tryd.prog 42 #[.pointer (some ⟨G, 0, none⟩), .int .i64 c, .int .i64 a, .int .i64 b] w fun e w' => e = .returned (.tuple #[.int .i64 0, .iface t p]) ∧ Below w.heap.size w w' := by
  have H0 : Hid (GrAt G gs ins F w) := h
  have HL : Hid (gs.length ≤ 90000) := hl
  have HN : Hid (¬ (HasL gs c ∧ HasL gs a ∧ HasL gs (turnL c) ∧ HasL gs b)) := fun h => hn ⟨h.1, h.2.1, h.2.2.2⟩
  clear h hl hn
  go_enter Tryd.func42, Tryd.ntmps42
  go_wp2_with (first
    | (go_at_call 45; refine (not_any _ _ (by assumption)).mono ?_; rintro e w' ⟨rfl, rfl⟩)
    | (go_at_call 62; refine (either_bad H0.out HL.out _ _ _ _ hc ha hc.turn hb HN.out t p he).mono ?_; rintro e w' ⟨rfl, hb1⟩))
  go_ret2
  exact ⟨rfl, hb1⟩
set_option maxRecDepth 100000 in
theorem if_ok {G : Nat} {gs : List (Int × Int)} {ins : Nat} {F : Nat → Prop} {w : World} (h : GrAt G gs ins F w) (hl : gs.length < 89990) (c a b : Int) (hc : HasL gs c) (ha : HasL gs a) (hb : HasL gs b) :
    Calls Tryd.prog 42 #[.pointer (some ⟨G, 0, none⟩), .int .i64 c, .int .i64 a, .int .i64 b] w fun e w' => e = .returned (.tuple #[.int .i64 (ifL gs c a b), .nilIface]) ∧ ∃ F', GrAt G (ifG gs c a b) ins F' w' ∧ Mvd F F' w w' := by
  have H0 : Hid (GrAt G gs ins F w) := h
  have HL : Hid (gs.length < 89990) := hl
  have ic := hc.i64 (by omega)
  have HA : Hid (HasL gs a) := ha
  have HB : Hid (HasL gs b) := hb
  have HC : Hid (HasL gs c) := hc
  clear h hl ha hb hc
  unfold ifL ifG
  go_enter Tryd.func42, Tryd.ntmps42
  go_wp2_with (first
    | (go_at_call 45; refine (not_any _ _ (by assumption)).mono ?_; rintro e w' ⟨rfl, rfl⟩)
    | (go_at_call 62; refine (either_ok H0.out HL.out _ _ _ _ HC.out HA.out HC.out.turn HB.out).mono ?_; rintro e w' ⟨rfl, hE⟩))
  go_ret2
  exact ⟨rfl, hE⟩

theorem MapAt.input {gs : List (Int × Int)} {mv : Value} {F : Nat → Prop} {w : World} (h : MapAt gs mv F w) : MapAt (gs ++ [(0, 0)]) mv F w := by
  rcases h with ⟨rfl, h⟩ | ⟨B, n, D, rfl, hB, hn, hm, r⟩
  · exact .inl ⟨rfl, fun p hp => by
      rcases List.mem_append.1 hp with hp | hp
      · exact h p hp
      · simpa using hp⟩
  · refine .inr ⟨B, n, D, rfl, hB, by simp; omega, hm, fun p h1 h2 hp => ?_⟩
    obtain ⟨r1, r2⟩ := r p h1 h2 hp
    refine ⟨by rw [r1]; simp [hp], fun hp' => ?_⟩
    have hm : p ∈ gs := by
      rcases List.mem_append.1 hp' with hp' | hp'
      · exact hp'
      · exact absurd (by simpa using hp') hp
    rw [r2 hm, idx_app hm]
theorem GrRaw.setIns {G : Nat} {gs ms : List (Int × Int)} {ins : Nat} {F : Nat → Prop} {w : World} (h : GrRaw G gs ms ins F w) (n : Nat) : GrRaw G gs ms n F (w.setCell ⟨G, 2, none⟩ (.int .i64 n)) ∧ Mvd F F w (w.setCell ⟨G, 2, none⟩ (.int .i64 n)) := by
  obtain ⟨k1, k2, t, sv, mv, k3, k4, k5, k6⟩ := h
  have hbl : ∀ k, k ≠ G → (w.setCell ⟨G, 2, none⟩ (.int .i64 n)).heap[k]? = w.heap[k]? := fun k hk => Below.heap_setCell _ _ _ _ hk
  refine ⟨⟨k1, fun k hk => by rw [size_setCell]; exact k2 k hk, t, sv, mv, heap_setCell_at k3 _, owns_keep k4 (fun k hk => hbl k (k5 k hk).2), k5, ?_⟩, ⟨rfl, rfl, rfl, by rw [size_setCell]; exact Nat.le_refl _, fun k _ hn => hbl k (fun e => hn (by rw [e]; exact k1)), fun k hk => .inl hk⟩⟩
  rcases k6 with k6 | ⟨B, m, D, rfl, hB, hn, hm, r⟩
  · exact .inl k6
  · refine .inr ⟨B, m, D, rfl, hB, hn, map_keep hm (hbl B (fun e => ?_)), r⟩
    subst e
    obtain ⟨es, clock, hbB, _⟩ := hm
    rw [k3] at hbB
    cases hbB
theorem results_tmp4 {fn : Func} {t u v x : Tmp} (h : fn.results = #[.tmp t, .tmp u, .tmp v, .tmp x]) (tmps : Array Value) (P : Program) (w : World) :
    (results fn tmps).run P w = .ok (.tuple #[tmps.getD t undef, tmps.getD u undef, tmps.getD v undef, tmps.getD x undef]) w := by
  simp [results, h]
/-- An input's pair. -/
def inpB (p : Int × Int) : Bool := decide (p = (0, 0))
set_option maxRecDepth 100000 in
theorem pair_eq (a b : Int) (ha : I64 a) (hb : I64 b) (w : World) : (Op.equalIn 10000 115 (.agg #[.int .i64 a, .int .i64 b]) (.agg #[.int .i64 0, .int .i64 0])).run Tryd.prog w = .ok (inpB (a, b)) w := by
  have h0 : I64 0 := by unfold I64; omega
  obtain ⟨r, hr, hi⟩ := run_equal_deep w (m := 2) (by omega) pairAt pairWide (pairKey (p := (a, b)) ha hb) (pairKey (p := (0, 0)) h0 h0)
  have e : r = inpB (a, b) := by
    unfold inpB
    by_cases hab : (a, b) = ((0 : Int), (0 : Int))
    · rw [decide_eq_true hab]
      exact hi.2 (by rw [hab])
    · rw [decide_eq_false hab]
      cases r
      · rfl
      · exact absurd (pairK_inj (p := (a, b)) (q := (0, 0)) ha hb h0 h0 (hi.1 rfl)) hab
  rw [e] at hr
  exact hr
theorem pair_cells {w : World} {v : Value} {gs : List (Int × Int)} (h : w.ownsRow 0 115 2 v gs.length (pcells gs)) {i : Nat} {p : Int × Int} (hi : gs[i]? = some p) : ∃ g c, v = .slice (some ⟨g, 0, none⟩) gs.length c ∧ g < w.heap.size ∧ w.cell? ⟨g, i * 2, none⟩ = some (.int .i64 p.1) ∧ w.cell? ⟨g, i * 2 + 1, none⟩ = some (.int .i64 p.2) := by
  have hlt : i < gs.length := (List.getElem?_eq_some_iff.1 hi).1
  obtain ⟨g, cap, rfl, _, hg⟩ := h.form (by omega)
  have hc := h.cells (g := g) rfl
  have hadd : ∀ j, (⟨g, 0, none⟩ : Addr).add j = ⟨g, j, none⟩ := fun j => by unfold Addr.add; split <;> simp_all
  have e := pcells_at gs i p hi
  refine ⟨g, cap, rfl, hg, ?_, ?_⟩
  · have := hc _ _ e.1
    rw [hadd] at this
    rw [show i * 2 = 2 * i by omega]; exact this
  · have := hc _ _ e.2
    rw [hadd] at this
    rw [show i * 2 + 1 = 2 * i + 1 by omega]; exact this
theorem Gs.i64 {gs : List (Int × Int)} (h : Gs gs) (hl : gs.length ≤ 90000) {i : Nat} {p : Int × Int} (hi : gs[i]? = some p) : I64 p.1 ∧ I64 p.2 := by
  have hlt : i < gs.length := (List.getElem?_eq_some_iff.1 hi).1
  rcases h.each i p hi with rfl | ⟨h1, h2, h3⟩
  · unfold I64; simp
  · unfold I64; omega

end Go.Proofs.YtpiglmaojonbnaaDoor

/-
  WHAT GATES COME TO, AS MATHEMATICS; rows of bools in memory; package graph's holds BY CONTRACT.
-/
namespace Go.Proofs.YtpiglmaojonbnaaDoor
open Go.RowKit Go.Maps

/-- A literal, gates having such values. -/
def litV (vs : List Bool) (x : Int) : Bool := (vs.getD (x / 2).toNat false) != (x % 2 == 1)
/-- The values of so many gates, from gate 0 on; how many inputs were taken. -/
def valsTo (gs : List (Int × Int)) (inp : List Bool) : Nat → List Bool × Nat
  | 0 => ([false], 0)
  | n + 1 =>
    match gs[n]? with
    | some p => if inpB p = true then ((valsTo gs inp n).1 ++ [inp.getD (valsTo gs inp n).2 false], (valsTo gs inp n).2 + 1) else ((valsTo gs inp n).1 ++ [litV (valsTo gs inp n).1 p.1 && litV (valsTo gs inp n).1 p.2], (valsTo gs inp n).2)
    | none => ((valsTo gs inp n).1 ++ [false], (valsTo gs inp n).2)
/-- How many inputs there are among these. -/
def cntI (gs : List (Int × Int)) : Nat := (gs.filter inpB).length
theorem valsTo_length (gs : List (Int × Int)) (inp : List Bool) : ∀ n, (valsTo gs inp n).1.length = n + 1
  | 0 => rfl
  | n + 1 => by
    unfold valsTo
    split
    · split <;> simp [valsTo_length gs inp n]
    · simp [valsTo_length gs inp n]
theorem valsTo_cnt (gs : List (Int × Int)) (inp : List Bool) : ∀ n, n ≤ gs.length → (valsTo gs inp n).2 = cntI (gs.take n)
  | 0, _ => by simp [valsTo, cntI]
  | n + 1, h => by
    have ih := valsTo_cnt gs inp n (by omega)
    have hg : gs[n]? = some gs[n] := List.getElem?_eq_getElem (by omega)
    unfold valsTo
    rw [hg]
    simp only
    have e : cntI (gs.take (n + 1)) = cntI (gs.take n) + if inpB gs[n] = true then 1 else 0 := by
      unfold cntI
      rw [List.take_add_one, hg]
      simp only [Option.toList_some, List.filter_append, List.length_append]
      by_cases hp : inpB gs[n] = true
      · simp [hp]
      · simp [hp]
    rw [e]
    split
    · rw [ih]
    · rw [ih]; rfl
theorem cntI_take_le (gs : List (Int × Int)) (n : Nat) : cntI (gs.take n) ≤ cntI gs := by
  unfold cntI
  exact ((List.take_sublist n gs).filter _).length_le
/-- An input is taken that is there. -/
theorem valsTo_in {gs : List (Int × Int)} {inp : List Bool} {n : Nat} {p : Int × Int} (hp : gs[n]? = some p) (hi : inpB p = true) (hc : cntI gs = inp.length) : (valsTo gs inp n).2 < inp.length := by
  have hn : n < gs.length := (List.getElem?_eq_some_iff.1 hp).1
  have h1 := valsTo_cnt gs inp (n + 1) (by omega)
  have h2 := cntI_take_le gs (n + 1)
  unfold valsTo at h1
  rw [hp] at h1
  simp only [hi, if_true] at h1
  omega
/-- The values so far, the rest false. -/
def rowN (gs : List (Int × Int)) (inp : List Bool) (n : Nat) : List Bool := (valsTo gs inp n).1 ++ List.replicate (gs.length - n) false
theorem rowN_length {gs : List (Int × Int)} {inp : List Bool} {n : Nat} (h : n ≤ gs.length) : (rowN gs inp n).length = gs.length + 1 := by
  unfold rowN
  rw [List.length_append, valsTo_length, List.length_replicate]
  omega
theorem rowN_set {gs : List (Int × Int)} {inp : List Bool} {n : Nat} (h : n < gs.length) (b : Bool) (hb : (valsTo gs inp (n + 1)).1 = (valsTo gs inp n).1 ++ [b]) : rowN gs inp (n + 1) = (rowN gs inp n).set (n + 1) b := by
  unfold rowN
  rw [hb]
  have hl := valsTo_length gs inp n
  rw [List.set_append_right _ _ (by omega), hl, Nat.sub_self]
  have : gs.length - n = (gs.length - (n + 1)) + 1 := by omega
  rw [this, List.replicate_succ]
  simp
theorem rowN_lit {gs : List (Int × Int)} {inp : List Bool} {n : Nat} {x : Int} (hx : x < 2 * ((n : Int) + 1)) : litV (rowN gs inp n) x = litV (valsTo gs inp n).1 x := by
  unfold litV rowN
  have hl := valsTo_length gs inp n
  have : (x / 2).toNat < (valsTo gs inp n).1.length := by omega
  simp only [List.getD_eq_getElem?_getD]
  rw [List.getElem?_append_left this]

/-- A row of bools. -/
def rowB (l : List Bool) : Array Value := (l.map Value.bool).toArray
theorem rowB_get {l : List Bool} {k : Nat} {b : Bool} (h : l[k]? = some b) : (rowB l)[k]? = some (.bool b) := by simp [rowB, h]
theorem rowB_set (l : List Bool) (k : Nat) (b : Bool) : (rowB l).setIfInBounds k (.bool b) = rowB (l.set k b) := by simp [rowB, List.map_set]
def BoolsAt (w : World) (v : Value) (l : List Bool) : Prop := l.length ≤ maxLen ∧ ∃ o c, v = .slice o l.length c ∧ ∀ k x, l[k]? = some x → ∃ b off, o = some ⟨b, off, none⟩ ∧ w.cell? ⟨b, off + k, none⟩ = some (.bool x)
theorem BoolsAt.below {w w' : World} {v : Value} {l : List Bool} (h : BoolsAt w v l) (hb : Below w.heap.size w w') : BoolsAt w' v l := by
  obtain ⟨hl, o, c, rfl, h⟩ := h
  refine ⟨hl, o, c, rfl, fun k x hk => ?_⟩
  obtain ⟨b, off, e, hc⟩ := h k x hk
  exact ⟨b, off, e, cell_keep hb hc⟩
theorem bits_low {a : Int} (h0 : 0 ≤ a) (h1 : a ≤ 9223372036854775807) : bits .and .i64 a 1 = a % 2 := by
  have h2 : (BitVec.ofInt 64 a).toNat = a.toNat := by simp [BitVec.toNat_ofInt]; omega
  show IntKind.i64.wrap ((BitVec.ofInt 64 a &&& BitVec.ofInt 64 1).toNat : Int) = _
  have h3 : (BitVec.ofInt 64 (1 : Int)).toNat = 1 := by decide
  rw [BitVec.toNat_and, h3, h2, Nat.and_one_is_mod, IntKind.wrap_i64]
  omega
end Go.Proofs.YtpiglmaojonbnaaDoor
