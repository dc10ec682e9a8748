/-
  plain.Code BY ITS CONTRACTS: of an error of errors.New's make ('code_str'), of an *api.Fault that wraps one ('code_fault'), of nil ('code_nil'): the error's number and its place; what was in memory stays. Conditions: the nine sentinels and the library's errorType lie in memory as the program's text lays them ('Sents').
-/
import Derived.Test.YtpiglmaojonbnaaGreatDoorP01
import Derived.LoopTactic
import Derived.Below
import Derived.Test.YtpiglmaojonbnaaGreatDoorRows
import Derived.LaidLaws
import Derived.LaidHandle
import Derived.Stop.LaidErr
namespace Go.Proofs.YtpiglmaojonbnaaGreatDoor
open Go.RowKit Go.Extern.Stop Go.Stop Go.Extern

/-- WHAT MEMORY HOLDS OF THE ERRORS: sentinel k's pointer is 'a k'; no two are the same; each one's row bears the frozen range (0, 0); errorType holds the handle of 'error'. -/
structure Sents (a : Nat → Addr) (w : World) : Prop where
  g0 : w.cell? ⟨3, 0, none⟩ = some (.iface 157 (.pointer (some (a 0))))
  g1 : w.cell? ⟨2, 0, none⟩ = some (.iface 157 (.pointer (some (a 1))))
  g2 : w.cell? ⟨1, 0, none⟩ = some (.iface 157 (.pointer (some (a 2))))
  g3 : w.cell? ⟨4, 0, none⟩ = some (.iface 157 (.pointer (some (a 3))))
  g4 : w.cell? ⟨0, 0, none⟩ = some (.iface 157 (.pointer (some (a 4))))
  g5 : w.cell? ⟨5, 0, none⟩ = some (.iface 157 (.pointer (some (a 5))))
  g6 : w.cell? ⟨6, 0, none⟩ = some (.iface 157 (.pointer (some (a 6))))
  g7 : w.cell? ⟨7, 0, none⟩ = some (.iface 157 (.pointer (some (a 7))))
  g8 : w.cell? ⟨8, 0, none⟩ = some (.iface 157 (.pointer (some (a 8))))
  et : w.cell? ⟨9, 0, none⟩ = some (.iface 139 (.agg #[.pointer (some ⟨10, 35, none⟩)]))
  row : ∀ k, k < 9 → ∃ c t, w.heap[(a k).block]? = some (.cells c t (0, 0))
  inj : ∀ j k, j < 9 → k < 9 → j ≠ k → a j ≠ a k

theorem Sents.below {a : Nat → Addr} {w w' : World} (S : Sents a w) (hb : Below w.heap.size w w') : Sents a w' :=
  ⟨cell_keep hb S.g0, cell_keep hb S.g1, cell_keep hb S.g2, cell_keep hb S.g3, cell_keep hb S.g4, cell_keep hb S.g5, cell_keep hb S.g6, cell_keep hb S.g7, cell_keep hb S.g8, cell_keep hb S.et,
    fun k hk => by obtain ⟨c, t, h⟩ := S.row k hk; exact ⟨c, t, row_keep hb h⟩, S.inj⟩

/-- The number of an error that is the m-th sentinel (9: none). -/
def codeOf (m : Nat) : Int := if m < 9 then (m : Int) + 1 else -1
theorem codeOf_in {m : Nat} (h : m < 9) : codeOf m = (m : Int) + 1 := if_pos h
theorem codeOf_out : codeOf 9 = -1 := rfl

theorem nine (a : Nat → Addr) (j : Nat) (hj : j < 9) : ([.iface 157 (.pointer (some (a 0))), .iface 157 (.pointer (some (a 1))), .iface 157 (.pointer (some (a 2))), .iface 157 (.pointer (some (a 3))), .iface 157 (.pointer (some (a 4))), .iface 157 (.pointer (some (a 5))), .iface 157 (.pointer (some (a 6))), .iface 157 (.pointer (some (a 7))), .iface 157 (.pointer (some (a 8)))] : List Value)[j]'(by simpa using hj) = .iface 157 (.pointer (some (a j))) := by
  rcases j with _ | _ | _ | _ | _ | _ | _ | _ | _ | j
  all_goals first | rfl | omega

theorem code_nil (w : World) : Calls Tryz.prog 24 #[.nilIface] w fun e w' => e = .returned (.tuple #[.int .i64 0, .int .i64 (-1)]) ∧ w' = w := by
  go_enter Tryz.func24, Tryz.ntmps24
  go_wp2
  go_ret2
  exact ⟨rfl, rfl⟩

set_option maxHeartbeats 2000000 in
theorem code_str (a : Nat → Addr) (b : Addr) (m : Nat) (cb : Array Value) (tb : TypeId) (w : World) (S : Sents a w) (hrow : w.heap[b.block]? = some (.cells cb tb (0, 0))) (hm : m ≤ 9) (hlt : ∀ j, j < m → b ≠ a j) (heq : m < 9 → a m = b) :
    Calls Tryz.prog 24 #[.iface 157 (.pointer (some b))] w fun e w' => e = .returned (.tuple #[.int .i64 (codeOf m), .int .i64 (-1)]) ∧ Below w.heap.size w w' := by
  have et0 := cell_keep (w' := w.alloc (.cells #[.pointer none] 94)) ((Below.refl _ _).alloc (Nat.le_refl _) _) S.et
  go_enter Tryz.func24, Tryz.ntmps24
  go_wp2_with fail
  refine (as_miss b _ _ et0).mono ?_
  rintro e w1 ⟨rfl, hw1⟩
  have hb : Below w.heap.size w w1 := by
    rw [hw1]
    exact ((((Below.refl _ _).alloc (Nat.le_refl _) _).alloc (by simp) _).alloc (by simp; omega) _).alloc (by simp; omega) _
  clear hw1
  have S1 := S.below hb
  have hrow1 := row_keep hb hrow
  have g0 := S1.g0; have g1 := S1.g1; have g2 := S1.g2; have g3 := S1.g3; have g4 := S1.g4; have g5 := S1.g5; have g6 := S1.g6; have g7 := S1.g7; have g8 := S1.g8
  go_wp2
  go_loop [3, 27] (fun t i => ∃ j : Nat, j ≤ m ∧ i = .int .i64 j ∧ t = .int .i64 (-1)) (fun _ i => 9 - (intOf i).toNat)
  case atStart => exact ⟨0, Nat.zero_le _, rfl, rfl⟩
  case round =>
    obtain ⟨j, hj, rfl, rfl⟩ := hrel
    have hbe : Below w1.heap.size w1 (w1.alloc (.cells #[.iface 157 (.pointer (some (a 0))), .iface 157 (.pointer (some (a 1))), .iface 157 (.pointer (some (a 2))), .iface 157 (.pointer (some (a 3))), .iface 157 (.pointer (some (a 4))), .iface 157 (.pointer (some (a 5))), .iface 157 (.pointer (some (a 6))), .iface 157 (.pointer (some (a 7))), .iface 157 (.pointer (some (a 8)))] 35)) := (Below.refl _ _).alloc (Nat.le_refl _) _
    have hB : Below w.heap.size w _ := hb.trans (hbe.mono hb.size)
    have hrow2 := row_keep hbe hrow1
    by_cases h9 : j < 9
    · have hn := nine a j h9
      obtain ⟨c2, t2, hr2⟩ := S1.row j h9
      have hr3 := row_keep hbe hr2
      clear hr2 g0 g1 g2 g3 g4 g5 g6 g7 g8 et0 hrow1 hrow
      by_cases hjm : j < m
      · have hne : b ≠ a j := hlt j hjm
        go_wp2_with (go_at_call 47; refine (is_other b (a j) _ _ _ _ _ hne hrow2 hr3).mono ?_; rintro e w' ⟨rfl, rfl⟩)
        go_round
        case rel => exact ⟨j + 1, by omega, by go_num, rfl⟩
        case measure => simp [intOf]; omega
      · obtain rfl : j = m := by omega
        have hab : a j = b := heq h9
        subst hab
        have hcode := codeOf_in h9
        have HC : Hid (codeOf j = (j : Int) + 1) := hcode
        clear hcode
        go_wp2_with (go_at_call 47; refine (is_same (a j) _).mono ?_; rintro e w' ⟨rfl, rfl⟩)
        go_ret2
        exact ⟨by rw [HC.out]; rfl, hB⟩
    · obtain rfl : j = m := by omega
      obtain rfl : j = 9 := by omega
      clear g0 g1 g2 g3 g4 g5 g6 g7 g8 et0 hrow1 hrow
      go_wp2
      go_ret2
      exact ⟨rfl, hB⟩

set_option maxHeartbeats 2000000 in
theorem code_fault (a : Nat → Addr) (b : Addr) (m p : Nat) (n : Int) (cb : Array Value) (tb : TypeId) (w : World) (S : Sents a w) (hp0 : w.cell? ⟨p, 0, none⟩ = some (.int .i64 n)) (hp1 : w.cell? ⟨p, 0 + 1, none⟩ = some (.iface 157 (.pointer (some b)))) (hrow : w.heap[b.block]? = some (.cells cb tb (0, 0))) (hm : m ≤ 9) (hlt : ∀ j, j < m → b ≠ a j) (heq : m < 9 → a m = b) :
    Calls Tryz.prog 24 #[.iface 94 (.pointer (some ⟨p, 0, none⟩))] w fun e w' => e = .returned (.tuple #[.int .i64 (codeOf m), .int .i64 n]) ∧ Below w.heap.size w w' := by
  have et0 := cell_keep (w' := w.alloc (.cells #[.pointer none] 94)) ((Below.refl _ _).alloc (Nat.le_refl _) _) S.et
  have ht0 : (w.alloc (.cells #[.pointer none] 94)).cell? ⟨w.heap.size, 0, none⟩ = some (.pointer none) := by simp
  have hf0 : (w.alloc (.cells #[.pointer none] 94)).frozen? ⟨w.heap.size, 0, none⟩ = false := by simp
  go_enter Tryz.func24, Tryz.ntmps24
  go_wp2_with fail
  refine (as_hit ⟨p, 0, none⟩ _ _ _ et0 ht0 hf0).mono ?_
  rintro e w1 ⟨rfl, hw1⟩
  have hb : Below w.heap.size w w1 := by
    rw [hw1]
    exact (((((Below.refl _ _).alloc (Nat.le_refl _) _).alloc (by simp) _).alloc (by simp; omega) _).alloc (by simp; omega) _).alloc (by simp; omega) _ |>.setCell (Nat.le_refl _) _
  have hf1 : w1.cell? ⟨w.heap.size, 0, none⟩ = some (.pointer (some ⟨p, 0, none⟩)) := by
    rw [hw1]
    refine World.cell?_setCell_same _ _ _ (u := .pointer none) ?_
    rw [World.cell?_alloc_lt _ _ _ (by simp; omega), World.cell?_alloc_lt _ _ _ (by simp; omega), World.cell?_alloc_lt _ _ _ (by simp; omega), World.cell?_alloc_lt _ _ _ (by simp)]
    exact ht0
  clear hw1 ht0 hf0
  have S1 := S.below hb
  have hrow1 := row_keep hb hrow
  have hq0 := cell_keep hb hp0
  have hq1 := cell_keep hb hp1
  clear hp0 hp1
  have g0 := S1.g0; have g1 := S1.g1; have g2 := S1.g2; have g3 := S1.g3; have g4 := S1.g4; have g5 := S1.g5; have g6 := S1.g6; have g7 := S1.g7; have g8 := S1.g8
  go_wp2
  go_loop [3, 27] (fun t i => ∃ j : Nat, j ≤ m ∧ i = .int .i64 j ∧ t = .int .i64 n) (fun _ i => 9 - (intOf i).toNat)
  case atStart => exact ⟨0, Nat.zero_le _, rfl, rfl⟩
  case round =>
    obtain ⟨j, hj, rfl, rfl⟩ := hrel
    have hbe : Below w1.heap.size w1 (w1.alloc (.cells #[.iface 157 (.pointer (some (a 0))), .iface 157 (.pointer (some (a 1))), .iface 157 (.pointer (some (a 2))), .iface 157 (.pointer (some (a 3))), .iface 157 (.pointer (some (a 4))), .iface 157 (.pointer (some (a 5))), .iface 157 (.pointer (some (a 6))), .iface 157 (.pointer (some (a 7))), .iface 157 (.pointer (some (a 8)))] 35)) := (Below.refl _ _).alloc (Nat.le_refl _) _
    have hB : Below w.heap.size w _ := hb.trans (hbe.mono hb.size)
    have hrow2 := row_keep hbe hrow1
    have hq2 := cell_keep hbe hq1
    by_cases h9 : j < 9
    · have hn := nine a j h9
      obtain ⟨c2, t2, hr2⟩ := S1.row j h9
      have hr3 := row_keep hbe hr2
      clear hr2 g0 g1 g2 g3 g4 g5 g6 g7 g8 et0 hrow1 hrow
      by_cases hjm : j < m
      · have hne : b ≠ a j := hlt j hjm
        go_wp2_with (go_at_call 47; refine (is_fault_other p 0 (a j) b _ _ _ _ _ hq2 hne hrow2 hr3).mono ?_; rintro e w' ⟨rfl, rfl⟩)
        go_round
        case rel => exact ⟨j + 1, by omega, by go_num, rfl⟩
        case measure => simp [intOf]; omega
      · obtain rfl : j = m := by omega
        have hab : a j = b := heq h9
        subst hab
        have hcode := codeOf_in h9
        have HC : Hid (codeOf j = (j : Int) + 1) := hcode
        clear hcode
        go_wp2_with (go_at_call 47; refine (is_fault_same p 0 (a j) _ hq2).mono ?_; rintro e w' ⟨rfl, rfl⟩)
        go_ret2
        exact ⟨by rw [HC.out]; rfl, hB⟩
    · obtain rfl : j = m := by omega
      obtain rfl : j = 9 := by omega
      clear g0 g1 g2 g3 g4 g5 g6 g7 g8 et0 hrow1 hrow
      go_wp2
      go_ret2
      exact ⟨rfl, hB⟩
end Go.Proofs.YtpiglmaojonbnaaGreatDoor

/-
  THE NINE SENTINELS' TEXTS behind 'lustrum: '.
-/
namespace Go.Proofs.YtpiglmaojonbnaaGreatDoor
open Go.RowKit

/-- A sentinel's text behind 'lustrum: '. -/
def short : Nat → ByteArray
  | 0 => ⟨#[116, 101, 120, 116]⟩
  | 1 => ⟨#[98, 111, 117, 110, 100]⟩
  | 2 => ⟨#[115, 104, 97, 112, 101]⟩
  | 3 => ⟨#[110, 97, 109, 101]⟩
  | 4 => ⟨#[116, 121, 112, 101]⟩
  | 5 => ⟨#[99, 121, 99, 108, 101]⟩
  | 6 => ⟨#[102, 105, 114, 115, 116]⟩
  | 7 => ⟨#[112, 114, 111, 111, 102]⟩
  | _ => ⟨#[110, 111, 110, 101]⟩

theorem short_size (j : Nat) : (short j).size ≤ 5 := by
  rcases j with _ | _ | _ | _ | _ | _ | _ | _ | j
  all_goals exact Nat.le_of_ble_eq_true rfl
end Go.Proofs.YtpiglmaojonbnaaGreatDoor

/-
  FROM A ROW's LIST OF VARIABLES TO WHAT THE WALKS ASK: each sentinel's cell, its text, its row; errorType's cell; no two sentinels are one pointer (their texts differ).
-/
namespace Go.Proofs.YtpiglmaojonbnaaGreatDoor
open Go.RowKit Go.ChangeShapes

/-- A sentinel, wherever it stands on the list. -/
theorem sent_mem {P : Program} {n nm : String} {text : List UInt8} {W : World} {g : Nat} {ti tp te ts : TypeId} {ms : Array (String × TypeId)} {f : Field} : ∀ {l : List (String × DataW Unit)},
    laidMet P l W → (n, .iface nm (.ptr (.agg [.lit (.string text)]))) ∈ l →
    P.globalNamed n = some g → (P.globals[g]?).map (·.type) = some ti → P.underlying ti = some (.interface ms) → (∀ u, P.typeName? 3 u = some nm → u = tp) →
    P.underlying tp = some (.pointer te) → P.underlying te = some (.struct #[f]) → f.type = ts → f.offset = 0 → P.underlying ts = some .string → P.cellsOf te = 1 → P.cellsOf ts = 1 →
    ∃ (a : Addr) (s : ByteArray) (c : Array Value) (t : TypeId), W.cell? ⟨g, 0, none⟩ = some (.iface tp (.pointer (some a))) ∧ W.cell? a = some (.string s) ∧ s.data.toList = text ∧ W.heap[a.block]? = some (.cells c t (0, 0)) := by
  intro l
  induction l with
  | nil => intro _ hm; cases hm
  | cons x r ih =>
    intro h hm hg ht hi hrow hp he hft hfo hs hc hcs
    rcases List.mem_cons.1 hm with rfl | hm
    · obtain ⟨ps, ⟨g0, t0, cs0, f0, p0, q0, hg0, ht0, hv0, hd0, _, e0⟩, _, hrows⟩ := h
      obtain rfl := Option.some.inj (hg.symm.trans hg0)
      obtain rfl := Option.some.inj (ht.symm.trans ht0)
      subst e0
      obtain ⟨l0⟩ := cs0
      have ok0 : ∀ u v, l0 = [.iface u v] → Value.okWide P W .any 0 u v := fun u v e => by
        subst e
        exact (hrows g 0 (by simp [MemPlace.row])).2 u v (by simpa using World.var?_cell hg0 hv0 0)
      obtain ⟨a0, s0, rfl, hc0, hs0, _, rfl⟩ := errorString_of_trod hi hrow hp he hft hfo hs hc hcs hd0 ok0
      obtain ⟨c0, t0, hb0⟩ := (hrows a0.block a0.off (by simp [MemPlace.row])).1
      exact ⟨a0, s0, c0, t0, by simpa using World.var?_cell hg0 hv0 0, hc0, hs0, hb0⟩
    · exact ih h.tail hm hg ht hi hrow hp he hft hfo hs hc hcs

theorem Tryz.own : ownKnob Tryz.prog.godebug = none := by kernel_rfl
theorem Tryz.cellsStr : Tryz.prog.cellsOf 9 = 1 := by kernel_rfl
theorem Tryz.cellsES : Tryz.prog.cellsOf 178 = 1 := by kernel_rfl
theorem Tryz.gEt : Tryz.prog.globalNamed "errors.errorType" = some 9 := by kernel_rfl
theorem Tryz.rt : (Tryz.prog.cutTypes.find? (·.1 == "internal/reflectlite.rtype")).map (·.2) = some 139 := by kernel_rfl
theorem Tryz.oneRow : ((List.range 190).filter fun t => Tryz.prog.rowNamed t [101, 114, 114, 111, 114]) = [35] := by kernel_rfl
theorem Tryz.tsize : Tryz.prog.types.size = 190 := by kernel_rfl
theorem Tryz.star : "*errors.errorString" = "*" ++ "errors.errorString" := by decide
theorem Tryz.esRow (u : TypeId) (h : Tryz.prog.typeName? 3 u = some "*errors.errorString") : u = 157 :=
  typeName_ptr_named (nm := "errors.errorString") (by rw [← Tryz.star]; kernel_rfl) (by kernel_rfl) (by decide) u (by rw [← Tryz.star]; exact h)
/-- errorType's one cell. -/
theorem Tryz.handle {l : List (String × DataW Unit)} {W : World} (h : handlesMet Tryz.prog l W) (hm : ("errors.errorType", .iface "internal/reflectlite.rtype" (.agg [.ptr (.lit (.string [101, 114, 114, 111, 114]))])) ∈ l) :
    W.cell? ⟨9, 0, none⟩ = some (.iface 139 (.agg #[.pointer (some ⟨10, 35, none⟩)])) := by
  obtain ⟨name, u, ty, e1, e2, e3, e4, e5⟩ := h _ hm
  have en : name = [101, 114, 114, 111, 114] := (Option.some.inj e1).symm
  subst en
  obtain rfl := Option.some.inj (Tryz.rt.symm.trans e2)
  have hm : ty ∈ (List.range 190).filter fun t => Tryz.prog.rowNamed t [101, 114, 114, 111, 114] := List.mem_filter.2 ⟨List.mem_range.2 (by rw [← Tryz.tsize]; exact e3), e4⟩
  rw [Tryz.oneRow] at hm
  obtain rfl := List.mem_singleton.1 hm
  have hh : typeHandle Tryz.prog 35 = .pointer (some ⟨10, 35, none⟩) := by kernel_rfl
  rw [hh] at e5
  simpa using World.var?_cell Tryz.gEt e5 0
theorem Tryz.sent {l : List (String × DataW Unit)} {n : String} {text : List UInt8} {W : World} {g : Nat} (h : laidMet Tryz.prog l W) (hm : (n, .iface "*errors.errorString" (.ptr (.agg [.lit (.string text)]))) ∈ l) (hg : Tryz.prog.globalNamed n = some g) (ht : (Tryz.prog.globals[g]?).map (·.type) = some 35) :
    ∃ (a : Addr) (s : ByteArray) (c : Array Value) (t : TypeId), W.cell? ⟨g, 0, none⟩ = some (.iface 157 (.pointer (some a))) ∧ W.cell? a = some (.string s) ∧ s.data.toList = text ∧ W.heap[a.block]? = some (.cells c t (0, 0)) :=
  sent_mem h hm hg ht Tryz.underlying35 Tryz.esRow Tryz.underlying157 Tryz.underlying178 rfl rfl Tryz.underlying9 Tryz.cellsES Tryz.cellsStr

theorem string_of {s : ByteArray} {l : List UInt8} (h : s.data.toList = l) : s = ⟨l.toArray⟩ := by
  cases s with
  | mk d => cases d with
    | mk m => simp at h; subst h; rfl
theorem Tryz.gErrText : Tryz.prog.globalNamed "lustrum/api.ErrText" = some 3 := by kernel_rfl
theorem Tryz.tErrText : (Tryz.prog.globals[(3 : Nat)]?).map (·.type) = some 35 := by kernel_rfl
theorem Tryz.gErrBound : Tryz.prog.globalNamed "lustrum/api.ErrBound" = some 2 := by kernel_rfl
theorem Tryz.tErrBound : (Tryz.prog.globals[(2 : Nat)]?).map (·.type) = some 35 := by kernel_rfl
theorem Tryz.gErrShape : Tryz.prog.globalNamed "lustrum/api.ErrShape" = some 1 := by kernel_rfl
theorem Tryz.tErrShape : (Tryz.prog.globals[(1 : Nat)]?).map (·.type) = some 35 := by kernel_rfl
theorem Tryz.gErrName : Tryz.prog.globalNamed "lustrum/api.ErrName" = some 4 := by kernel_rfl
theorem Tryz.tErrName : (Tryz.prog.globals[(4 : Nat)]?).map (·.type) = some 35 := by kernel_rfl
theorem Tryz.gErrType : Tryz.prog.globalNamed "lustrum/api.ErrType" = some 0 := by kernel_rfl
theorem Tryz.tErrType : (Tryz.prog.globals[(0 : Nat)]?).map (·.type) = some 35 := by kernel_rfl
theorem Tryz.gErrCycle : Tryz.prog.globalNamed "lustrum/api.ErrCycle" = some 5 := by kernel_rfl
theorem Tryz.tErrCycle : (Tryz.prog.globals[(5 : Nat)]?).map (·.type) = some 35 := by kernel_rfl
theorem Tryz.gErrFirst : Tryz.prog.globalNamed "lustrum/api.ErrFirst" = some 6 := by kernel_rfl
theorem Tryz.tErrFirst : (Tryz.prog.globals[(6 : Nat)]?).map (·.type) = some 35 := by kernel_rfl
theorem Tryz.gErrProof : Tryz.prog.globalNamed "lustrum/api.ErrProof" = some 7 := by kernel_rfl
theorem Tryz.tErrProof : (Tryz.prog.globals[(7 : Nat)]?).map (·.type) = some 35 := by kernel_rfl
theorem Tryz.gErrNone : Tryz.prog.globalNamed "lustrum/api.ErrNone" = some 8 := by kernel_rfl
theorem Tryz.tErrNone : (Tryz.prog.globals[(8 : Nat)]?).map (·.type) = some 35 := by kernel_rfl

/-- Where the nine pointers are, by their numbers. -/
def pick9 (a0 a1 a2 a3 a4 a5 a6 a7 a8 : Addr) : Nat → Addr
  | 0 => a0 | 1 => a1 | 2 => a2 | 3 => a3 | 4 => a4 | 5 => a5 | 6 => a6 | 7 => a7 | _ => a8
theorem short_inj (j k : Nat) (hj : j < 9) (hk : k < 9) (h : short j = short k) : j = k := by
  have hall : ((List.range 9).all fun j => (List.range 9).all fun k => !((short j).data.toList == (short k).data.toList) || j == k) = true := by decide
  have h1 := List.all_eq_true.1 (List.all_eq_true.1 hall j (List.mem_range.2 hj)) k (List.mem_range.2 hk)
  rw [h] at h1
  simpa using h1

/-- THE NINE, WITH THEIR TEXTS, out of any list that bears them. -/
theorem sents_of {l hs : List (String × DataW Unit)} {W : World} (h : laidMet Tryz.prog l W) (hh : handlesMet Tryz.prog hs W)
    (hm : ("errors.errorType", .iface "internal/reflectlite.rtype" (.agg [.ptr (.lit (.string [101, 114, 114, 111, 114]))])) ∈ hs)
    (hl : ∀ x ∈ [("lustrum/api.ErrText", Rows.laid_lustrum_api_ErrText), ("lustrum/api.ErrBound", Rows.laid_lustrum_api_ErrBound), ("lustrum/api.ErrShape", Rows.laid_lustrum_api_ErrShape), ("lustrum/api.ErrName", Rows.laid_lustrum_api_ErrName), ("lustrum/api.ErrType", Rows.laid_lustrum_api_ErrType), ("lustrum/api.ErrCycle", Rows.laid_lustrum_api_ErrCycle), ("lustrum/api.ErrFirst", Rows.laid_lustrum_api_ErrFirst), ("lustrum/api.ErrProof", Rows.laid_lustrum_api_ErrProof), ("lustrum/api.ErrNone", Rows.laid_lustrum_api_ErrNone)], x ∈ l) :
    ∃ a : Nat → Addr, Sents a W ∧ ∀ k, k < 9 → W.cell? (a k) = some (.string (⟨#[108, 117, 115, 116, 114, 117, 109, 58, 32]⟩ ++ short k)) := by
  obtain ⟨a0, s0, c0, t0, v0, p0, x0, r0⟩ := Tryz.sent h (hl ("lustrum/api.ErrText", Rows.laid_lustrum_api_ErrText) (by simp)) Tryz.gErrText Tryz.tErrText
  obtain ⟨a1, s1, c1, t1, v1, p1, x1, r1⟩ := Tryz.sent h (hl ("lustrum/api.ErrBound", Rows.laid_lustrum_api_ErrBound) (by simp)) Tryz.gErrBound Tryz.tErrBound
  obtain ⟨a2, s2, c2, t2, v2, p2, x2, r2⟩ := Tryz.sent h (hl ("lustrum/api.ErrShape", Rows.laid_lustrum_api_ErrShape) (by simp)) Tryz.gErrShape Tryz.tErrShape
  obtain ⟨a3, s3, c3, t3, v3, p3, x3, r3⟩ := Tryz.sent h (hl ("lustrum/api.ErrName", Rows.laid_lustrum_api_ErrName) (by simp)) Tryz.gErrName Tryz.tErrName
  obtain ⟨a4, s4, c4, t4, v4, p4, x4, r4⟩ := Tryz.sent h (hl ("lustrum/api.ErrType", Rows.laid_lustrum_api_ErrType) (by simp)) Tryz.gErrType Tryz.tErrType
  obtain ⟨a5, s5, c5, t5, v5, p5, x5, r5⟩ := Tryz.sent h (hl ("lustrum/api.ErrCycle", Rows.laid_lustrum_api_ErrCycle) (by simp)) Tryz.gErrCycle Tryz.tErrCycle
  obtain ⟨a6, s6, c6, t6, v6, p6, x6, r6⟩ := Tryz.sent h (hl ("lustrum/api.ErrFirst", Rows.laid_lustrum_api_ErrFirst) (by simp)) Tryz.gErrFirst Tryz.tErrFirst
  obtain ⟨a7, s7, c7, t7, v7, p7, x7, r7⟩ := Tryz.sent h (hl ("lustrum/api.ErrProof", Rows.laid_lustrum_api_ErrProof) (by simp)) Tryz.gErrProof Tryz.tErrProof
  obtain ⟨a8, s8, c8, t8, v8, p8, x8, r8⟩ := Tryz.sent h (hl ("lustrum/api.ErrNone", Rows.laid_lustrum_api_ErrNone) (by simp)) Tryz.gErrNone Tryz.tErrNone
  have hT : ∀ k, k < 9 → W.cell? (pick9 a0 a1 a2 a3 a4 a5 a6 a7 a8 k) = some (.string (⟨#[108, 117, 115, 116, 114, 117, 109, 58, 32]⟩ ++ short k)) := by
    intro k hk
    rcases k with _ | _ | _ | _ | _ | _ | _ | _ | _ | k
    · refine p0.trans ?_; rw [string_of x0]; exact congrArg (fun b => some (Value.string b)) (ByteArray.ext (by decide))
    · refine p1.trans ?_; rw [string_of x1]; exact congrArg (fun b => some (Value.string b)) (ByteArray.ext (by decide))
    · refine p2.trans ?_; rw [string_of x2]; exact congrArg (fun b => some (Value.string b)) (ByteArray.ext (by decide))
    · refine p3.trans ?_; rw [string_of x3]; exact congrArg (fun b => some (Value.string b)) (ByteArray.ext (by decide))
    · refine p4.trans ?_; rw [string_of x4]; exact congrArg (fun b => some (Value.string b)) (ByteArray.ext (by decide))
    · refine p5.trans ?_; rw [string_of x5]; exact congrArg (fun b => some (Value.string b)) (ByteArray.ext (by decide))
    · refine p6.trans ?_; rw [string_of x6]; exact congrArg (fun b => some (Value.string b)) (ByteArray.ext (by decide))
    · refine p7.trans ?_; rw [string_of x7]; exact congrArg (fun b => some (Value.string b)) (ByteArray.ext (by decide))
    · refine p8.trans ?_; rw [string_of x8]; exact congrArg (fun b => some (Value.string b)) (ByteArray.ext (by decide))
    · omega
  refine ⟨pick9 a0 a1 a2 a3 a4 a5 a6 a7 a8, ⟨v0, v1, v2, v3, v4, v5, v6, v7, v8, Tryz.handle hh hm, ?_, ?_⟩, hT⟩
  · intro k hk
    rcases k with _ | _ | _ | _ | _ | _ | _ | _ | _ | k
    · exact ⟨c0, t0, r0⟩
    · exact ⟨c1, t1, r1⟩
    · exact ⟨c2, t2, r2⟩
    · exact ⟨c3, t3, r3⟩
    · exact ⟨c4, t4, r4⟩
    · exact ⟨c5, t5, r5⟩
    · exact ⟨c6, t6, r6⟩
    · exact ⟨c7, t7, r7⟩
    · exact ⟨c8, t8, r8⟩
    · omega
  · intro j k hj hk hne he
    have h1 := hT j hj
    rw [he, hT k hk] at h1
    exact hne (short_inj j k hj hk (by simpa using h1.symm))
end Go.Proofs.YtpiglmaojonbnaaGreatDoor
