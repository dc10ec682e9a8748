/-
  plain.Code BY ITS CONTRACTS: of an error of errors.New's make ('code_str'), of an *api.Fault that wraps one ('code_fault'), of nil ('code_nil'): the error's number and its place; what was in memory stays. Conditions: the nine sentinels and the library's errorType lie in memory as the program's text lays them ('Sents').
-/
import Derived.Test.YtpkgingjmgakbaaDoorP02
import Derived.LoopTactic
import Derived.Below
namespace Go.Proofs.YtpkgingjmgakbaaDoor
open Go.RowKit Go.Extern.Stop Go.Stop Go.Extern

/-- WHAT MEMORY HOLDS OF THE ERRORS: sentinel k's pointer is 'a k'; no two are the same; each one's row bears the frozen range (0, 0); errorType holds the handle of 'error'. -/
structure Sents (a : Nat → Addr) (w : World) : Prop where
  g0 : w.cell? ⟨5, 0, none⟩ = some (.iface 148 (.pointer (some (a 0))))
  g1 : w.cell? ⟨3, 0, none⟩ = some (.iface 148 (.pointer (some (a 1))))
  g2 : w.cell? ⟨2, 0, none⟩ = some (.iface 148 (.pointer (some (a 2))))
  g3 : w.cell? ⟨6, 0, none⟩ = some (.iface 148 (.pointer (some (a 3))))
  g4 : w.cell? ⟨4, 0, none⟩ = some (.iface 148 (.pointer (some (a 4))))
  g5 : w.cell? ⟨0, 0, none⟩ = some (.iface 148 (.pointer (some (a 5))))
  g6 : w.cell? ⟨1, 0, none⟩ = some (.iface 148 (.pointer (some (a 6))))
  g7 : w.cell? ⟨7, 0, none⟩ = some (.iface 148 (.pointer (some (a 7))))
  g8 : w.cell? ⟨8, 0, none⟩ = some (.iface 148 (.pointer (some (a 8))))
  et : w.cell? ⟨9, 0, none⟩ = some (.iface 118 (.agg #[.pointer (some ⟨10, 36, none⟩)]))
  row : ∀ k, k < 9 → ∃ c t, w.heap[(a k).block]? = some (.cells c t (0, 0))
  inj : ∀ j k, j < 9 → k < 9 → j ≠ k → a j ≠ a k

theorem Sents.below {a : Nat → Addr} {w w' : World} (S : Sents a w) (hb : Below w.heap.size w w') : Sents a w' :=
  ⟨cell_keep hb S.g0, cell_keep hb S.g1, cell_keep hb S.g2, cell_keep hb S.g3, cell_keep hb S.g4, cell_keep hb S.g5, cell_keep hb S.g6, cell_keep hb S.g7, cell_keep hb S.g8, cell_keep hb S.et,
    fun k hk => by obtain ⟨c, t, h⟩ := S.row k hk; exact ⟨c, t, row_keep hb h⟩, S.inj⟩

/-- The number of an error that is the m-th sentinel (9: none). -/
def codeOf (m : Nat) : Int := if m < 9 then (m : Int) + 1 else -1
theorem codeOf_in {m : Nat} (h : m < 9) : codeOf m = (m : Int) + 1 := if_pos h
theorem codeOf_out : codeOf 9 = -1 := rfl

theorem nine (a : Nat → Addr) (j : Nat) (hj : j < 9) : ([.iface 148 (.pointer (some (a 0))), .iface 148 (.pointer (some (a 1))), .iface 148 (.pointer (some (a 2))), .iface 148 (.pointer (some (a 3))), .iface 148 (.pointer (some (a 4))), .iface 148 (.pointer (some (a 5))), .iface 148 (.pointer (some (a 6))), .iface 148 (.pointer (some (a 7))), .iface 148 (.pointer (some (a 8)))] : List Value)[j]'(by simpa using hj) = .iface 148 (.pointer (some (a j))) := by
  rcases j with _ | _ | _ | _ | _ | _ | _ | _ | _ | j
  all_goals first | rfl | omega

theorem code_nil (w : World) : Calls Tryd.prog 16 #[.nilIface] w fun e w' => e = .returned (.tuple #[.int .i64 0, .int .i64 (-1)]) ∧ w' = w := by
  go_enter Tryd.func16, Tryd.ntmps16
  go_wp2
  go_ret2
  exact ⟨rfl, rfl⟩

set_option maxHeartbeats 2000000 in
theorem code_str (a : Nat → Addr) (b : Addr) (m : Nat) (cb : Array Value) (tb : TypeId) (w : World) (S : Sents a w) (hrow : w.heap[b.block]? = some (.cells cb tb (0, 0))) (hm : m ≤ 9) (hlt : ∀ j, j < m → b ≠ a j) (heq : m < 9 → a m = b) :
    Calls Tryd.prog 16 #[.iface 148 (.pointer (some b))] w fun e w' => e = .returned (.tuple #[.int .i64 (codeOf m), .int .i64 (-1)]) ∧ Below w.heap.size w w' := by
  have et0 := cell_keep (w' := w.alloc (.cells #[.pointer none] 48)) ((Below.refl _ _).alloc (Nat.le_refl _) _) S.et
  go_enter Tryd.func16, Tryd.ntmps16
  go_wp2_with fail
  refine (as_miss b _ _ et0).mono ?_
  rintro e w1 ⟨rfl, hw1⟩
  have hb : Below w.heap.size w w1 := by
    rw [hw1]
    exact ((((Below.refl _ _).alloc (Nat.le_refl _) _).alloc (by simp) _).alloc (by simp; omega) _).alloc (by simp; omega) _
  clear hw1
  have S1 := S.below hb
  have hrow1 := row_keep hb hrow
  have g0 := S1.g0; have g1 := S1.g1; have g2 := S1.g2; have g3 := S1.g3; have g4 := S1.g4; have g5 := S1.g5; have g6 := S1.g6; have g7 := S1.g7; have g8 := S1.g8
  go_wp2
  go_loop [3, 27] (fun t i => ∃ j : Nat, j ≤ m ∧ i = .int .i64 j ∧ t = .int .i64 (-1)) (fun _ i => 9 - (intOf i).toNat)
  case atStart => exact ⟨0, Nat.zero_le _, rfl, rfl⟩
  case round =>
    obtain ⟨j, hj, rfl, rfl⟩ := hrel
    have hbe : Below w1.heap.size w1 (w1.alloc (.cells #[.iface 148 (.pointer (some (a 0))), .iface 148 (.pointer (some (a 1))), .iface 148 (.pointer (some (a 2))), .iface 148 (.pointer (some (a 3))), .iface 148 (.pointer (some (a 4))), .iface 148 (.pointer (some (a 5))), .iface 148 (.pointer (some (a 6))), .iface 148 (.pointer (some (a 7))), .iface 148 (.pointer (some (a 8)))] 36)) := (Below.refl _ _).alloc (Nat.le_refl _) _
    have hB : Below w.heap.size w _ := hb.trans (hbe.mono hb.size)
    have hrow2 := row_keep hbe hrow1
    by_cases h9 : j < 9
    · have hn := nine a j h9
      obtain ⟨c2, t2, hr2⟩ := S1.row j h9
      have hr3 := row_keep hbe hr2
      clear hr2 g0 g1 g2 g3 g4 g5 g6 g7 g8 et0 hrow1 hrow
      by_cases hjm : j < m
      · have hne : b ≠ a j := hlt j hjm
        go_wp2_with (go_at_call 34; refine (is_other b (a j) _ _ _ _ _ hne hrow2 hr3).mono ?_; rintro e w' ⟨rfl, rfl⟩)
        go_round
        case rel => exact ⟨j + 1, by omega, by go_num, rfl⟩
        case measure => simp [intOf]; omega
      · obtain rfl : j = m := by omega
        have hab : a j = b := heq h9
        subst hab
        have hcode := codeOf_in h9
        have HC : Hid (codeOf j = (j : Int) + 1) := hcode
        clear hcode
        go_wp2_with (go_at_call 34; refine (is_same (a j) _).mono ?_; rintro e w' ⟨rfl, rfl⟩)
        go_ret2
        exact ⟨by rw [HC.out]; rfl, hB⟩
    · obtain rfl : j = m := by omega
      obtain rfl : j = 9 := by omega
      clear g0 g1 g2 g3 g4 g5 g6 g7 g8 et0 hrow1 hrow
      go_wp2
      go_ret2
      exact ⟨rfl, hB⟩

set_option maxHeartbeats 2000000 in
theorem code_fault (a : Nat → Addr) (b : Addr) (m p : Nat) (n : Int) (cb : Array Value) (tb : TypeId) (w : World) (S : Sents a w) (hp0 : w.cell? ⟨p, 0, none⟩ = some (.int .i64 n)) (hp1 : w.cell? ⟨p, 0 + 1, none⟩ = some (.iface 148 (.pointer (some b)))) (hrow : w.heap[b.block]? = some (.cells cb tb (0, 0))) (hm : m ≤ 9) (hlt : ∀ j, j < m → b ≠ a j) (heq : m < 9 → a m = b) :
    Calls Tryd.prog 16 #[.iface 48 (.pointer (some ⟨p, 0, none⟩))] w fun e w' => e = .returned (.tuple #[.int .i64 (codeOf m), .int .i64 n]) ∧ Below w.heap.size w w' := by
  have et0 := cell_keep (w' := w.alloc (.cells #[.pointer none] 48)) ((Below.refl _ _).alloc (Nat.le_refl _) _) S.et
  have ht0 : (w.alloc (.cells #[.pointer none] 48)).cell? ⟨w.heap.size, 0, none⟩ = some (.pointer none) := by simp
  have hf0 : (w.alloc (.cells #[.pointer none] 48)).frozen? ⟨w.heap.size, 0, none⟩ = false := by simp
  go_enter Tryd.func16, Tryd.ntmps16
  go_wp2_with fail
  refine (as_hit ⟨p, 0, none⟩ _ _ _ et0 ht0 hf0).mono ?_
  rintro e w1 ⟨rfl, hw1⟩
  have hb : Below w.heap.size w w1 := by
    rw [hw1]
    exact (((((Below.refl _ _).alloc (Nat.le_refl _) _).alloc (by simp) _).alloc (by simp; omega) _).alloc (by simp; omega) _).alloc (by simp; omega) _ |>.setCell (Nat.le_refl _) _
  have hf1 : w1.cell? ⟨w.heap.size, 0, none⟩ = some (.pointer (some ⟨p, 0, none⟩)) := by
    rw [hw1]
    refine World.cell?_setCell_same _ _ _ (u := .pointer none) ?_
    rw [World.cell?_alloc_lt _ _ _ (by simp; omega), World.cell?_alloc_lt _ _ _ (by simp; omega), World.cell?_alloc_lt _ _ _ (by simp; omega), World.cell?_alloc_lt _ _ _ (by simp)]
    exact ht0
  clear hw1 ht0 hf0
  have S1 := S.below hb
  have hrow1 := row_keep hb hrow
  have hq0 := cell_keep hb hp0
  have hq1 := cell_keep hb hp1
  clear hp0 hp1
  have g0 := S1.g0; have g1 := S1.g1; have g2 := S1.g2; have g3 := S1.g3; have g4 := S1.g4; have g5 := S1.g5; have g6 := S1.g6; have g7 := S1.g7; have g8 := S1.g8
  go_wp2
  go_loop [3, 27] (fun t i => ∃ j : Nat, j ≤ m ∧ i = .int .i64 j ∧ t = .int .i64 n) (fun _ i => 9 - (intOf i).toNat)
  case atStart => exact ⟨0, Nat.zero_le _, rfl, rfl⟩
  case round =>
    obtain ⟨j, hj, rfl, rfl⟩ := hrel
    have hbe : Below w1.heap.size w1 (w1.alloc (.cells #[.iface 148 (.pointer (some (a 0))), .iface 148 (.pointer (some (a 1))), .iface 148 (.pointer (some (a 2))), .iface 148 (.pointer (some (a 3))), .iface 148 (.pointer (some (a 4))), .iface 148 (.pointer (some (a 5))), .iface 148 (.pointer (some (a 6))), .iface 148 (.pointer (some (a 7))), .iface 148 (.pointer (some (a 8)))] 36)) := (Below.refl _ _).alloc (Nat.le_refl _) _
    have hB : Below w.heap.size w _ := hb.trans (hbe.mono hb.size)
    have hrow2 := row_keep hbe hrow1
    have hq2 := cell_keep hbe hq1
    by_cases h9 : j < 9
    · have hn := nine a j h9
      obtain ⟨c2, t2, hr2⟩ := S1.row j h9
      have hr3 := row_keep hbe hr2
      clear hr2 g0 g1 g2 g3 g4 g5 g6 g7 g8 et0 hrow1 hrow
      by_cases hjm : j < m
      · have hne : b ≠ a j := hlt j hjm
        go_wp2_with (go_at_call 34; refine (is_fault_other p 0 (a j) b _ _ _ _ _ hq2 hne hrow2 hr3).mono ?_; rintro e w' ⟨rfl, rfl⟩)
        go_round
        case rel => exact ⟨j + 1, by omega, by go_num, rfl⟩
        case measure => simp [intOf]; omega
      · obtain rfl : j = m := by omega
        have hab : a j = b := heq h9
        subst hab
        have hcode := codeOf_in h9
        have HC : Hid (codeOf j = (j : Int) + 1) := hcode
        clear hcode
        go_wp2_with (go_at_call 34; refine (is_fault_same p 0 (a j) _ hq2).mono ?_; rintro e w' ⟨rfl, rfl⟩)
        go_ret2
        exact ⟨by rw [HC.out]; rfl, hB⟩
    · obtain rfl : j = m := by omega
      obtain rfl : j = 9 := by omega
      clear g0 g1 g2 g3 g4 g5 g6 g7 g8 et0 hrow1 hrow
      go_wp2
      go_ret2
      exact ⟨rfl, hB⟩
end Go.Proofs.YtpkgingjmgakbaaDoor

/-
  THE NINE SENTINELS' TEXTS behind 'lustrum: '.
-/
namespace Go.Proofs.YtpkgingjmgakbaaDoor
open Go.RowKit

/-- A sentinel's text behind 'lustrum: '. -/
def short : Nat → ByteArray
  | 0 => ⟨#[116, 101, 120, 116]⟩
  | 1 => ⟨#[98, 111, 117, 110, 100]⟩
  | 2 => ⟨#[115, 104, 97, 112, 101]⟩
  | 3 => ⟨#[110, 97, 109, 101]⟩
  | 4 => ⟨#[116, 121, 112, 101]⟩
  | 5 => ⟨#[99, 121, 99, 108, 101]⟩
  | 6 => ⟨#[102, 105, 114, 115, 116]⟩
  | 7 => ⟨#[112, 114, 111, 111, 102]⟩
  | _ => ⟨#[110, 111, 110, 101]⟩

theorem short_size (j : Nat) : (short j).size ≤ 5 := by
  rcases j with _ | _ | _ | _ | _ | _ | _ | _ | j
  all_goals exact Nat.le_of_ble_eq_true rfl
end Go.Proofs.YtpkgingjmgakbaaDoor
