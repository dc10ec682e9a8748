/-
  lustrumlaw1.Names, WALKED: with the nine sentinels, their texts and errorType in memory as the program's text lays them, the call returns true and leaves all that was in memory as it was.
-/
import Derived.Test.YtkipbkhpomjhkaaDoorSame
import Derived.Deep.RegionHeld3
import Derived.Deep.DrawnRows
namespace Go.Proofs.YtkipbkhpomjhkaaDoor
open Go.RowKit Go.Extern.Stop Go.Stop Go.Extern
attribute [local go_sem ↓] Go.wp_at_zero Go.wp_at_succ

/-- A sentinel's text behind 'lustrum: '. -/
def short : Nat → ByteArray
  | 0 => ⟨#[116, 101, 120, 116]⟩
  | 1 => ⟨#[98, 111, 117, 110, 100]⟩
  | 2 => ⟨#[115, 104, 97, 112, 101]⟩
  | 3 => ⟨#[110, 97, 109, 101]⟩
  | 4 => ⟨#[116, 121, 112, 101]⟩
  | 5 => ⟨#[99, 121, 99, 108, 101]⟩
  | 6 => ⟨#[102, 105, 114, 115, 116]⟩
  | 7 => ⟨#[112, 114, 111, 111, 102]⟩
  | _ => ⟨#[110, 111, 110, 101]⟩

theorem short_size (j : Nat) : (short j).size ≤ 5 := by
  rcases j with _ | _ | _ | _ | _ | _ | _ | _ | j
  all_goals exact Nat.le_of_ble_eq_true rfl
theorem add_short (j : Nat) (W : World) : (Op.stringOp .add ⟨#[108, 117, 115, 116, 114, 117, 109, 58, 32]⟩ (short j)).run Tryd.prog W = .ok (.string (⟨#[108, 117, 115, 116, 114, 117, 109, 58, 32]⟩ ++ short j)) W := by
  have h := short_size j
  have h9 : (ByteArray.mk #[108, 117, 115, 116, 114, 117, 109, 58, 32]).size = 9 := rfl
  exact run_string_add_sum W _ _ (by omega)
theorem neq_same (s : ByteArray) (W : World) : (Op.stringOp .neq s s).run Tryd.prog W = .ok (.bool false) W := by simp [Op.stringOp]

theorem wrap_succ (j : Nat) (h : j < 1000) : IntKind.i64.wrap ((j : Int) + 1) = (j : Int) + 1 := by
  rw [IntKind.wrap_i64] <;> omega

/-- (*errors.errorString).Error. -/
theorem error_text (p : Addr) (s : ByteArray) (w : World) (hp : w.cell? p = some (.string s)) :
    Calls Tryd.prog 99 #[.pointer (some p)] w fun e w' => e = .returned (.string s) ∧ w' = w := by
  go_enter Tryd.func99, Tryd.ntmps99
  go_wp2
  go_ret
  exact ⟨rfl, rfl⟩

theorem nineE (a : Nat → Addr) (j : Nat) (hj : j < 9) : (#[.iface 54 (.pointer (some (a 0))), .iface 54 (.pointer (some (a 1))), .iface 54 (.pointer (some (a 2))), .iface 54 (.pointer (some (a 3))), .iface 54 (.pointer (some (a 4))), .iface 54 (.pointer (some (a 5))), .iface 54 (.pointer (some (a 6))), .iface 54 (.pointer (some (a 7))), .iface 54 (.pointer (some (a 8)))] : Array Value)[j]? = some (.iface 54 (.pointer (some (a j)))) := by
  rcases j with _ | _ | _ | _ | _ | _ | _ | _ | _ | j
  all_goals first | rfl | omega
theorem nineT (j : Nat) (hj : j < 9) : (#[.string ⟨#[116, 101, 120, 116]⟩, .string ⟨#[98, 111, 117, 110, 100]⟩, .string ⟨#[115, 104, 97, 112, 101]⟩, .string ⟨#[110, 97, 109, 101]⟩, .string ⟨#[116, 121, 112, 101]⟩, .string ⟨#[99, 121, 99, 108, 101]⟩, .string ⟨#[102, 105, 114, 115, 116]⟩, .string ⟨#[112, 114, 111, 111, 102]⟩, .string ⟨#[110, 111, 110, 101]⟩] : Array Value)[j]? = some (.string (short j)) := by
  rcases j with _ | _ | _ | _ | _ | _ | _ | _ | _ | j
  all_goals first | rfl | omega

/-- WHAT EACH ROUND FINDS: the two lists that the law has laid; all else as it was. -/
structure Rd (a : Nat → Addr) (w1 wr : World) : Prop where
  below : Below w1.heap.size w1 wr
  e : ∀ j, j < 9 → wr.cell? ⟨w1.heap.size, j, none⟩ = some (.iface 54 (.pointer (some (a j))))
  t : ∀ j, j < 9 → wr.cell? ⟨w1.heap.size + 1, j, none⟩ = some (.string (short j))
theorem Rd.keep {a : Nat → Addr} {w1 wr w4 : World} (R : Rd a w1 wr) (hb : Below wr.heap.size wr w4) : Rd a w1 w4 :=
  ⟨R.below.trans (hb.mono R.below.size), fun j hj => cell_keep hb (R.e j hj), fun j hj => cell_keep hb (R.t j hj)⟩
theorem Rd.start (a : Nat → Addr) (w1 : World) : Rd a w1 ((w1.alloc (.cells #[.iface 54 (.pointer (some (a 0))), .iface 54 (.pointer (some (a 1))), .iface 54 (.pointer (some (a 2))), .iface 54 (.pointer (some (a 3))), .iface 54 (.pointer (some (a 4))), .iface 54 (.pointer (some (a 5))), .iface 54 (.pointer (some (a 6))), .iface 54 (.pointer (some (a 7))), .iface 54 (.pointer (some (a 8)))] 25)).alloc (.cells #[.string ⟨#[116, 101, 120, 116]⟩, .string ⟨#[98, 111, 117, 110, 100]⟩, .string ⟨#[115, 104, 97, 112, 101]⟩, .string ⟨#[110, 97, 109, 101]⟩, .string ⟨#[116, 121, 112, 101]⟩, .string ⟨#[99, 121, 99, 108, 101]⟩, .string ⟨#[102, 105, 114, 115, 116]⟩, .string ⟨#[112, 114, 111, 111, 102]⟩, .string ⟨#[110, 111, 110, 101]⟩] 9)) :=
  ⟨((Below.refl _ _).alloc (Nat.le_refl _) _).alloc (by simp) _,
    fun j hj => by rw [World.cell?_alloc_past _ _ _ (by simp), World.cell?_alloc_at _ _ _ _ rfl]; exact nineE a j hj,
    fun j hj => by rw [World.cell?_alloc_at _ _ _ _ (by simp)]; exact nineT j hj⟩

def bounds18 : List Int := [6000, 12, 20, 12, 30, 8, 400, 4000, 300, 100000, 150000, 500000, 1000000, 40, 100, 16, 1, 2]
theorem bounds_at (j : Nat) (hj : j < 18) : (#[.int .i64 6000, .int .i64 12, .int .i64 20, .int .i64 12, .int .i64 30, .int .i64 8, .int .i64 400, .int .i64 4000, .int .i64 300, .int .i64 100000, .int .i64 150000, .int .i64 500000, .int .i64 1000000, .int .i64 40, .int .i64 100, .int .i64 16, .int .i64 1, .int .i64 2] : Array Value)[j]? = some (.int .i64 (bounds18.getD j 0)) := by
  rcases j with _ | _ | _ | _ | _ | _ | _ | _ | _ | _ | _ | _ | _ | _ | _ | _ | _ | _ | j
  all_goals first | rfl | omega

/-- errors.New. -/
theorem new_any (s : ByteArray) (w : World) : Calls Tryd.prog 9 #[.string s] w fun e w' => e = .returned (.iface 54 (.pointer (some ⟨w.heap.size, 0, none⟩))) ∧ w' = w.alloc (.cells #[.string s] 56) := by
  go_enter Tryd.func9, Tryd.ntmps9
  go_wp2
  go_ret
  exact ⟨rfl, rfl⟩
theorem hold_next {a : Nat → Addr} {j p : Nat} {w3 w w' : World} (h1 : w.cell? ⟨p, j, none⟩ = some (.iface 54 (.pointer (some (a j))))) (h2 : w.cell? ⟨p + 1, j, none⟩ = some (.string (short j))) (h3 : Below w3.heap.size w3 w) (hb : Below w.heap.size w w') :
    w'.cell? ⟨p, j, none⟩ = some (.iface 54 (.pointer (some (a j)))) ∧ w'.cell? ⟨p + 1, j, none⟩ = some (.string (short j)) ∧ Below w3.heap.size w3 w' :=
  ⟨cell_keep hb h1, cell_keep hb h2, h3.trans (hb.mono h3.size)⟩

set_option maxHeartbeats 2000000 in
theorem names_walk (a : Nat → Addr) (w : World) (S : Sents a w) (T : ∀ k, k < 9 → w.cell? (a k) = some (.string (⟨#[108, 117, 115, 116, 114, 117, 109, 58, 32]⟩ ++ short k))) :
    Calls Tryd.prog 3 #[] w fun e w' => e = .returned (.bool true) ∧ Below w.heap.size w w' := by
  go_enter Tryd.func3, Tryd.ntmps3
  go_wp2_with fail
  refine (same_ints _ _ _ 18 _ _ (fun j => bounds18.getD j 0) ?_ ?_ (by decide)).mono ?_
  · intro j hj; rw [World.cell?_alloc_past _ _ _ (by simp), World.cell?_alloc_at _ _ _ _ rfl]; exact bounds_at j hj
  · intro j hj; rw [World.cell?_alloc_at _ _ _ _ (by simp)]; exact bounds_at j hj
  rintro e w1 ⟨rfl, k, hw1⟩
  have hb : Below w.heap.size w w1 := by
    rw [hw1]
    exact below_drewN (((Below.refl _ _).alloc (Nat.le_refl _) _).alloc (by simp) _) k
  clear hw1
  have S1 := S.below hb
  have g0 := S1.g0; have g1 := S1.g1; have g2 := S1.g2; have g3 := S1.g3; have g4 := S1.g4; have g5 := S1.g5; have g6 := S1.g6; have g7 := S1.g7; have g8 := S1.g8
  go_wp2
  go_loopw [5] (fun i wr => ∃ j : Nat, j ≤ 9 ∧ i = .int .i64 j ∧ Rd a w1 wr) (fun i _ => 9 - (intOf i).toNat)
  case atStart => exact ⟨0, Nat.zero_le _, rfl, Rd.start a w1⟩
  case round =>
    obtain ⟨j, hj, rfl, R⟩ := hrel
    clear g0 g1 g2 g3 g4 g5 g6 g7 g8
    by_cases h9 : j < 9
    · have ce := R.e j h9
      have ct := R.t j h9
      have Sr := S1.below R.below
      have hba : Below wr.heap.size wr (wr.alloc (.cells #[.int .i64 7, .iface 54 (.pointer (some (a j)))] 32)) := (Below.refl _ _).alloc (Nat.le_refl _) _
      have Sf := Sr.below hba
      obtain ⟨cb, tb, hrow⟩ := Sf.row j h9
      have hp0 : (wr.alloc (.cells #[.int .i64 7, .iface 54 (.pointer (some (a j)))] 32)).cell? ⟨wr.heap.size, 0, none⟩ = some (.int .i64 7) := by simp
      have hp1 : (wr.alloc (.cells #[.int .i64 7, .iface 54 (.pointer (some (a j)))] 32)).cell? ⟨wr.heap.size, 0 + 1, none⟩ = some (.iface 54 (.pointer (some (a j)))) := by simp
      have hi0 : (0 : Int) ≤ (j : Int) := by omega
      have hi1 : (j : Int) < 9 := by omega
      go_wp2_with fail
      refine (code_fault a (a j) j _ 7 cb tb _ Sf hp0 hp1 hrow (by omega) (fun i hi => (S.inj j i h9 (by omega) (by omega))) (fun _ => rfl)).mono ?_
      rintro e w3 ⟨rfl, hb3⟩
      have hb4 : Below wr.heap.size wr w3 := hba.trans (hb3.mono hba.size)
      clear ce ct hp0 hp1 hrow cb tb hb3 Sf hba
      have R3 := R.keep hb4
      have S3 := Sr.below hb4
      have ce := R3.e j h9
      have ct := R3.t j h9
      have hT : w3.cell? (a j) = some (.string (⟨#[108, 117, 115, 116, 114, 117, 109, 58, 32]⟩ ++ short j)) := cell_keep hb4 (cell_keep R.below (cell_keep hb (T j h9)))
      have hcode : codeOf j = (j : Int) + 1 := codeOf_in h9
      have mE := fun (v : Value) (W : World) => (show (Go.method 278 54 v "Error").run Tryd.prog W = .ok (99, v) W from by kernel_rfl)
      have hwr := wrap_succ j (by omega)
      have hadd := add_short j
      have hneq := neq_same (⟨#[108, 117, 115, 116, 114, 117, 109, 58, 32]⟩ ++ short j)
      clear hb4 Sr R S1 hb
      go_wp2
      go_region_held3 (fun w' => w'.cell? ⟨w1.heap.size, j, none⟩ = some (.iface 54 (.pointer (some (a j)))) ∧ w'.cell? ⟨w1.heap.size + 1, j, none⟩ = some (.string (short j)) ∧ Below w3.heap.size w3 w')
        (first | exact ⟨ce, ct, (Below.refl _ _).drew⟩ | (go_split_ands; first | exact ⟨‹_›, ‹_›, ‹_›⟩ | exact hold_next ‹_› ‹_› ‹_› hbn))
        (first
          | (go_at_call 99; refine (error_text (a j) (⟨#[108, 117, 115, 116, 114, 117, 109, 58, 32]⟩ ++ short j) _ ?_).mono ?_; (go_split_ands; exact cell_keep ‹_› hT); rintro e w' ⟨rfl, rfl⟩)
          | (go_at_call 8; obtain ⟨cb, tb, hrow⟩ := S3.row j h9; refine (coded_str a (a j) j _ cb tb _ ?_ ?_ (by omega) (fun i hi => (S.inj j i h9 (by omega) (by omega))) (fun _ => rfl) ?_).mono ?_; (go_split_ands; exact S3.below ‹_›); (go_split_ands; exact row_keep ‹_› hrow); (first | exact hcode.symm | exact hwr.trans hcode.symm); rintro e w' ⟨rfl, hbn⟩))
      go_split_ands
      have R4 := R3.keep ‹_›
      clear R3 S3 ce ct hT hcode mE hadd hneq
      go_wp2
      go_roundw
      case rel => exact ⟨j + 1, by omega, by go_num, R4⟩
      case measure => simp [intOf]; omega
    · obtain rfl : j = 9 := by omega
      have Sr := S1.below R.below
      have hba : Below wr.heap.size wr (wr.alloc (.cells #[.string ⟨#[97, 110, 111, 116, 104, 101, 114, 32, 111, 110, 101]⟩] 56)) := (Below.refl _ _).alloc (Nat.le_refl _) _
      have Sf := Sr.below hba
      have hrow : (wr.alloc (.cells #[.string ⟨#[97, 110, 111, 116, 104, 101, 114, 32, 111, 110, 101]⟩] 56)).heap[wr.heap.size]? = some (.cells #[.string ⟨#[97, 110, 111, 116, 104, 101, 114, 32, 111, 110, 101]⟩] 56 (0, 0)) := by
        show (wr.heap.push _)[wr.heap.size]? = _
        simp
      have hne : ∀ i, i < 9 → (⟨wr.heap.size, 0, none⟩ : Addr) ≠ a i := by
        intro i hi he
        obtain ⟨c, t, h⟩ := Sr.row i hi
        rw [← he] at h
        simp at h
      go_wp2_with fail
      refine (new_any _ _).mono ?_
      rintro e w' ⟨rfl, rfl⟩
      go_wp2_with fail
      refine (code_str a _ 9 _ _ _ Sf hrow (by omega) hne (by omega)).mono ?_
      rintro e w5 ⟨rfl, hb5⟩
      have hB : Below w.heap.size w w5 := (hb.trans (R.below.mono hb.size)).trans ((hba.trans (hb5.mono hba.size)).mono (Nat.le_trans hb.size R.below.size))
      clear hb5 hne hrow Sf hba Sr S1 R
      have hcode := codeOf_out
      go_wp2_with (go_at_call 8; refine (coded_nil _).mono ?_; rintro e w' ⟨rfl, rfl⟩)
      go_ret
      exact ⟨rfl, hB⟩
end Go.Proofs.YtkipbkhpomjhkaaDoor
