/-
  package graph: Gates, Inputs, Not, BY CONTRACT.
-/
import Derived.Test.YtlclbidjdhlklaaDoorGrM
import Derived.Deep.QuietTactic
import Derived.BigQuiet
import Derived.WalkSmall
import Derived.LoopTactic
namespace Go.Proofs.YtlclbidjdhlklaaDoor
open Go.RowKit Go.Maps
theorem gates_any {G : Nat} {gs : List (Int × Int)} {ins : Nat} {F : Nat → Prop} {w : World} (h : GrAt G gs ins F w) (hl : gs.length ≤ 100000) :
    Calls Tryd.prog 23 #[.pointer (some ⟨G, 0, none⟩)] w fun e w' => e = .returned (.int .i64 ((gs.length : Int) + 1)) ∧ w' = w := by
  obtain ⟨t, sv, mv, h3, c0, c1, c2, h4, h5, h6⟩ := h.cells
  obtain ⟨o, c, rfl, hn⟩ := owns_form h4
  go_enter Tryd.func23, Tryd.ntmps23
  go_wp2
  go_ret
  exact ⟨by rw [Int.add_comm]; rfl, rfl⟩
theorem inputs_any {G : Nat} {gs : List (Int × Int)} {ins : Nat} {F : Nat → Prop} {w : World} (h : GrAt G gs ins F w) :
    Calls Tryd.prog 24 #[.pointer (some ⟨G, 0, none⟩)] w fun e w' => e = .returned (.int .i64 ins) ∧ w' = w := by
  obtain ⟨t, sv, mv, h3, c0, c1, c2, h4, h5, h6⟩ := h.cells
  go_enter Tryd.func24, Tryd.ntmps24
  go_wp2
  go_ret
  exact ⟨rfl, rfl⟩
theorem xor_one (n : Nat) : n ^^^ 1 = if n % 2 = 0 then n + 1 else n - 1 := by
  have h1 : (n ^^^ 1) / 2 = n / 2 := by rw [Nat.xor_div_two]; simp
  have h2 : (n ^^^ 1) % 2 = (n % 2 + 1) % 2 := by have := Nat.xor_mod_two_eq_one (a := n) (b := 1); omega
  split <;> omega
theorem bits_turn {a : Int} (ha : I64 a) : bits .xor .i64 a 1 = turnL a := by
  unfold I64 at ha
  have h1 : ((BitVec.ofInt 64 a).toNat : Int) = a % 18446744073709551616 := by simp [BitVec.toNat_ofInt]; omega
  show IntKind.i64.wrap ((BitVec.ofInt 64 a ^^^ BitVec.ofInt 64 1).toNat : Int) = _
  have h2 : (BitVec.ofInt 64 (1 : Int)).toNat = 1 := by decide
  rw [BitVec.toNat_xor, h2, xor_one, IntKind.wrap_i64]
  unfold turnL
  split <;> split <;> omega
theorem not_any (a : Int) (w : World) (ha : I64 a) :
    Calls Tryd.prog 40 #[.int .i64 a] w fun e w' => e = .returned (.int .i64 (turnL a)) ∧ w' = w := by
  go_enter Tryd.func40, Tryd.ntmps40
  go_wp2
  go_ret
  exact ⟨by rw [← bits_turn ha]; rfl, rfl⟩

/-- Numbers one behind the other. -/
def IntsAt (w : World) (v : Value) (l : List Int) : Prop := l.length ≤ maxLen ∧ ∃ o c, v = .slice o l.length c ∧ ∀ k x, l[k]? = some x → ∃ b off, o = some ⟨b, off, none⟩ ∧ w.cell? ⟨b, off + k, none⟩ = some (.int .i64 x)
set_option maxHeartbeats 1000000 in
theorem has_any {G : Nat} {gs : List (Int × Int)} {ins : Nat} {F : Nat → Prop} {w : World} (h : GrAt G gs ins F w) (hl : gs.length ≤ 100000) (v : Value) (l : List Int) (hv : IntsAt w v l) (hI : ∀ x ∈ l, I64 x) :
    Calls Tryd.prog 39 #[.pointer (some ⟨G, 0, none⟩), v] w fun e w' => e = .returned (.bool (l.all fun x => hasB gs x)) ∧ w' = w := by
  obtain ⟨hlen, o, c, rfl, hc⟩ := hv
  unfold maxLen at hlen
  go_enter Tryd.func39, Tryd.ntmps39
  go_wp2
  go_loop [9] (fun i => ∃ j : Nat, j ≤ l.length ∧ i = .int .i64 j ∧ ∀ k x, k < j → l[k]? = some x → HasL gs x) (fun i => l.length - (intOf i).toNat)
  case atStart => exact ⟨0, Nat.zero_le _, rfl, fun k x hk => by omega⟩
  case round =>
    obtain ⟨j, hj, rfl, hall⟩ := hrel
    by_cases hjl : j < l.length
    · obtain ⟨x, hx⟩ : ∃ x, l[j]? = some x := ⟨_, List.getElem?_eq_getElem hjl⟩
      obtain ⟨b, off, rfl, hcx⟩ := hc j x hx
      have hix := hI x (List.mem_of_getElem? hx)
      unfold I64 at hix
      have HX : Hid (∀ k x, l[k]? = some x → ∃ b' off', some (⟨b, off, none⟩ : Addr) = some ⟨b', off', none⟩ ∧ w.cell? ⟨b', off' + k, none⟩ = some (.int .i64 x)) := hc
      clear hc
      have hno : ¬ HasL gs x → (l.all fun x => hasB gs x) = false := fun hn => by
        rw [List.all_eq_false]; exact ⟨x, List.mem_of_getElem? hx, by rw [hasB_f hn]; simp⟩
      have HN : Hid (¬ HasL gs x → (l.all fun x => hasB gs x) = false) := hno
      clear hno
      have HH : Hid (∀ k x, k < j → l[k]? = some x → HasL gs x) := hall
      clear hall hI
      by_cases hneg : x < 0
      · go_wp2
        go_ret
        exact ⟨by rw [HN.out (by unfold HasL; omega)]; rfl, rfl⟩
      · by_cases hbig : (gs.length : Int) + 1 ≤ x / 2
        · go_wp2_with (go_at_call 23; refine (gates_any h hl).mono ?_; rintro e w' ⟨rfl, rfl⟩)
          go_ret
          exact ⟨by rw [HN.out (by unfold HasL; omega)]; rfl, rfl⟩
        · go_wp2_with (go_at_call 23; refine (gates_any h hl).mono ?_; rintro e w' ⟨rfl, rfl⟩)
          go_round
          case rel =>
            refine ⟨j + 1, by omega, by go_num, fun k y hk hy => ?_⟩
            rcases Nat.lt_or_ge k j with h1 | h1
            · exact HH.out k y h1 hy
            · obtain rfl : k = j := by omega
              rw [hx] at hy
              cases hy
              unfold HasL; omega
          case measure => simp [intOf]; omega
    · obtain rfl : j = l.length := by omega
      have he : (l.all fun x => hasB gs x) = true := by
        rw [List.all_eq_true]
        intro x hx
        obtain ⟨k, hk, rfl⟩ := List.getElem_of_mem hx
        exact hasB_t (hall k _ hk (List.getElem?_eq_getElem hk))
      have HE : Hid ((l.all fun x => hasB gs x) = true) := he
      clear he hc hI
      go_wp2
      go_ret
      exact ⟨by rw [HE.out]; rfl, rfl⟩
end Go.Proofs.YtlclbidjdhlklaaDoor
