/-
  package graph: Gates, Inputs, Not, BY CONTRACT.
-/
import Derived.Test.YtlclbidjdhlklaaGreatDoorGrM
import Derived.Deep.QuietTactic
import Derived.BigQuiet
import Derived.WalkSmall
import Derived.LoopTactic
namespace Go.Proofs.YtlclbidjdhlklaaGreatDoor
open Go.RowKit Go.Maps
theorem xor_one (n : Nat) : n ^^^ 1 = if n % 2 = 0 then n + 1 else n - 1 := by
  have h1 : (n ^^^ 1) / 2 = n / 2 := by rw [Nat.xor_div_two]; simp
  have h2 : (n ^^^ 1) % 2 = (n % 2 + 1) % 2 := by have := Nat.xor_mod_two_eq_one (a := n) (b := 1); omega
  split <;> omega
theorem bits_turn {a : Int} (ha : I64 a) : bits .xor .i64 a 1 = turnL a := by
  unfold I64 at ha
  have h1 : ((BitVec.ofInt 64 a).toNat : Int) = a % 18446744073709551616 := by simp [BitVec.toNat_ofInt]; omega
  show IntKind.i64.wrap ((BitVec.ofInt 64 a ^^^ BitVec.ofInt 64 1).toNat : Int) = _
  have h2 : (BitVec.ofInt 64 (1 : Int)).toNat = 1 := by decide
  rw [BitVec.toNat_xor, h2, xor_one, IntKind.wrap_i64]
  unfold turnL
  split <;> split <;> omega
/-- Numbers one behind the other. -/
def IntsAt (w : World) (v : Value) (l : List Int) : Prop := l.length ≤ maxLen ∧ ∃ o c, v = .slice o l.length c ∧ ∀ k x, l[k]? = some x → ∃ b off, o = some ⟨b, off, none⟩ ∧ w.cell? ⟨b, off + k, none⟩ = some (.int .i64 x)
end Go.Proofs.YtlclbidjdhlklaaGreatDoor
