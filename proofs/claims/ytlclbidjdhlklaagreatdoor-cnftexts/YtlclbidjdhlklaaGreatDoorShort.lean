/-
  THE NINE SENTINELS' TEXTS behind 'lustrum: '.
-/
import Derived.Test.YtlclbidjdhlklaaGreatDoorCode
namespace Go.Proofs.YtlclbidjdhlklaaGreatDoor
open Go.RowKit

/-- A sentinel's text behind 'lustrum: '. -/
def short : Nat → ByteArray
  | 0 => ⟨#[116, 101, 120, 116]⟩
  | 1 => ⟨#[98, 111, 117, 110, 100]⟩
  | 2 => ⟨#[115, 104, 97, 112, 101]⟩
  | 3 => ⟨#[110, 97, 109, 101]⟩
  | 4 => ⟨#[116, 121, 112, 101]⟩
  | 5 => ⟨#[99, 121, 99, 108, 101]⟩
  | 6 => ⟨#[102, 105, 114, 115, 116]⟩
  | 7 => ⟨#[112, 114, 111, 111, 102]⟩
  | _ => ⟨#[110, 111, 110, 101]⟩

theorem short_size (j : Nat) : (short j).size ≤ 5 := by
  rcases j with _ | _ | _ | _ | _ | _ | _ | _ | j
  all_goals exact Nat.le_of_ble_eq_true rfl
end Go.Proofs.YtlclbidjdhlklaaGreatDoor
