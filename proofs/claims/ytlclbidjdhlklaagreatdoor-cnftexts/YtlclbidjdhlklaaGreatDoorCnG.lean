/-
  package cnf: sayGates BY CONTRACT.
-/
import Derived.Test.YtlclbidjdhlklaaGreatDoorCnF
namespace Go.Proofs.YtlclbidjdhlklaaGreatDoor
open Go.RowKit Go.Maps

end Go.Proofs.YtlclbidjdhlklaaGreatDoor
