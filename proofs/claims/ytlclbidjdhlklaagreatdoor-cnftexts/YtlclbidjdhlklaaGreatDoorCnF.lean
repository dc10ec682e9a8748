/-
  package cnf: sayGates, sayRoots BY CONTRACT.
-/
import Derived.Test.YtlclbidjdhlklaaGreatDoorCnE
namespace Go.Proofs.YtlclbidjdhlklaaGreatDoor
open Go.RowKit Go.Maps

end Go.Proofs.YtlclbidjdhlklaaGreatDoor
