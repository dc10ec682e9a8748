/-
  DERIVED. GIVEN WITH THE SEED: THE CARDS: each row of YtpiglmaojonbnaaDoorRows.lean that lists a variable, with what it lists TIED to the program's text (the seventh form; the later family's looks); each row that meets fmt, with fmt's text TOLD by the authors' own Lean function (tested against real Go, not proved from fmt's source: count such statements apart). THE CARD IS WHAT COUNTS. Prove the row's statement (the work); the ties are given (YtpiglmaojonbnaaDoorTie.lean); close each card by the builder's one call (the guide's Derived/Test/ToyasCard.lean, 'card_holds'). Laid BY PROGRAM, IN A SANDBOX (cutbox-door.mjs). By AI agents, Wed Nov 11 2026. No macro, syntax, notation, axiom, sorry.
-/
import Derived.Test.YtpiglmaojonbnaaDoorRows
import GoSem.ClaimSeven
namespace Go.Proofs.YtpiglmaojonbnaaDoor
namespace Rows

/-- THE TIED CARD OF 'lustrumlaw3.WordShapes'. -/
def wordShapesCard : Claim7 := { stood := { row := wordShapesRow, standIns := [], harness := (true, "0dad7145ced515f99d966329fbd91d245647369342c80e99891a7dd0e9e2fbb5"), looks := true }, kinds := [], alts := [], laidByText := true, laidKinds := [.handle, .sentinel, .sentinel, .sentinel, .sentinel, .sentinel, .sentinel, .sentinel, .sentinel, .sentinel], laidTests := true, laidLooks := .later }
def WordShapesCardSaid : Prop := Claim7.holds Tryd.pinned (.plain (OpenSpec.ofChange wordShapesSpec)) wordShapesCard

/-- THE SECOND FORM's CARD OF 'lustrumlaw3.WordShapes'. -/
def wordShapesUptoCard : Claim7 := { stood := { row := wordShapesUptoRow, standIns := [], harness := (true, "0dad7145ced515f99d966329fbd91d245647369342c80e99891a7dd0e9e2fbb5"), looks := true }, kinds := [], alts := [], laidByText := true, laidKinds := [.handle, .sentinel, .sentinel, .sentinel, .sentinel, .sentinel, .sentinel, .sentinel, .sentinel, .sentinel], laidTests := true, laidLooks := .later }
def WordShapesUptoCardSaid : Prop := Claim7.holds Tryd.pinned (.plain (OpenSpec.upto wordShapesSpec)) wordShapesUptoCard
end Rows
end Go.Proofs.YtpiglmaojonbnaaDoor
