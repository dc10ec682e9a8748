/-
  DERIVED. GIVEN WITH THE SEED: THE CARDS: each row of YthdjenlpjceleaaDoorRows.lean that lists a variable, with what it lists TIED to the program's text (the seventh form; the later family's looks); each row that meets fmt, with fmt's text TOLD by the authors' own Lean function (tested against real Go, not proved from fmt's source: count such statements apart). THE CARD IS WHAT COUNTS. Prove the row's statement (the work); the ties are given (YthdjenlpjceleaaDoorTie.lean); close each card by the builder's one call (the guide's Derived/Test/ToyasCard.lean, 'card_holds'). Laid BY PROGRAM, IN A SANDBOX (cutbox-door.mjs). By AI agents, Wed Nov 11 2026. No macro, syntax, notation, axiom, sorry.
-/
import Derived.Test.YthdjenlpjceleaaDoorRows
import GoSem.ClaimSeven
namespace Go.Proofs.YthdjenlpjceleaaDoor
namespace Rows

/-- THE TIED CARD OF 'lustrumlaw3.GraphMakes'. -/
def graphMakesCard : Claim7 := { stood := { row := graphMakesRow, standIns := [], harness := (true, "5a676365b761c54677444208b3b10d14101a4d4597a5a74f09babef5a5117cdd"), looks := true }, kinds := [], alts := [], laidByText := true, laidKinds := [.handle, .sentinel, .sentinel, .sentinel, .sentinel, .sentinel, .sentinel, .sentinel, .sentinel, .sentinel], laidTests := true, laidLooks := .later }
def GraphMakesCardSaid : Prop := Claim7.holds Tryd.pinned (.plain (OpenSpec.ofChange graphMakesSpec)) graphMakesCard

/-- THE TIED CARD OF 'lustrumlaw3.GraphEvals'. -/
def graphEvalsCard : Claim7 := { stood := { row := graphEvalsRow, standIns := [], harness := (true, "5a676365b761c54677444208b3b10d14101a4d4597a5a74f09babef5a5117cdd"), looks := true }, kinds := [], alts := [], laidByText := true, laidKinds := [.handle, .sentinel, .sentinel, .sentinel, .sentinel, .sentinel, .sentinel, .sentinel, .sentinel, .sentinel], laidTests := true, laidLooks := .later }
def GraphEvalsCardSaid : Prop := Claim7.holds Tryd.pinned (.plain (OpenSpec.ofChange graphEvalsSpec)) graphEvalsCard

/-- THE TIED CARD OF 'lustrumlaw3.GraphUnlike'. -/
def graphUnlikeCard : Claim7 := { stood := { row := graphUnlikeRow, standIns := [], harness := (true, "5a676365b761c54677444208b3b10d14101a4d4597a5a74f09babef5a5117cdd"), looks := true }, kinds := [], alts := [], laidByText := true, laidKinds := [.handle, .sentinel, .sentinel, .sentinel, .sentinel, .sentinel, .sentinel, .sentinel, .sentinel, .sentinel], laidTests := true, laidLooks := .later }
def GraphUnlikeCardSaid : Prop := Claim7.holds Tryd.pinned (.plain (OpenSpec.ofChange graphUnlikeSpec)) graphUnlikeCard

/-- THE TIED CARD OF 'lustrumlaw3.GraphTurned'. -/
def graphTurnedCard : Claim7 := { stood := { row := graphTurnedRow, standIns := [], harness := (true, "5a676365b761c54677444208b3b10d14101a4d4597a5a74f09babef5a5117cdd"), looks := true }, kinds := [], alts := [], laidByText := true, laidKinds := [.handle, .sentinel, .sentinel, .sentinel, .sentinel, .sentinel, .sentinel, .sentinel, .sentinel, .sentinel], laidTests := true, laidLooks := .later }
def GraphTurnedCardSaid : Prop := Claim7.holds Tryd.pinned (.plain (OpenSpec.ofChange graphTurnedSpec)) graphTurnedCard

/-- THE SECOND FORM's CARD OF 'lustrumlaw3.GraphMakes'. -/
def graphMakesUptoCard : Claim7 := { stood := { row := graphMakesUptoRow, standIns := [], harness := (true, "5a676365b761c54677444208b3b10d14101a4d4597a5a74f09babef5a5117cdd"), looks := true }, kinds := [], alts := [], laidByText := true, laidKinds := [.handle, .sentinel, .sentinel, .sentinel, .sentinel, .sentinel, .sentinel, .sentinel, .sentinel, .sentinel], laidTests := true, laidLooks := .later }
def GraphMakesUptoCardSaid : Prop := Claim7.holds Tryd.pinned (.plain (OpenSpec.upto graphMakesSpec)) graphMakesUptoCard

/-- THE SECOND FORM's CARD OF 'lustrumlaw3.GraphEvals'. -/
def graphEvalsUptoCard : Claim7 := { stood := { row := graphEvalsUptoRow, standIns := [], harness := (true, "5a676365b761c54677444208b3b10d14101a4d4597a5a74f09babef5a5117cdd"), looks := true }, kinds := [], alts := [], laidByText := true, laidKinds := [.handle, .sentinel, .sentinel, .sentinel, .sentinel, .sentinel, .sentinel, .sentinel, .sentinel, .sentinel], laidTests := true, laidLooks := .later }
def GraphEvalsUptoCardSaid : Prop := Claim7.holds Tryd.pinned (.plain (OpenSpec.upto graphEvalsSpec)) graphEvalsUptoCard

/-- THE SECOND FORM's CARD OF 'lustrumlaw3.GraphUnlike'. -/
def graphUnlikeUptoCard : Claim7 := { stood := { row := graphUnlikeUptoRow, standIns := [], harness := (true, "5a676365b761c54677444208b3b10d14101a4d4597a5a74f09babef5a5117cdd"), looks := true }, kinds := [], alts := [], laidByText := true, laidKinds := [.handle, .sentinel, .sentinel, .sentinel, .sentinel, .sentinel, .sentinel, .sentinel, .sentinel, .sentinel], laidTests := true, laidLooks := .later }
def GraphUnlikeUptoCardSaid : Prop := Claim7.holds Tryd.pinned (.plain (OpenSpec.upto graphUnlikeSpec)) graphUnlikeUptoCard

/-- THE SECOND FORM's CARD OF 'lustrumlaw3.GraphTurned'. -/
def graphTurnedUptoCard : Claim7 := { stood := { row := graphTurnedUptoRow, standIns := [], harness := (true, "5a676365b761c54677444208b3b10d14101a4d4597a5a74f09babef5a5117cdd"), looks := true }, kinds := [], alts := [], laidByText := true, laidKinds := [.handle, .sentinel, .sentinel, .sentinel, .sentinel, .sentinel, .sentinel, .sentinel, .sentinel, .sentinel], laidTests := true, laidLooks := .later }
def GraphTurnedUptoCardSaid : Prop := Claim7.holds Tryd.pinned (.plain (OpenSpec.upto graphTurnedSpec)) graphTurnedUptoCard
end Rows
end Go.Proofs.YthdjenlpjceleaaDoor
