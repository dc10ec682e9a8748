/-
  DERIVED. GIVEN WITH THE SEED: THE CARDS: each row of YtmmfodiagcnjeaaDoorRows.lean that lists a variable, with what it lists TIED to the program's text (the seventh form; the later family's looks); each row that meets fmt, with fmt's text TOLD by the authors' own Lean function (tested against real Go, not proved from fmt's source: count such statements apart). THE CARD IS WHAT COUNTS. Prove the row's statement (the work); the ties are given (YtmmfodiagcnjeaaDoorTie.lean); close each card by the builder's one call (the guide's Derived/Test/ToyasCard.lean, 'card_holds'). Laid BY PROGRAM, IN A SANDBOX (cutbox-door.mjs). By AI agents, Wed Nov 11 2026. No macro, syntax, notation, axiom, sorry.
-/
import Derived.Test.YtmmfodiagcnjeaaDoorRows
import GoSem.ClaimSeven
namespace Go.Proofs.YtmmfodiagcnjeaaDoor
namespace Rows

/-- THE TIED CARD OF 'lustrumlaw3.WordShapes'. -/
def wordShapesCard : Claim7 := { stood := { row := wordShapesRow, standIns := [], harness := (true, "72504f27f6f30a4152efe01c26f9b6b65da4ddcdc64ef66b09b980c770d3a9f4"), looks := true }, kinds := [], alts := [], laidByText := true, laidKinds := [.handle, .sentinel, .sentinel, .sentinel, .sentinel, .sentinel, .sentinel, .sentinel, .sentinel, .sentinel], laidTests := true, laidLooks := .later }
def WordShapesCardSaid : Prop := Claim7.holds Tryd.pinned (.plain (OpenSpec.ofChange wordShapesSpec)) wordShapesCard

/-- THE TIED CARD OF 'lustrumlaw3.WordConst'. -/
def wordConstCard : Claim7 := { stood := { row := wordConstRow, standIns := [], harness := (true, "72504f27f6f30a4152efe01c26f9b6b65da4ddcdc64ef66b09b980c770d3a9f4"), looks := true }, kinds := [], alts := [], laidByText := true, laidKinds := [.handle, .sentinel, .sentinel, .sentinel, .sentinel, .sentinel, .sentinel, .sentinel, .sentinel, .sentinel], laidTests := true, laidLooks := .later }
def WordConstCardSaid : Prop := Claim7.holds Tryd.pinned (.plain (OpenSpec.ofChange wordConstSpec)) wordConstCard

/-- THE TIED CARD OF 'lustrumlaw3.FlowGates'. -/
def flowGatesCard : Claim7 := { stood := { row := flowGatesRow, standIns := [], harness := (true, "72504f27f6f30a4152efe01c26f9b6b65da4ddcdc64ef66b09b980c770d3a9f4"), looks := true }, kinds := [], alts := [], laidByText := true, laidKinds := [.sentinel, .sentinel, .sentinel, .sentinel], laidTests := true, laidLooks := .later }
def FlowGatesCardSaid : Prop := Claim7.holds Tryd.pinned (.plain (OpenSpec.ofChange flowGatesSpec)) flowGatesCard

/-- THE TIED CARD OF 'lustrumlaw3.WordRing'. -/
def wordRingCard : Claim7 := { stood := { row := wordRingRow, standIns := [], harness := (true, "72504f27f6f30a4152efe01c26f9b6b65da4ddcdc64ef66b09b980c770d3a9f4"), looks := true }, kinds := [], alts := [], laidByText := true, laidKinds := [.sentinel, .sentinel, .sentinel, .sentinel], laidTests := true, laidLooks := .later }
def WordRingCardSaid : Prop := Claim7.holds Tryd.pinned (.plain (OpenSpec.ofChange wordRingSpec)) wordRingCard

/-- THE TIED CARD OF 'lustrumlaw3.WordRests'. -/
def wordRestsCard : Claim7 := { stood := { row := wordRestsRow, standIns := [], harness := (true, "72504f27f6f30a4152efe01c26f9b6b65da4ddcdc64ef66b09b980c770d3a9f4"), looks := true }, kinds := [], alts := [], laidByText := true, laidKinds := [.sentinel, .sentinel, .sentinel, .sentinel], laidTests := true, laidLooks := .later }
def WordRestsCardSaid : Prop := Claim7.holds Tryd.pinned (.plain (OpenSpec.ofChange wordRestsSpec)) wordRestsCard

/-- THE SECOND FORM's CARD OF 'lustrumlaw3.WordShapes'. -/
def wordShapesUptoCard : Claim7 := { stood := { row := wordShapesUptoRow, standIns := [], harness := (true, "72504f27f6f30a4152efe01c26f9b6b65da4ddcdc64ef66b09b980c770d3a9f4"), looks := true }, kinds := [], alts := [], laidByText := true, laidKinds := [.handle, .sentinel, .sentinel, .sentinel, .sentinel, .sentinel, .sentinel, .sentinel, .sentinel, .sentinel], laidTests := true, laidLooks := .later }
def WordShapesUptoCardSaid : Prop := Claim7.holds Tryd.pinned (.plain (OpenSpec.upto wordShapesSpec)) wordShapesUptoCard

/-- THE SECOND FORM's CARD OF 'lustrumlaw3.WordConst'. -/
def wordConstUptoCard : Claim7 := { stood := { row := wordConstUptoRow, standIns := [], harness := (true, "72504f27f6f30a4152efe01c26f9b6b65da4ddcdc64ef66b09b980c770d3a9f4"), looks := true }, kinds := [], alts := [], laidByText := true, laidKinds := [.handle, .sentinel, .sentinel, .sentinel, .sentinel, .sentinel, .sentinel, .sentinel, .sentinel, .sentinel], laidTests := true, laidLooks := .later }
def WordConstUptoCardSaid : Prop := Claim7.holds Tryd.pinned (.plain (OpenSpec.upto wordConstSpec)) wordConstUptoCard

/-- THE SECOND FORM's CARD OF 'lustrumlaw3.FlowGates'. -/
def flowGatesUptoCard : Claim7 := { stood := { row := flowGatesUptoRow, standIns := [], harness := (true, "72504f27f6f30a4152efe01c26f9b6b65da4ddcdc64ef66b09b980c770d3a9f4"), looks := true }, kinds := [], alts := [], laidByText := true, laidKinds := [.sentinel, .sentinel, .sentinel, .sentinel], laidTests := true, laidLooks := .later }
def FlowGatesUptoCardSaid : Prop := Claim7.holds Tryd.pinned (.plain (OpenSpec.upto flowGatesSpec)) flowGatesUptoCard

/-- THE SECOND FORM's CARD OF 'lustrumlaw3.WordRing'. -/
def wordRingUptoCard : Claim7 := { stood := { row := wordRingUptoRow, standIns := [], harness := (true, "72504f27f6f30a4152efe01c26f9b6b65da4ddcdc64ef66b09b980c770d3a9f4"), looks := true }, kinds := [], alts := [], laidByText := true, laidKinds := [.sentinel, .sentinel, .sentinel, .sentinel], laidTests := true, laidLooks := .later }
def WordRingUptoCardSaid : Prop := Claim7.holds Tryd.pinned (.plain (OpenSpec.upto wordRingSpec)) wordRingUptoCard

/-- THE SECOND FORM's CARD OF 'lustrumlaw3.WordRests'. -/
def wordRestsUptoCard : Claim7 := { stood := { row := wordRestsUptoRow, standIns := [], harness := (true, "72504f27f6f30a4152efe01c26f9b6b65da4ddcdc64ef66b09b980c770d3a9f4"), looks := true }, kinds := [], alts := [], laidByText := true, laidKinds := [.sentinel, .sentinel, .sentinel, .sentinel], laidTests := true, laidLooks := .later }
def WordRestsUptoCardSaid : Prop := Claim7.holds Tryd.pinned (.plain (OpenSpec.upto wordRestsSpec)) wordRestsUptoCard
end Rows
end Go.Proofs.YtmmfodiagcnjeaaDoor
