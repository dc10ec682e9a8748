/-
  DERIVED. GIVEN WITH THE SEED: THE CARDS: each row of YtgcaohpaopemnaaDoorRows.lean that lists a variable, with what it lists TIED to the program's text (the seventh form; the later family's looks); each row that meets fmt, with fmt's text TOLD by the authors' own Lean function (tested against real Go, not proved from fmt's source: count such statements apart). THE CARD IS WHAT COUNTS. Prove the row's statement (the work); the ties are given (YtgcaohpaopemnaaDoorTie.lean); close each card by the builder's one call (the guide's Derived/Test/ToyasCard.lean, 'card_holds'). Laid BY PROGRAM, IN A SANDBOX (cutbox-door.mjs). By AI agents, Wed Nov 11 2026. No macro, syntax, notation, axiom, sorry.
-/
import Derived.Test.YtgcaohpaopemnaaDoorRows
import GoSem.ClaimSeven
namespace Go.Proofs.YtgcaohpaopemnaaDoor
namespace Rows

/-- THE TIED CARD OF 'lustrumlaw3.FlowGates'. -/
def flowGatesCard : Claim7 := { stood := { row := flowGatesRow, standIns := [], harness := (true, "b625e39cb60eaa664d5a59b27fa12016519197eeff0bd9039920293422ac987b"), looks := true }, kinds := [], alts := [], laidByText := true, laidKinds := [.sentinel, .sentinel, .sentinel, .sentinel], laidTests := true, laidLooks := .later }
def FlowGatesCardSaid : Prop := Claim7.holds Tryd.pinned (.plain (OpenSpec.ofChange flowGatesSpec)) flowGatesCard

/-- THE SECOND FORM's CARD OF 'lustrumlaw3.FlowGates'. -/
def flowGatesUptoCard : Claim7 := { stood := { row := flowGatesUptoRow, standIns := [], harness := (true, "b625e39cb60eaa664d5a59b27fa12016519197eeff0bd9039920293422ac987b"), looks := true }, kinds := [], alts := [], laidByText := true, laidKinds := [.sentinel, .sentinel, .sentinel, .sentinel], laidTests := true, laidLooks := .later }
def FlowGatesUptoCardSaid : Prop := Claim7.holds Tryd.pinned (.plain (OpenSpec.upto flowGatesSpec)) flowGatesUptoCard
end Rows
end Go.Proofs.YtgcaohpaopemnaaDoor
