/-
  DERIVED. GIVEN WITH THE SEED: THE CARDS: each row of YtlclbidjdhlklaaDoorRows.lean that lists a variable, with what it lists TIED to the program's text (the seventh form; the later family's looks); each row that meets fmt, with fmt's text TOLD by the authors' own Lean function (tested against real Go, not proved from fmt's source: count such statements apart). THE CARD IS WHAT COUNTS. Prove the row's statement (the work); the ties are given (YtlclbidjdhlklaaDoorTie.lean); close each card by the builder's one call (the guide's Derived/Test/ToyasCard.lean, 'card_holds'). Laid BY PROGRAM, IN A SANDBOX (cutbox-door.mjs). By AI agents, Wed Nov 11 2026. No macro, syntax, notation, axiom, sorry.
-/
import Derived.Test.YtlclbidjdhlklaaDoorRows
import GoSem.ClaimSeven
namespace Go.Proofs.YtlclbidjdhlklaaDoor
namespace Rows

/-- THE TIED CARD OF 'lustrumlaw3.CnfOf'. -/
def cnfOfCard : Claim7 := { stood := { row := cnfOfRow, standIns := [], harness := (true, "5477dbe71725d4087de60a270ac1d13b5d16fed0faff09c6718c8a89d0254361"), looks := true }, kinds := [], alts := [], laidByText := true, laidKinds := [.data, .data, .data, .handle, .sentinel, .sentinel, .sentinel, .sentinel, .sentinel, .sentinel, .sentinel, .sentinel, .sentinel], laidTests := true, laidLooks := .later }
def CnfOfCardSaid : Prop := Claim7.holds Tryd.pinned (.plain (OpenSpec.ofChange cnfOfSpec)) cnfOfCard

/-- THE SECOND FORM's CARD OF 'lustrumlaw3.CnfOf'. -/
def cnfOfUptoCard : Claim7 := { stood := { row := cnfOfUptoRow, standIns := [], harness := (true, "5477dbe71725d4087de60a270ac1d13b5d16fed0faff09c6718c8a89d0254361"), looks := true }, kinds := [], alts := [], laidByText := true, laidKinds := [.data, .data, .data, .handle, .sentinel, .sentinel, .sentinel, .sentinel, .sentinel, .sentinel, .sentinel, .sentinel, .sentinel], laidTests := true, laidLooks := .later }
def CnfOfUptoCardSaid : Prop := Claim7.holds Tryd.pinned (.plain (OpenSpec.upto cnfOfSpec)) cnfOfUptoCard
end Rows
end Go.Proofs.YtlclbidjdhlklaaDoor
