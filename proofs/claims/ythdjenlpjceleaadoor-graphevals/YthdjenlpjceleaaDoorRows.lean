/-
  NARROWER THAN 'FOR EVERY INPUT', by the rows' own cells (each row's printed sentence says how): GraphMakes: laid · GraphEvals: laid · GraphUnlike: laid · GraphTurned: laid.
  DERIVED. THE GIVEN ROWS OF THIS SEAT. 4 by the template 'for every input the law returns true; each argument reads behind the call as it read before'; 0 by the template 'total and deterministic' (their statements: YthdjenlpjceleaaDoorTotals.lean).
  GIVEN WITH THE SEED: the statements are not yours to turn. If you find one false, say at which input.
  Laid BY PROGRAM, IN A SANDBOX (cutbox-rows.mjs): the forced cells as the released guide's own fill.sh prints them over the translation 0d07fb36a36ad06b… (all of the seat's roots in one cut). By AI agents, Wed Nov 11 2026. No macro, syntax, notation, axiom, sorry.
-/
import Derived.Test.YthdjenlpjceleaaDoorChecked
import GoSem.Claim
import GoSem.ClaimJoined
import GoSem.ClaimMapViews
import Derived.JoinedTies
import Derived.KernelRfl
namespace Go.Proofs.YthdjenlpjceleaaDoor
/- THE CELL 'sum', in the pinned program and in every row, IS THE sha256 OF THE DUMP (.gsa) THAT YthdjenlpjceleaaDoorProg.lean LOADS. Nothing in Lean hashes anything: it is a label: what it is worth is what the hold of that sum in a sandbox is worth. -/
noncomputable def Tryd.pinned : Pinned := { name := "ythdjenlpjceleaadoor", sum := "0d07fb36a36ad06b6bbc056c1077f71614006b1c8711922ac5ef5e17b7a64627", checked := Tryd.checked }
namespace Rows
def none {H : Type} : Left H := { results := [], args := [] }

/- WHAT THE LISTED PACKAGE-LEVEL VARIABLES READ AS WHEN THE CALL BEGINS. Each datum BY PROGRAM (the guide's laid-datum.mjs) off the statement by which the dump's own 'gosem.cut.vars' lays the variable. In a bare row this is a premise. The card (YthdjenlpjceleaaDoorCards.lean) ties it to the program's text. -/
def laid_errors_errorType {H : Type} : DataW H := .iface "internal/reflectlite.rtype" (.agg [.ptr (.lit (.string [101, 114, 114, 111, 114]))])
def laid_lustrum_api_ErrText {H : Type} : DataW H := .iface "*errors.errorString" (.ptr (.agg [.lit (.string [108, 117, 115, 116, 114, 117, 109, 58, 32, 116, 101, 120, 116])]))
def laid_lustrum_api_ErrBound {H : Type} : DataW H := .iface "*errors.errorString" (.ptr (.agg [.lit (.string [108, 117, 115, 116, 114, 117, 109, 58, 32, 98, 111, 117, 110, 100])]))
def laid_lustrum_api_ErrShape {H : Type} : DataW H := .iface "*errors.errorString" (.ptr (.agg [.lit (.string [108, 117, 115, 116, 114, 117, 109, 58, 32, 115, 104, 97, 112, 101])]))
def laid_lustrum_api_ErrName {H : Type} : DataW H := .iface "*errors.errorString" (.ptr (.agg [.lit (.string [108, 117, 115, 116, 114, 117, 109, 58, 32, 110, 97, 109, 101])]))
def laid_lustrum_api_ErrType {H : Type} : DataW H := .iface "*errors.errorString" (.ptr (.agg [.lit (.string [108, 117, 115, 116, 114, 117, 109, 58, 32, 116, 121, 112, 101])]))
def laid_lustrum_api_ErrCycle {H : Type} : DataW H := .iface "*errors.errorString" (.ptr (.agg [.lit (.string [108, 117, 115, 116, 114, 117, 109, 58, 32, 99, 121, 99, 108, 101])]))
def laid_lustrum_api_ErrFirst {H : Type} : DataW H := .iface "*errors.errorString" (.ptr (.agg [.lit (.string [108, 117, 115, 116, 114, 117, 109, 58, 32, 102, 105, 114, 115, 116])]))
def laid_lustrum_api_ErrProof {H : Type} : DataW H := .iface "*errors.errorString" (.ptr (.agg [.lit (.string [108, 117, 115, 116, 114, 117, 109, 58, 32, 112, 114, 111, 111, 102])]))
def laid_lustrum_api_ErrNone {H : Type} : DataW H := .iface "*errors.errorString" (.ptr (.agg [.lit (.string [108, 117, 115, 116, 114, 117, 109, 58, 32, 110, 111, 110, 101])]))

/-- 'lustrumlaw3.GraphMakes': WHATEVER THE INPUT: true; the input reads as it did. -/
def graphMakesSpec : ChangeSpec := { name := "graphMakes", fn := fun _ => fun
  | [d1, d2] => { results := [.lit (.bool true)], args := [d1, d2] }
  | _ => none }
def graphMakesRow : OpenClaim := { program := "ythdjenlpjceleaadoor", sum := "0d07fb36a36ad06b6bbc056c1077f71614006b1c8711922ac5ef5e17b7a64627", func := "lustrum/lustrumlaw3.GraphMakes", spec := "graphMakes", inPlace := ["internal/reflectlite.ValueOf", "(internal/reflectlite.Value).Type", "(internal/reflectlite.Value).IsNil", "internal/reflectlite.TypeOf", "(internal/reflectlite.Value).Elem", "(internal/reflectlite.Value).Set"], unfollowed := true, recurses := true, named := ["lustrum/api.ErrBound", "lustrum/api.ErrShape", "lustrum/api.ErrText", "lustrum/api.ErrName", "lustrum/api.ErrType", "lustrum/api.ErrCycle", "lustrum/api.ErrFirst", "lustrum/api.ErrProof", "lustrum/api.ErrNone", "errors.errorType"], plainKeys := false, apart := false, laid := [("errors.errorType", laid_errors_errorType), ("lustrum/api.ErrText", laid_lustrum_api_ErrText), ("lustrum/api.ErrBound", laid_lustrum_api_ErrBound), ("lustrum/api.ErrShape", laid_lustrum_api_ErrShape), ("lustrum/api.ErrName", laid_lustrum_api_ErrName), ("lustrum/api.ErrType", laid_lustrum_api_ErrType), ("lustrum/api.ErrCycle", laid_lustrum_api_ErrCycle), ("lustrum/api.ErrFirst", laid_lustrum_api_ErrFirst), ("lustrum/api.ErrProof", laid_lustrum_api_ErrProof), ("lustrum/api.ErrNone", laid_lustrum_api_ErrNone)] }
def GraphMakesSaid : Prop := graphMakesRow.holds Tryd.pinned (OpenSpec.ofChange graphMakesSpec)

/-- ITS FALSE NEIGHBOUR: 'it returns false'. Refute it at one input. -/
def graphMakesWrong : ChangeSpec := { name := "graphMakes", fn := fun _ => fun
  | [d1, d2] => { results := [.lit (.bool false)], args := [d1, d2] }
  | _ => none }
def GraphMakesWrongFalsely : Prop := graphMakesRow.holds Tryd.pinned (OpenSpec.ofChange graphMakesWrong)

/-- 'lustrumlaw3.GraphEvals': WHATEVER THE INPUT: true; the input reads as it did. -/
def graphEvalsSpec : ChangeSpec := { name := "graphEvals", fn := fun _ => fun
  | [d1, d2, d3] => { results := [.lit (.bool true)], args := [d1, d2, d3] }
  | _ => none }
def graphEvalsRow : OpenClaim := { program := "ythdjenlpjceleaadoor", sum := "0d07fb36a36ad06b6bbc056c1077f71614006b1c8711922ac5ef5e17b7a64627", func := "lustrum/lustrumlaw3.GraphEvals", spec := "graphEvals", inPlace := ["internal/reflectlite.ValueOf", "(internal/reflectlite.Value).Type", "(internal/reflectlite.Value).IsNil", "internal/reflectlite.TypeOf", "(internal/reflectlite.Value).Elem", "(internal/reflectlite.Value).Set"], unfollowed := true, recurses := true, named := ["lustrum/api.ErrBound", "lustrum/api.ErrShape", "lustrum/api.ErrText", "lustrum/api.ErrName", "lustrum/api.ErrType", "lustrum/api.ErrCycle", "lustrum/api.ErrFirst", "lustrum/api.ErrProof", "lustrum/api.ErrNone", "errors.errorType"], plainKeys := false, apart := false, laid := [("errors.errorType", laid_errors_errorType), ("lustrum/api.ErrText", laid_lustrum_api_ErrText), ("lustrum/api.ErrBound", laid_lustrum_api_ErrBound), ("lustrum/api.ErrShape", laid_lustrum_api_ErrShape), ("lustrum/api.ErrName", laid_lustrum_api_ErrName), ("lustrum/api.ErrType", laid_lustrum_api_ErrType), ("lustrum/api.ErrCycle", laid_lustrum_api_ErrCycle), ("lustrum/api.ErrFirst", laid_lustrum_api_ErrFirst), ("lustrum/api.ErrProof", laid_lustrum_api_ErrProof), ("lustrum/api.ErrNone", laid_lustrum_api_ErrNone)] }
def GraphEvalsSaid : Prop := graphEvalsRow.holds Tryd.pinned (OpenSpec.ofChange graphEvalsSpec)

/-- ITS FALSE NEIGHBOUR: 'it returns false'. Refute it at one input. -/
def graphEvalsWrong : ChangeSpec := { name := "graphEvals", fn := fun _ => fun
  | [d1, d2, d3] => { results := [.lit (.bool false)], args := [d1, d2, d3] }
  | _ => none }
def GraphEvalsWrongFalsely : Prop := graphEvalsRow.holds Tryd.pinned (OpenSpec.ofChange graphEvalsWrong)

/-- 'lustrumlaw3.GraphUnlike': WHATEVER THE INPUT: true; the input reads as it did. -/
def graphUnlikeSpec : ChangeSpec := { name := "graphUnlike", fn := fun _ => fun
  | [d] => { results := [.lit (.bool true)], args := [d] }
  | _ => none }
def graphUnlikeRow : OpenClaim := { program := "ythdjenlpjceleaadoor", sum := "0d07fb36a36ad06b6bbc056c1077f71614006b1c8711922ac5ef5e17b7a64627", func := "lustrum/lustrumlaw3.GraphUnlike", spec := "graphUnlike", inPlace := ["internal/reflectlite.ValueOf", "(internal/reflectlite.Value).Type", "(internal/reflectlite.Value).IsNil", "internal/reflectlite.TypeOf", "(internal/reflectlite.Value).Elem", "(internal/reflectlite.Value).Set"], unfollowed := true, recurses := true, named := ["lustrum/api.ErrBound", "lustrum/api.ErrShape", "lustrum/api.ErrText", "lustrum/api.ErrName", "lustrum/api.ErrType", "lustrum/api.ErrCycle", "lustrum/api.ErrFirst", "lustrum/api.ErrProof", "lustrum/api.ErrNone", "errors.errorType"], plainKeys := false, apart := false, laid := [("errors.errorType", laid_errors_errorType), ("lustrum/api.ErrText", laid_lustrum_api_ErrText), ("lustrum/api.ErrBound", laid_lustrum_api_ErrBound), ("lustrum/api.ErrShape", laid_lustrum_api_ErrShape), ("lustrum/api.ErrName", laid_lustrum_api_ErrName), ("lustrum/api.ErrType", laid_lustrum_api_ErrType), ("lustrum/api.ErrCycle", laid_lustrum_api_ErrCycle), ("lustrum/api.ErrFirst", laid_lustrum_api_ErrFirst), ("lustrum/api.ErrProof", laid_lustrum_api_ErrProof), ("lustrum/api.ErrNone", laid_lustrum_api_ErrNone)] }
def GraphUnlikeSaid : Prop := graphUnlikeRow.holds Tryd.pinned (OpenSpec.ofChange graphUnlikeSpec)

/-- ITS FALSE NEIGHBOUR: 'it returns false'. Refute it at one input. -/
def graphUnlikeWrong : ChangeSpec := { name := "graphUnlike", fn := fun _ => fun
  | [d] => { results := [.lit (.bool false)], args := [d] }
  | _ => none }
def GraphUnlikeWrongFalsely : Prop := graphUnlikeRow.holds Tryd.pinned (OpenSpec.ofChange graphUnlikeWrong)

/-- 'lustrumlaw3.GraphTurned': WHATEVER THE INPUT: true; the input reads as it did. -/
def graphTurnedSpec : ChangeSpec := { name := "graphTurned", fn := fun _ => fun
  | [d1, d2, d3] => { results := [.lit (.bool true)], args := [d1, d2, d3] }
  | _ => none }
def graphTurnedRow : OpenClaim := { program := "ythdjenlpjceleaadoor", sum := "0d07fb36a36ad06b6bbc056c1077f71614006b1c8711922ac5ef5e17b7a64627", func := "lustrum/lustrumlaw3.GraphTurned", spec := "graphTurned", inPlace := ["internal/reflectlite.ValueOf", "(internal/reflectlite.Value).Type", "(internal/reflectlite.Value).IsNil", "internal/reflectlite.TypeOf", "(internal/reflectlite.Value).Elem", "(internal/reflectlite.Value).Set"], unfollowed := true, recurses := true, named := ["lustrum/api.ErrBound", "lustrum/api.ErrShape", "lustrum/api.ErrText", "lustrum/api.ErrName", "lustrum/api.ErrType", "lustrum/api.ErrCycle", "lustrum/api.ErrFirst", "lustrum/api.ErrProof", "lustrum/api.ErrNone", "errors.errorType"], plainKeys := false, apart := false, laid := [("errors.errorType", laid_errors_errorType), ("lustrum/api.ErrText", laid_lustrum_api_ErrText), ("lustrum/api.ErrBound", laid_lustrum_api_ErrBound), ("lustrum/api.ErrShape", laid_lustrum_api_ErrShape), ("lustrum/api.ErrName", laid_lustrum_api_ErrName), ("lustrum/api.ErrType", laid_lustrum_api_ErrType), ("lustrum/api.ErrCycle", laid_lustrum_api_ErrCycle), ("lustrum/api.ErrFirst", laid_lustrum_api_ErrFirst), ("lustrum/api.ErrProof", laid_lustrum_api_ErrProof), ("lustrum/api.ErrNone", laid_lustrum_api_ErrNone)] }
def GraphTurnedSaid : Prop := graphTurnedRow.holds Tryd.pinned (OpenSpec.ofChange graphTurnedSpec)

/-- ITS FALSE NEIGHBOUR: 'it returns false'. Refute it at one input. -/
def graphTurnedWrong : ChangeSpec := { name := "graphTurned", fn := fun _ => fun
  | [d1, d2, d3] => { results := [.lit (.bool false)], args := [d1, d2, d3] }
  | _ => none }
def GraphTurnedWrongFalsely : Prop := graphTurnedRow.holds Tryd.pinned (OpenSpec.ofChange graphTurnedWrong)

/- THE SECOND FORM. 'bulk': how many values and letters a reading holds, each counted each time it is reached (what is shared counts as often as it is met; a slice's spare places count too). A statement '..UptoSaid' is the law's where the arguments, and the package variables that the reading takes, are together of bulk at most 1048576: NARROWER than '..Said'. Prove '..Said' where nothing that the law and all that it calls make is longer than what came in: it says more and counts as full. Else prove '..UptoSaid'. A law counts once. -/
mutual
def uptoBulk {H : Type} : DataW H → Nat
  | .lit (.string bytes) => bytes.length + 1
  | .lit _ => 1
  | .nil => 1
  | .ptr d => uptoBulk d + 1
  | .slice elems spare => uptoBulkAll elems + uptoBulkAll spare + 1
  | .agg parts => uptoBulkAll parts + 1
  | .iface _ d => uptoBulk d + 1
  | .map entries => uptoBulkEntries entries + 1
  | .held _ => 1
def uptoBulkAll {H : Type} : List (DataW H) → Nat
  | [] => 0
  | d :: r => uptoBulk d + uptoBulkAll r
def uptoBulkEntries {H : Type} : List (Lit × DataW H) → Nat
  | [] => 0
  | x :: r => uptoBulkEntry x + uptoBulkEntries r
def uptoBulkEntry {H : Type} : Lit × DataW H → Nat
  | (.string bytes, d) => bytes.length + uptoBulk d + 1
  | (_, d) => uptoBulk d + 1
 end
def uptoSmall : (H : Type) → List (DataW H) → Bool := fun _ ds => decide (uptoBulkAll ds ≤ 1048576)
def OpenSpec.upto (s : _root_.Go.ChangeSpec) : _root_.Go.OpenSpec := { _root_.Go.OpenSpec.ofChange s with cond := some uptoSmall }

/-- 'lustrumlaw3.GraphMakes', WHERE WHAT IT READS IS OF BULK AT MOST 1048576: true; the input reads as it did. -/
def graphMakesUptoRow : OpenClaim := { program := "ythdjenlpjceleaadoor", sum := "0d07fb36a36ad06b6bbc056c1077f71614006b1c8711922ac5ef5e17b7a64627", func := "lustrum/lustrumlaw3.GraphMakes", spec := "graphMakes", inPlace := ["internal/reflectlite.ValueOf", "(internal/reflectlite.Value).Type", "(internal/reflectlite.Value).IsNil", "internal/reflectlite.TypeOf", "(internal/reflectlite.Value).Elem", "(internal/reflectlite.Value).Set"], unfollowed := true, recurses := true, named := ["lustrum/api.ErrBound", "lustrum/api.ErrShape", "lustrum/api.ErrText", "lustrum/api.ErrName", "lustrum/api.ErrType", "lustrum/api.ErrCycle", "lustrum/api.ErrFirst", "lustrum/api.ErrProof", "lustrum/api.ErrNone", "errors.errorType"], plainKeys := false, apart := false, laid := [("errors.errorType", laid_errors_errorType), ("lustrum/api.ErrText", laid_lustrum_api_ErrText), ("lustrum/api.ErrBound", laid_lustrum_api_ErrBound), ("lustrum/api.ErrShape", laid_lustrum_api_ErrShape), ("lustrum/api.ErrName", laid_lustrum_api_ErrName), ("lustrum/api.ErrType", laid_lustrum_api_ErrType), ("lustrum/api.ErrCycle", laid_lustrum_api_ErrCycle), ("lustrum/api.ErrFirst", laid_lustrum_api_ErrFirst), ("lustrum/api.ErrProof", laid_lustrum_api_ErrProof), ("lustrum/api.ErrNone", laid_lustrum_api_ErrNone)], narrowed := true }
def GraphMakesUptoSaid : Prop := graphMakesUptoRow.holds Tryd.pinned (OpenSpec.upto graphMakesSpec)

/-- 'lustrumlaw3.GraphEvals', WHERE WHAT IT READS IS OF BULK AT MOST 1048576: true; the input reads as it did. -/
def graphEvalsUptoRow : OpenClaim := { program := "ythdjenlpjceleaadoor", sum := "0d07fb36a36ad06b6bbc056c1077f71614006b1c8711922ac5ef5e17b7a64627", func := "lustrum/lustrumlaw3.GraphEvals", spec := "graphEvals", inPlace := ["internal/reflectlite.ValueOf", "(internal/reflectlite.Value).Type", "(internal/reflectlite.Value).IsNil", "internal/reflectlite.TypeOf", "(internal/reflectlite.Value).Elem", "(internal/reflectlite.Value).Set"], unfollowed := true, recurses := true, named := ["lustrum/api.ErrBound", "lustrum/api.ErrShape", "lustrum/api.ErrText", "lustrum/api.ErrName", "lustrum/api.ErrType", "lustrum/api.ErrCycle", "lustrum/api.ErrFirst", "lustrum/api.ErrProof", "lustrum/api.ErrNone", "errors.errorType"], plainKeys := false, apart := false, laid := [("errors.errorType", laid_errors_errorType), ("lustrum/api.ErrText", laid_lustrum_api_ErrText), ("lustrum/api.ErrBound", laid_lustrum_api_ErrBound), ("lustrum/api.ErrShape", laid_lustrum_api_ErrShape), ("lustrum/api.ErrName", laid_lustrum_api_ErrName), ("lustrum/api.ErrType", laid_lustrum_api_ErrType), ("lustrum/api.ErrCycle", laid_lustrum_api_ErrCycle), ("lustrum/api.ErrFirst", laid_lustrum_api_ErrFirst), ("lustrum/api.ErrProof", laid_lustrum_api_ErrProof), ("lustrum/api.ErrNone", laid_lustrum_api_ErrNone)], narrowed := true }
def GraphEvalsUptoSaid : Prop := graphEvalsUptoRow.holds Tryd.pinned (OpenSpec.upto graphEvalsSpec)

/-- 'lustrumlaw3.GraphUnlike', WHERE WHAT IT READS IS OF BULK AT MOST 1048576: true; the input reads as it did. -/
def graphUnlikeUptoRow : OpenClaim := { program := "ythdjenlpjceleaadoor", sum := "0d07fb36a36ad06b6bbc056c1077f71614006b1c8711922ac5ef5e17b7a64627", func := "lustrum/lustrumlaw3.GraphUnlike", spec := "graphUnlike", inPlace := ["internal/reflectlite.ValueOf", "(internal/reflectlite.Value).Type", "(internal/reflectlite.Value).IsNil", "internal/reflectlite.TypeOf", "(internal/reflectlite.Value).Elem", "(internal/reflectlite.Value).Set"], unfollowed := true, recurses := true, named := ["lustrum/api.ErrBound", "lustrum/api.ErrShape", "lustrum/api.ErrText", "lustrum/api.ErrName", "lustrum/api.ErrType", "lustrum/api.ErrCycle", "lustrum/api.ErrFirst", "lustrum/api.ErrProof", "lustrum/api.ErrNone", "errors.errorType"], plainKeys := false, apart := false, laid := [("errors.errorType", laid_errors_errorType), ("lustrum/api.ErrText", laid_lustrum_api_ErrText), ("lustrum/api.ErrBound", laid_lustrum_api_ErrBound), ("lustrum/api.ErrShape", laid_lustrum_api_ErrShape), ("lustrum/api.ErrName", laid_lustrum_api_ErrName), ("lustrum/api.ErrType", laid_lustrum_api_ErrType), ("lustrum/api.ErrCycle", laid_lustrum_api_ErrCycle), ("lustrum/api.ErrFirst", laid_lustrum_api_ErrFirst), ("lustrum/api.ErrProof", laid_lustrum_api_ErrProof), ("lustrum/api.ErrNone", laid_lustrum_api_ErrNone)], narrowed := true }
def GraphUnlikeUptoSaid : Prop := graphUnlikeUptoRow.holds Tryd.pinned (OpenSpec.upto graphUnlikeSpec)

/-- 'lustrumlaw3.GraphTurned', WHERE WHAT IT READS IS OF BULK AT MOST 1048576: true; the input reads as it did. -/
def graphTurnedUptoRow : OpenClaim := { program := "ythdjenlpjceleaadoor", sum := "0d07fb36a36ad06b6bbc056c1077f71614006b1c8711922ac5ef5e17b7a64627", func := "lustrum/lustrumlaw3.GraphTurned", spec := "graphTurned", inPlace := ["internal/reflectlite.ValueOf", "(internal/reflectlite.Value).Type", "(internal/reflectlite.Value).IsNil", "internal/reflectlite.TypeOf", "(internal/reflectlite.Value).Elem", "(internal/reflectlite.Value).Set"], unfollowed := true, recurses := true, named := ["lustrum/api.ErrBound", "lustrum/api.ErrShape", "lustrum/api.ErrText", "lustrum/api.ErrName", "lustrum/api.ErrType", "lustrum/api.ErrCycle", "lustrum/api.ErrFirst", "lustrum/api.ErrProof", "lustrum/api.ErrNone", "errors.errorType"], plainKeys := false, apart := false, laid := [("errors.errorType", laid_errors_errorType), ("lustrum/api.ErrText", laid_lustrum_api_ErrText), ("lustrum/api.ErrBound", laid_lustrum_api_ErrBound), ("lustrum/api.ErrShape", laid_lustrum_api_ErrShape), ("lustrum/api.ErrName", laid_lustrum_api_ErrName), ("lustrum/api.ErrType", laid_lustrum_api_ErrType), ("lustrum/api.ErrCycle", laid_lustrum_api_ErrCycle), ("lustrum/api.ErrFirst", laid_lustrum_api_ErrFirst), ("lustrum/api.ErrProof", laid_lustrum_api_ErrProof), ("lustrum/api.ErrNone", laid_lustrum_api_ErrNone)], narrowed := true }
def GraphTurnedUptoSaid : Prop := graphTurnedUptoRow.holds Tryd.pinned (OpenSpec.upto graphTurnedSpec)

end Rows
end Go.Proofs.YthdjenlpjceleaaDoor
