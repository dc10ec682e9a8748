/-
  THE DOCUMENT's MODEL OF A GRAPH: Eval BY CONTRACT.
-/
import Derived.Test.YtlclbidjdhlklaaDoorGrL
import Derived.Test.YtlclbidjdhlklaaDoorMoB
import Derived.BigRegion
import Derived.Deep.DeepCutAuto
import Derived.Deep.CutBlock
namespace Go.Proofs.YtlclbidjdhlklaaDoor
open Go.RowKit Go.Maps

end Go.Proofs.YtlclbidjdhlklaaDoor
