/-
  Proved: plain facts on a box: a cast of a ground type to the unknown type.
-/
import Derived.Test.YtnggkcgifjfnfaaDoorCoTree
import Derived.Test.YtnggkcgifjfnfaaDoorTyEq
import Derived.Test.YtnggkcgifjfnfaaDoorGround
import Derived.Test.YtnggkcgifjfnfaaDoorKnown
namespace Go.Proofs.YtnggkcgifjfnfaaDoor
open Go.RowKit

def Co.boxB : Co → Bool
  | .node k _ _ fr ty es _ _ => decide (k = 14) && ((fr.valid && fr.beq fr.ground) && (ty.beq (.node 1 []) && decide (es.length = 1)))
end Go.Proofs.YtnggkcgifjfnfaaDoor
