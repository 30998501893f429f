/-
  Proved: plain facts on a box: a cast of a ground type to the unknown type.
-/
import Derived.Test.YtgdocfjodnicdaaCoTree
import Derived.Test.YtgdocfjodnicdaaTyEq
import Derived.Test.YtgdocfjodnicdaaGround
import Derived.Test.YtgdocfjodnicdaaKnown
namespace Go.Proofs.Ytgdocfjodnicdaa
open Go.RowKit

def Co.boxB : Co → Bool
  | .node k _ _ fr ty es _ _ => decide (k = 14) && ((fr.valid && fr.beq fr.ground) && (ty.beq (.node 1 []) && decide (es.length = 1)))
end Go.Proofs.Ytgdocfjodnicdaa
