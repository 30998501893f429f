/-
  Proved: plain facts on equal edits; no program.
-/
import Derived.Test.YtajikfageppobaaEditAt
import Derived.Test.YtajikfageppobaaExEq
import Derived.Test.YtajikfageppobaaTyEq
namespace Go.Proofs.Ytajikfageppobaa

def Edi.beq (a b : Edi) : Bool := a.ex.beq b.ex && decide (a.path = b.path)
end Go.Proofs.Ytajikfageppobaa
