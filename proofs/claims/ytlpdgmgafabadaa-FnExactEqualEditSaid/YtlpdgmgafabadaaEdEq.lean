/-
  Proved: plain facts on equal edits; no program.
-/
import Derived.Test.YtlpdgmgafabadaaEditAt
import Derived.Test.YtlpdgmgafabadaaExEq
import Derived.Test.YtlpdgmgafabadaaTyEq
namespace Go.Proofs.Ytlpdgmgafabadaa

def Edi.beq (a b : Edi) : Bool := a.ex.beq b.ex && decide (a.path = b.path)
end Go.Proofs.Ytlpdgmgafabadaa
