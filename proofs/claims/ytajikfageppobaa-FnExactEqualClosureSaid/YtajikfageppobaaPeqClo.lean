/-
  Proved: plain facts on equal closures; no program.
-/
import Derived.Test.YtajikfageppobaaAtClo
import Derived.Test.YtajikfageppobaaCoEq
namespace Go.Proofs.Ytajikfageppobaa
open Go.RowKit

def Clo.beq (a b : Clo) : Bool := decide (a.num = b.num) && (decide (a.mark = b.mark) && ebeq a.env.ns a.env.vs b.env.ns b.env.vs)
end Go.Proofs.Ytajikfageppobaa
