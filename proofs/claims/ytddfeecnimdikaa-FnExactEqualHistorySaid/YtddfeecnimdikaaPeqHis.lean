/-
  Proved: plain facts on equal values of the kind History; no program.
-/
import Derived.Test.YtddfeecnimdikaaAtHis
import Derived.Test.YtddfeecnimdikaaExEq
import Derived.Test.YtddfeecnimdikaaPeqEdt
namespace Go.Proofs.Ytddfeecnimdikaa
open Go.RowKit

def His.beq (a b : His) : Bool := (Edt.beqs a.past b.past) && (Edt.beq a.now b.now) && (Edt.beqs a.next b.next)
end Go.Proofs.Ytddfeecnimdikaa
