/-
  Proved: plain facts on valid edits; no program.
-/
import Derived.Test.YtfidcblaabeaaaaDoorEditAt
import Derived.Test.YtfidcblaabeaaaaDoorSubEx
import Derived.Test.YtfidcblaabeaaaaDoorExFold
namespace Go.Proofs.YtfidcblaabeaaaaDoor

/-- An edit: a raw expression, and the path of one of its nodes. -/
def Edi.okB (a : Edi) : Bool := (a.ex.sub a.path).isSome && (a.ex.valid && !a.ex.has 14)
end Go.Proofs.YtfidcblaabeaaaaDoor
