/-
  Proved: nothing; it names the form of a core expression: zero where the expression is none.
-/
import Derived.Test.YtnggkcgifjfnfaaDoorCoFm
namespace Go.Proofs.YtnggkcgifjfnfaaDoor
open Go.RowKit

def formOf (t : Co) : Int := if t.valid = true then t.fm else 0
theorem formOf_none {t : Co} (h : t.valid = false) : formOf t = 0 := if_neg (by simp [h])
theorem formOf_some {t : Co} (h : t.valid = true) : formOf t = t.fm := if_pos h
end Go.Proofs.YtnggkcgifjfnfaaDoor
