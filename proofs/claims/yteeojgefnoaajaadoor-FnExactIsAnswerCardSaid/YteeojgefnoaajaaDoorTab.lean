/-
  Proved: the table of arities reads as it is written while old memory stays.
-/
import Derived.Test.YteeojgefnoaajaaDoorArity
namespace Go.Proofs.YteeojgefnoaajaaDoor
open Go.RowKit

def TabAt (w : World) : Prop := Lib.TabIs Tryd.prog w "loop.example/g00585/impl.arities" .i64 arTab
theorem TabAt.below {w w' : World} (h : TabAt w) (hb : Below w.heap.size w w') : TabAt w' := Law.tab_below hb h
theorem implArityAt (n : Int) (w : World) (h : TabAt w) : Calls Tryd.prog 171 #[.int .i64 n] w fun e w' => e = .returned (.int .i64 (arity n)) ∧ Below w.heap.size w w' := implArity n w h
end Go.Proofs.YteeojgefnoaajaaDoor
