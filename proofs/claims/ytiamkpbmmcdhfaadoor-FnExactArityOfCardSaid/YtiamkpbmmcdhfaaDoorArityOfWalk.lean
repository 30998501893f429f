/-
  Proved: the law FnExactArityOf answers true for every kind, and leaves the memory that was there as it was.
-/
import Derived.Test.YtiamkpbmmcdhfaaDoorArity
namespace Go.Proofs.YtiamkpbmmcdhfaaDoor
open Go.RowKit

set_option maxRecDepth 100000 in
theorem arityOfWalk (n : Int) (w : World) (htab : Lib.TabIs Tryd.prog w "loop.example/g00585/impl.arities" .i64 arTab) :
    Calls Tryd.prog 4 #[.int .i64 n] w fun e w' => e = .returned (.bool true) ∧ Below w.heap.size w w' := by
  go_enter Tryd.func4, Tryd.ntmps4
  go_wp2_with fail
  refine (specArity n _).mono ?_
  rintro e w1 ⟨rfl, hb1⟩
  go_wp2_with fail
  refine (implArity n _ (Law.tab_below hb1 htab)).mono ?_
  rintro e w2 ⟨rfl, hb2⟩
  generalize arity n = r
  go_wp2_with fail
  go_ret
  exact ⟨rfl, hb1.trans (hb2.mono hb1.size)⟩
end Go.Proofs.YtiamkpbmmcdhfaaDoor
