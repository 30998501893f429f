/-
  Proved: the law FnExactCoreArity answers true for every kind, and leaves the memory that was there as it was.
-/
import Derived.Test.YtlpdgmgafabadaaDoorCoreArity
namespace Go.Proofs.YtlpdgmgafabadaaDoor
open Go.RowKit

set_option maxRecDepth 100000 in
theorem coreArityWalk (n : Int) (w : World) (htab : CoreTab w) :
    Calls Tryd.prog 6 #[.int .i64 n] w fun e w' => e = .returned (.bool true) ∧ Below w.heap.size w w' := by
  go_enter Tryd.func6, Tryd.ntmps6
  go_wp2_with fail
  refine (specCoArity n _).mono ?_
  rintro e w1 ⟨rfl, hb1⟩
  go_wp2_with fail
  refine (implCoArity n _ (htab.below hb1)).mono ?_
  rintro e w2 ⟨rfl, hb2⟩
  generalize coArity n = r
  go_wp2_with fail
  go_ret
  exact ⟨rfl, hb1.trans (hb2.mono hb1.size)⟩
end Go.Proofs.YtlpdgmgafabadaaDoor
