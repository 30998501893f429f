/-
  Proved: the law FnExactExampleText answers true for every number, and leaves the memory that was there as it was.
-/
import Derived.Test.YtajikfageppobaaExampleText
namespace Go.Proofs.Ytajikfageppobaa
open Go.RowKit

set_option maxRecDepth 100000 in
set_option maxHeartbeats 2000000 in
theorem exampleTextWalk (n : Int) (w : World) :
    Calls Try.prog 5 #[.int .i64 n] w fun e w' => e = .returned (.bool true) ∧ Below w.heap.size w w' := by
  go_enter Try.func5, Try.ntmps5
  go_wp2_with fail
  refine (specExample n _).mono ?_
  rintro e w1 ⟨rfl, hb1⟩
  go_wp2_with fail
  refine (implExample n _).mono ?_
  rintro e w2 ⟨rfl, hb2⟩
  generalize exampleB n = r
  go_wp2_with fail
  go_ret
  exact ⟨rfl, hb1.trans (hb2.mono hb1.size)⟩
end Go.Proofs.Ytajikfageppobaa
