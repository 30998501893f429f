/-
  Proved: the reference's NumType.
-/
import Derived.Test.YtgoohelkgaklgaaHold
namespace Go.Proofs.Ytgoohelkgaklgaa
open Go.RowKit

set_option maxRecDepth 100000 in
theorem specNumType (w : World) : Calls Try.prog 35 #[] w fun e w' => e = .returned (.agg #[.int .i64 2, .slice none 0 0]) ∧ Below w.heap.size w w' := by
  go_enter Try.func35, Try.ntmps35
  go_wp2_with fail
  refine bodyPost_ret (v := .agg #[.int .i64 2, .slice none 0 0]) (by simp [results, Try.results35, go_sem]) rfl ?_
  exact ⟨rfl, below_alloc _ _⟩
end Go.Proofs.Ytgoohelkgaklgaa
