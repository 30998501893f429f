/-
  Proved: spec.UnknownType makes its type; the memory that was there stays as it was.
-/
import Derived.Test.YtgdocfjodnicdaaHold
namespace Go.Proofs.Ytgdocfjodnicdaa
open Go.RowKit

set_option maxRecDepth 100000 in
theorem specUnknownType (w : World) : Calls Try.prog 14 #[] w fun e w' => e = .returned (.agg #[.int .i64 1, .slice none 0 0]) ∧ Below w.heap.size w w' := by
  go_enter Try.func14, Try.ntmps14
  go_wp2_with fail
  refine bodyPost_ret (v := .agg #[.int .i64 1, .slice none 0 0]) (by simp [results, Try.results14, go_sem]) rfl ?_
  exact ⟨rfl, below_alloc _ _⟩
end Go.Proofs.Ytgdocfjodnicdaa
