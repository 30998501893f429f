/-
  Proved: spec.UnknownType makes its type; the memory that was there stays as it was.
-/
import Derived.Test.YtnggkcgifjfnfaaDoorHold
namespace Go.Proofs.YtnggkcgifjfnfaaDoor
open Go.RowKit

set_option maxRecDepth 100000 in
theorem specUnknownType (w : World) : Calls Tryd.prog 75 #[] w fun e w' => e = .returned (.agg #[.int .i64 1, .slice none 0 0]) ∧ Below w.heap.size w w' := by
  go_enter Tryd.func75, Tryd.ntmps75
  go_wp2_with fail
  refine bodyPost_ret (v := .agg #[.int .i64 1, .slice none 0 0]) (by simp [results, Tryd.results75, go_sem]) rfl ?_
  exact ⟨rfl, below_alloc _ _⟩
end Go.Proofs.YtnggkcgifjfnfaaDoor
