/-
  Proved: impl.NumType and BoolType make their types; the memory that was there stays as it was.
-/
import Derived.Test.YtgdocfjodnicdaaImplUnknown
namespace Go.Proofs.Ytgdocfjodnicdaa
open Go.RowKit

set_option maxRecDepth 100000 in
theorem implNumType (w : World) : Calls Try.prog 39 #[] w fun e w' => e = .returned (.agg #[.int .i64 2, .slice none 0 0]) ∧ Below w.heap.size w w' := by
  go_enter Try.func39, Try.ntmps39
  go_wp2_with fail
  refine bodyPost_ret (v := .agg #[.int .i64 2, .slice none 0 0]) (by simp [results, Try.results39, go_sem]) rfl ?_
  exact ⟨rfl, below_alloc _ _⟩
set_option maxRecDepth 100000 in
theorem implBoolType (w : World) : Calls Try.prog 40 #[] w fun e w' => e = .returned (.agg #[.int .i64 3, .slice none 0 0]) ∧ Below w.heap.size w w' := by
  go_enter Try.func40, Try.ntmps40
  go_wp2_with fail
  refine bodyPost_ret (v := .agg #[.int .i64 3, .slice none 0 0]) (by simp [results, Try.results40, go_sem]) rfl ?_
  exact ⟨rfl, below_alloc _ _⟩
end Go.Proofs.Ytgdocfjodnicdaa
