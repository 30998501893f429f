/-
  Proved: the reference's NumType.
-/
import Derived.Test.YtmkifhfdpnlhnaaHold
namespace Go.Proofs.Ytmkifhfdpnlhnaa
open Go.RowKit

set_option maxRecDepth 100000 in
theorem specNumType (w : World) : Calls Try.prog 21 #[] w fun e w' => e = .returned (.agg #[.int .i64 2, .slice none 0 0]) ∧ Below w.heap.size w w' := by
  go_enter Try.func21, Try.ntmps21
  go_wp2_with fail
  refine bodyPost_ret (v := .agg #[.int .i64 2, .slice none 0 0]) (by simp [results, Try.results21, go_sem]) rfl ?_
  exact ⟨rfl, below_alloc _ _⟩
end Go.Proofs.Ytmkifhfdpnlhnaa
