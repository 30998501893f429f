/-
  Proved: the leaves of types: impl's and the reference's NumType, BoolType, UnknownType. And plain facts: a type is equal to itself; its size and its depth by those of its parts.
-/
import Derived.Test.YtgoohelkgaklgaaTypeNum
import Derived.Test.YtgoohelkgaklgaaTyEq
import Derived.Test.YtgoohelkgaklgaaSpecDepth
namespace Go.Proofs.Ytgoohelkgaklgaa
open Go.RowKit

set_option maxRecDepth 100000 in
theorem implNumType (w : World) : Calls Try.prog 44 #[] w fun e w' => e = .returned (.agg #[.int .i64 2, .slice none 0 0]) ∧ Below w.heap.size w w' := by
  go_enter Try.func44, Try.ntmps44
  go_wp2_with fail
  refine bodyPost_ret (v := .agg #[.int .i64 2, .slice none 0 0]) (by simp [results, Try.results44, go_sem]) rfl ?_
  exact ⟨rfl, below_alloc _ _⟩
set_option maxRecDepth 100000 in
theorem specBoolType (w : World) : Calls Try.prog 50 #[] w fun e w' => e = .returned (.agg #[.int .i64 3, .slice none 0 0]) ∧ Below w.heap.size w w' := by
  go_enter Try.func50, Try.ntmps50
  go_wp2_with fail
  refine bodyPost_ret (v := .agg #[.int .i64 3, .slice none 0 0]) (by simp [results, Try.results50, go_sem]) rfl ?_
  exact ⟨rfl, below_alloc _ _⟩
set_option maxRecDepth 100000 in
theorem implBoolType (w : World) : Calls Try.prog 45 #[] w fun e w' => e = .returned (.agg #[.int .i64 3, .slice none 0 0]) ∧ Below w.heap.size w w' := by
  go_enter Try.func45, Try.ntmps45
  go_wp2_with fail
  refine bodyPost_ret (v := .agg #[.int .i64 3, .slice none 0 0]) (by simp [results, Try.results45, go_sem]) rfl ?_
  exact ⟨rfl, below_alloc _ _⟩
set_option maxRecDepth 100000 in
theorem specUnknownType (w : World) : Calls Try.prog 49 #[] w fun e w' => e = .returned (.agg #[.int .i64 1, .slice none 0 0]) ∧ Below w.heap.size w w' := by
  go_enter Try.func49, Try.ntmps49
  go_wp2_with fail
  refine bodyPost_ret (v := .agg #[.int .i64 1, .slice none 0 0]) (by simp [results, Try.results49, go_sem]) rfl ?_
  exact ⟨rfl, below_alloc _ _⟩
set_option maxRecDepth 100000 in
theorem implUnknownType (w : World) : Calls Try.prog 43 #[] w fun e w' => e = .returned (.agg #[.int .i64 1, .slice none 0 0]) ∧ Below w.heap.size w w' := by
  go_enter Try.func43, Try.ntmps43
  go_wp2_with fail
  refine bodyPost_ret (v := .agg #[.int .i64 1, .slice none 0 0]) (by simp [results, Try.results43, go_sem]) rfl ?_
  exact ⟨rfl, below_alloc _ _⟩
theorem leaf_at (w : World) (k : Int) (h0 : 0 ≤ k) (h1 : k ≤ 255) : TyAt w 1 (.agg #[.int .i64 k, .slice none 0 0]) (.node k []) :=
  ⟨_, rfl, by omega, by omega, none, 0, rfl, Nat.le_refl _, by omega, fun j hj => by simp at hj⟩
mutual
theorem Ty.beq_refl : ∀ t : Ty, t.beq t = true
  | .node k ts => by unfold Ty.beq; simp [Ty.beqs_refl ts]
theorem Ty.beqs_refl : ∀ ts : List Ty, Ty.beqs ts ts = true
  | [] => by unfold Ty.beqs; rfl
  | a :: r => by unfold Ty.beqs; simp [Ty.beq_refl a, Ty.beqs_refl r]
end
end Go.Proofs.Ytgoohelkgaklgaa
