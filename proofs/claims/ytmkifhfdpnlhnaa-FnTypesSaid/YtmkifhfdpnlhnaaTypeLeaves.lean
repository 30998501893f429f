/-
  Proved: the leaves of types: impl's and the reference's NumType, BoolType, UnknownType. And plain facts: a type is equal to itself; its size and its depth by those of its parts.
-/
import Derived.Test.YtmkifhfdpnlhnaaTypeNum
import Derived.Test.YtmkifhfdpnlhnaaTyEq
import Derived.Test.YtmkifhfdpnlhnaaSpecDepth
namespace Go.Proofs.Ytmkifhfdpnlhnaa
open Go.RowKit

set_option maxRecDepth 100000 in
theorem implNumType (w : World) : Calls Try.prog 20 #[] w fun e w' => e = .returned (.agg #[.int .i64 2, .slice none 0 0]) ∧ Below w.heap.size w w' := by
  go_enter Try.func20, Try.ntmps20
  go_wp2_with fail
  refine bodyPost_ret (v := .agg #[.int .i64 2, .slice none 0 0]) (by simp [results, Try.results20, go_sem]) rfl ?_
  exact ⟨rfl, below_alloc _ _⟩
set_option maxRecDepth 100000 in
theorem specBoolType (w : World) : Calls Try.prog 23 #[] w fun e w' => e = .returned (.agg #[.int .i64 3, .slice none 0 0]) ∧ Below w.heap.size w w' := by
  go_enter Try.func23, Try.ntmps23
  go_wp2_with fail
  refine bodyPost_ret (v := .agg #[.int .i64 3, .slice none 0 0]) (by simp [results, Try.results23, go_sem]) rfl ?_
  exact ⟨rfl, below_alloc _ _⟩
set_option maxRecDepth 100000 in
theorem implBoolType (w : World) : Calls Try.prog 22 #[] w fun e w' => e = .returned (.agg #[.int .i64 3, .slice none 0 0]) ∧ Below w.heap.size w w' := by
  go_enter Try.func22, Try.ntmps22
  go_wp2_with fail
  refine bodyPost_ret (v := .agg #[.int .i64 3, .slice none 0 0]) (by simp [results, Try.results22, go_sem]) rfl ?_
  exact ⟨rfl, below_alloc _ _⟩
set_option maxRecDepth 100000 in
theorem specUnknownType (w : World) : Calls Try.prog 25 #[] w fun e w' => e = .returned (.agg #[.int .i64 1, .slice none 0 0]) ∧ Below w.heap.size w w' := by
  go_enter Try.func25, Try.ntmps25
  go_wp2_with fail
  refine bodyPost_ret (v := .agg #[.int .i64 1, .slice none 0 0]) (by simp [results, Try.results25, go_sem]) rfl ?_
  exact ⟨rfl, below_alloc _ _⟩
set_option maxRecDepth 100000 in
theorem implUnknownType (w : World) : Calls Try.prog 24 #[] w fun e w' => e = .returned (.agg #[.int .i64 1, .slice none 0 0]) ∧ Below w.heap.size w w' := by
  go_enter Try.func24, Try.ntmps24
  go_wp2_with fail
  refine bodyPost_ret (v := .agg #[.int .i64 1, .slice none 0 0]) (by simp [results, Try.results24, go_sem]) rfl ?_
  exact ⟨rfl, below_alloc _ _⟩
theorem leaf_at (w : World) (k : Int) (h0 : 0 ≤ k) (h1 : k ≤ 255) : TyAt w 1 (.agg #[.int .i64 k, .slice none 0 0]) (.node k []) :=
  ⟨_, rfl, by omega, by omega, none, 0, rfl, Nat.le_refl _, by omega, fun j hj => by simp at hj⟩
mutual
theorem Ty.beq_refl : ∀ t : Ty, t.beq t = true
  | .node k ts => by unfold Ty.beq; simp [Ty.beqs_refl ts]
theorem Ty.beqs_refl : ∀ ts : List Ty, Ty.beqs ts ts = true
  | [] => by unfold Ty.beqs; rfl
  | a :: r => by unfold Ty.beqs; simp [Ty.beq_refl a, Ty.beqs_refl r]
end
end Go.Proofs.Ytmkifhfdpnlhnaa
