/-
  Proved: plain facts on ground types; the memory that was there stays as it was.
-/
import Derived.Test.YtgoohelkgaklgaaSpecValid
import Derived.Test.YtgoohelkgaklgaaToTyD
namespace Go.Proofs.Ytgoohelkgaklgaa
open Go.RowKit

/-- The ground type of a type's kind; the zero type for others. -/
def Ty.ground : Ty → Ty
  | .node k ts => if (Ty.node k ts).valid = true then (if k = 2 then .node 2 [] else if k = 3 then .node 3 [] else if k = 4 then .node 4 [.node 1 [], .node 1 []] else if k = 5 then .node 5 [.node 1 [], .node 1 []] else .node 0 []) else .node 0 []
theorem Ty.ground_size (t : Ty) : t.ground.size ≤ 3 := by
  cases t with
  | node k ts =>
    simp only [Ty.ground]
    (repeat' split) <;> decide
theorem own_zero (w : World) (d : Nat) (k : Int) (h0 : -9223372036854775808 ≤ k) (h1 : k ≤ 9223372036854775807) : TyOwn w (d + 1) (.agg #[.int .i64 k, .slice none 0 0]) (.node k []) [] :=
  ⟨_, rfl, h0, h1, none, 0, [], [], rfl, Nat.le_refl _, by omega, rfl, rfl, (fun b hb => by cases hb), fun j hj => by simp at hj⟩
end Go.Proofs.Ytgoohelkgaklgaa
