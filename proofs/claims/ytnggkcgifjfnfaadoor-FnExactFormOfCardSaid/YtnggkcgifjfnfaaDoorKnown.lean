/-
  Proved: plain facts on types no part of which is unknown; no program.
-/
import Derived.Test.YtnggkcgifjfnfaaDoorSpecValid
namespace Go.Proofs.YtnggkcgifjfnfaaDoor
open Go.RowKit

mutual
def Ty.known : Ty → Bool
  | .node k ts => Ty.knowns ts && !decide (k = 1)
def Ty.knowns : List Ty → Bool
  | [] => true
  | t :: r => t.known && Ty.knowns r
end
theorem Ty.knowns_take (ts : List Ty) : ∀ k (h : k < ts.length), Ty.knowns (ts.take (k + 1)) = (Ty.knowns (ts.take k) && ts[k].known) := by
  induction ts with
  | nil => intro k h; simp at h
  | cons s r ih =>
    intro k h
    cases k with
    | zero => simp [Ty.knowns]
    | succ k =>
      simp only [List.take_succ_cons, Ty.knowns, List.getElem_cons_succ]
      rw [ih k (by simpa using h), Bool.and_assoc]
theorem Ty.knowns_false (ts : List Ty) (k : Nat) (h : Ty.knowns (ts.take k) = false) : Ty.knowns ts = false := by
  induction ts generalizing k with
  | nil => simp [Ty.knowns] at h
  | cons s r ih =>
    cases k with
    | zero => simp [Ty.knowns] at h
    | succ k =>
      simp only [List.take_succ_cons, Ty.knowns, Bool.and_eq_false_iff] at h ⊢
      rcases h with h | h
      · exact Or.inl h
      · exact Or.inr (ih k h)

end Go.Proofs.YtnggkcgifjfnfaaDoor
