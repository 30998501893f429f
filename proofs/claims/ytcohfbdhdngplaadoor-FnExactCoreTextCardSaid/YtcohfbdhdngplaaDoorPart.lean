/-
  Proved: plain facts for loops over a type's parts: a part's value is a kind and a slice; the box that a round lays for it holds it.
-/
import Derived.Test.YtcohfbdhdngplaaDoorTree
namespace Go.Proofs.YtcohfbdhdngplaaDoor
open Go.RowKit

theorem at_parts {w : World} {d : Nat} {x0 x1 : Value} {t : Ty} (h : TyAt w d (.agg #[x0, x1]) t) : ∃ k a n c, x0 = .int .i64 k ∧ x1 = .slice a n c := by
  cases d with
  | zero => exact h.elim
  | succ d =>
    cases t with
    | node k ts =>
      obtain ⟨sl, hv, h0, h1, a, cap, rfl, h2⟩ := h
      injection hv with hv
      injection hv with hv
      simp at hv
      exact ⟨_, _, _, _, hv.1, hv.2⟩
theorem agg_parts {w : World} {d : Nat} {v : Value} {t : Ty} (h : TyAt w d v t) : ∃ k a n c, v = .agg #[.int .i64 k, .slice a n c] := by
  cases d with
  | zero => exact h.elim
  | succ d =>
    cases t with
    | node k ts =>
      obtain ⟨sl, rfl, h0, h1, a, cap, rfl, h2⟩ := h
      exact ⟨_, _, _, _, rfl⟩
end Go.Proofs.YtcohfbdhdngplaaDoor
