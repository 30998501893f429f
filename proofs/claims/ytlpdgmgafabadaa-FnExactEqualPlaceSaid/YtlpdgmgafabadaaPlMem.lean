/-
  Proved: how a place lies in memory, and plain facts on it.
-/
import Derived.Test.YtlpdgmgafabadaaBindAt
namespace Go.Proofs.Ytlpdgmgafabadaa
open Go.RowKit

/-- A place: its context, whether it is analytic, its type. -/
structure Pl where
  ctx : List Bi
  ana : Bool
  ty : Ty
def Pl.bulk (p : Pl) : Nat := Bi.bulks p.ctx + (p.ty.size - 1)
/-- In the world w the value v reads as the place p, its types at most d deep. -/
def PlAt (w : World) (d : Nat) (v : Value) (p : Pl) : Prop :=
  ∃ ca cn cc tk ta tn tc, v = .agg #[.slice ca cn cc, .bool p.ana, .int .i64 tk, .slice ta tn tc] ∧ BisAt w d (.slice ca cn cc) p.ctx ∧ TyAt w d (.agg #[.int .i64 tk, .slice ta tn tc]) p.ty
theorem PlAt.below {w w' : World} {d : Nat} {v : Value} {p : Pl} (h : PlAt w d v p) (hb : Below w.heap.size w w') : PlAt w' d v p := by
  obtain ⟨ca, cn, cc, tk, ta, tn, tc, hv, hc, ht⟩ := h
  exact ⟨ca, cn, cc, tk, ta, tn, tc, hv, hc.below hb, ht.below hb⟩
theorem pl_parts {w : World} {d : Nat} {v : Value} {p : Pl} (h : PlAt w d v p) : ∃ ca cn cc ana tk ta tn tc, v = .agg #[.slice ca cn cc, .bool ana, .int .i64 tk, .slice ta tn tc] := by
  obtain ⟨ca, cn, cc, tk, ta, tn, tc, rfl, _⟩ := h
  exact ⟨_, _, _, _, _, _, _, _, rfl⟩
end Go.Proofs.Ytlpdgmgafabadaa
