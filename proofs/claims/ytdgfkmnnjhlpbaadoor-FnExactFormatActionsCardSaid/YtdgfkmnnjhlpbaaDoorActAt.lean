/-
  Proved: how an action lies in memory, and plain facts on it.
-/
import Derived.Test.YtdgfkmnnjhlpbaaDoorOwnTree
namespace Go.Proofs.YtdgfkmnnjhlpbaaDoor
open Go.RowKit

/-- An action: its kind, its name, its number, its type. -/
structure Act where
  kind : Int
  name : ByteArray
  n : Int
  ty : Ty
def Act.bulk (a : Act) : Nat := a.name.size + (a.ty.size - 1)
/-- In the world w the value v reads as the action a, its type at most d deep. -/
def ActAt (w : World) (d : Nat) (v : Value) (a : Act) : Prop :=
  ∃ tk ta tn tc, v = .agg #[.int .i64 a.kind, .string a.name, .int .i64 a.n, .int .i64 tk, .slice ta tn tc] ∧ -9223372036854775808 ≤ a.kind ∧ a.kind ≤ 9223372036854775807 ∧ -9223372036854775808 ≤ a.n ∧ a.n ≤ 9223372036854775807 ∧ a.name.size ≤ 9223372036854775807 ∧ TyAt w d (.agg #[.int .i64 tk, .slice ta tn tc]) a.ty
theorem ActAt.below {w w' : World} {d : Nat} {v : Value} {a : Act} (h : ActAt w d v a) (hb : Below w.heap.size w w') : ActAt w' d v a := by
  obtain ⟨tk, ta, tn, tc, hv, h0, h1, h2, h3, h4, ht⟩ := h
  exact ⟨tk, ta, tn, tc, hv, h0, h1, h2, h3, h4, ht.below hb⟩
theorem act_parts {w : World} {d : Nat} {v : Value} {a : Act} (h : ActAt w d v a) : ∃ k nm n tk ta tn tc, v = .agg #[.int .i64 k, .string nm, .int .i64 n, .int .i64 tk, .slice ta tn tc] := by
  obtain ⟨tk, ta, tn, tc, rfl, _⟩ := h
  exact ⟨_, _, _, _, _, _, _, rfl⟩
end Go.Proofs.YtdgfkmnnjhlpbaaDoor
