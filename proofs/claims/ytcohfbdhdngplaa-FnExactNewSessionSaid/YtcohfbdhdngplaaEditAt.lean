/-
  Proved: how an edit lies in memory, and plain facts on it.
-/
import Derived.Test.YtcohfbdhdngplaaExTree
import Derived.Test.YtcohfbdhdngplaaInts
namespace Go.Proofs.Ytcohfbdhdngplaa
open Go.RowKit

/-- An edit: its expression, its path. -/
structure Edi where
  ex : Ex
  path : List Int
def Edi.bulk (a : Edi) : Nat := a.ex.bulk + a.path.length
/-- In the world w the value v reads as the edit a, its expression at most d deep. -/
def EditAt (w : World) (d : Nat) (v : Value) (a : Edi) : Prop :=
  ∃ k nm n tk ta tn tc sa sn sc pa pn pc, v = .agg #[.int .i64 k, .string nm, .int .i64 n, .int .i64 tk, .slice ta tn tc, .slice sa sn sc, .slice pa pn pc] ∧ ExAt w d (.agg #[.int .i64 k, .string nm, .int .i64 n, .int .i64 tk, .slice ta tn tc, .slice sa sn sc]) a.ex ∧ Ints w (.slice pa pn pc) a.path ∧ a.path.length ≤ 9223372036854775807
theorem EditAt.below {w w' : World} {d : Nat} {v : Value} {a : Edi} (h : EditAt w d v a) (hb : Below w.heap.size w w') : EditAt w' d v a := by
  obtain ⟨k, nm, n, tk, ta, tn, tc, sa, sn, sc, pa, pn, pc, hv, he, hp, hl⟩ := h
  exact ⟨k, nm, n, tk, ta, tn, tc, sa, sn, sc, pa, pn, pc, hv, he.below hb, hp.below hb, hl⟩
theorem edit_parts {w : World} {d : Nat} {v : Value} {a : Edi} (h : EditAt w d v a) : ∃ k nm n tk ta tn tc sa sn sc pa pn pc, v = .agg #[.int .i64 k, .string nm, .int .i64 n, .int .i64 tk, .slice ta tn tc, .slice sa sn sc, .slice pa pn pc] := by
  obtain ⟨k, nm, n, tk, ta, tn, tc, sa, sn, sc, pa, pn, pc, rfl, _⟩ := h
  exact ⟨_, _, _, _, _, _, _, _, _, _, _, _, _, rfl⟩
end Go.Proofs.Ytcohfbdhdngplaa
