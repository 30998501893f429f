/-
  Proved: plain facts on an action whose type lies in memory of its own.
-/
import Derived.Test.YtdgfkmnnjhlpbaaDoorActAt
import Derived.Test.YtdgfkmnnjhlpbaaDoorOwnIn
import Derived.Test.YtdgfkmnnjhlpbaaDoorRecBase
namespace Go.Proofs.YtdgfkmnnjhlpbaaDoor
open Go.RowKit

def ActIn (w : World) (d : Nat) (v : Value) (a : Act) (lo hi : Nat) : Prop :=
  ∃ tk ta tn tc, v = .agg #[.int .i64 a.kind, .string a.name, .int .i64 a.n, .int .i64 tk, .slice ta tn tc] ∧ -9223372036854775808 ≤ a.kind ∧ a.kind ≤ 9223372036854775807 ∧ -9223372036854775808 ≤ a.n ∧ a.n ≤ 9223372036854775807 ∧ a.name.size ≤ 9223372036854775807 ∧ OwnIn w d (.agg #[.int .i64 tk, .slice ta tn tc]) a.ty lo hi
theorem ActIn.at_ {w : World} {d : Nat} {v : Value} {a : Act} {lo hi : Nat} (h : ActIn w d v a lo hi) : ActAt w d v a := by
  obtain ⟨tk, ta, tn, tc, hv, h0, h1, h2, h3, h4, ht⟩ := h
  exact ⟨tk, ta, tn, tc, hv, h0, h1, h2, h3, h4, ht.at_⟩
theorem ActIn.below {w w' : World} {d : Nat} {v : Value} {a : Act} {lo hi : Nat} (h : ActIn w d v a lo hi) (hb : Below w.heap.size w w') : ActIn w' d v a lo hi := by
  obtain ⟨tk, ta, tn, tc, hv, h0, h1, h2, h3, h4, ht⟩ := h
  exact ⟨tk, ta, tn, tc, hv, h0, h1, h2, h3, h4, ht.below hb⟩
theorem ActIn.rest {w w' : World} {d : Nat} {v : Value} {a : Act} {lo hi lo2 hi2 : Nat} (h : ActIn w d v a lo hi) (k : Rest lo2 hi2 w w') (hd : hi ≤ lo2 ∨ hi2 ≤ lo) : ActIn w' d v a lo hi := by
  obtain ⟨tk, ta, tn, tc, hv, h0, h1, h2, h3, h4, ht⟩ := h
  exact ⟨tk, ta, tn, tc, hv, h0, h1, h2, h3, h4, ht.beside (lo2 := lo2) (hi2 := hi2) k hd⟩
theorem ActAt.mono {w : World} {d d' : Nat} {v : Value} {a : Act} (h : ActAt w d v a) (hd : d ≤ d') : ActAt w d' v a := by
  obtain ⟨tk, ta, tn, tc, hv, h0, h1, h2, h3, h4, ht⟩ := h
  exact ⟨tk, ta, tn, tc, hv, h0, h1, h2, h3, h4, ht.mono hd⟩
end Go.Proofs.YtdgfkmnnjhlpbaaDoor
