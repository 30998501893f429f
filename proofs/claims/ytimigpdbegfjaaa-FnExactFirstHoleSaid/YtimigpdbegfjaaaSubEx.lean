/-
  Proved: plain facts on the node at a path; no program.
-/
import Derived.Test.YtimigpdbegfjaaaExprArg
import Derived.Test.YtimigpdbegfjaaaInts
namespace Go.Proofs.Ytimigpdbegfjaaa
open Go.RowKit

/-- The parts of an expression's root. -/
def Ex.parts : Ex → List Ex
  | .node _ _ _ _ es => es
/-- The node at a path. -/
def Ex.sub : Ex → List Int → Option Ex
  | e, [] => some e
  | e, p :: r => if 0 ≤ p then (match e.parts[p.toNat]? with | some x => x.sub r | none => none) else none
theorem sub_nil (e : Ex) : e.sub [] = some e := by unfold Ex.sub; rfl
theorem sub_step {e : Ex} {p : Int} {r : List Int} (h0 : 0 ≤ p) (h1 : p.toNat < e.parts.length) : e.sub (p :: r) = (e.parts[p.toNat]).sub r := by
  conv => lhs; unfold Ex.sub
  rw [if_pos h0, List.getElem?_eq_getElem h1]
theorem sub_low {e : Ex} {p : Int} {r : List Int} (h : p < 0) : e.sub (p :: r) = none := by
  unfold Ex.sub
  rw [if_neg (by omega)]
theorem sub_high {e : Ex} {p : Int} {r : List Int} (h : (e.parts.length : Int) ≤ p) : e.sub (p :: r) = none := by
  unfold Ex.sub
  rw [if_pos (by omega), List.getElem?_eq_none (by omega)]
theorem drop_at (ps : List Int) (k : Nat) (h : k < ps.length) : ps.drop k = ps[k] :: ps.drop (k + 1) := List.drop_eq_getElem_cons h
theorem part_bulk {e : Ex} {k : Nat} (h : k < e.parts.length) : (e.parts[k]).bulk ≤ e.bulk := by
  cases e with
  | node kd nm n ty es =>
    have h1 : k < es.length := h
    have := Ex.bulk_get es k h1
    show es[k].bulk ≤ nm.size + (ty.size - 1) + Ex.bulks es
    omega
/-- The parts of an expression in memory, one by one. -/
theorem ex_row {w : World} {d : Nat} {c0 c1 c2 c3 c4 : Value} {a : Option Addr} {m c : Nat} {e : Ex} (h : ExAt w d (.agg #[c0, c1, c2, c3, c4, .slice a m c]) e) :
    m = e.parts.length ∧ m ≤ c ∧ c ≤ 9223372036854775807 ∧ ∀ j (h : j < e.parts.length), ∃ b off x0 x1 x2 x3 x4 x5, a = some ⟨b, off, none⟩ ∧ b < w.heap.size ∧ w.cell? ⟨b, off + j * 6, none⟩ = some x0 ∧ w.cell? ⟨b, off + j * 6 + 1, none⟩ = some x1 ∧ w.cell? ⟨b, off + j * 6 + 2, none⟩ = some x2 ∧
      w.cell? ⟨b, off + j * 6 + 3, none⟩ = some x3 ∧ w.cell? ⟨b, off + j * 6 + 4, none⟩ = some x4 ∧ w.cell? ⟨b, off + j * 6 + 5, none⟩ = some x5 ∧ ExAt w d (.agg #[x0, x1, x2, x3, x4, x5]) e.parts[j] := by
  cases d with
  | zero => exact h.elim
  | succ d =>
    cases e with
    | node kd nm n ty es =>
      obtain ⟨z3, z4, sl, hv, _, _, _, _, _, _, a', cap', hs, hc, hc2, hat⟩ := h
      injection hv with hv
      injection hv with hv
      simp at hv
      obtain ⟨_, _, _, _, _, hsl⟩ := hv
      rw [hs] at hsl
      injection hsl with e1 e2 e3
      subst e1 e2 e3
      refine ⟨rfl, hc, hc2, fun j hj => ?_⟩
      obtain ⟨b, off, x0, x1, x2, x3, x4, x5, ha, hb, h0, h1, h2, h3, h4, h5, hr⟩ := hat j hj
      exact ⟨b, off, x0, x1, x2, x3, x4, x5, ha, hb, h0, h1, h2, h3, h4, h5, hr.succ⟩
end Go.Proofs.Ytimigpdbegfjaaa
