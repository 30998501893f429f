/-
  Proved: plain facts on the number of nodes of a core expression.
-/
import Derived.Test.YtcohfbdhdngplaaDoorCoTree
namespace Go.Proofs.YtcohfbdhdngplaaDoor
open Go.RowKit

mutual
/-- The nodes of a core expression, those of its environment among them. -/
def Co.count : Co → Nat
  | .node _ _ _ _ _ es _ vs => 1 + Co.counts es + Co.counts vs
def Co.counts : List Co → Nat
  | [] => 0
  | e :: r => e.count + Co.counts r
end
theorem Co.counts_take (es : List Co) : ∀ k (h : k < es.length), Co.counts (es.take (k + 1)) = Co.counts (es.take k) + es[k].count := by
  induction es with
  | nil => intro k h; simp at h
  | cons s r ih =>
    intro k h
    cases k with
    | zero => simp [Co.counts]
    | succ k =>
      simp only [List.take_succ_cons, Co.counts, List.getElem_cons_succ]
      rw [ih k (by simpa using h)]; omega
mutual
theorem Co.count_le : ∀ e : Co, e.count ≤ 1 + e.bulk
  | .node k nm n fr ty es ns vs => by have := Co.counts_le es; have := Co.counts_le vs; simp only [Co.count, Co.bulk]; omega
theorem Co.counts_le : ∀ es : List Co, Co.counts es ≤ Co.bulks es
  | [] => Nat.le_refl _
  | e :: r => by have := Co.count_le e; have := Co.counts_le r; simp only [Co.counts, Co.bulks]; omega
end
theorem Co.counts_part (es : List Co) (k : Nat) : Co.counts (es.take k) ≤ Co.bulks es := Nat.le_trans (Co.counts_le _) (Co.bulks_le es k)
end Go.Proofs.YtcohfbdhdngplaaDoor
