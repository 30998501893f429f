/-
  Proved: plain facts on the size and the depth of expressions; spec.l1Bit; the memory that was there stays as it was.
-/
import Derived.Test.YtcohfbdhdngplaaDoorExTree
namespace Go.Proofs.YtcohfbdhdngplaaDoor
open Go.RowKit

mutual
/-- The nodes of an expression but its marks. -/
def Ex.count : Ex → Nat
  | .node k _ _ _ es => (if k = 14 then 0 else 1) + Ex.counts es
def Ex.counts : List Ex → Nat
  | [] => 0
  | e :: r => e.count + Ex.counts r
end
theorem Ex.counts_take (es : List Ex) : ∀ k (h : k < es.length), Ex.counts (es.take (k + 1)) = Ex.counts (es.take k) + es[k].count := by
  induction es with
  | nil => intro k h; simp at h
  | cons s r ih =>
    intro k h
    cases k with
    | zero => simp [Ex.counts]
    | succ k =>
      simp only [List.take_succ_cons, Ex.counts, List.getElem_cons_succ]
      rw [ih k (by simpa using h)]; omega
mutual
theorem Ex.count_le : ∀ e : Ex, e.count ≤ 1 + e.bulk
  | .node k nm n ty es => by have := Ex.counts_le es; simp only [Ex.count, Ex.bulk]; split <;> omega
theorem Ex.counts_le : ∀ es : List Ex, Ex.counts es ≤ Ex.bulks es
  | [] => Nat.le_refl _
  | e :: r => by have := Ex.count_le e; have := Ex.counts_le r; simp only [Ex.counts, Ex.bulks]; omega
end
theorem Ex.counts_part (es : List Ex) (k : Nat) : Ex.counts (es.take k) ≤ Ex.bulks es := Nat.le_trans (Ex.counts_le _) (Ex.bulks_le es k)
mutual
/-- The depth of an expression; marks do not count. -/
def Ex.high : Ex → Nat
  | .node k _ _ _ es => Ex.highs es + (if k = 14 then 0 else 1)
def Ex.highs : List Ex → Nat
  | [] => 0
  | e :: r => max e.high (Ex.highs r)
end
theorem Ex.highs_take (es : List Ex) : ∀ k (h : k < es.length), Ex.highs (es.take (k + 1)) = max (Ex.highs (es.take k)) es[k].high := by
  induction es with
  | nil => intro k h; simp at h
  | cons s r ih =>
    intro k h
    cases k with
    | zero => simp [Ex.highs]
    | succ k =>
      simp only [List.take_succ_cons, Ex.highs, List.getElem_cons_succ]
      rw [ih k (by simpa using h)]; omega
mutual
theorem Ex.high_le : ∀ e : Ex, e.high ≤ 1 + e.bulk
  | .node k nm n ty es => by have := Ex.highs_le es; simp only [Ex.high, Ex.bulk]; split <;> omega
theorem Ex.highs_le : ∀ es : List Ex, Ex.highs es ≤ Ex.bulks es
  | [] => Nat.le_refl _
  | e :: r => by have := Ex.high_le e; have := Ex.highs_le r; simp only [Ex.highs, Ex.bulks]; omega
end
theorem Ex.highs_part (es : List Ex) (k : Nat) : Ex.highs (es.take k) ≤ Ex.bulks es := Nat.le_trans (Ex.highs_le _) (Ex.bulks_le es k)
theorem specBit (b : Bool) (w : World) : Calls Tryd.prog 103 #[.bool b] w fun e w' => e = .returned (.int .i64 (if b then 1 else 0)) ∧ w' = w := by
  cases b
  · go_enter Tryd.func103, Tryd.ntmps103
    go_wp2_with fail
    go_ret
    exact ⟨rfl, rfl⟩
  · go_enter Tryd.func103, Tryd.ntmps103
    go_wp2_with fail
    go_ret
    exact ⟨rfl, rfl⟩
end Go.Proofs.YtcohfbdhdngplaaDoor
