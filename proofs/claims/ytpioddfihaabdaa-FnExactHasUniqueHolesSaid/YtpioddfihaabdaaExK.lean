/-
  Proved: plain facts on how many nodes of a kind an expression has; spec.l1Bit.
-/
import Derived.Test.YtpioddfihaabdaaExTree
namespace Go.Proofs.Ytpioddfihaabdaa
open Go.RowKit

mutual
/-- The nodes of the kind K. -/
def Ex.kcount (K : Int) : Ex → Nat
  | .node k _ _ _ es => (if k = K then 1 else 0) + Ex.kcounts K es
def Ex.kcounts (K : Int) : List Ex → Nat
  | [] => 0
  | e :: r => e.kcount K + Ex.kcounts K r
end
theorem Ex.kcounts_take (K : Int) (es : List Ex) : ∀ k (h : k < es.length), Ex.kcounts K (es.take (k + 1)) = Ex.kcounts K (es.take k) + es[k].kcount K := by
  induction es with
  | nil => intro k h; simp at h
  | cons s r ih =>
    intro k h
    cases k with
    | zero => simp [Ex.kcounts]
    | succ k =>
      simp only [List.take_succ_cons, Ex.kcounts, List.getElem_cons_succ]
      rw [ih k (by simpa using h)]; omega
mutual
theorem Ex.kcount_le (K : Int) : ∀ e : Ex, e.kcount K ≤ 1 + e.bulk
  | .node k nm n ty es => by have := Ex.kcounts_le K es; simp only [Ex.kcount, Ex.bulk]; split <;> omega
theorem Ex.kcounts_le (K : Int) : ∀ es : List Ex, Ex.kcounts K es ≤ Ex.bulks es
  | [] => Nat.le_refl _
  | e :: r => by have := Ex.kcount_le K e; have := Ex.kcounts_le K r; simp only [Ex.kcounts, Ex.bulks]; omega
end
theorem Ex.kcounts_part (K : Int) (es : List Ex) (k : Nat) : Ex.kcounts K (es.take k) ≤ Ex.bulks es := Nat.le_trans (Ex.kcounts_le K _) (Ex.bulks_le es k)
theorem specBitK (b : Bool) (w : World) : Calls Try.prog 14 #[.bool b] w fun e w' => e = .returned (.int .i64 (if b then 1 else 0)) ∧ w' = w := by
  cases b
  · go_enter Try.func14, Try.ntmps14
    go_wp2_with fail
    go_ret
    exact ⟨rfl, rfl⟩
  · go_enter Try.func14, Try.ntmps14
    go_wp2_with fail
    go_ret
    exact ⟨rfl, rfl⟩
end Go.Proofs.Ytpioddfihaabdaa
