/-
  Proved: laws.eqClosure answers true for two readings of the same value, and changes no memory that was there.
-/
import Derived.Test.YtajikfageppobaaAtClo
import Derived.Test.YtajikfageppobaaEnvBase
namespace Go.Proofs.Ytajikfageppobaa
open Go.RowKit

set_option maxRecDepth 100000 in
set_option maxHeartbeats 4000000 in
theorem eqClo (d : Nat) (v1 v2 : Value) (x : Clo) (w : World) (h : CloAt w d v1 x) (h' : CloAt w d v2 x) :
    Calls Try.prog 28 #[v1, v2] w (EqTrueEnd w) := by
  cases x with
  | mk x1 x2 x3 =>
    obtain ⟨pbi, pcb, pda, pdn, pdc, rfl, h1, h2, h3⟩ := h
    obtain ⟨ubi, ucb, uda, udn, udc, rfl, k1, k2, k3⟩ := h'
    dsimp only at h1 h2 h3 k1 k2 k3 ⊢
    unfold IntAt at h1 k1
    simp only [Value.int.injEq, true_and] at h1 k1
    have h1' := h1.symm
    have k1' := k1.symm
    subst h1' k1'
    unfold BoolAt at h2 k2
    simp only [Value.bool.injEq] at h2 k2
    have h2' := h2.symm
    have k2' := k2.symm
    subst h2' k2'
    have e2 : Below w.heap.size w ((w.alloc (.cells #[.int .i64 x1, .bool x2, .slice pda pdn pdc] 53)).alloc (.cells #[.int .i64 x1, .bool x2, .slice uda udn udc] 53)) := ((Below.refl _ _).alloc (Nat.le_refl _) _).alloc (by simp) _
    have H3 := Lib.hid (h3.below e2)
    have J3 := Lib.hid (k3.below e2)
    clear e2 h3 k3
    go_enter Try.func28, Try.ntmps28
    go_wp2_with fail
    refine (eqEnv d _ _ x3 _ H3.out J3.out).mono ?_
    rintro e' w3 ⟨rfl, hb⟩
    have HB := Lib.hid (two_on (Below.refl _ _) hb)
    clear hb H3 J3
    go_wp2_with fail
    go_ret
    exact ⟨rfl, two_below HB.out⟩
end Go.Proofs.Ytajikfageppobaa
