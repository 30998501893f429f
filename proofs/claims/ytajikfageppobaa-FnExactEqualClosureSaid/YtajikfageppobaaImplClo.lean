/-
  Proved: impl.EqualClosure says whether two closures are equal; the memory that was there stays as it was.
-/
import Derived.Test.YtajikfageppobaaPeqClo
import Derived.Test.YtajikfageppobaaImplCoEqual
import Derived.Test.YtajikfageppobaaHold
namespace Go.Proofs.Ytajikfageppobaa
open Go.RowKit

set_option maxRecDepth 100000 in
set_option maxHeartbeats 2000000 in
theorem implClo (d : Nat) (v1 v2 : Value) (t1 t2 : Clo) (w : World) (h1 : CloAt w d v1 t1) (h2 : CloAt w d v2 t2) :
    Calls Try.prog 27 #[v1, v2] w fun e w' => e = .returned (.bool (t1.beq t2)) ∧ Below w.heap.size w w' := by
  cases t1 with
  | mk n1 m1 s1 =>
  cases t2 with
  | mk n2 m2 s2 =>
    obtain ⟨pbi, pcb, pda, pdn, pdc, rfl, ph1, ph2, ph3⟩ := h1
    obtain ⟨ubi, ucb, uda, udn, udc, rfl, pk1, pk2, pk3⟩ := h2
    dsimp only at ph1 ph2 ph3 pk1 pk2 pk3
    unfold IntAt at ph1 pk1
    unfold BoolAt at ph2 pk2
    simp only [Value.int.injEq, true_and] at ph1 pk1
    simp only [Value.bool.injEq] at ph2 pk2
    subst ph1 ph2 pk1 pk2
    have HQ : Hid ((Clo.mk pbi pcb s1).beq (Clo.mk ubi ucb s2) = (decide (pbi = ubi) && (decide (pcb = ucb) && ebeq s1.ns s1.vs s2.ns s2.vs))) := rfl
    have e3 : Below w.heap.size w ((w.alloc (.cells #[.int .i64 pbi, .bool pcb, .slice pda pdn pdc] 53)).alloc (.cells #[.int .i64 ubi, .bool ucb, .slice uda udn udc] 53)) := ((Below.refl _ _).alloc (Nat.le_refl _) _).alloc (by simp) _
    have H := Lib.hid (ph3.below e3)
    have J := Lib.hid (pk3.below e3)
    have B := Lib.hid e3
    clear e3 ph3 pk3
    by_cases q1 : pbi = ubi
    · subst q1
      by_cases q2 : pcb = ucb
      · subst q2
        have HK : Hid ((Clo.mk pbi pcb s1).beq (Clo.mk pbi pcb s2) = ebeq s1.ns s1.vs s2.ns s2.vs) := by show _ = _; rw [HQ.out]; simp
        clear HQ
        go_enter Try.func27, Try.ntmps27
        go_wp2_with fail
        refine (implEqualBinds d _ _ s1.ns s1.vs s2.ns s2.vs _ H.out J.out).mono ?_
        rintro e w1 ⟨rfl, hb⟩
        replace B := Lib.hid (below_thru B.out (Nat.le_refl _) hb)
        clear hb
        go_wp2_with fail
        go_ret
        exact ⟨by rw [HK.out]; rfl, B.out⟩
      · have HK : Hid ((Clo.mk pbi pcb s1).beq (Clo.mk pbi ucb s2) = false) := by show _ = _; rw [HQ.out, decide_eq_false q2]; simp
        have qb : (pcb == ucb) = false := by simp [q2]
        clear HQ
        go_enter Try.func27, Try.ntmps27
        go_wp2_with fail
        go_ret
        exact ⟨by rw [HK.out]; rfl, B.out⟩
    · have HK : Hid ((Clo.mk pbi pcb s1).beq (Clo.mk ubi ucb s2) = false) := by show _ = _; rw [HQ.out, decide_eq_false q1]; simp
      have qb : (pbi == ubi) = false := by simp [q1]
      clear HQ
      go_enter Try.func27, Try.ntmps27
      go_wp2_with fail
      go_ret
      exact ⟨by rw [HK.out]; rfl, B.out⟩
end Go.Proofs.Ytajikfageppobaa
