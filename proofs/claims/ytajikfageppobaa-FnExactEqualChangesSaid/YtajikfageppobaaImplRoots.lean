/-
  Proved: impl.equalRoots compares the roots of two expressions; the memory that was there stays as it was.
-/
import Derived.Test.YtajikfageppobaaExEq
import Derived.Test.YtajikfageppobaaImplEqual
namespace Go.Proofs.Ytajikfageppobaa
open Go.RowKit

set_option maxRecDepth 100000 in
set_option maxHeartbeats 2000000 in
theorem implRoots (d : Nat) (v1 v2 : Value) (t1 t2 : Ex) (w : World) (h1 : ExAt w d v1 t1) (h2 : ExAt w d v2 t2) :
    Calls Try.prog 99 #[v1, v2] w fun e w' => e = .returned (.bool (t1.roots t2)) ∧ Below w.heap.size w w' := by
  cases d with
  | zero => exact h1.elim
  | succ d =>
  cases t1 with
  | node k1 nm1 n1 ty1 cs =>
  cases t2 with
  | node k2 nm2 n2 ty2 bs =>
    have HV1 := ex_parts h1
    obtain ⟨c13, c14, sl1, rfl, hk10, hk11, hn10, hn11, hm1, hty1, sa1, sc1, rfl, hcap1, hcp1, hat1⟩ := h1
    obtain ⟨k', nm', n', tk1, ta1, tn1, tc1, sa', sn', sc', hv⟩ := HV1
    injection hv with hv
    injection hv with hv
    simp at hv
    obtain ⟨rfl, rfl, rfl, rfl, rfl, rfl, rfl, rfl⟩ := hv
    have HV2 := ex_parts h2
    obtain ⟨c23, c24, sl2, rfl, hk20, hk21, hn20, hn21, hm2, hty2, sa2, sc2, rfl, hcap2, hcp2, hat2⟩ := h2
    obtain ⟨k', nm', n', tk2, ta2, tn2, tc2, sa', sn', sc', hv⟩ := HV2
    injection hv with hv
    injection hv with hv
    simp at hv
    obtain ⟨rfl, rfl, rfl, rfl, rfl, rfl, rfl, rfl⟩ := hv
    have e2 : Below w.heap.size w ((w.alloc (.cells #[.int .i64 k1, .string nm1, .int .i64 n1, .int .i64 tk1, .slice ta1 tn1 tc1, .slice sa1 cs.length sc1] 42)).alloc (.cells #[.int .i64 k2, .string nm2, .int .i64 n2, .int .i64 tk2, .slice ta2 tn2 tc2, .slice sa2 bs.length sc2] 42)) := ((Below.refl _ _).alloc (Nat.le_refl _) _).alloc (by simp) _
    have HY1 := Lib.hid (hty1.below e2)
    have HY2 := Lib.hid (hty2.below e2)
    have HE := Lib.hid e2
    have HA1 := Lib.hid hat1
    have HA2 := Lib.hid hat2
    clear e2 hty1 hty2 hat1 hat2
    by_cases q1 : k1 = k2
    case neg =>
      have HR : Hid ((Ex.node k1 nm1 n1 ty1 cs).roots (Ex.node k2 nm2 n2 ty2 bs) = false) := by show _ = _; simp [Ex.roots, q1]
      go_enter Try.func99, Try.ntmps99
      go_wp2_with fail
      go_ret
      exact ⟨by rw [HR.out]; rfl, HE.out⟩
    subst q1
    by_cases q2 : nm1 = nm2
    case neg =>
      have q2b : (nm1.toList == nm2.toList) = false := text_ne q2
      have HR : Hid ((Ex.node k1 nm1 n1 ty1 cs).roots (Ex.node k1 nm2 n2 ty2 bs) = false) := by show _ = _; simp [Ex.roots, q2]
      go_enter Try.func99, Try.ntmps99
      go_wp2_with fail
      go_ret
      exact ⟨by rw [HR.out]; rfl, HE.out⟩
    subst q2
    by_cases q3 : n1 = n2
    case neg =>
      have HR : Hid ((Ex.node k1 nm1 n1 ty1 cs).roots (Ex.node k1 nm1 n2 ty2 bs) = false) := by show _ = _; simp [Ex.roots, q3]
      go_enter Try.func99, Try.ntmps99
      go_wp2_with fail
      go_ret
      exact ⟨by rw [HR.out]; rfl, HE.out⟩
    subst q3
    go_enter Try.func99, Try.ntmps99
    go_wp2_with fail
    refine (implEqual d _ _ ty1 ty2 _ HY1.out HY2.out).mono ?_
    rintro e w1 ⟨rfl, hb⟩
    have HB := Lib.hid (two_on (Below.refl _ _) hb); clear hb
    have p5 := two_first HB.out 5
    have r5 := two_next HB.out 5
    cases hq : ty1.beq ty2 with
    | false =>
      have HR : Hid ((Ex.node k1 nm1 n1 ty1 cs).roots (Ex.node k1 nm1 n1 ty2 bs) = false) := by show _ = _; simp [Ex.roots, hq]
      go_wp2_with fail
      go_ret
      exact ⟨by rw [HR.out]; rfl, two_below HB.out⟩
    | true =>
      by_cases q5 : cs.length = bs.length
      · have q5b : ((cs.length : Int) == (bs.length : Int)) = true := by simp [q5]
        have HR : Hid ((Ex.node k1 nm1 n1 ty1 cs).roots (Ex.node k1 nm1 n1 ty2 bs) = true) := by show _ = _; simp [Ex.roots, hq, q5]
        clear q5
        go_wp2_with fail
        go_ret
        exact ⟨by rw [HR.out]; rfl, two_below HB.out⟩
      · have q5b : ((cs.length : Int) == (bs.length : Int)) = false := by simpa using (fun e => q5 (by omega))
        have HR : Hid ((Ex.node k1 nm1 n1 ty1 cs).roots (Ex.node k1 nm1 n1 ty2 bs) = false) := by show _ = _; simp [Ex.roots, q5]
        clear q5
        go_wp2_with fail
        go_ret
        exact ⟨by rw [HR.out]; rfl, two_below HB.out⟩
end Go.Proofs.Ytajikfageppobaa
