/-
  Proved: impl.EqualEdit says whether two edits are equal; it leaves the memory that was there as it was.
-/
import Derived.Test.YtlpdgmgafabadaaEdEq
import Derived.Test.YtlpdgmgafabadaaImplExEqual
import Derived.Test.YtlpdgmgafabadaaLibEqInts
namespace Go.Proofs.Ytlpdgmgafabadaa
open Go.RowKit

set_option maxRecDepth 100000 in
set_option maxHeartbeats 1000000 in
theorem implEqualEdit (d : Nat) (v1 v2 : Value) (t1 t2 : Edi) (w : World) (h1 : EditAt w d v1 t1) (h2 : EditAt w d v2 t2) (hn1 : t1.bulk ≤ 1048576) (hn2 : t2.bulk ≤ 1048576) :
    Calls Try.prog 41 #[v1, v2] w fun e w' => e = .returned (.bool (t1.beq t2)) ∧ Below w.heap.size w w' := by
  cases t1 with
  | mk e1 p1 =>
  cases t2 with
  | mk e2 p2 =>
    obtain ⟨k, nm, n, tk, ta, tn, tc, sa, sn, sc, pa, pn, pc, rfl, he1, hp1, hl1⟩ := h1
    obtain ⟨uk, unm, un, utk, uta, utn, utc, usa, usn, usc, upa, upn, upc, rfl, he2, hp2, hl2⟩ := h2
    dsimp only at he1 hp1 hl1 he2 hp2 hl2 ⊢
    have hm1 : p1.length ≤ 1048576 := by have : (Edi.mk e1 p1).bulk = e1.bulk + p1.length := rfl; omega
    have hm2 : p2.length ≤ 1048576 := by have : (Edi.mk e2 p2).bulk = e2.bulk + p2.length := rfl; omega
    have hq : Hid ((Edi.mk e1 p1).beq (Edi.mk e2 p2) = (e1.beq e2 && decide (p1 = p2))) := rfl
    clear hn1 hn2 hl1 hl2
    have e3 : Below w.heap.size w ((w.alloc (.cells #[.int .i64 k, .string nm, .int .i64 n, .int .i64 tk, .slice ta tn tc, .slice sa sn sc, .slice pa pn pc] 59)).alloc (.cells #[.int .i64 uk, .string unm, .int .i64 un, .int .i64 utk, .slice uta utn utc, .slice usa usn usc, .slice upa upn upc] 59)) := ((Below.refl _ _).alloc (Nat.le_refl _) _).alloc (by simp) _
    have HE1 := Lib.hid (he1.below e3)
    have HE2 := Lib.hid (he2.below e3)
    have HP1 := Lib.hid (hp1.below e3)
    have HP2 := Lib.hid (hp2.below e3)
    clear e3 he1 hp1 he2 hp2
    go_enter Try.func41, Try.ntmps41
    go_wp2_with fail
    refine (implExEqual d _ _ e1 e2 _ HE1.out HE2.out).mono ?_
    rintro e' w1 ⟨rfl, hb1⟩
    have HB := Lib.hid (two_on (Below.refl _ _) hb1)
    replace HP1 := Lib.hid (HP1.out.below hb1)
    replace HP2 := Lib.hid (HP2.out.below hb1)
    clear hb1
    cases hv : e1.beq e2 with
    | false =>
      rw [hv] at hq
      have HV := Lib.hid hv; clear hv
      go_wp2_with fail
      go_ret
      exact ⟨by rw [hq.out]; rfl, two_below HB.out⟩
    | true =>
      rw [hv] at hq
      have HV := Lib.hid hv; clear hv
      have c6 := two_first HB.out 6
      have u6 := two_next HB.out 6
      go_wp2_with fail
      clear c6 u6
      refine (libEqualInts _ _ p1 p2 hm1 hm2 _ HP1.out HP2.out).mono ?_
      rintro e' w2 ⟨rfl, hb2⟩
      replace HB := Lib.hid (two_on HB.out hb2)
      clear hb2
      go_wp2_with fail
      go_ret
      exact ⟨by rw [hq.out]; rfl, two_below HB.out⟩
end Go.Proofs.Ytlpdgmgafabadaa
