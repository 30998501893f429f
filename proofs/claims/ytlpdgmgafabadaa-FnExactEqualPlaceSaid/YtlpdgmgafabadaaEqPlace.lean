/-
  Proved: laws.eqPlace answers true for two readings of the same place, and changes no memory that was there.
-/
import Derived.Test.YtlpdgmgafabadaaPlMem
import Derived.Test.YtlpdgmgafabadaaEqBinds
namespace Go.Proofs.Ytlpdgmgafabadaa
open Go.RowKit

set_option maxRecDepth 100000 in
set_option maxHeartbeats 2000000 in
theorem eqPlace (d : Nat) (v1 v2 : Value) (t : Pl) (w : World) (h1 : PlAt w d v1 t) (h2 : PlAt w d v2 t) :
    Calls Try.prog 32 #[v1, v2] w (EqTrueEnd w) := by
  cases t with
  | mk cs ana ty =>
    obtain ⟨ca, cn, cc, tk, ta, tn, tc, rfl, hc1, ht1⟩ := h1
    obtain ⟨da, dn, dc, uk, ua, un, uc, rfl, hc2, ht2⟩ := h2
    dsimp only at hc1 ht1 hc2 ht2 ⊢
    have e2 : Below w.heap.size w ((w.alloc (.cells #[.slice ca cn cc, .bool ana, .int .i64 tk, .slice ta tn tc] 51)).alloc (.cells #[.slice da dn dc, .bool ana, .int .i64 uk, .slice ua un uc] 51)) := ((Below.refl _ _).alloc (Nat.le_refl _) _).alloc (by simp) _
    have HC1 := Lib.hid (hc1.below e2)
    have HC2 := Lib.hid (hc2.below e2)
    have HT1 := Lib.hid (ht1.below e2)
    have HT2 := Lib.hid (ht2.below e2)
    clear e2 hc1 ht1 hc2 ht2
    go_enter Try.func32, Try.ntmps32
    go_wp2_with fail
    refine (eqBis d _ _ cs _ HC1.out HC2.out).mono ?_
    rintro e' w1 ⟨rfl, hb1⟩
    have HB := Lib.hid (two_on (Below.refl _ _) hb1)
    replace HT1 := Lib.hid (HT1.out.below hb1)
    replace HT2 := Lib.hid (HT2.out.below hb1)
    clear hb1
    have c1 := two_first HB.out 1
    have u1 := two_next HB.out 1
    have c2 := two_first HB.out 2
    have u2 := two_next HB.out 2
    have c3 := two_first HB.out 3
    have u3 := two_next HB.out 3
    go_wp2_with fail
    clear c1 u1 c2 u2 c3 u3
    refine (eqTy_all d _ _ ty _ HT1.out HT2.out).mono ?_
    rintro e' w2 ⟨rfl, hb2⟩
    replace HB := Lib.hid (two_on HB.out hb2)
    clear hb2
    go_wp2_with fail
    go_ret
    exact ⟨rfl, two_below HB.out⟩
end Go.Proofs.Ytlpdgmgafabadaa
