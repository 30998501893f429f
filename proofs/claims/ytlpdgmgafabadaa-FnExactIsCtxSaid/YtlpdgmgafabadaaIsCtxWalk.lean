/-
  Proved: the law FnExactIsCtx answers true for every list of typings, and leaves the memory that was there as it was.
-/
import Derived.Test.YtlpdgmgafabadaaSzBinds
import Derived.Test.YtlpdgmgafabadaaToBinds
import Derived.Test.YtlpdgmgafabadaaEqBinds
import Derived.Test.YtlpdgmgafabadaaSpecCtx
import Derived.Test.YtlpdgmgafabadaaImplCtx
namespace Go.Proofs.Ytlpdgmgafabadaa
open Go.RowKit

set_option maxRecDepth 100000 in
set_option maxHeartbeats 2000000 in
theorem isCtxWalk (d : Nat) (v : Value) (bs : List Bi) (w : World) (h : BisAt w d v bs) :
    Calls Try.prog 5 #[v] w fun e w' => e = .returned (.bool true) ∧ Below w.heap.size w w' := by
  have HA := Lib.hid h
  have B : Hid (Below w.heap.size w w) := Below.refl _ _
  obtain ⟨a, cap, rfl, _⟩ := h
  go_enter Try.func5, Try.ntmps5
  go_wp2_with fail
  refine (szBis d _ bs 1048576 _ (by omega) (by omega) HA.out).mono ?_
  rintro e w1 ⟨r, rfl, hb, hr⟩
  replace B := Lib.hid (below_thru B.out (Nat.le_refl _) hb)
  replace HA := Lib.hid (HA.out.below hb)
  clear hb
  rcases hr with ⟨hr, hs⟩ | ⟨hr, hs⟩
  · go_wp2_with fail
    go_ret
    exact ⟨rfl, B.out⟩
  have hn : Bi.bulks bs ≤ 1048576 := by omega
  clear hs
  go_wp2_with fail
  refine (toBis d _ bs _ hn HA.out).mono ?_
  rintro e w2 ⟨s, rfl, hs, hb⟩
  replace B := Lib.hid (below_thru B.out (Nat.le_refl _) hb)
  replace HA := Lib.hid (HA.out.below hb)
  clear hb
  go_wp2_with fail
  refine (specCtx d s bs _ hs hn).mono ?_
  rintro e w3 ⟨rfl, hb⟩
  replace B := Lib.hid (below_thru B.out (Nat.le_refl _) hb)
  replace HA := Lib.hid (HA.out.below hb)
  clear hb hs
  go_wp2_with fail
  refine (toBis d _ bs _ hn HA.out).mono ?_
  rintro e w4 ⟨x, rfl, hx, hb⟩
  replace B := Lib.hid (below_thru B.out (Nat.le_refl _) hb)
  replace HA := Lib.hid (HA.out.below hb)
  clear hb
  have HX := Lib.hid hx
  clear hx
  go_wp2_with fail
  refine (implCtx d x bs _ HX.out hn).mono ?_
  rintro e w5 ⟨he, hb⟩
  replace B := Lib.hid (below_thru B.out (Nat.le_refl _) hb)
  replace HA := Lib.hid (HA.out.below hb)
  replace HX := Lib.hid (HX.out.below hb)
  clear hb
  subst he
  go_wp2_with fail
  refine (toBis d _ bs _ hn HA.out).mono ?_
  rintro e w6 ⟨y, rfl, hy, hb⟩
  replace B := Lib.hid (below_thru B.out (Nat.le_refl _) hb)
  replace HX := Lib.hid (HX.out.below hb)
  clear hb
  go_wp2_with fail
  refine (eqBis d x y bs _ HX.out hy).mono ?_
  rintro e w7 ⟨rfl, hb⟩
  replace B := Lib.hid (below_thru B.out (Nat.le_refl _) hb)
  clear hb hy
  go_wp2_with fail
  go_ret
  exact ⟨rfl, B.out⟩
end Go.Proofs.Ytlpdgmgafabadaa
