/-
  Proved: laws.eqAction answers true for two readings of the same action, and changes no memory that was there.
-/
import Derived.Test.YtdgfkmnnjhlpbaaDoorActAt
import Derived.Test.YtdgfkmnnjhlpbaaDoorEqType
import Derived.Test.YtdgfkmnnjhlpbaaDoorTyEq
namespace Go.Proofs.YtdgfkmnnjhlpbaaDoor
open Go.RowKit

set_option maxRecDepth 100000 in
set_option maxHeartbeats 1000000 in
theorem eqAct (d : Nat) (v1 v2 : Value) (t : Act) (w : World) (h1 : ActAt w d v1 t) (h2 : ActAt w d v2 t) :
    Calls Tryd.prog 15 #[v1, v2] w (EqTrueEnd w) := by
  cases t with
  | mk kd nm n ty =>
    obtain ⟨tk, ta, tn, tc, rfl, hk0, hk1, hn0, hn1, hnm, hty1⟩ := h1
    obtain ⟨uk, ua, un, uc, rfl, _, _, _, _, _, hty2⟩ := h2
    dsimp only at hk0 hk1 hn0 hn1 hnm hty1 hty2 ⊢
    have e2 : Below w.heap.size w ((w.alloc (.cells #[.int .i64 kd, .string nm, .int .i64 n, .int .i64 tk, .slice ta tn tc] 33)).alloc (.cells #[.int .i64 kd, .string nm, .int .i64 n, .int .i64 uk, .slice ua un uc] 33)) := ((Below.refl _ _).alloc (Nat.le_refl _) _).alloc (by simp) _
    have HY1 := Lib.hid (hty1.below e2)
    have HY2 := Lib.hid (hty2.below e2)
    have HE := Lib.hid e2; clear e2 hty1 hty2
    go_enter Tryd.func15, Tryd.ntmps15
    go_wp2_with fail
    refine (eqTy_all d _ _ ty _ HY1.out HY2.out).mono ?_
    rintro e w' ⟨rfl, hb1⟩
    have HB := Lib.hid (two_on (Below.refl _ _) hb1)
    clear hb1
    go_wp2_with fail
    go_ret
    exact ⟨rfl, two_below HB.out⟩
end Go.Proofs.YtdgfkmnnjhlpbaaDoor
