/-
  Proved: laws.eqEdit answers true for two readings of the same edit, and changes no memory that was there.
-/
import Derived.Test.YtimigpdbegfjaaaGreatDoorEditAt
import Derived.Test.YtimigpdbegfjaaaGreatDoorEqExpr
import Derived.Test.YtimigpdbegfjaaaGreatDoorEqInts
import Derived.Test.YtimigpdbegfjaaaGreatDoorTyEq
namespace Go.Proofs.YtimigpdbegfjaaaGreatDoor
open Go.RowKit

set_option maxRecDepth 100000 in
set_option maxHeartbeats 1000000 in
theorem eqEdit (d : Nat) (v1 v2 : Value) (t : Edi) (w : World) (h1 : EditAt w d v1 t) (h2 : EditAt w d v2 t) :
    Calls Tryz.prog 8 #[v1, v2] w (EqTrueEnd w) := by
  cases t with
  | mk e ps =>
    obtain ⟨k, nm, n, tk, ta, tn, tc, sa, sn, sc, pa, pn, pc, rfl, he1, hp1, hl⟩ := h1
    obtain ⟨uk, unm, un, utk, uta, utn, utc, usa, usn, usc, upa, upn, upc, rfl, he2, hp2, _⟩ := h2
    dsimp only at he1 hp1 he2 hp2 hl ⊢
    have e2 : Below w.heap.size w ((w.alloc (.cells #[.int .i64 k, .string nm, .int .i64 n, .int .i64 tk, .slice ta tn tc, .slice sa sn sc, .slice pa pn pc] 40)).alloc (.cells #[.int .i64 uk, .string unm, .int .i64 un, .int .i64 utk, .slice uta utn utc, .slice usa usn usc, .slice upa upn upc] 40)) := ((Below.refl _ _).alloc (Nat.le_refl _) _).alloc (by simp) _
    have HE1 := Lib.hid (he1.below e2)
    have HE2 := Lib.hid (he2.below e2)
    have HP1 := Lib.hid (hp1.below e2)
    have HP2 := Lib.hid (hp2.below e2)
    clear e2 he1 hp1 he2 hp2
    go_enter Tryz.func8, Tryz.ntmps8
    go_wp2_with fail
    refine (eqEx_all d _ _ e _ HE1.out HE2.out).mono ?_
    rintro e' w1 ⟨rfl, hb1⟩
    have HB := Lib.hid (two_on (Below.refl _ _) hb1)
    replace HP1 := Lib.hid (HP1.out.below hb1)
    replace HP2 := Lib.hid (HP2.out.below hb1)
    clear hb1
    have c6 := two_first HB.out 6
    have u6 := two_next HB.out 6
    go_wp2_with fail
    clear c6 u6
    refine (eqInts _ _ ps hl _ HP1.out HP2.out).mono ?_
    rintro e' w2 ⟨rfl, hb2⟩
    replace HB := Lib.hid (two_on HB.out hb2)
    clear hb2
    go_wp2_with fail
    go_ret
    exact ⟨rfl, two_below HB.out⟩
end Go.Proofs.YtimigpdbegfjaaaGreatDoor
