/-
  Proved: laws.eqEdit answers true for two readings of the same value, and changes no memory that was there.
-/
import Derived.Test.YtcohfbdhdngplaaAtEdt
import Derived.Test.YtcohfbdhdngplaaRecBase
namespace Go.Proofs.Ytcohfbdhdngplaa
open Go.RowKit

set_option maxRecDepth 100000 in
set_option maxHeartbeats 4000000 in
theorem eqEdt (d : Nat) (v1 v2 : Value) (x : Edt) (w : World) (h : EdtAt w d v1 x) (h' : EdtAt w d v2 x) :
    Calls Try.prog 77 #[v1, v2] w (EqTrueEnd w) := by
  cases x with
  | mk x1 x2 =>
    obtain ⟨pbk, pbnm, pbm, pbtk, pbta, pbtn, pbtc, pbsa, pbsn, pbsc, pca, pcn, pcc, rfl, h1, h2⟩ := h
    obtain ⟨ubk, ubnm, ubm, ubtk, ubta, ubtn, ubtc, ubsa, ubsn, ubsc, uca, ucn, ucc, rfl, k1, k2⟩ := h'
    dsimp only at h1 h2 k1 k2 ⊢
    have e2 : Below w.heap.size w ((w.alloc (.cells #[.int .i64 pbk, .string pbnm, .int .i64 pbm, .int .i64 pbtk, .slice pbta pbtn pbtc, .slice pbsa pbsn pbsc, .slice pca pcn pcc] 53)).alloc (.cells #[.int .i64 ubk, .string ubnm, .int .i64 ubm, .int .i64 ubtk, .slice ubta ubtn ubtc, .slice ubsa ubsn ubsc, .slice uca ucn ucc] 53)) := ((Below.refl _ _).alloc (Nat.le_refl _) _).alloc (by simp) _
    have H1 := Lib.hid (h1.below e2)
    have J1 := Lib.hid (k1.below e2)
    have H2 := Lib.hid (h2.below e2)
    have J2 := Lib.hid (k2.below e2)
    clear e2 h1 k1 h2 k2
    go_enter Try.func77, Try.ntmps77
    go_wp2_with fail
    refine (eqExr d _ _ x1 _ H1.out J1.out).mono ?_
    rintro e' w1 ⟨rfl, hb⟩
    have HB := Lib.hid (two_on (Below.refl _ _) hb)
    replace H2 := Lib.hid (H2.out.below hb)
    replace J2 := Lib.hid (J2.out.below hb)
    clear hb H1 J1
    have c6 := two_first HB.out 6
    have u6 := two_next HB.out 6
    go_wp2_with fail
    clear c6 u6
    refine (eqPath d _ _ x2 _ H2.out J2.out).mono ?_
    rintro e' w2 ⟨rfl, hb⟩
    replace HB := Lib.hid (two_on HB.out hb)
    clear hb H2 J2
    go_wp2_with fail
    go_ret
    exact ⟨rfl, two_below HB.out⟩
end Go.Proofs.Ytcohfbdhdngplaa
