/-
  Proved: laws.eqHistory answers true for two readings of the same value, and changes no memory that was there.
-/
import Derived.Test.YtcohfbdhdngplaaAtHis
import Derived.Test.YtcohfbdhdngplaaEqEdts
import Derived.Test.YtcohfbdhdngplaaEqEdt
namespace Go.Proofs.Ytcohfbdhdngplaa
open Go.RowKit

set_option maxRecDepth 100000 in
set_option maxHeartbeats 4000000 in
theorem eqHis (d : Nat) (v1 v2 : Value) (x : His) (w : World) (h : HisAt w d v1 x) (h' : HisAt w d v2 x) :
    Calls Try.prog 26 #[v1, v2] w (EqTrueEnd w) := by
  cases x with
  | mk x1 x2 x3 =>
    obtain ⟨pba, pbn, pbc, pcbk, pcbnm, pcbm, pcbtk, pcbta, pcbtn, pcbtc, pcbsa, pcbsn, pcbsc, pcca, pccn, pccc, pda, pdn, pdc, rfl, h1, h2, h3⟩ := h
    obtain ⟨uba, ubn, ubc, ucbk, ucbnm, ucbm, ucbtk, ucbta, ucbtn, ucbtc, ucbsa, ucbsn, ucbsc, ucca, uccn, uccc, uda, udn, udc, rfl, k1, k2, k3⟩ := h'
    dsimp only at h1 h2 h3 k1 k2 k3 ⊢
    have e2 : Below w.heap.size w ((w.alloc (.cells #[.slice pba pbn pbc, .int .i64 pcbk, .string pcbnm, .int .i64 pcbm, .int .i64 pcbtk, .slice pcbta pcbtn pcbtc, .slice pcbsa pcbsn pcbsc, .slice pcca pccn pccc, .slice pda pdn pdc] 55)).alloc (.cells #[.slice uba ubn ubc, .int .i64 ucbk, .string ucbnm, .int .i64 ucbm, .int .i64 ucbtk, .slice ucbta ucbtn ucbtc, .slice ucbsa ucbsn ucbsc, .slice ucca uccn uccc, .slice uda udn udc] 55)) := ((Below.refl _ _).alloc (Nat.le_refl _) _).alloc (by simp) _
    have H1 := Lib.hid (h1.below e2)
    have J1 := Lib.hid (k1.below e2)
    have H2 := Lib.hid (h2.below e2)
    have J2 := Lib.hid (k2.below e2)
    have H3 := Lib.hid (h3.below e2)
    have J3 := Lib.hid (k3.below e2)
    clear e2 h1 k1 h2 k2 h3 k3
    go_enter Try.func26, Try.ntmps26
    go_wp2_with fail
    refine (eqEdts d _ _ x1 _ H1.out J1.out).mono ?_
    rintro e' w1 ⟨rfl, hb⟩
    have HB := Lib.hid (two_on (Below.refl _ _) hb)
    replace H2 := Lib.hid (H2.out.below hb)
    replace J2 := Lib.hid (J2.out.below hb)
    replace H3 := Lib.hid (H3.out.below hb)
    replace J3 := Lib.hid (J3.out.below hb)
    clear hb H1 J1
    have c1 := two_first HB.out 1
    have u1 := two_next HB.out 1
    have c2 := two_first HB.out 2
    have u2 := two_next HB.out 2
    have c3 := two_first HB.out 3
    have u3 := two_next HB.out 3
    have c4 := two_first HB.out 4
    have u4 := two_next HB.out 4
    have c5 := two_first HB.out 5
    have u5 := two_next HB.out 5
    have c6 := two_first HB.out 6
    have u6 := two_next HB.out 6
    have c7 := two_first HB.out 7
    have u7 := two_next HB.out 7
    go_wp2_with fail
    clear c1 u1 c2 u2 c3 u3 c4 u4 c5 u5 c6 u6 c7 u7
    refine (eqEdt d _ _ x2 _ H2.out J2.out).mono ?_
    rintro e' w2 ⟨rfl, hb⟩
    replace HB := Lib.hid (two_on HB.out hb)
    replace H3 := Lib.hid (H3.out.below hb)
    replace J3 := Lib.hid (J3.out.below hb)
    clear hb H2 J2
    have c8 := two_first HB.out 8
    have u8 := two_next HB.out 8
    go_wp2_with fail
    clear c8 u8
    refine (eqEdts d _ _ x3 _ H3.out J3.out).mono ?_
    rintro e' w3 ⟨rfl, hb⟩
    replace HB := Lib.hid (two_on HB.out hb)
    clear hb H3 J3
    go_wp2_with fail
    go_ret
    exact ⟨rfl, two_below HB.out⟩
end Go.Proofs.Ytcohfbdhdngplaa
