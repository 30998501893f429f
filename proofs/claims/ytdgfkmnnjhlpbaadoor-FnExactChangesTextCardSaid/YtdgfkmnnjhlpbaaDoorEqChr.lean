/-
  Proved: laws.eqChange answers true for two readings of the same value, and changes no memory that was there.
-/
import Derived.Test.YtdgfkmnnjhlpbaaDoorAtChr
import Derived.Test.YtdgfkmnnjhlpbaaDoorAtRPath
import Derived.Test.YtdgfkmnnjhlpbaaDoorRecBase
namespace Go.Proofs.YtdgfkmnnjhlpbaaDoor
open Go.RowKit

set_option maxRecDepth 100000 in
set_option maxHeartbeats 4000000 in
theorem eqChr (d : Nat) (v1 v2 : Value) (x : Chr) (w : World) (h : ChrAt w d v1 x) (h' : ChrAt w d v2 x) :
    Calls Tryd.prog 75 #[v1, v2] w (EqTrueEnd w) := by
  cases x with
  | mk x1 x2 =>
    obtain ⟨pba, pbn, pbc, pck, pcnm, pcm, pctk, pcta, pctn, pctc, pcsa, pcsn, pcsc, rfl, h1, h2⟩ := h
    obtain ⟨uba, ubn, ubc, uck, ucnm, ucm, uctk, ucta, uctn, uctc, ucsa, ucsn, ucsc, rfl, k1, k2⟩ := h'
    dsimp only at h1 h2 k1 k2 ⊢
    have e2 : Below w.heap.size w ((w.alloc (.cells #[.slice pba pbn pbc, .int .i64 pck, .string pcnm, .int .i64 pcm, .int .i64 pctk, .slice pcta pctn pctc, .slice pcsa pcsn pcsc] 97)).alloc (.cells #[.slice uba ubn ubc, .int .i64 uck, .string ucnm, .int .i64 ucm, .int .i64 uctk, .slice ucta uctn uctc, .slice ucsa ucsn ucsc] 97)) := ((Below.refl _ _).alloc (Nat.le_refl _) _).alloc (by simp) _
    have H1 := Lib.hid (h1.below e2)
    have J1 := Lib.hid (k1.below e2)
    have H2 := Lib.hid (h2.below e2)
    have J2 := Lib.hid (k2.below e2)
    clear e2 h1 k1 h2 k2
    go_enter Tryd.func75, Tryd.ntmps75
    go_wp2_with fail
    refine (eqRPath d _ _ x1 _ H1.out J1.out).mono ?_
    rintro e' w1 ⟨rfl, hb⟩
    have HB := Lib.hid (two_on (Below.refl _ _) hb)
    replace H2 := Lib.hid (H2.out.below hb)
    replace J2 := Lib.hid (J2.out.below hb)
    clear hb H1 J1
    have c1 := two_first HB.out 1
    have u1 := two_next HB.out 1
    have c2 := two_first HB.out 2
    have u2 := two_next HB.out 2
    have c3 := two_first HB.out 3
    have u3 := two_next HB.out 3
    have c4 := two_first HB.out 4
    have u4 := two_next HB.out 4
    have c5 := two_first HB.out 5
    have u5 := two_next HB.out 5
    have c6 := two_first HB.out 6
    have u6 := two_next HB.out 6
    go_wp2_with fail
    clear c1 u1 c2 u2 c3 u3 c4 u4 c5 u5 c6 u6
    refine (eqExr d _ _ x2 _ H2.out J2.out).mono ?_
    rintro e' w2 ⟨rfl, hb⟩
    replace HB := Lib.hid (two_on HB.out hb)
    clear hb H2 J2
    go_wp2_with fail
    go_ret
    exact ⟨rfl, two_below HB.out⟩
end Go.Proofs.YtdgfkmnnjhlpbaaDoor
