/-
  Proved: laws.eqConflict answers true for two readings of the same value, and changes no memory that was there.
-/
import Derived.Test.YtajikfageppobaaAtCfl
import Derived.Test.YtajikfageppobaaRecBase
namespace Go.Proofs.Ytajikfageppobaa
open Go.RowKit

set_option maxRecDepth 100000 in
set_option maxHeartbeats 4000000 in
theorem eqCfl (d : Nat) (v1 v2 : Value) (x : Cfl) (w : World) (h : CflAt w d v1 x) (h' : CflAt w d v2 x) :
    Calls Try.prog 71 #[v1, v2] w (EqTrueEnd w) := by
  cases x with
  | mk x1 x2 =>
    obtain ⟨pba, pbn, pbc, pca, pcn, pcc, rfl, h1, h2⟩ := h
    obtain ⟨uba, ubn, ubc, uca, ucn, ucc, rfl, k1, k2⟩ := h'
    dsimp only at h1 h2 k1 k2 ⊢
    have e2 : Below w.heap.size w ((w.alloc (.cells #[.slice pba pbn pbc, .slice pca pcn pcc] 101)).alloc (.cells #[.slice uba ubn ubc, .slice uca ucn ucc] 101)) := ((Below.refl _ _).alloc (Nat.le_refl _) _).alloc (by simp) _
    have H1 := Lib.hid (h1.below e2)
    have J1 := Lib.hid (k1.below e2)
    have H2 := Lib.hid (h2.below e2)
    have J2 := Lib.hid (k2.below e2)
    clear e2 h1 k1 h2 k2
    go_enter Try.func71, Try.ntmps71
    go_wp2_with fail
    refine (eqPath d _ _ x1 _ H1.out J1.out).mono ?_
    rintro e' w1 ⟨rfl, hb⟩
    have HB := Lib.hid (two_on (Below.refl _ _) hb)
    replace H2 := Lib.hid (H2.out.below hb)
    replace J2 := Lib.hid (J2.out.below hb)
    clear hb H1 J1
    have c1 := two_first HB.out 1
    have u1 := two_next HB.out 1
    go_wp2_with fail
    clear c1 u1
    refine (eqPath d _ _ x2 _ H2.out J2.out).mono ?_
    rintro e' w2 ⟨rfl, hb⟩
    replace HB := Lib.hid (two_on HB.out hb)
    clear hb H2 J2
    go_wp2_with fail
    go_ret
    exact ⟨rfl, two_below HB.out⟩
end Go.Proofs.Ytajikfageppobaa
