/-
  Proved: impl.EqualConflicts$1 says whether two values are equal; it leaves the memory that was there as it was.
-/
import Derived.Test.YtajikfageppobaaPeqCfl
import Derived.Test.YtajikfageppobaaRecBase
import Derived.Test.YtajikfageppobaaLibEqInts
namespace Go.Proofs.Ytajikfageppobaa
open Go.RowKit

set_option maxRecDepth 100000 in
set_option maxHeartbeats 4000000 in
theorem implCfl (d : Nat) (v1 v2 : Value) (t1 t2 : Cfl) (w : World) (h1 : CflAt w d v1 t1) (h2 : CflAt w d v2 t2) (hn1 : t1.bulk ≤ 1048576) (hn2 : t2.bulk ≤ 1048576) :
    Calls Try.prog 69 #[v1, v2] w fun e w' => e = .returned (.bool (t1.beq t2)) ∧ Below w.heap.size w w' := by
  cases t1 with
  | mk x1 x2 =>
  cases t2 with
  | mk y1 y2 =>
    obtain ⟨pba, pbn, pbc, pca, pcn, pcc, rfl, ph1, ph2⟩ := h1
    obtain ⟨uba, ubn, ubc, uca, ucn, ucc, rfl, pk1, pk2⟩ := h2
    dsimp only at ph1 ph2 pk1 pk2 ⊢
    have hb1 : (Cfl.mk x1 x2).bulk = x1.length + x2.length := rfl
    have b11 : x1.length ≤ 1048576 := by omega
    have b12 : x2.length ≤ 1048576 := by omega
    have hb2 : (Cfl.mk y1 y2).bulk = y1.length + y2.length := rfl
    have b21 : y1.length ≤ 1048576 := by omega
    have b22 : y2.length ≤ 1048576 := by omega
    have hq : Hid ((Cfl.mk x1 x2).beq (Cfl.mk y1 y2) = ((decide (x1 = y1)) && (decide (x2 = y2)))) := rfl
    clear hn1 hn2 hb1 hb2
    have e3 : Below w.heap.size w ((w.alloc (.cells #[.slice pba pbn pbc, .slice pca pcn pcc] 101)).alloc (.cells #[.slice uba ubn ubc, .slice uca ucn ucc] 101)) := ((Below.refl _ _).alloc (Nat.le_refl _) _).alloc (by simp) _
    have H1 := Lib.hid (ph1.below e3)
    have J1 := Lib.hid (pk1.below e3)
    have H2 := Lib.hid (ph2.below e3)
    have J2 := Lib.hid (pk2.below e3)
    clear e3 ph1 pk1 ph2 pk2
    go_enter Try.func69, Try.ntmps69
    go_wp2_with fail
    refine (libEqualInts _ _ x1 y1 b11 b21 _ H1.out.1 J1.out.1).mono ?_
    rintro e' w1 ⟨rfl, hb⟩
    have HB := Lib.hid (two_on (Below.refl _ _) hb)
    replace H2 := Lib.hid (H2.out.below hb)
    replace J2 := Lib.hid (J2.out.below hb)
    clear hb H1 J1
    cases hv : decide (x1 = y1) with
    | false =>
      have HK : Hid ((Cfl.mk x1 x2).beq (Cfl.mk y1 y2) = false) := by show _ = _; rw [hq.out, hv]; simp
      clear hv
      go_wp2_with fail
      go_ret
      exact ⟨by rw [HK.out]; rfl, two_below HB.out⟩
    | true =>
      rw [hv] at hq
      clear hv
      have c1 := two_first HB.out 1
      have u1 := two_next HB.out 1
      go_wp2_with fail
      clear c1 u1
      refine (libEqualInts _ _ x2 y2 b12 b22 _ H2.out.1 J2.out.1).mono ?_
      rintro e' w2 ⟨rfl, hb⟩
      replace HB := Lib.hid (two_on HB.out hb)
      clear hb H2 J2
      have HK : Hid ((Cfl.mk x1 x2).beq (Cfl.mk y1 y2) = decide (x2 = y2)) := by show _ = _; rw [hq.out]; simp
      go_wp2_with fail
      go_ret
      exact ⟨by rw [HK.out]; rfl, two_below HB.out⟩
end Go.Proofs.Ytajikfageppobaa
