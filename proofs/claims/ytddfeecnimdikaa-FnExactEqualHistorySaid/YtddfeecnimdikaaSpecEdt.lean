/-
  Proved: spec.EqualEdit says whether two values are equal; it leaves the memory that was there as it was.
-/
import Derived.Test.YtddfeecnimdikaaPeqEdt
import Derived.Test.YtddfeecnimdikaaRecBase
import Derived.Test.YtddfeecnimdikaaSpecExEqual
import Derived.Test.YtddfeecnimdikaaSpecInts
namespace Go.Proofs.Ytddfeecnimdikaa
open Go.RowKit

set_option maxRecDepth 100000 in
set_option maxHeartbeats 4000000 in
theorem specEdt (d : Nat) (v1 v2 : Value) (t1 t2 : Edt) (w : World) (h1 : EdtAt w d v1 t1) (h2 : EdtAt w d v2 t2) (hn1 : t1.bulk ≤ 1048576) (hn2 : t2.bulk ≤ 1048576) :
    Calls Try.prog 31 #[v1, v2] w fun e w' => e = .returned (.bool (t1.beq t2)) ∧ Below w.heap.size w w' := by
  cases t1 with
  | mk x1 x2 =>
  cases t2 with
  | mk y1 y2 =>
    obtain ⟨pbk, pbnm, pbm, pbtk, pbta, pbtn, pbtc, pbsa, pbsn, pbsc, pca, pcn, pcc, rfl, ph1, ph2⟩ := h1
    obtain ⟨ubk, ubnm, ubm, ubtk, ubta, ubtn, ubtc, ubsa, ubsn, ubsc, uca, ucn, ucc, rfl, pk1, pk2⟩ := h2
    dsimp only at ph1 ph2 pk1 pk2 ⊢
    have hb1 : (Edt.mk x1 x2).bulk = x1.bulk + x2.length := rfl
    have b11 : x1.bulk ≤ 1048576 := by omega
    have b12 : x2.length ≤ 1048576 := by omega
    have hb2 : (Edt.mk y1 y2).bulk = y1.bulk + y2.length := rfl
    have b21 : y1.bulk ≤ 1048576 := by omega
    have b22 : y2.length ≤ 1048576 := by omega
    have hq : Hid ((Edt.mk x1 x2).beq (Edt.mk y1 y2) = ((Ex.beq x1 y1) && (decide (x2 = y2)))) := rfl
    clear hn1 hn2 hb1 hb2
    have e3 : Below w.heap.size w ((w.alloc (.cells #[.int .i64 pbk, .string pbnm, .int .i64 pbm, .int .i64 pbtk, .slice pbta pbtn pbtc, .slice pbsa pbsn pbsc, .slice pca pcn pcc] 44)).alloc (.cells #[.int .i64 ubk, .string ubnm, .int .i64 ubm, .int .i64 ubtk, .slice ubta ubtn ubtc, .slice ubsa ubsn ubsc, .slice uca ucn ucc] 44)) := ((Below.refl _ _).alloc (Nat.le_refl _) _).alloc (by simp) _
    have H1 := Lib.hid (ph1.below e3)
    have J1 := Lib.hid (pk1.below e3)
    have H2 := Lib.hid (ph2.below e3)
    have J2 := Lib.hid (pk2.below e3)
    clear e3 ph1 pk1 ph2 pk2
    go_enter Try.func31, Try.ntmps31
    go_wp2_with fail
    refine (specExEqual d _ _ x1 y1 _ H1.out J1.out).mono ?_
    rintro e' w1 ⟨rfl, hb⟩
    have HB := Lib.hid (two_on (Below.refl _ _) hb)
    replace H2 := Lib.hid (H2.out.below hb)
    replace J2 := Lib.hid (J2.out.below hb)
    clear hb H1 J1
    cases hv : Ex.beq x1 y1 with
    | false =>
      have HK : Hid ((Edt.mk x1 x2).beq (Edt.mk y1 y2) = false) := by show _ = _; rw [hq.out, hv]; simp
      clear hv
      go_wp2_with fail
      go_ret
      exact ⟨by rw [HK.out]; rfl, two_below HB.out⟩
    | true =>
      rw [hv] at hq
      clear hv
      have c6 := two_first HB.out 6
      have u6 := two_next HB.out 6
      go_wp2_with fail
      clear c6 u6
      refine (specInts _ _ x2 y2 b12 b22 _ H2.out.1 J2.out.1).mono ?_
      rintro e' w2 ⟨rfl, hb⟩
      replace HB := Lib.hid (two_on HB.out hb)
      clear hb H2 J2
      have HK : Hid ((Edt.mk x1 x2).beq (Edt.mk y1 y2) = decide (x2 = y2)) := by show _ = _; rw [hq.out]; simp
      go_wp2_with fail
      go_ret
      exact ⟨by rw [HK.out]; rfl, two_below HB.out⟩
end Go.Proofs.Ytddfeecnimdikaa
