/-
  Proved: spec.EqualHistory says whether two values are equal; it leaves the memory that was there as it was.
-/
import Derived.Test.YtddfeecnimdikaaPeqHis
import Derived.Test.YtddfeecnimdikaaRecBase
import Derived.Test.YtddfeecnimdikaaSpecEdts
namespace Go.Proofs.Ytddfeecnimdikaa
open Go.RowKit

set_option maxRecDepth 100000 in
set_option maxHeartbeats 4000000 in
theorem specHis (d : Nat) (v1 v2 : Value) (t1 t2 : His) (w : World) (h1 : HisAt w d v1 t1) (h2 : HisAt w d v2 t2) (hn1 : t1.bulk ≤ 1048576) (hn2 : t2.bulk ≤ 1048576) :
    Calls Try.prog 8 #[v1, v2] w fun e w' => e = .returned (.bool (t1.beq t2)) ∧ Below w.heap.size w w' := by
  cases t1 with
  | mk x1 x2 x3 =>
  cases t2 with
  | mk y1 y2 y3 =>
    obtain ⟨pba, pbn, pbc, pcbk, pcbnm, pcbm, pcbtk, pcbta, pcbtn, pcbtc, pcbsa, pcbsn, pcbsc, pcca, pccn, pccc, pda, pdn, pdc, rfl, ph1, ph2, ph3⟩ := h1
    obtain ⟨uba, ubn, ubc, ucbk, ucbnm, ucbm, ucbtk, ucbta, ucbtn, ucbtc, ucbsa, ucbsn, ucbsc, ucca, uccn, uccc, uda, udn, udc, rfl, pk1, pk2, pk3⟩ := h2
    dsimp only at ph1 ph2 ph3 pk1 pk2 pk3 ⊢
    have hb1 : (His.mk x1 x2 x3).bulk = Edt.bulks x1 + x2.bulk + Edt.bulks x3 := rfl
    have b11 : Edt.bulks x1 ≤ 1048576 := by omega
    have b12 : x2.bulk ≤ 1048576 := by omega
    have b13 : Edt.bulks x3 ≤ 1048576 := by omega
    have hb2 : (His.mk y1 y2 y3).bulk = Edt.bulks y1 + y2.bulk + Edt.bulks y3 := rfl
    have b21 : Edt.bulks y1 ≤ 1048576 := by omega
    have b22 : y2.bulk ≤ 1048576 := by omega
    have b23 : Edt.bulks y3 ≤ 1048576 := by omega
    have hq : Hid ((His.mk x1 x2 x3).beq (His.mk y1 y2 y3) = ((Edt.beqs x1 y1) && (Edt.beq x2 y2) && (Edt.beqs x3 y3))) := rfl
    clear hn1 hn2 hb1 hb2
    have e3 : Below w.heap.size w ((w.alloc (.cells #[.slice pba pbn pbc, .int .i64 pcbk, .string pcbnm, .int .i64 pcbm, .int .i64 pcbtk, .slice pcbta pcbtn pcbtc, .slice pcbsa pcbsn pcbsc, .slice pcca pccn pccc, .slice pda pdn pdc] 46)).alloc (.cells #[.slice uba ubn ubc, .int .i64 ucbk, .string ucbnm, .int .i64 ucbm, .int .i64 ucbtk, .slice ucbta ucbtn ucbtc, .slice ucbsa ucbsn ucbsc, .slice ucca uccn uccc, .slice uda udn udc] 46)) := ((Below.refl _ _).alloc (Nat.le_refl _) _).alloc (by simp) _
    have H1 := Lib.hid (ph1.below e3)
    have J1 := Lib.hid (pk1.below e3)
    have H2 := Lib.hid (ph2.below e3)
    have J2 := Lib.hid (pk2.below e3)
    have H3 := Lib.hid (ph3.below e3)
    have J3 := Lib.hid (pk3.below e3)
    clear e3 ph1 pk1 ph2 pk2 ph3 pk3
    go_enter Try.func8, Try.ntmps8
    go_wp2_with fail
    refine (specEdts d _ _ x1 y1 _ H1.out J1.out b11 b21).mono ?_
    rintro e' w1 ⟨rfl, hb⟩
    have HB := Lib.hid (two_on (Below.refl _ _) hb)
    replace H2 := Lib.hid (H2.out.below hb)
    replace J2 := Lib.hid (J2.out.below hb)
    replace H3 := Lib.hid (H3.out.below hb)
    replace J3 := Lib.hid (J3.out.below hb)
    clear hb H1 J1
    cases hv : Edt.beqs x1 y1 with
    | false =>
      have HK : Hid ((His.mk x1 x2 x3).beq (His.mk y1 y2 y3) = false) := by show _ = _; rw [hq.out, hv]; simp
      clear hv
      go_wp2_with fail
      go_ret
      exact ⟨by rw [HK.out]; rfl, two_below HB.out⟩
    | true =>
      rw [hv] at hq
      clear hv
      have c1 := two_first HB.out 1
      have u1 := two_next HB.out 1
      have c2 := two_first HB.out 2
      have u2 := two_next HB.out 2
      have c3 := two_first HB.out 3
      have u3 := two_next HB.out 3
      have c4 := two_first HB.out 4
      have u4 := two_next HB.out 4
      have c5 := two_first HB.out 5
      have u5 := two_next HB.out 5
      have c6 := two_first HB.out 6
      have u6 := two_next HB.out 6
      have c7 := two_first HB.out 7
      have u7 := two_next HB.out 7
      go_wp2_with fail
      clear c1 u1 c2 u2 c3 u3 c4 u4 c5 u5 c6 u6 c7 u7
      refine (specEdt d _ _ x2 y2 _ H2.out J2.out b12 b22).mono ?_
      rintro e' w2 ⟨rfl, hb⟩
      replace HB := Lib.hid (two_on HB.out hb)
      replace H3 := Lib.hid (H3.out.below hb)
      replace J3 := Lib.hid (J3.out.below hb)
      clear hb H2 J2
      cases hv : Edt.beq x2 y2 with
      | false =>
        have HK : Hid ((His.mk x1 x2 x3).beq (His.mk y1 y2 y3) = false) := by show _ = _; rw [hq.out, hv]; simp
        clear hv
        go_wp2_with fail
        go_ret
        exact ⟨by rw [HK.out]; rfl, two_below HB.out⟩
      | true =>
        rw [hv] at hq
        clear hv
        have c8 := two_first HB.out 8
        have u8 := two_next HB.out 8
        go_wp2_with fail
        clear c8 u8
        refine (specEdts d _ _ x3 y3 _ H3.out J3.out b13 b23).mono ?_
        rintro e' w3 ⟨rfl, hb⟩
        replace HB := Lib.hid (two_on HB.out hb)
        clear hb H3 J3
        have HK : Hid ((His.mk x1 x2 x3).beq (His.mk y1 y2 y3) = Edt.beqs x3 y3) := by show _ = _; rw [hq.out]; simp
        go_wp2_with fail
        go_ret
        exact ⟨by rw [HK.out]; rfl, two_below HB.out⟩
end Go.Proofs.Ytddfeecnimdikaa
