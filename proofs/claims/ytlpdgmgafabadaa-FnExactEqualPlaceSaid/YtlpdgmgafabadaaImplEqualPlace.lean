/-
  Proved: impl.EqualPlace says whether two places are equal; the memory that was there stays as it was.
-/
import Derived.Test.YtlpdgmgafabadaaImplBis
namespace Go.Proofs.Ytlpdgmgafabadaa
open Go.RowKit

set_option maxRecDepth 100000 in
set_option maxHeartbeats 2000000 in
theorem implEqualPlace (d : Nat) (v1 v2 : Value) (t1 t2 : Pl) (w : World) (h1 : PlAt w d v1 t1) (h2 : PlAt w d v2 t2) :
    Calls Try.prog 31 #[v1, v2] w fun e w' => e = .returned (.bool (t1.beq t2)) ∧ Below w.heap.size w w' := by
  cases t1 with
  | mk cs ana ty1 =>
  cases t2 with
  | mk bs bna ty2 =>
    obtain ⟨ca, cn, cc, tk, ta, tn, tc, rfl, hc1, ht1⟩ := h1
    obtain ⟨da, dn, dc, uk, ua, un, uc, rfl, hc2, ht2⟩ := h2
    dsimp only at hc1 ht1 hc2 ht2 ⊢
    have HEQ : Hid ((Pl.mk cs ana ty1).beq (Pl.mk bs bna ty2) = ((decide (ana = bna) && ty1.beq ty2) && Bi.beqs cs bs)) := rfl
    have e2 : Below w.heap.size w ((w.alloc (.cells #[.slice ca cn cc, .bool ana, .int .i64 tk, .slice ta tn tc] 51)).alloc (.cells #[.slice da dn dc, .bool bna, .int .i64 uk, .slice ua un uc] 51)) := ((Below.refl _ _).alloc (Nat.le_refl _) _).alloc (by simp) _
    have HC1 := Lib.hid (hc1.below e2)
    have HC2 := Lib.hid (hc2.below e2)
    have HT1 := Lib.hid (ht1.below e2)
    have HT2 := Lib.hid (ht2.below e2)
    clear e2 hc1 ht1 hc2 ht2
    have HB : Hid (Below (w.heap.size + 2) ((w.alloc (.cells #[.slice ca cn cc, .bool ana, .int .i64 tk, .slice ta tn tc] 51)).alloc (.cells #[.slice da dn dc, .bool bna, .int .i64 uk, .slice ua un uc] 51)) ((w.alloc (.cells #[.slice ca cn cc, .bool ana, .int .i64 tk, .slice ta tn tc] 51)).alloc (.cells #[.slice da dn dc, .bool bna, .int .i64 uk, .slice ua un uc] 51))) := Below.refl _ _
    go_enter Try.func31, Try.ntmps31
    go_wp2_with fail
    refine (libEqBis d _ _ cs bs _ HC1.out HC2.out).mono ?_
    rintro e w1 ⟨he, hb⟩
    replace HB := Lib.hid (two_on HB.out hb)
    replace HC1 := Lib.hid (HC1.out.below hb)
    replace HC2 := Lib.hid (HC2.out.below hb)
    replace HT1 := Lib.hid (HT1.out.below hb)
    replace HT2 := Lib.hid (HT2.out.below hb)
    clear hb
    cases hq : Bi.beqs cs bs with
    | false =>
      rw [hq] at he
      subst he
      have c0 := two_first HB.out 0
      have u0 := two_next HB.out 0
      have c1 := two_first HB.out 1
      have u1 := two_next HB.out 1
      have c2 := two_first HB.out 2
      have u2 := two_next HB.out 2
      have c3 := two_first HB.out 3
      have u3 := two_next HB.out 3
      go_wp2_with fail
      go_ret
      exact ⟨by rw [HEQ.out, hq, Bool.and_false]; rfl, two_below HB.out⟩
    | true =>
      rw [hq] at he
      subst he
      cases ana <;> cases bna
      · have c0 := two_first HB.out 0
        have u0 := two_next HB.out 0
        have c1 := two_first HB.out 1
        have u1 := two_next HB.out 1
        have c2 := two_first HB.out 2
        have u2 := two_next HB.out 2
        have c3 := two_first HB.out 3
        have u3 := two_next HB.out 3
        go_wp2_with fail
        clear c0 u0 c1 u1 c2 u2 c3 u3
        refine (implEqual d _ _ ty1 ty2 _ HT1.out HT2.out).mono ?_
        rintro e w2 ⟨rfl, hb⟩
        replace HB := Lib.hid (two_on HB.out hb)
        replace HC1 := Lib.hid (HC1.out.below hb)
        replace HC2 := Lib.hid (HC2.out.below hb)
        replace HT1 := Lib.hid (HT1.out.below hb)
        replace HT2 := Lib.hid (HT2.out.below hb)
        clear hb
        go_wp2_with fail
        go_ret
        exact ⟨by rw [HEQ.out, hq, Bool.and_true]; rfl, two_below HB.out⟩
      · have c0 := two_first HB.out 0
        have u0 := two_next HB.out 0
        have c1 := two_first HB.out 1
        have u1 := two_next HB.out 1
        have c2 := two_first HB.out 2
        have u2 := two_next HB.out 2
        have c3 := two_first HB.out 3
        have u3 := two_next HB.out 3
        go_wp2_with fail
        go_ret
        exact ⟨by rw [HEQ.out]; rfl, two_below HB.out⟩
      · have c0 := two_first HB.out 0
        have u0 := two_next HB.out 0
        have c1 := two_first HB.out 1
        have u1 := two_next HB.out 1
        have c2 := two_first HB.out 2
        have u2 := two_next HB.out 2
        have c3 := two_first HB.out 3
        have u3 := two_next HB.out 3
        go_wp2_with fail
        go_ret
        exact ⟨by rw [HEQ.out]; rfl, two_below HB.out⟩
      · have c0 := two_first HB.out 0
        have u0 := two_next HB.out 0
        have c1 := two_first HB.out 1
        have u1 := two_next HB.out 1
        have c2 := two_first HB.out 2
        have u2 := two_next HB.out 2
        have c3 := two_first HB.out 3
        have u3 := two_next HB.out 3
        go_wp2_with fail
        clear c0 u0 c1 u1 c2 u2 c3 u3
        refine (implEqual d _ _ ty1 ty2 _ HT1.out HT2.out).mono ?_
        rintro e w2 ⟨rfl, hb⟩
        replace HB := Lib.hid (two_on HB.out hb)
        replace HC1 := Lib.hid (HC1.out.below hb)
        replace HC2 := Lib.hid (HC2.out.below hb)
        replace HT1 := Lib.hid (HT1.out.below hb)
        replace HT2 := Lib.hid (HT2.out.below hb)
        clear hb
        go_wp2_with fail
        go_ret
        exact ⟨by rw [HEQ.out, hq, Bool.and_true]; rfl, two_below HB.out⟩
end Go.Proofs.Ytlpdgmgafabadaa
