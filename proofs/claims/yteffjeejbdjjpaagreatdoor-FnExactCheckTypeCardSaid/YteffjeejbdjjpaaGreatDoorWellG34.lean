/-
  Proved: spec.SynthType, spec.IsWellTyped, spec.CheckType.
-/
import Derived.Test.YteffjeejbdjjpaaGreatDoorWellG20
import Derived.Test.YteffjeejbdjjpaaGreatDoorWellG33
import Derived.Test.YteffjeejbdjjpaaGreatDoorWellG24
import Derived.Test.YteffjeejbdjjpaaGreatDoorWellG4
namespace Go.Proofs.YteffjeejbdjjpaaGreatDoor
open Go.RowKit

set_option maxRecDepth 100000 in
set_option maxHeartbeats 2000000 in
theorem specSynthType (d D : Nat) (vc v : Value) (C : List Bi) (t : Ex) (w : World) (hv : BisAt w D vc C) (he : ExAt w d v t) (hs : Bi.bulks C + t.bulk ≤ 1048576) :
  Calls Tryz.prog 8 #[vc, v] w (SynEnd (synTop d C t) w) := by
 have HE := Lib.hid he
 obtain ⟨kd', nm', n', tk, ta, tn, tc, sa, sm, sc, hv2⟩ := ex_parts he
 obtain ⟨va, vn, vc1, rfl⟩ : ∃ a n c, vc = .slice a n c := by obtain ⟨a, cap, hv, _⟩ := hv; exact ⟨_, _, _, hv⟩
 subst hv2
 clear he
 have HV := Lib.hid hv
 clear hv
 cases hhc : ctxB C with
 | false =>
  have HC := Lib.hid hhc
  clear hhc
  obtain ⟨w0, hw0, B, hz_w0, XE, FE, XR, FR⟩ := laid2 w #[.int .i64 kd', .string nm', .int .i64 n', .int .i64 tk, .slice ta tn tc, .slice sa sm sc] 40 #[.int .i64 0, .slice none 0 0] 33
  replace B := Lib.hid B
  go_enter Tryz.func8, Tryz.ntmps8
  go_wp2_with fail
  rw [← hw0]
  clear hw0
  have CC := specCtx D _ C _ (HV.out.below B.out) (by omega)
  rw [HC.out] at CC
  refine CC.mono ?_
  clear CC
  rintro e w1 ⟨rfl, hb⟩
  have hz_w1 := hb.size
  replace B := bb B hb
  replace XE := xb XE hb
  replace FE := fb FE hb
  replace XR := xb XR hb
  replace FR := fb FR hb
  clear hb
  have cR_0 := XR.out.2 0
  have cR_1 := XR.out.2 1
  have fR_0 := FR.out.2 0
  have fR_1 := FR.out.2 1
  go_wp2_with fail
  clear cR_0 cR_1 fR_0 fR_1
  have HW : Hid (synTop d C t = none) := by show _ = _; exact synTop_no (Or.inl HC.out)
  have XZ := put2_box (u := .int .i64 0) (v := .slice none 0 0) XR.out
  have h0 := XZ.2 0
  have h1 := XZ.2 1
  unfold put2 at h0 h1
  refine bodyPost_ret (v := .tuple #[.agg #[.int .i64 0, .slice none 0 0], .bool false]) (by simp [results, Tryz.results8, go_sem, h0, h1]) rfl ?_
  exact (by rw [HW.out]; exact ⟨1, _, _, _, _, rfl, leaf_in _ 0 _ _ (by omega) (by omega) (Nat.le_refl _), put2_below B.out (by omega)⟩)
 | true =>
  have HC := Lib.hid hhc
  clear hhc
  cases hhx : t.valid with
  | false =>
   have HX := Lib.hid hhx
   clear hhx
   obtain ⟨w0, hw0, B, hz_w0, XE, FE, XR, FR⟩ := laid2 w #[.int .i64 kd', .string nm', .int .i64 n', .int .i64 tk, .slice ta tn tc, .slice sa sm sc] 40 #[.int .i64 0, .slice none 0 0] 33
   replace B := Lib.hid B
   go_enter Tryz.func8, Tryz.ntmps8
   go_wp2_with fail
   rw [← hw0]
   clear hw0
   have CC := specCtx D _ C _ (HV.out.below B.out) (by omega)
   rw [HC.out] at CC
   refine CC.mono ?_
   clear CC
   rintro e w1 ⟨rfl, hb⟩
   have hz_w1 := hb.size
   replace B := bb B hb
   replace XE := xb XE hb
   replace FE := fb FE hb
   replace XR := xb XR hb
   replace FR := fb FR hb
   clear hb
   have cE_0 := XE.out.2 0
   have cE_1 := XE.out.2 1
   have cE_2 := XE.out.2 2
   have cE_3 := XE.out.2 3
   have cE_4 := XE.out.2 4
   have cE_5 := XE.out.2 5
   go_wp2_with fail
   clear cE_0 cE_1 cE_2 cE_3 cE_4 cE_5
   have CC := specExValid d _ t _ (HE.out.below B.out) (by omega)
   rw [HX.out] at CC
   refine CC.mono ?_
   clear CC
   rintro e w2 ⟨rfl, hb⟩
   have hz_w2 := hb.size
   replace B := bb B hb
   replace XE := xb XE hb
   replace FE := fb FE hb
   replace XR := xb XR hb
   replace FR := fb FR hb
   clear hb
   have cR_0 := XR.out.2 0
   have cR_1 := XR.out.2 1
   have fR_0 := FR.out.2 0
   have fR_1 := FR.out.2 1
   go_wp2_with fail
   clear cR_0 cR_1 fR_0 fR_1
   have HW : Hid (synTop d C t = none) := by show _ = _; exact synTop_no (Or.inr HX.out)
   have XZ := put2_box (u := .int .i64 0) (v := .slice none 0 0) XR.out
   have h0 := XZ.2 0
   have h1 := XZ.2 1
   unfold put2 at h0 h1
   refine bodyPost_ret (v := .tuple #[.agg #[.int .i64 0, .slice none 0 0], .bool false]) (by simp [results, Tryz.results8, go_sem, h0, h1]) rfl ?_
   exact (by rw [HW.out]; exact ⟨1, _, _, _, _, rfl, leaf_in _ 0 _ _ (by omega) (by omega) (Nat.le_refl _), put2_below B.out (by omega)⟩)
  | true =>
   have HX := Lib.hid hhx
   clear hhx
   obtain ⟨w0, hw0, B, hz_w0, XE, FE, XR, FR⟩ := laid2 w #[.int .i64 kd', .string nm', .int .i64 n', .int .i64 tk, .slice ta tn tc, .slice sa sm sc] 40 #[.int .i64 0, .slice none 0 0] 33
   replace B := Lib.hid B
   go_enter Tryz.func8, Tryz.ntmps8
   go_wp2_with fail
   rw [← hw0]
   clear hw0
   have CC := specCtx D _ C _ (HV.out.below B.out) (by omega)
   rw [HC.out] at CC
   refine CC.mono ?_
   clear CC
   rintro e w1 ⟨rfl, hb⟩
   have hz_w1 := hb.size
   replace B := bb B hb
   replace XE := xb XE hb
   replace FE := fb FE hb
   replace XR := xb XR hb
   replace FR := fb FR hb
   clear hb
   have cE_0 := XE.out.2 0
   have cE_1 := XE.out.2 1
   have cE_2 := XE.out.2 2
   have cE_3 := XE.out.2 3
   have cE_4 := XE.out.2 4
   have cE_5 := XE.out.2 5
   go_wp2_with fail
   clear cE_0 cE_1 cE_2 cE_3 cE_4 cE_5
   have CC := specExValid d _ t _ (HE.out.below B.out) (by omega)
   rw [HX.out] at CC
   refine CC.mono ?_
   clear CC
   rintro e w2 ⟨rfl, hb⟩
   have hz_w2 := hb.size
   replace B := bb B hb
   replace XE := xb XE hb
   replace FE := fb FE hb
   replace XR := xb XR hb
   replace FR := fb FR hb
   clear hb
   have cE_0 := XE.out.2 0
   have cE_1 := XE.out.2 1
   have cE_2 := XE.out.2 2
   have cE_3 := XE.out.2 3
   have cE_4 := XE.out.2 4
   have cE_5 := XE.out.2 5
   go_wp2_with fail
   clear cE_0 cE_1 cE_2 cE_3 cE_4 cE_5
   refine ((specTyp_all d).1 D _ _ C t _ (HV.out.below B.out) (HE.out.below B.out) (typOk HC.out HX.out hs)).mono ?_
   rintro e w3 ⟨DL, lk, la, ln, lc, rfl, ho, hb⟩
   have Ol := Lib.hid ho
   clear ho
   have hz_w3 := hb.size
   replace B := bb B hb
   replace XE := xb XE hb
   replace FE := fb FE hb
   replace XR := xb XR hb
   replace FR := fb FR hb
   clear hb
   obtain ⟨wa4, hwa4, hb, hy_wa4, XT6, FT6⟩ := laid1 w3 #[.int .i64 lk, .slice la ln lc] 33
   have hz_wa4 := hb.size
   replace B := bb B hb
   replace XE := xb XE hb
   replace FE := fb FE hb
   replace XR := xb XR hb
   replace FR := fb FR hb
   replace Ol := ob Ol hb
   clear hb
   have cR_0 := XR.out.2 0
   have cR_1 := XR.out.2 1
   have cT6_0 := XT6.out.2 0
   have cT6_1 := XT6.out.2 1
   have fR_0 := FR.out.2 0
   have fR_1 := FR.out.2 1
   rw [hwa4] at cR_0
   rw [hwa4] at cR_1
   rw [hwa4] at cT6_0
   rw [hwa4] at cT6_1
   rw [hwa4] at fR_0
   rw [hwa4] at fR_1
   go_wp2_with fail
   clear cR_0 cR_1 cT6_0 cT6_1 fR_0 fR_1
   rw [← hwa4]
   clear hwa4
   have htop := own_top Ol.out
   have HW : Hid (synTop d C t = synE d C t) := by show _ = _; rw [synTop_yes HC.out HX.out]
   have XZ := put2_box (u := .int .i64 lk) (v := .slice la ln lc) XR.out
   have h0 := XZ.2 0
   have h1 := XZ.2 1
   unfold put2 at h0 h1
   refine bodyPost_ret (v := .tuple #[.agg #[.int .i64 lk, .slice la ln lc], .bool (synE d C t).isSome]) (by simp [results, Tryz.results8, go_sem, h0, h1]) rfl ?_
   exact (by rw [HW.out]; exact ⟨DL, _, _, _, _, rfl, (put2_own Ol.out (by omega)).widen (by omega) (by first | (simp; omega) | simp) (Nat.le_refl _), put2_below B.out (by omega)⟩)
set_option maxRecDepth 100000 in
set_option maxHeartbeats 2000000 in
theorem specIsWellTyped (d D : Nat) (vc v : Value) (C : List Bi) (t : Ex) (w : World) (hv : BisAt w D vc C) (he : ExAt w d v t) (hs : Bi.bulks C + t.bulk ≤ 1048576) :
  Calls Tryz.prog 23 #[vc, v] w fun e w' => e = .returned (.bool (synTop d C t).isSome) ∧ Below w.heap.size w w' := by
 have HE := Lib.hid he
 obtain ⟨kd', nm', n', tk, ta, tn, tc, sa, sm, sc, hv2⟩ := ex_parts he
 obtain ⟨va, vn, vc1, rfl⟩ : ∃ a n c, vc = .slice a n c := by obtain ⟨a, cap, hv, _⟩ := hv; exact ⟨_, _, _, hv⟩
 subst hv2
 clear he
 have HV := Lib.hid hv
 clear hv
 obtain ⟨w0, hw0, B, hz_w0, XE, FE⟩ := laid1 w #[.int .i64 kd', .string nm', .int .i64 n', .int .i64 tk, .slice ta tn tc, .slice sa sm sc] 40
 replace B := Lib.hid B
 go_enter Tryz.func23, Tryz.ntmps23
 go_wp2_with fail
 rw [← hw0]
 clear hw0
 refine (specSynthType d D _ _ C t _ (HV.out.below B.out) (HE.out.below B.out) hs).mono ?_
 rintro e w1 ⟨DL, lk, la, ln, lc, rfl, ho, hb⟩
 have Ol := Lib.hid ho
 clear ho
 have hz_w1 := hb.size
 replace B := bb B hb
 replace XE := xb XE hb
 replace FE := fb FE hb
 clear hb
 obtain ⟨wa2, hwa2, hb, hy_wa2, XT5, FT5⟩ := laid1 w1 #[.int .i64 lk, .slice la ln lc] 33
 have hz_wa2 := hb.size
 replace B := bb B hb
 replace XE := xb XE hb
 replace FE := fb FE hb
 replace Ol := ob Ol hb
 clear hb
 go_wp2_with fail
 rw [← hwa2]
 clear hwa2
 go_ret
 exact ⟨rfl, B.out⟩
set_option maxRecDepth 100000 in
set_option maxHeartbeats 2000000 in
theorem specCheckType (d D D2 : Nat) (vc v tv : Value) (C : List Bi) (t : Ex) (x : Ty) (w : World) (hv : BisAt w D vc C) (he : ExAt w d v t) (ht : TyAt w D2 tv x) (hs : Bi.bulks C + t.bulk ≤ 1048576) (hx : x.size ≤ 1048577) :
  Calls Tryz.prog 20 #[vc, v, tv] w fun e w' => e = .returned (.bool (anaTop d C t x)) ∧ Below w.heap.size w w' := by
 have HE := Lib.hid he
 obtain ⟨kd', nm', n', tk, ta, tn, tc, sa, sm, sc, hv2⟩ := ex_parts he
 obtain ⟨va, vn, vc1, rfl⟩ : ∃ a n c, vc = .slice a n c := by obtain ⟨a, cap, hv, _⟩ := hv; exact ⟨_, _, _, hv⟩
 subst hv2
 clear he
 have HV := Lib.hid hv
 clear hv
 obtain ⟨uk, ua, un, uc, rfl⟩ := agg_parts ht
 have HU := Lib.hid ht
 clear ht
 cases hhc : ctxB C with
 | false =>
  have HC := Lib.hid hhc
  clear hhc
  obtain ⟨w0, hw0, B, hz_w0, XE, FE, XT, FT⟩ := laid2 w #[.int .i64 kd', .string nm', .int .i64 n', .int .i64 tk, .slice ta tn tc, .slice sa sm sc] 40 #[.int .i64 uk, .slice ua un uc] 33
  replace B := Lib.hid B
  go_enter Tryz.func20, Tryz.ntmps20
  go_wp2_with fail
  rw [← hw0]
  clear hw0
  have CC := specCtx D _ C _ (HV.out.below B.out) (by omega)
  rw [HC.out] at CC
  refine CC.mono ?_
  clear CC
  rintro e w1 ⟨rfl, hb⟩
  have hz_w1 := hb.size
  replace B := bb B hb
  replace XE := xb XE hb
  replace FE := fb FE hb
  replace XT := xb XT hb
  replace FT := fb FT hb
  clear hb
  go_wp2_with fail
  have HW : Hid (anaTop d C t x = false) := by show _ = _; unfold anaTop; rw [HC.out]; rfl
  go_ret
  exact ⟨by rw [HW.out]; try rfl, B.out⟩
 | true =>
  have HC := Lib.hid hhc
  clear hhc
  cases hhx : t.valid with
  | false =>
   have HX := Lib.hid hhx
   clear hhx
   obtain ⟨w0, hw0, B, hz_w0, XE, FE, XT, FT⟩ := laid2 w #[.int .i64 kd', .string nm', .int .i64 n', .int .i64 tk, .slice ta tn tc, .slice sa sm sc] 40 #[.int .i64 uk, .slice ua un uc] 33
   replace B := Lib.hid B
   go_enter Tryz.func20, Tryz.ntmps20
   go_wp2_with fail
   rw [← hw0]
   clear hw0
   have CC := specCtx D _ C _ (HV.out.below B.out) (by omega)
   rw [HC.out] at CC
   refine CC.mono ?_
   clear CC
   rintro e w1 ⟨rfl, hb⟩
   have hz_w1 := hb.size
   replace B := bb B hb
   replace XE := xb XE hb
   replace FE := fb FE hb
   replace XT := xb XT hb
   replace FT := fb FT hb
   clear hb
   have cE_0 := XE.out.2 0
   have cE_1 := XE.out.2 1
   have cE_2 := XE.out.2 2
   have cE_3 := XE.out.2 3
   have cE_4 := XE.out.2 4
   have cE_5 := XE.out.2 5
   go_wp2_with fail
   clear cE_0 cE_1 cE_2 cE_3 cE_4 cE_5
   have CC := specExValid d _ t _ (HE.out.below B.out) (by omega)
   rw [HX.out] at CC
   refine CC.mono ?_
   clear CC
   rintro e w2 ⟨rfl, hb⟩
   have hz_w2 := hb.size
   replace B := bb B hb
   replace XE := xb XE hb
   replace FE := fb FE hb
   replace XT := xb XT hb
   replace FT := fb FT hb
   clear hb
   go_wp2_with fail
   have HW : Hid (anaTop d C t x = false) := by show _ = _; unfold anaTop; rw [HC.out, HX.out]; rfl
   go_ret
   exact ⟨by rw [HW.out]; try rfl, B.out⟩
  | true =>
   have HX := Lib.hid hhx
   clear hhx
   cases hhy : x.valid with
   | false =>
    have HY := Lib.hid hhy
    clear hhy
    obtain ⟨w0, hw0, B, hz_w0, XE, FE, XT, FT⟩ := laid2 w #[.int .i64 kd', .string nm', .int .i64 n', .int .i64 tk, .slice ta tn tc, .slice sa sm sc] 40 #[.int .i64 uk, .slice ua un uc] 33
    replace B := Lib.hid B
    go_enter Tryz.func20, Tryz.ntmps20
    go_wp2_with fail
    rw [← hw0]
    clear hw0
    have CC := specCtx D _ C _ (HV.out.below B.out) (by omega)
    rw [HC.out] at CC
    refine CC.mono ?_
    clear CC
    rintro e w1 ⟨rfl, hb⟩
    have hz_w1 := hb.size
    replace B := bb B hb
    replace XE := xb XE hb
    replace FE := fb FE hb
    replace XT := xb XT hb
    replace FT := fb FT hb
    clear hb
    have cE_0 := XE.out.2 0
    have cE_1 := XE.out.2 1
    have cE_2 := XE.out.2 2
    have cE_3 := XE.out.2 3
    have cE_4 := XE.out.2 4
    have cE_5 := XE.out.2 5
    go_wp2_with fail
    clear cE_0 cE_1 cE_2 cE_3 cE_4 cE_5
    have CC := specExValid d _ t _ (HE.out.below B.out) (by omega)
    rw [HX.out] at CC
    refine CC.mono ?_
    clear CC
    rintro e w2 ⟨rfl, hb⟩
    have hz_w2 := hb.size
    replace B := bb B hb
    replace XE := xb XE hb
    replace FE := fb FE hb
    replace XT := xb XT hb
    replace FT := fb FT hb
    clear hb
    have cT_0 := XT.out.2 0
    have cT_1 := XT.out.2 1
    go_wp2_with fail
    clear cT_0 cT_1
    have CC := specValid D2 _ x _ (HU.out.below B.out) hx
    rw [HY.out] at CC
    refine CC.mono ?_
    clear CC
    rintro e w3 ⟨rfl, hb⟩
    have hz_w3 := hb.size
    replace B := bb B hb
    replace XE := xb XE hb
    replace FE := fb FE hb
    replace XT := xb XT hb
    replace FT := fb FT hb
    clear hb
    go_wp2_with fail
    have HW : Hid (anaTop d C t x = false) := by show _ = _; unfold anaTop; rw [HC.out, HX.out, HY.out]; rfl
    go_ret
    exact ⟨by rw [HW.out]; try rfl, B.out⟩
   | true =>
    have HY := Lib.hid hhy
    clear hhy
    obtain ⟨w0, hw0, B, hz_w0, XE, FE, XT, FT⟩ := laid2 w #[.int .i64 kd', .string nm', .int .i64 n', .int .i64 tk, .slice ta tn tc, .slice sa sm sc] 40 #[.int .i64 uk, .slice ua un uc] 33
    replace B := Lib.hid B
    go_enter Tryz.func20, Tryz.ntmps20
    go_wp2_with fail
    rw [← hw0]
    clear hw0
    have CC := specCtx D _ C _ (HV.out.below B.out) (by omega)
    rw [HC.out] at CC
    refine CC.mono ?_
    clear CC
    rintro e w1 ⟨rfl, hb⟩
    have hz_w1 := hb.size
    replace B := bb B hb
    replace XE := xb XE hb
    replace FE := fb FE hb
    replace XT := xb XT hb
    replace FT := fb FT hb
    clear hb
    have cE_0 := XE.out.2 0
    have cE_1 := XE.out.2 1
    have cE_2 := XE.out.2 2
    have cE_3 := XE.out.2 3
    have cE_4 := XE.out.2 4
    have cE_5 := XE.out.2 5
    go_wp2_with fail
    clear cE_0 cE_1 cE_2 cE_3 cE_4 cE_5
    have CC := specExValid d _ t _ (HE.out.below B.out) (by omega)
    rw [HX.out] at CC
    refine CC.mono ?_
    clear CC
    rintro e w2 ⟨rfl, hb⟩
    have hz_w2 := hb.size
    replace B := bb B hb
    replace XE := xb XE hb
    replace FE := fb FE hb
    replace XT := xb XT hb
    replace FT := fb FT hb
    clear hb
    have cT_0 := XT.out.2 0
    have cT_1 := XT.out.2 1
    go_wp2_with fail
    clear cT_0 cT_1
    have CC := specValid D2 _ x _ (HU.out.below B.out) hx
    rw [HY.out] at CC
    refine CC.mono ?_
    clear CC
    rintro e w3 ⟨rfl, hb⟩
    have hz_w3 := hb.size
    replace B := bb B hb
    replace XE := xb XE hb
    replace FE := fb FE hb
    replace XT := xb XT hb
    replace FT := fb FT hb
    clear hb
    have cE_0 := XE.out.2 0
    have cE_1 := XE.out.2 1
    have cE_2 := XE.out.2 2
    have cE_3 := XE.out.2 3
    have cE_4 := XE.out.2 4
    have cE_5 := XE.out.2 5
    have cT_0 := XT.out.2 0
    have cT_1 := XT.out.2 1
    go_wp2_with fail
    clear cE_0 cE_1 cE_2 cE_3 cE_4 cE_5 cT_0 cT_1
    refine ((specTyp_all d).2 D D2 _ _ _ C t x _ (HV.out.below B.out) (HE.out.below B.out) (HU.out.below B.out) (typOk HC.out HX.out hs) hx).mono ?_
    rintro e w4 ⟨rfl, hb⟩
    have hz_w4 := hb.size
    replace B := bb B hb
    replace XE := xb XE hb
    replace FE := fb FE hb
    replace XT := xb XT hb
    replace FT := fb FT hb
    clear hb
    go_wp2_with fail
    have HW : Hid (anaTop d C t x = anaE d C t x) := by show _ = _; unfold anaTop; rw [HC.out, HX.out, HY.out]; rfl
    go_ret
    exact ⟨by rw [HW.out]; try rfl, B.out⟩
end Go.Proofs.YteffjeejbdjjpaaGreatDoor
