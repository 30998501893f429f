/-
  Proved: impl.SynthType, impl.IsWellTyped, impl.CheckType.
-/
import Derived.Test.YteffjeejbdjjpaaGreatDoorWellG20
import Derived.Test.YteffjeejbdjjpaaGreatDoorWellG46
import Derived.Test.YteffjeejbdjjpaaGreatDoorWellG21
import Derived.Test.YteffjeejbdjjpaaGreatDoorWellG35
import Derived.Test.YteffjeejbdjjpaaGreatDoorWellG17
namespace Go.Proofs.YteffjeejbdjjpaaGreatDoor
open Go.RowKit

theorem isSame (a : Addr) (w : World) : Calls Tryz.prog 35 #[.iface 141 (.pointer (some a)), .iface 141 (.pointer (some a))] w fun e w' => e = .returned (.bool true) ∧ Below w.heap.size w w' := (errIs_same a w).mono fun _ _ h => ⟨h.1, by rw [h.2]; exact Below.refl _ _⟩
theorem isNil (b : Addr) (w : World) : Calls Tryz.prog 35 #[.nilIface, .iface 141 (.pointer (some b))] w fun e w' => e = .returned (.bool false) ∧ Below w.heap.size w w' := (errIs_nil b w).mono fun _ _ h => ⟨h.1, by rw [h.2]; exact Below.refl _ _⟩
set_option maxRecDepth 100000 in
set_option maxHeartbeats 2000000 in
theorem implSynthType (d D : Nat) (pe : Addr) (vc v : Value) (C : List Bi) (t : Ex) (w : World) (hv : BisAt w D vc C) (he : ExAt w d v t) (hs : Bi.bulks C + t.bulk ≤ 1048576) (herr : ErrAt w pe) (hmt : MeetTab w) (htab : TabAt w) :
  Calls Tryz.prog 11 #[vc, v] w (SynEnd (synTop d C t) w) := by
 have HE := Lib.hid he
 obtain ⟨kd', nm', n', tk, ta, tn, tc, sa, sm, sc, hv2⟩ := ex_parts he
 obtain ⟨va, vn, vc1, rfl⟩ : ∃ a n c, vc = .slice a n c := by obtain ⟨a, cap, hv, _⟩ := hv; exact ⟨_, _, _, hv⟩
 subst hv2
 clear he
 have HV := Lib.hid hv
 clear hv
 have HERR := Lib.hid herr
 have HMT := Lib.hid hmt
 have HTAB := Lib.hid htab
 clear herr hmt htab
 cases hhc : ctxB C with
 | false =>
  have HC := Lib.hid hhc
  clear hhc
  obtain ⟨w0, hw0, B, hz_w0, XE, FE, XR, FR⟩ := laid2 w #[.int .i64 kd', .string nm', .int .i64 n', .int .i64 tk, .slice ta tn tc, .slice sa sm sc] 40 #[.int .i64 0, .slice none 0 0] 33
  replace B := Lib.hid B
  go_enter Tryz.func11, Tryz.ntmps11
  go_wp2_with fail
  rw [← hw0]
  clear hw0
  have CC := implCtx D _ C _ (HV.out.below B.out) (by omega)
  rw [HC.out] at CC
  refine CC.mono ?_
  clear CC
  rintro e w1 ⟨rfl, hb⟩
  have hz_w1 := hb.size
  replace B := bb B hb
  replace XE := xb XE hb
  replace FE := fb FE hb
  replace XR := xb XR hb
  replace FR := fb FR hb
  clear hb
  have cR_0 := XR.out.2 0
  have cR_1 := XR.out.2 1
  have fR_0 := FR.out.2 0
  have fR_1 := FR.out.2 1
  go_wp2_with fail
  clear cR_0 cR_1 fR_0 fR_1
  have HW : Hid (synTop d C t = none) := by show _ = _; exact synTop_no (Or.inl HC.out)
  have XZ := put2_box (u := .int .i64 0) (v := .slice none 0 0) XR.out
  have h0 := XZ.2 0
  have h1 := XZ.2 1
  unfold put2 at h0 h1
  refine bodyPost_ret (v := .tuple #[.agg #[.int .i64 0, .slice none 0 0], .bool false]) (by simp [results, Tryz.results11, go_sem, h0, h1]) rfl ?_
  exact (by rw [HW.out]; exact ⟨1, _, _, _, _, rfl, leaf_in _ 0 _ _ (by omega) (by omega) (Nat.le_refl _), put2_below B.out (by omega)⟩)
 | true =>
  have HC := Lib.hid hhc
  clear hhc
  cases hhx : t.valid with
  | false =>
   have HX := Lib.hid hhx
   clear hhx
   obtain ⟨w0, hw0, B, hz_w0, XE, FE, XR, FR⟩ := laid2 w #[.int .i64 kd', .string nm', .int .i64 n', .int .i64 tk, .slice ta tn tc, .slice sa sm sc] 40 #[.int .i64 0, .slice none 0 0] 33
   replace B := Lib.hid B
   go_enter Tryz.func11, Tryz.ntmps11
   go_wp2_with fail
   rw [← hw0]
   clear hw0
   have CC := implCtx D _ C _ (HV.out.below B.out) (by omega)
   rw [HC.out] at CC
   refine CC.mono ?_
   clear CC
   rintro e w1 ⟨rfl, hb⟩
   have hz_w1 := hb.size
   replace B := bb B hb
   replace XE := xb XE hb
   replace FE := fb FE hb
   replace XR := xb XR hb
   replace FR := fb FR hb
   clear hb
   have cE_0 := XE.out.2 0
   have cE_1 := XE.out.2 1
   have cE_2 := XE.out.2 2
   have cE_3 := XE.out.2 3
   have cE_4 := XE.out.2 4
   have cE_5 := XE.out.2 5
   go_wp2_with fail
   clear cE_0 cE_1 cE_2 cE_3 cE_4 cE_5
   have CC := implExValid d _ t _ (HE.out.below B.out) (by omega) (HTAB.out.below B.out)
   rw [HX.out] at CC
   refine CC.mono ?_
   clear CC
   rintro e w2 ⟨rfl, hb⟩
   have hz_w2 := hb.size
   replace B := bb B hb
   replace XE := xb XE hb
   replace FE := fb FE hb
   replace XR := xb XR hb
   replace FR := fb FR hb
   clear hb
   have cR_0 := XR.out.2 0
   have cR_1 := XR.out.2 1
   have fR_0 := FR.out.2 0
   have fR_1 := FR.out.2 1
   go_wp2_with fail
   clear cR_0 cR_1 fR_0 fR_1
   have HW : Hid (synTop d C t = none) := by show _ = _; exact synTop_no (Or.inr HX.out)
   have XZ := put2_box (u := .int .i64 0) (v := .slice none 0 0) XR.out
   have h0 := XZ.2 0
   have h1 := XZ.2 1
   unfold put2 at h0 h1
   refine bodyPost_ret (v := .tuple #[.agg #[.int .i64 0, .slice none 0 0], .bool false]) (by simp [results, Tryz.results11, go_sem, h0, h1]) rfl ?_
   exact (by rw [HW.out]; exact ⟨1, _, _, _, _, rfl, leaf_in _ 0 _ _ (by omega) (by omega) (Nat.le_refl _), put2_below B.out (by omega)⟩)
  | true =>
   have HX := Lib.hid hhx
   clear hhx
   obtain ⟨w0, hw0, B, hz_w0, XE, FE, XR, FR⟩ := laid2 w #[.int .i64 kd', .string nm', .int .i64 n', .int .i64 tk, .slice ta tn tc, .slice sa sm sc] 40 #[.int .i64 0, .slice none 0 0] 33
   replace B := Lib.hid B
   go_enter Tryz.func11, Tryz.ntmps11
   go_wp2_with fail
   rw [← hw0]
   clear hw0
   have CC := implCtx D _ C _ (HV.out.below B.out) (by omega)
   rw [HC.out] at CC
   refine CC.mono ?_
   clear CC
   rintro e w1 ⟨rfl, hb⟩
   have hz_w1 := hb.size
   replace B := bb B hb
   replace XE := xb XE hb
   replace FE := fb FE hb
   replace XR := xb XR hb
   replace FR := fb FR hb
   clear hb
   have cE_0 := XE.out.2 0
   have cE_1 := XE.out.2 1
   have cE_2 := XE.out.2 2
   have cE_3 := XE.out.2 3
   have cE_4 := XE.out.2 4
   have cE_5 := XE.out.2 5
   go_wp2_with fail
   clear cE_0 cE_1 cE_2 cE_3 cE_4 cE_5
   have CC := implExValid d _ t _ (HE.out.below B.out) (by omega) (HTAB.out.below B.out)
   rw [HX.out] at CC
   refine CC.mono ?_
   clear CC
   rintro e w2 ⟨rfl, hb⟩
   have hz_w2 := hb.size
   replace B := bb B hb
   replace XE := xb XE hb
   replace FE := fb FE hb
   replace XR := xb XR hb
   replace FR := fb FR hb
   clear hb
   have cE_0 := XE.out.2 0
   have cE_1 := XE.out.2 1
   have cE_2 := XE.out.2 2
   have cE_3 := XE.out.2 3
   have cE_4 := XE.out.2 4
   have cE_5 := XE.out.2 5
   go_wp2_with fail
   clear cE_0 cE_1 cE_2 cE_3 cE_4 cE_5
   cases hsy : synE d C t with
   | none =>
    have HS := Lib.hid hsy
    clear hsy
    refine (Calls.mono ((implTyp_all d).1 D pe _ _ C t w2 (HV.out.below B.out) (HE.out.below B.out) (typOk HC.out HX.out hs) (HERR.out.below B.out) (HMT.out.below B.out)) (fun _ _ h => isyn_no HS.out h)).mono ?_
    rintro e w3 ⟨DL, lk, la, ln, lc, gt, rfl, ho, hgz, hb⟩
    have Ol := Lib.hid ho
    clear ho
    have hz_w3 := hb.size
    replace B := bb B hb
    replace XE := xb XE hb
    replace FE := fb FE hb
    replace XR := xb XR hb
    replace FR := fb FR hb
    clear hb
    obtain ⟨wa4, hwa4, hb, hy_wa4, XT6, FT6⟩ := laid1 w3 #[.int .i64 lk, .slice la ln lc] 33
    have hz_wa4 := hb.size
    replace B := bb B hb
    replace XE := xb XE hb
    replace FE := fb FE hb
    replace XR := xb XR hb
    replace FR := fb FR hb
    replace Ol := ob Ol hb
    clear hb
    have hge := (HERR.out.below B.out).1
    rw [hwa4] at hge
    go_wp2_with fail
    clear hge
    rw [← hwa4]
    clear hwa4
    refine (isSame pe _).mono ?_
    rintro e w5 ⟨rfl, hb⟩
    have hz_w5 := hb.size
    replace B := bb B hb
    replace XE := xb XE hb
    replace FE := fb FE hb
    replace XR := xb XR hb
    replace FR := fb FR hb
    replace XT6 := xb XT6 hb
    replace FT6 := fb FT6 hb
    replace Ol := ob Ol hb
    clear hb
    have cR_0 := XR.out.2 0
    have cR_1 := XR.out.2 1
    have cT6_0 := XT6.out.2 0
    have cT6_1 := XT6.out.2 1
    have fR_0 := FR.out.2 0
    have fR_1 := FR.out.2 1
    go_wp2_with fail
    clear cR_0 cR_1 cT6_0 cT6_1 fR_0 fR_1
    have HW : Hid (synTop d C t = none) := by show _ = _; rw [synTop_yes HC.out HX.out, HS.out]
    have XZ := put2_box (u := .int .i64 0) (v := .slice none 0 0) XR.out
    have h0 := XZ.2 0
    have h1 := XZ.2 1
    unfold put2 at h0 h1
    refine bodyPost_ret (v := .tuple #[.agg #[.int .i64 0, .slice none 0 0], .bool false]) (by simp [results, Tryz.results11, go_sem, h0, h1]) rfl ?_
    exact (by rw [HW.out]; exact ⟨1, _, _, _, _, rfl, leaf_in _ 0 _ _ (by omega) (by omega) (Nat.le_refl _), put2_below B.out (by omega)⟩)
   | some tx =>
    have HS := Lib.hid hsy
    clear hsy
    refine (Calls.mono ((implTyp_all d).1 D pe _ _ C t w2 (HV.out.below B.out) (HE.out.below B.out) (typOk HC.out HX.out hs) (HERR.out.below B.out) (HMT.out.below B.out)) (fun _ _ h => isyn_yes HS.out h)).mono ?_
    rintro e w3 ⟨DL, lk, la, ln, lc, rfl, ho, hb⟩
    have Ol := Lib.hid ho
    clear ho
    have hz_w3 := hb.size
    replace B := bb B hb
    replace XE := xb XE hb
    replace FE := fb FE hb
    replace XR := xb XR hb
    replace FR := fb FR hb
    clear hb
    obtain ⟨wa4, hwa4, hb, hy_wa4, XT6, FT6⟩ := laid1 w3 #[.int .i64 lk, .slice la ln lc] 33
    have hz_wa4 := hb.size
    replace B := bb B hb
    replace XE := xb XE hb
    replace FE := fb FE hb
    replace XR := xb XR hb
    replace FR := fb FR hb
    replace Ol := ob Ol hb
    clear hb
    have hge := (HERR.out.below B.out).1
    rw [hwa4] at hge
    go_wp2_with fail
    clear hge
    rw [← hwa4]
    clear hwa4
    refine (isNil pe _).mono ?_
    rintro e w5 ⟨rfl, hb⟩
    have hz_w5 := hb.size
    replace B := bb B hb
    replace XE := xb XE hb
    replace FE := fb FE hb
    replace XR := xb XR hb
    replace FR := fb FR hb
    replace XT6 := xb XT6 hb
    replace FT6 := fb FT6 hb
    replace Ol := ob Ol hb
    clear hb
    have cR_0 := XR.out.2 0
    have cR_1 := XR.out.2 1
    have cT6_0 := XT6.out.2 0
    have cT6_1 := XT6.out.2 1
    have fR_0 := FR.out.2 0
    have fR_1 := FR.out.2 1
    go_wp2_with fail
    clear cR_0 cR_1 cT6_0 cT6_1 fR_0 fR_1
    have htop := own_top Ol.out
    have HW : Hid (synTop d C t = some tx) := by show _ = _; rw [synTop_yes HC.out HX.out, HS.out]
    have XZ := put2_box (u := .int .i64 lk) (v := .slice la ln lc) XR.out
    have h0 := XZ.2 0
    have h1 := XZ.2 1
    unfold put2 at h0 h1
    refine bodyPost_ret (v := .tuple #[.agg #[.int .i64 lk, .slice la ln lc], .bool true]) (by simp [results, Tryz.results11, go_sem, h0, h1]) rfl ?_
    exact (by rw [HW.out]; exact ⟨DL, _, _, _, _, rfl, (put2_own Ol.out (by omega)).widen (by omega) (by first | (simp; omega) | simp) (Nat.le_refl _), put2_below B.out (by omega)⟩)
set_option maxRecDepth 100000 in
set_option maxHeartbeats 2000000 in
theorem implIsWellTyped (d D : Nat) (pe : Addr) (vc v : Value) (C : List Bi) (t : Ex) (w : World) (hv : BisAt w D vc C) (he : ExAt w d v t) (hs : Bi.bulks C + t.bulk ≤ 1048576) (herr : ErrAt w pe) (hmt : MeetTab w) (htab : TabAt w) :
  Calls Tryz.prog 24 #[vc, v] w fun e w' => e = .returned (.bool (synTop d C t).isSome) ∧ Below w.heap.size w w' := by
 have HE := Lib.hid he
 obtain ⟨kd', nm', n', tk, ta, tn, tc, sa, sm, sc, hv2⟩ := ex_parts he
 obtain ⟨va, vn, vc1, rfl⟩ : ∃ a n c, vc = .slice a n c := by obtain ⟨a, cap, hv, _⟩ := hv; exact ⟨_, _, _, hv⟩
 subst hv2
 clear he
 have HV := Lib.hid hv
 clear hv
 have HERR := Lib.hid herr
 have HMT := Lib.hid hmt
 have HTAB := Lib.hid htab
 clear herr hmt htab
 obtain ⟨w0, hw0, B, hz_w0, XE, FE⟩ := laid1 w #[.int .i64 kd', .string nm', .int .i64 n', .int .i64 tk, .slice ta tn tc, .slice sa sm sc] 40
 replace B := Lib.hid B
 go_enter Tryz.func24, Tryz.ntmps24
 go_wp2_with fail
 rw [← hw0]
 clear hw0
 refine (implSynthType d D pe _ _ C t _ (HV.out.below B.out) (HE.out.below B.out) hs (HERR.out.below B.out) (HMT.out.below B.out) (HTAB.out.below B.out)).mono ?_
 rintro e w1 ⟨DL, lk, la, ln, lc, rfl, ho, hb⟩
 have Ol := Lib.hid ho
 clear ho
 have hz_w1 := hb.size
 replace B := bb B hb
 replace XE := xb XE hb
 replace FE := fb FE hb
 clear hb
 obtain ⟨wa2, hwa2, hb, hy_wa2, XT5, FT5⟩ := laid1 w1 #[.int .i64 lk, .slice la ln lc] 33
 have hz_wa2 := hb.size
 replace B := bb B hb
 replace XE := xb XE hb
 replace FE := fb FE hb
 replace Ol := ob Ol hb
 clear hb
 go_wp2_with fail
 rw [← hwa2]
 clear hwa2
 go_ret
 exact ⟨rfl, B.out⟩
set_option maxRecDepth 100000 in
set_option maxHeartbeats 2000000 in
theorem implCheckType (d D D2 : Nat) (pe : Addr) (vc v tv : Value) (C : List Bi) (t : Ex) (x : Ty) (w : World) (hv : BisAt w D vc C) (he : ExAt w d v t) (ht : TyAt w D2 tv x) (hs : Bi.bulks C + t.bulk ≤ 1048576) (hx : x.size ≤ 1048577) (herr : ErrAt w pe) (hmt : MeetTab w) (htab : TabAt w) :
  Calls Tryz.prog 22 #[vc, v, tv] w fun e w' => e = .returned (.bool (anaTop d C t x)) ∧ Below w.heap.size w w' := by
 have HE := Lib.hid he
 obtain ⟨kd', nm', n', tk, ta, tn, tc, sa, sm, sc, hv2⟩ := ex_parts he
 obtain ⟨va, vn, vc1, rfl⟩ : ∃ a n c, vc = .slice a n c := by obtain ⟨a, cap, hv, _⟩ := hv; exact ⟨_, _, _, hv⟩
 subst hv2
 clear he
 have HV := Lib.hid hv
 clear hv
 have HERR := Lib.hid herr
 have HMT := Lib.hid hmt
 have HTAB := Lib.hid htab
 clear herr hmt htab
 obtain ⟨uk, ua, un, uc, rfl⟩ := agg_parts ht
 have HU := Lib.hid ht
 clear ht
 cases hhc : ctxB C with
 | false =>
  have HC := Lib.hid hhc
  clear hhc
  obtain ⟨w0, hw0, B, hz_w0, XE, FE, XT, FT⟩ := laid2 w #[.int .i64 kd', .string nm', .int .i64 n', .int .i64 tk, .slice ta tn tc, .slice sa sm sc] 40 #[.int .i64 uk, .slice ua un uc] 33
  replace B := Lib.hid B
  go_enter Tryz.func22, Tryz.ntmps22
  go_wp2_with fail
  rw [← hw0]
  clear hw0
  have CC := implCtx D _ C _ (HV.out.below B.out) (by omega)
  rw [HC.out] at CC
  refine CC.mono ?_
  clear CC
  rintro e w1 ⟨rfl, hb⟩
  have hz_w1 := hb.size
  replace B := bb B hb
  replace XE := xb XE hb
  replace FE := fb FE hb
  replace XT := xb XT hb
  replace FT := fb FT hb
  clear hb
  go_wp2_with fail
  have HW : Hid (anaTop d C t x = false) := by show _ = _; unfold anaTop; rw [HC.out]; rfl
  go_ret
  exact ⟨by rw [HW.out]; try rfl, B.out⟩
 | true =>
  have HC := Lib.hid hhc
  clear hhc
  cases hhx : t.valid with
  | false =>
   have HX := Lib.hid hhx
   clear hhx
   obtain ⟨w0, hw0, B, hz_w0, XE, FE, XT, FT⟩ := laid2 w #[.int .i64 kd', .string nm', .int .i64 n', .int .i64 tk, .slice ta tn tc, .slice sa sm sc] 40 #[.int .i64 uk, .slice ua un uc] 33
   replace B := Lib.hid B
   go_enter Tryz.func22, Tryz.ntmps22
   go_wp2_with fail
   rw [← hw0]
   clear hw0
   have CC := implCtx D _ C _ (HV.out.below B.out) (by omega)
   rw [HC.out] at CC
   refine CC.mono ?_
   clear CC
   rintro e w1 ⟨rfl, hb⟩
   have hz_w1 := hb.size
   replace B := bb B hb
   replace XE := xb XE hb
   replace FE := fb FE hb
   replace XT := xb XT hb
   replace FT := fb FT hb
   clear hb
   have cE_0 := XE.out.2 0
   have cE_1 := XE.out.2 1
   have cE_2 := XE.out.2 2
   have cE_3 := XE.out.2 3
   have cE_4 := XE.out.2 4
   have cE_5 := XE.out.2 5
   go_wp2_with fail
   clear cE_0 cE_1 cE_2 cE_3 cE_4 cE_5
   have CC := implExValid d _ t _ (HE.out.below B.out) (by omega) (HTAB.out.below B.out)
   rw [HX.out] at CC
   refine CC.mono ?_
   clear CC
   rintro e w2 ⟨rfl, hb⟩
   have hz_w2 := hb.size
   replace B := bb B hb
   replace XE := xb XE hb
   replace FE := fb FE hb
   replace XT := xb XT hb
   replace FT := fb FT hb
   clear hb
   go_wp2_with fail
   have HW : Hid (anaTop d C t x = false) := by show _ = _; unfold anaTop; rw [HC.out, HX.out]; rfl
   go_ret
   exact ⟨by rw [HW.out]; try rfl, B.out⟩
  | true =>
   have HX := Lib.hid hhx
   clear hhx
   cases hhy : x.valid with
   | false =>
    have HY := Lib.hid hhy
    clear hhy
    obtain ⟨w0, hw0, B, hz_w0, XE, FE, XT, FT⟩ := laid2 w #[.int .i64 kd', .string nm', .int .i64 n', .int .i64 tk, .slice ta tn tc, .slice sa sm sc] 40 #[.int .i64 uk, .slice ua un uc] 33
    replace B := Lib.hid B
    go_enter Tryz.func22, Tryz.ntmps22
    go_wp2_with fail
    rw [← hw0]
    clear hw0
    have CC := implCtx D _ C _ (HV.out.below B.out) (by omega)
    rw [HC.out] at CC
    refine CC.mono ?_
    clear CC
    rintro e w1 ⟨rfl, hb⟩
    have hz_w1 := hb.size
    replace B := bb B hb
    replace XE := xb XE hb
    replace FE := fb FE hb
    replace XT := xb XT hb
    replace FT := fb FT hb
    clear hb
    have cE_0 := XE.out.2 0
    have cE_1 := XE.out.2 1
    have cE_2 := XE.out.2 2
    have cE_3 := XE.out.2 3
    have cE_4 := XE.out.2 4
    have cE_5 := XE.out.2 5
    go_wp2_with fail
    clear cE_0 cE_1 cE_2 cE_3 cE_4 cE_5
    have CC := implExValid d _ t _ (HE.out.below B.out) (by omega) (HTAB.out.below B.out)
    rw [HX.out] at CC
    refine CC.mono ?_
    clear CC
    rintro e w2 ⟨rfl, hb⟩
    have hz_w2 := hb.size
    replace B := bb B hb
    replace XE := xb XE hb
    replace FE := fb FE hb
    replace XT := xb XT hb
    replace FT := fb FT hb
    clear hb
    have cT_0 := XT.out.2 0
    have cT_1 := XT.out.2 1
    go_wp2_with fail
    clear cT_0 cT_1
    have CC := implValid D2 _ x _ (HU.out.below B.out) hx
    rw [HY.out] at CC
    refine CC.mono ?_
    clear CC
    rintro e w3 ⟨rfl, hb⟩
    have hz_w3 := hb.size
    replace B := bb B hb
    replace XE := xb XE hb
    replace FE := fb FE hb
    replace XT := xb XT hb
    replace FT := fb FT hb
    clear hb
    go_wp2_with fail
    have HW : Hid (anaTop d C t x = false) := by show _ = _; unfold anaTop; rw [HC.out, HX.out, HY.out]; rfl
    go_ret
    exact ⟨by rw [HW.out]; try rfl, B.out⟩
   | true =>
    have HY := Lib.hid hhy
    clear hhy
    cases hha : anaE d C t x with
    | false =>
     have HA := Lib.hid hha
     clear hha
     obtain ⟨w0, hw0, B, hz_w0, XE, FE, XT, FT⟩ := laid2 w #[.int .i64 kd', .string nm', .int .i64 n', .int .i64 tk, .slice ta tn tc, .slice sa sm sc] 40 #[.int .i64 uk, .slice ua un uc] 33
     replace B := Lib.hid B
     go_enter Tryz.func22, Tryz.ntmps22
     go_wp2_with fail
     rw [← hw0]
     clear hw0
     have CC := implCtx D _ C _ (HV.out.below B.out) (by omega)
     rw [HC.out] at CC
     refine CC.mono ?_
     clear CC
     rintro e w1 ⟨rfl, hb⟩
     have hz_w1 := hb.size
     replace B := bb B hb
     replace XE := xb XE hb
     replace FE := fb FE hb
     replace XT := xb XT hb
     replace FT := fb FT hb
     clear hb
     have cE_0 := XE.out.2 0
     have cE_1 := XE.out.2 1
     have cE_2 := XE.out.2 2
     have cE_3 := XE.out.2 3
     have cE_4 := XE.out.2 4
     have cE_5 := XE.out.2 5
     go_wp2_with fail
     clear cE_0 cE_1 cE_2 cE_3 cE_4 cE_5
     have CC := implExValid d _ t _ (HE.out.below B.out) (by omega) (HTAB.out.below B.out)
     rw [HX.out] at CC
     refine CC.mono ?_
     clear CC
     rintro e w2 ⟨rfl, hb⟩
     have hz_w2 := hb.size
     replace B := bb B hb
     replace XE := xb XE hb
     replace FE := fb FE hb
     replace XT := xb XT hb
     replace FT := fb FT hb
     clear hb
     have cT_0 := XT.out.2 0
     have cT_1 := XT.out.2 1
     go_wp2_with fail
     clear cT_0 cT_1
     have CC := implValid D2 _ x _ (HU.out.below B.out) hx
     rw [HY.out] at CC
     refine CC.mono ?_
     clear CC
     rintro e w3 ⟨rfl, hb⟩
     have hz_w3 := hb.size
     replace B := bb B hb
     replace XE := xb XE hb
     replace FE := fb FE hb
     replace XT := xb XT hb
     replace FT := fb FT hb
     clear hb
     go_wp2_with fail
     obtain ⟨wd4, hwd4⟩ : ∃ W, W = w3.drew := ⟨_, rfl⟩
     have hb : Below w3.heap.size w3 wd4 := by rw [hwd4]; exact below_drew _
     have hz_wd4 := hb.size
     replace B := bb B hb
     replace XE := xb XE hb
     replace FE := fb FE hb
     replace XT := xb XT hb
     replace FT := fb FT hb
     clear hb
     refine wp_region_held_drew (S := fun w' => w'.cell? ⟨w.heap.size, 0, none⟩ = some (.int .i64 kd') ∧ w'.cell? ⟨w.heap.size, 1, none⟩ = some (.string nm') ∧ w'.cell? ⟨w.heap.size, 2, none⟩ = some (.int .i64 n') ∧ w'.cell? ⟨w.heap.size, 3, none⟩ = some (.int .i64 tk) ∧ w'.cell? ⟨w.heap.size, 4, none⟩ = some (.slice ta tn tc) ∧ w'.cell? ⟨w.heap.size, 5, none⟩ = some (.slice sa sm sc) ∧ w'.cell? ⟨w.heap.size + 1, 0, none⟩ = some (.int .i64 uk) ∧ w'.cell? ⟨w.heap.size + 1, 1, none⟩ = some (.slice ua un uc) ∧ w'.cell? ⟨0, 0, none⟩ = some (.iface 141 (.pointer (some pe)))) (by kernel_rfl) (by rw [← hwd4]; exact ⟨XE.out.2 0, XE.out.2 1, XE.out.2 2, XE.out.2 3, XE.out.2 4, XE.out.2 5, XT.out.2 0, XT.out.2 1, (B.out.cell (p := ⟨0, 0, none⟩) HERR.out.2).trans HERR.out.1⟩) (fun hHeld => ?_)
     rw [← hwd4] at hHeld ⊢
     clear hwd4
     refine wpAnyH_take (i := 0) (v := ?v1_0) rfl (by kernel_rfl) (by kernel_rfl) (by kernel_rfl) (fun _ _ _ h => h) (Or.inl ⟨by kernel_rfl, ?hy1_0⟩) hHeld ?rest1_0
     case hy1_0 =>
      intro w hSw
      (try dsimp only at hSw)
      go_simp
      all_goals (first | done | with_reducible rfl)
     try simp only [Act.put]
     try simp only [List.setIfInBounds_toArray]
     try simp only [List.set_cons_succ]
     try simp only [List.set_cons_zero]
     refine wpAnyH_take (i := 1) (v := ?v2_1) rfl (by kernel_rfl) (by kernel_rfl) (by kernel_rfl) (fun _ _ _ h => h) (Or.inl ⟨by kernel_rfl, ?hy2_1⟩) hHeld ?rest2_1
     case hy2_1 =>
      intro w hSw
      (try dsimp only at hSw)
      go_simp
      all_goals (first | done | with_reducible rfl)
     try simp only [Act.put]
     try simp only [List.setIfInBounds_toArray]
     try simp only [List.set_cons_succ]
     try simp only [List.set_cons_zero]
     refine wpAnyH_take (i := 2) (v := ?v3_2) rfl (by kernel_rfl) (by kernel_rfl) (by kernel_rfl) (fun _ _ _ h => h) (Or.inl ⟨by kernel_rfl, ?hy3_2⟩) hHeld ?rest3_2
     case hy3_2 =>
      intro w hSw
      (try dsimp only at hSw)
      go_simp
      all_goals (first | done | with_reducible rfl)
     try simp only [Act.put]
     try simp only [List.setIfInBounds_toArray]
     try simp only [List.set_cons_succ]
     try simp only [List.set_cons_zero]
     refine wpAnyH_take (i := 4) (v := ?v4_4) rfl (by kernel_rfl) (by kernel_rfl) (by kernel_rfl) (fun _ _ _ h => h) (Or.inl ⟨by kernel_rfl, ?hy4_4⟩) hHeld ?rest4_4
     case hy4_4 =>
      intro w hSw
      (try dsimp only at hSw)
      go_simp
      all_goals (first | done | with_reducible rfl)
     try simp only [Act.put]
     try simp only [List.setIfInBounds_toArray]
     try simp only [List.set_cons_succ]
     try simp only [List.set_cons_zero]
     refine wpAnyH_ready (rs := [3]) (by kernel_rfl) (by simp) ?_
     refine AllReadyH.cons rfl (fun K hK => ?_) AllReadyH.nil
     go_simp
     go_at_call 48
     have CC := (implTyp_all d).2 D D2 pe _ _ _ C t x wd4 (HV.out.below B.out) (HE.out.below B.out) (HU.out.below B.out) (typOk HC.out HX.out hs) hx (HERR.out.below B.out) (HMT.out.below B.out)
     rw [HA.out, show errOf pe false = .iface 141 (.pointer (some pe)) from rfl] at CC
     refine CC.mono ?_
     clear CC
     rintro e w5 ⟨rfl, hb⟩
     have hz_w5 := hb.size
     replace B := bb B hb
     replace XE := xb XE hb
     replace FE := fb FE hb
     replace XT := xb XT hb
     replace FT := fb FT hb
     clear hb
     clear hHeld
     try go_wp2_with fail
     refine hK.out _ _ (by exact ⟨XE.out.2 0, XE.out.2 1, XE.out.2 2, XE.out.2 3, XE.out.2 4, XE.out.2 5, XT.out.2 0, XT.out.2 1, (B.out.cell (p := ⟨0, 0, none⟩) HERR.out.2).trans HERR.out.1⟩) (fun hHeld => ?_)
     clear hK K
     try simp only [Act.put]
     try simp only [List.setIfInBounds_toArray]
     try simp only [List.set_cons_succ]
     try simp only [List.set_cons_zero]
     refine wpAnyH_ready (rs := [5]) (by kernel_rfl) (by simp) ?_
     refine AllReadyH.cons rfl (fun K hK => ?_) AllReadyH.nil
     go_simp
     go_at_call 35
     refine (isSame pe _).mono ?_
     rintro e w6 ⟨rfl, hb⟩
     have hz_w6 := hb.size
     replace B := bb B hb
     replace XE := xb XE hb
     replace FE := fb FE hb
     replace XT := xb XT hb
     replace FT := fb FT hb
     clear hb
     clear hHeld
     try go_wp2_with fail
     refine hK.out _ _ (by exact ⟨XE.out.2 0, XE.out.2 1, XE.out.2 2, XE.out.2 3, XE.out.2 4, XE.out.2 5, XT.out.2 0, XT.out.2 1, (B.out.cell (p := ⟨0, 0, none⟩) HERR.out.2).trans HERR.out.1⟩) (fun hHeld => ?_)
     clear hK K
     try simp only [Act.put]
     try simp only [List.setIfInBounds_toArray]
     try simp only [List.set_cons_succ]
     try simp only [List.set_cons_zero]
     refine wpAnyH_take (i := 6) (v := ?v5_6) rfl (by kernel_rfl) (by kernel_rfl) (by kernel_rfl) (fun _ _ _ h => h) (Or.inl ⟨by kernel_rfl, ?hy5_6⟩) hHeld ?rest5_6
     case hy5_6 =>
      intro w hSw
      (try dsimp only at hSw)
      go_simp
      all_goals (first | done | with_reducible rfl)
     try simp only [Act.put]
     try simp only [List.setIfInBounds_toArray]
     try simp only [List.set_cons_succ]
     try simp only [List.set_cons_zero]
     refine wpAnyH_ready (rs := [7]) (by kernel_rfl) (by simp) ?_
     refine AllReadyH.cons rfl (fun K hK => ?_) AllReadyH.nil
     go_simp
     refine hK.out _ _ hHeld (fun hHeld => ?_)
     clear hK K
     try simp only [Act.put]
     try simp only [List.setIfInBounds_toArray]
     try simp only [List.set_cons_succ]
     try simp only [List.set_cons_zero]
     refine wpAnyH_done (by kernel_rfl) ?_ _
     try simp only [List.getElem_toArray]
     try simp only [List.getElem_cons_succ]
     try simp only [List.getElem_cons_zero]
     try simp only [Act.put]
     try simp only [List.setIfInBounds_toArray]
     try simp only [List.set_cons_succ]
     try simp only [List.set_cons_zero]
     go_wp2_with fail
     have HW : Hid (anaTop d C t x = false) := by show _ = _; unfold anaTop; rw [HC.out, HX.out, HY.out, HA.out]; rfl
     go_ret
     exact ⟨by rw [HW.out]; try rfl, B.out⟩
    | true =>
     have HA := Lib.hid hha
     clear hha
     obtain ⟨w0, hw0, B, hz_w0, XE, FE, XT, FT⟩ := laid2 w #[.int .i64 kd', .string nm', .int .i64 n', .int .i64 tk, .slice ta tn tc, .slice sa sm sc] 40 #[.int .i64 uk, .slice ua un uc] 33
     replace B := Lib.hid B
     go_enter Tryz.func22, Tryz.ntmps22
     go_wp2_with fail
     rw [← hw0]
     clear hw0
     have CC := implCtx D _ C _ (HV.out.below B.out) (by omega)
     rw [HC.out] at CC
     refine CC.mono ?_
     clear CC
     rintro e w1 ⟨rfl, hb⟩
     have hz_w1 := hb.size
     replace B := bb B hb
     replace XE := xb XE hb
     replace FE := fb FE hb
     replace XT := xb XT hb
     replace FT := fb FT hb
     clear hb
     have cE_0 := XE.out.2 0
     have cE_1 := XE.out.2 1
     have cE_2 := XE.out.2 2
     have cE_3 := XE.out.2 3
     have cE_4 := XE.out.2 4
     have cE_5 := XE.out.2 5
     go_wp2_with fail
     clear cE_0 cE_1 cE_2 cE_3 cE_4 cE_5
     have CC := implExValid d _ t _ (HE.out.below B.out) (by omega) (HTAB.out.below B.out)
     rw [HX.out] at CC
     refine CC.mono ?_
     clear CC
     rintro e w2 ⟨rfl, hb⟩
     have hz_w2 := hb.size
     replace B := bb B hb
     replace XE := xb XE hb
     replace FE := fb FE hb
     replace XT := xb XT hb
     replace FT := fb FT hb
     clear hb
     have cT_0 := XT.out.2 0
     have cT_1 := XT.out.2 1
     go_wp2_with fail
     clear cT_0 cT_1
     have CC := implValid D2 _ x _ (HU.out.below B.out) hx
     rw [HY.out] at CC
     refine CC.mono ?_
     clear CC
     rintro e w3 ⟨rfl, hb⟩
     have hz_w3 := hb.size
     replace B := bb B hb
     replace XE := xb XE hb
     replace FE := fb FE hb
     replace XT := xb XT hb
     replace FT := fb FT hb
     clear hb
     go_wp2_with fail
     obtain ⟨wd4, hwd4⟩ : ∃ W, W = w3.drew := ⟨_, rfl⟩
     have hb : Below w3.heap.size w3 wd4 := by rw [hwd4]; exact below_drew _
     have hz_wd4 := hb.size
     replace B := bb B hb
     replace XE := xb XE hb
     replace FE := fb FE hb
     replace XT := xb XT hb
     replace FT := fb FT hb
     clear hb
     refine wp_region_held_drew (S := fun w' => w'.cell? ⟨w.heap.size, 0, none⟩ = some (.int .i64 kd') ∧ w'.cell? ⟨w.heap.size, 1, none⟩ = some (.string nm') ∧ w'.cell? ⟨w.heap.size, 2, none⟩ = some (.int .i64 n') ∧ w'.cell? ⟨w.heap.size, 3, none⟩ = some (.int .i64 tk) ∧ w'.cell? ⟨w.heap.size, 4, none⟩ = some (.slice ta tn tc) ∧ w'.cell? ⟨w.heap.size, 5, none⟩ = some (.slice sa sm sc) ∧ w'.cell? ⟨w.heap.size + 1, 0, none⟩ = some (.int .i64 uk) ∧ w'.cell? ⟨w.heap.size + 1, 1, none⟩ = some (.slice ua un uc) ∧ w'.cell? ⟨0, 0, none⟩ = some (.iface 141 (.pointer (some pe)))) (by kernel_rfl) (by rw [← hwd4]; exact ⟨XE.out.2 0, XE.out.2 1, XE.out.2 2, XE.out.2 3, XE.out.2 4, XE.out.2 5, XT.out.2 0, XT.out.2 1, (B.out.cell (p := ⟨0, 0, none⟩) HERR.out.2).trans HERR.out.1⟩) (fun hHeld => ?_)
     rw [← hwd4] at hHeld ⊢
     clear hwd4
     refine wpAnyH_take (i := 0) (v := ?v6_0) rfl (by kernel_rfl) (by kernel_rfl) (by kernel_rfl) (fun _ _ _ h => h) (Or.inl ⟨by kernel_rfl, ?hy6_0⟩) hHeld ?rest6_0
     case hy6_0 =>
      intro w hSw
      (try dsimp only at hSw)
      go_simp
      all_goals (first | done | with_reducible rfl)
     try simp only [Act.put]
     try simp only [List.setIfInBounds_toArray]
     try simp only [List.set_cons_succ]
     try simp only [List.set_cons_zero]
     refine wpAnyH_take (i := 1) (v := ?v7_1) rfl (by kernel_rfl) (by kernel_rfl) (by kernel_rfl) (fun _ _ _ h => h) (Or.inl ⟨by kernel_rfl, ?hy7_1⟩) hHeld ?rest7_1
     case hy7_1 =>
      intro w hSw
      (try dsimp only at hSw)
      go_simp
      all_goals (first | done | with_reducible rfl)
     try simp only [Act.put]
     try simp only [List.setIfInBounds_toArray]
     try simp only [List.set_cons_succ]
     try simp only [List.set_cons_zero]
     refine wpAnyH_take (i := 2) (v := ?v8_2) rfl (by kernel_rfl) (by kernel_rfl) (by kernel_rfl) (fun _ _ _ h => h) (Or.inl ⟨by kernel_rfl, ?hy8_2⟩) hHeld ?rest8_2
     case hy8_2 =>
      intro w hSw
      (try dsimp only at hSw)
      go_simp
      all_goals (first | done | with_reducible rfl)
     try simp only [Act.put]
     try simp only [List.setIfInBounds_toArray]
     try simp only [List.set_cons_succ]
     try simp only [List.set_cons_zero]
     refine wpAnyH_take (i := 4) (v := ?v9_4) rfl (by kernel_rfl) (by kernel_rfl) (by kernel_rfl) (fun _ _ _ h => h) (Or.inl ⟨by kernel_rfl, ?hy9_4⟩) hHeld ?rest9_4
     case hy9_4 =>
      intro w hSw
      (try dsimp only at hSw)
      go_simp
      all_goals (first | done | with_reducible rfl)
     try simp only [Act.put]
     try simp only [List.setIfInBounds_toArray]
     try simp only [List.set_cons_succ]
     try simp only [List.set_cons_zero]
     refine wpAnyH_ready (rs := [3]) (by kernel_rfl) (by simp) ?_
     refine AllReadyH.cons rfl (fun K hK => ?_) AllReadyH.nil
     go_simp
     go_at_call 48
     have CC := (implTyp_all d).2 D D2 pe _ _ _ C t x wd4 (HV.out.below B.out) (HE.out.below B.out) (HU.out.below B.out) (typOk HC.out HX.out hs) hx (HERR.out.below B.out) (HMT.out.below B.out)
     rw [HA.out, show errOf pe true = .nilIface from rfl] at CC
     refine CC.mono ?_
     clear CC
     rintro e w5 ⟨rfl, hb⟩
     have hz_w5 := hb.size
     replace B := bb B hb
     replace XE := xb XE hb
     replace FE := fb FE hb
     replace XT := xb XT hb
     replace FT := fb FT hb
     clear hb
     clear hHeld
     try go_wp2_with fail
     refine hK.out _ _ (by exact ⟨XE.out.2 0, XE.out.2 1, XE.out.2 2, XE.out.2 3, XE.out.2 4, XE.out.2 5, XT.out.2 0, XT.out.2 1, (B.out.cell (p := ⟨0, 0, none⟩) HERR.out.2).trans HERR.out.1⟩) (fun hHeld => ?_)
     clear hK K
     try simp only [Act.put]
     try simp only [List.setIfInBounds_toArray]
     try simp only [List.set_cons_succ]
     try simp only [List.set_cons_zero]
     refine wpAnyH_ready (rs := [5]) (by kernel_rfl) (by simp) ?_
     refine AllReadyH.cons rfl (fun K hK => ?_) AllReadyH.nil
     go_simp
     go_at_call 35
     refine (isNil pe _).mono ?_
     rintro e w6 ⟨rfl, hb⟩
     have hz_w6 := hb.size
     replace B := bb B hb
     replace XE := xb XE hb
     replace FE := fb FE hb
     replace XT := xb XT hb
     replace FT := fb FT hb
     clear hb
     clear hHeld
     try go_wp2_with fail
     refine hK.out _ _ (by exact ⟨XE.out.2 0, XE.out.2 1, XE.out.2 2, XE.out.2 3, XE.out.2 4, XE.out.2 5, XT.out.2 0, XT.out.2 1, (B.out.cell (p := ⟨0, 0, none⟩) HERR.out.2).trans HERR.out.1⟩) (fun hHeld => ?_)
     clear hK K
     try simp only [Act.put]
     try simp only [List.setIfInBounds_toArray]
     try simp only [List.set_cons_succ]
     try simp only [List.set_cons_zero]
     refine wpAnyH_take (i := 6) (v := ?v10_6) rfl (by kernel_rfl) (by kernel_rfl) (by kernel_rfl) (fun _ _ _ h => h) (Or.inl ⟨by kernel_rfl, ?hy10_6⟩) hHeld ?rest10_6
     case hy10_6 =>
      intro w hSw
      (try dsimp only at hSw)
      go_simp
      all_goals (first | done | with_reducible rfl)
     try simp only [Act.put]
     try simp only [List.setIfInBounds_toArray]
     try simp only [List.set_cons_succ]
     try simp only [List.set_cons_zero]
     refine wpAnyH_ready (rs := [7]) (by kernel_rfl) (by simp) ?_
     refine AllReadyH.cons rfl (fun K hK => ?_) AllReadyH.nil
     go_simp
     refine hK.out _ _ hHeld (fun hHeld => ?_)
     clear hK K
     try simp only [Act.put]
     try simp only [List.setIfInBounds_toArray]
     try simp only [List.set_cons_succ]
     try simp only [List.set_cons_zero]
     refine wpAnyH_done (by kernel_rfl) ?_ _
     try simp only [List.getElem_toArray]
     try simp only [List.getElem_cons_succ]
     try simp only [List.getElem_cons_zero]
     try simp only [Act.put]
     try simp only [List.setIfInBounds_toArray]
     try simp only [List.set_cons_succ]
     try simp only [List.set_cons_zero]
     go_wp2_with fail
     have HW : Hid (anaTop d C t x = true) := by show _ = _; unfold anaTop; rw [HC.out, HX.out, HY.out, HA.out]; rfl
     go_ret
     exact ⟨by rw [HW.out]; try rfl, B.out⟩
end Go.Proofs.YteffjeejbdjjpaaGreatDoor
