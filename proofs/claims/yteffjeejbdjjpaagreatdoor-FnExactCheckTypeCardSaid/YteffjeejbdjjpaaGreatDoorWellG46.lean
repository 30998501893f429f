/-
  Proved: impl.synth and impl.analyze, whole.
-/
import Derived.Test.YteffjeejbdjjpaaGreatDoorWellG42
import Derived.Test.YteffjeejbdjjpaaGreatDoorWellG37
import Derived.Test.YteffjeejbdjjpaaGreatDoorWellG3
import Derived.Test.YteffjeejbdjjpaaGreatDoorWellG17
import Derived.Test.YteffjeejbdjjpaaGreatDoorWellG20
import Derived.Test.YteffjeejbdjjpaaGreatDoorWellG43
import Derived.Test.YteffjeejbdjjpaaGreatDoorWellG41
import Derived.Test.YteffjeejbdjjpaaGreatDoorWellG44
import Derived.Test.YteffjeejbdjjpaaGreatDoorWellG45
/-
  Proved: impl.analyze: what an expression is analyzed against.
-/
namespace Go.Proofs.YteffjeejbdjjpaaGreatDoor
open Go.RowKit

set_option maxRecDepth 100000 in
set_option maxHeartbeats 2000000 in
theorem implAna10 (d : Nat) (iha : ImplAnaSaid d) (D D2 : Nat) (pe : Addr) (vc v tv : Value) (C : List Bi) (nm : ByteArray) (n : Int) (ty : Ty) (es : List Ex) (x : Ty) (w : World) (hv : BisAt w D vc C) (he : ExAt w (d + 1) v (.node 10 nm n ty es)) (ht : TyAt w D2 tv x) (hok : TypOk C (.node 10 nm n ty es)) (hx : x.size ≤ 1048577) (herr : ErrAt w pe) (hmt : MeetTab w) :
  Calls Tryz.prog 48 #[vc, v, tv] w fun e w' => e = .returned (errOf pe (anaE (d + 1) C (.node 10 nm n ty es) x)) ∧ Below w.heap.size w w' := by
 have HE := Lib.hid he
 obtain ⟨uk, ua, un, uc, rfl⟩ := agg_parts ht
 have HU := Lib.hid ht
 clear ht
 obtain ⟨c3, c4, sl, hx, hk0, hk1, hn0, hn1, hnm, hty, sa, sc, hsl, hcap, hcap2, hat⟩ := he
 subst hsl
 obtain ⟨tk, ta, tn, tc, rfl, rfl⟩ := at_parts hty
 subst hx
 have HROW : Hid (ExsAt w d (.slice sa es.length sc) es) := Lib.hid ⟨_, _, rfl, hcap, hcap2, hat⟩
 obtain ⟨va, vn, vc1, rfl⟩ : ∃ a n c, vc = .slice a n c := by obtain ⟨a, cap, hv, _⟩ := hv; exact ⟨_, _, _, hv⟩
 have hlen : es.length = 2 := by have h1 := (form_parts hok.1).1; have h2 : arity 10 = 2 := rfl; omega
 have hq0 : 0 < es.length := by omega
 have hq1 : 1 < es.length := by omega
 obtain ⟨b, off, q0_0, q0_1, q0_2, q0_3, q0_4, q0_5, e0, hbl, z0_0, z0_1, z0_2, z0_3, z0_4, z0_5, ht0⟩ := hat 0 hq0
 subst e0
 obtain ⟨xk, xnm, xn, xtk, xta, xtn, xtc, xsa, xsm, xsc, rfl, rfl, rfl, rfl, rfl, rfl⟩ := ex_cells ht0
 simp only [Nat.zero_mul, Nat.add_zero] at z0_0 z0_1 z0_2 z0_3 z0_4 z0_5
 have K0_0 := Lib.hid z0_0
 have K0_1 := Lib.hid z0_1
 have K0_2 := Lib.hid z0_2
 have K0_3 := Lib.hid z0_3
 have K0_4 := Lib.hid z0_4
 have K0_5 := Lib.hid z0_5
 clear z0_0 z0_1 z0_2 z0_3 z0_4 z0_5
 have HT0 := Lib.hid ht0
 clear ht0
 obtain ⟨b1, off1, q1_0, q1_1, q1_2, q1_3, q1_4, q1_5, e1, hbl1, z1_0, z1_1, z1_2, z1_3, z1_4, z1_5, ht1⟩ := hat 1 hq1
 injection e1 with e1
 injection e1 with ea1 eb1
 subst ea1 eb1
 obtain ⟨yk, ynm, yn, ytk, yta, ytn, ytc, ysa, ysm, ysc, rfl, rfl, rfl, rfl, rfl, rfl⟩ := ex_cells ht1
 simp only [Nat.one_mul] at z1_0 z1_1 z1_2 z1_3 z1_4 z1_5
 have K1_0 := Lib.hid z1_0
 have K1_1 := Lib.hid z1_1
 have K1_2 := Lib.hid z1_2
 have K1_3 := Lib.hid z1_3
 have K1_4 := Lib.hid z1_4
 have K1_5 := Lib.hid z1_5
 clear z1_0 z1_1 z1_2 z1_3 z1_4 z1_5
 have HT1 := Lib.hid ht1
 clear ht1
 have HV := Lib.hid hv
 clear hv
 have HOK := Lib.hid hok
 clear hok hat
 have HTY := Lib.hid hty
 clear hty
 have HNM := Lib.hid hnm
 clear hnm
 have IHA := Lib.hid iha
 have HERR := Lib.hid herr
 have HMT := Lib.hid hmt
 clear iha herr hmt
 rw [hlen] at HE HROW ⊢
 have hr : anaE (d + 1) C (.node 10 nm n ty es) x = ((x.parts 5).2.2 && anaAll d C es [(x.parts 5).1, (x.parts 5).2.1]) := by rw [anaE_succ, anaAll_two d C es _ _ hq0 hq1]; simp only [anaStep]; rw [Ex.arg_get hq0, Ex.arg_get hq1]; simp
 have HR := Lib.hid hr
 clear hr
 have hps := parts_size 5 x
 cases hhp : (x.parts 5).2.2 with
 | false =>
  have HP := Lib.hid hhp
  clear hhp
  obtain ⟨w0, hw0, B, hz_w0, XE, FE, XT, FT⟩ := laid2 w #[.int .i64 10, .string nm, .int .i64 n, .int .i64 tk, .slice ta tn tc, .slice (some ⟨b, off, none⟩) 2 sc] 40 #[.int .i64 uk, .slice ua un uc] 33
  replace B := Lib.hid B
  go_enter Tryz.func48, Tryz.ntmps48
  go_wp2_with fail
  rw [← hw0]
  clear hw0
  refine (Calls.mono (implMatchPair _ _ _ _ (HU.out.below B.out) hx) (fun _ _ h => match_b HP.out h)).mono ?_
  rintro e w1 ⟨D9, p1k, p1a, p1n, p1c, p2k, p2a, p2n, p2c, mid, rfl, hm, ho1, ho2, hb⟩
  have Op1 := Lib.hid ho1
  clear ho1
  have Op2 := Lib.hid ho2
  clear ho2
  have hz_w1 := hb.size
  replace B := bb B hb
  replace XE := xb XE hb
  replace FE := fb FE hb
  replace XT := xb XT hb
  replace FT := fb FT hb
  clear hb
  obtain ⟨wa2, hwa2, hb, hy_wa2, XT10, FT10, XT11, FT11⟩ := laid2 w1 #[.int .i64 p1k, .slice p1a p1n p1c] 33 #[.int .i64 p2k, .slice p2a p2n p2c] 33
  have hz_wa2 := hb.size
  replace B := bb B hb
  replace XE := xb XE hb
  replace FE := fb FE hb
  replace XT := xb XT hb
  replace FT := fb FT hb
  replace Op1 := ob Op1 hb
  replace Op2 := ob Op2 hb
  clear hb
  have hge := (HERR.out.below B.out).1
  rw [hwa2] at hge
  go_wp2_with fail
  clear hge
  rw [← hwa2]
  clear hwa2
  go_ret
  have HW : Hid (anaE (d + 1) C (.node 10 nm n ty es) x = false) := by show _ = _; rw [HR.out, HP.out]; rfl
  exact ⟨by rw [HW.out]; rfl, B.out⟩
 | true =>
  have HP := Lib.hid hhp
  clear hhp
  obtain ⟨w0, hw0, B, hz_w0, XE, FE, XT, FT⟩ := laid2 w #[.int .i64 10, .string nm, .int .i64 n, .int .i64 tk, .slice ta tn tc, .slice (some ⟨b, off, none⟩) 2 sc] 40 #[.int .i64 uk, .slice ua un uc] 33
  replace B := Lib.hid B
  go_enter Tryz.func48, Tryz.ntmps48
  go_wp2_with fail
  rw [← hw0]
  clear hw0
  refine (Calls.mono (implMatchPair _ _ _ _ (HU.out.below B.out) hx) (fun _ _ h => match_b HP.out h)).mono ?_
  rintro e w1 ⟨D9, p1k, p1a, p1n, p1c, p2k, p2a, p2n, p2c, mid, rfl, hm, ho1, ho2, hb⟩
  have Op1 := Lib.hid ho1
  clear ho1
  have Op2 := Lib.hid ho2
  clear ho2
  have hz_w1 := hb.size
  replace B := bb B hb
  replace XE := xb XE hb
  replace FE := fb FE hb
  replace XT := xb XT hb
  replace FT := fb FT hb
  clear hb
  go_upto_region 13 with fail
  obtain ⟨wa2, hwa2, hb, hy_wa2, XT10, FT10, XT11, FT11⟩ := laid2 w1 #[.int .i64 p1k, .slice p1a p1n p1c] 33 #[.int .i64 p2k, .slice p2a p2n p2c] 33
  have hz_wa2 := hb.size
  replace B := bb B hb
  replace XE := xb XE hb
  replace FE := fb FE hb
  replace XT := xb XT hb
  replace FT := fb FT hb
  replace Op1 := ob Op1 hb
  replace Op2 := ob Op2 hb
  clear hb
  rw [← hwa2]
  clear hwa2
  have cE_0 := XE.out.2 0
  have cE_1 := XE.out.2 1
  have cE_2 := XE.out.2 2
  have cE_3 := XE.out.2 3
  have cE_4 := XE.out.2 4
  have cE_5 := XE.out.2 5
  have cT10_0 := XT10.out.2 0
  have cT10_1 := XT10.out.2 1
  have cT11_0 := XT11.out.2 0
  have cT11_1 := XT11.out.2 1
  go_wp2_with fail
  clear cE_0 cE_1 cE_2 cE_3 cE_4 cE_5 cT10_0 cT10_1 cT11_0 cT11_1
  obtain ⟨wa3, hwa3, hb, hy_wa3, XTS, FTS⟩ := laid1 wa2 #[.int .i64 p1k, .slice p1a p1n p1c, .int .i64 p2k, .slice p2a p2n p2c] 33
  have hz_wa3 := hb.size
  replace B := bb B hb
  replace XE := xb XE hb
  replace FE := fb FE hb
  replace XT := xb XT hb
  replace FT := fb FT hb
  replace XT10 := xb XT10 hb
  replace FT10 := fb FT10 hb
  replace XT11 := xb XT11 hb
  replace FT11 := fb FT11 hb
  replace Op1 := ob Op1 hb
  replace Op2 := ob Op2 hb
  clear hb
  rw [← hwa3]
  clear hwa3
  have xtq := XTS.out
  rw [hy_wa2] at xtq
  have XTQ := Lib.hid xtq
  clear xtq
  have CA := implAll d IHA.out D (D2 + D9) pe _ _ _ C es [(x.parts 5).1, (x.parts 5).2.1] w wa3 B.out HV.out HROW.out (tys2 (D := D2 + D9) XTQ.out (Op1.out.at_.mono (by omega)) (Op2.out.at_.mono (by omega))) (by simp; omega) (fun j h => HOK.out.part j h) (sizes_two (by omega) (by omega)) HERR.out HMT.out
  refine CA.mono ?_
  clear CA
  rintro e w4 ⟨rfl, hb⟩
  have hz_w4 := hb.size
  replace B := bb B hb
  replace XE := xb XE hb
  replace FE := fb FE hb
  replace XT := xb XT hb
  replace FT := fb FT hb
  replace XT10 := xb XT10 hb
  replace FT10 := fb FT10 hb
  replace XT11 := xb XT11 hb
  replace FT11 := fb FT11 hb
  replace XTS := xb XTS hb
  replace FTS := fb FTS hb
  replace Op1 := ob Op1 hb
  replace Op2 := ob Op2 hb
  clear hb
  go_wp2_with fail
  go_ret
  have HW : Hid (anaE (d + 1) C (.node 10 nm n ty es) x = anaAll d C es [(x.parts 5).1, (x.parts 5).2.1]) := by show _ = _; rw [HR.out, HP.out]; rfl
  exact ⟨by rw [HW.out]; rfl, B.out⟩
end Go.Proofs.YteffjeejbdjjpaaGreatDoor
/-
  Proved: impl.analyze: what an expression is analyzed against.
-/
namespace Go.Proofs.YteffjeejbdjjpaaGreatDoor
open Go.RowKit

set_option maxRecDepth 100000 in
set_option maxHeartbeats 2000000 in
theorem implAnaElse (d : Nat) (ihs : ImplSynSaid (d + 1)) (kd : Int) (h3 : kd ≠ 3) (h9 : kd ≠ 9) (h10 : kd ≠ 10) (D D2 : Nat) (pe : Addr) (vc v tv : Value) (C : List Bi) (nm : ByteArray) (n : Int) (ty : Ty) (es : List Ex) (x : Ty) (w : World) (hv : BisAt w D vc C) (he : ExAt w (d + 1) v (.node kd nm n ty es)) (ht : TyAt w D2 tv x) (hok : TypOk C (.node kd nm n ty es)) (hx : x.size ≤ 1048577) (herr : ErrAt w pe) (hmt : MeetTab w) :
  Calls Tryz.prog 48 #[vc, v, tv] w fun e w' => e = .returned (errOf pe (anaE (d + 1) C (.node kd nm n ty es) x)) ∧ Below w.heap.size w w' := by
 have hr : anaE (d + 1) C (.node kd nm n ty es) x = (match synE (d + 1) C (.node kd nm n ty es) with | some t => t.okay x | none => false) := by rw [anaE_succ]; simp only [anaStep]; rw [if_neg h3, if_neg h9, if_neg h10]; cases synE (d + 1) C (.node kd nm n ty es) <;> rfl
 have HR := Lib.hid hr
 clear hr
 have q3 : (kd == 3) = false := by simp [h3]
 have q9 : (kd == 9) = false := by simp [h9]
 have q10 : (kd == 10) = false := by simp [h10]
 clear h3 h9 h10
 have HE := Lib.hid he
 obtain ⟨uk, ua, un, uc, rfl⟩ := agg_parts ht
 have HU := Lib.hid ht
 clear ht
 obtain ⟨kd', nm', n', tk, ta, tn, tc, sa, sm, sc, hv2⟩ := ex_parts he
 obtain ⟨va, vn, vc1, rfl⟩ : ∃ a n c, vc = .slice a n c := by obtain ⟨a, cap, hv, _⟩ := hv; exact ⟨_, _, _, hv⟩
 subst hv2
 obtain ⟨hke, hne⟩ := ex_root he
 have hke2 : kd' = kd := hke.symm
 subst hke2
 clear hke hne he
 have HV := Lib.hid hv
 have HOK := Lib.hid hok
 have IHS := Lib.hid ihs
 have HERR := Lib.hid herr
 have HMT := Lib.hid hmt
 clear hv hok ihs herr hmt
 cases hs : synE (d + 1) C (.node kd' nm n ty es) with
 | none =>
  have HS := Lib.hid hs
  clear hs
  obtain ⟨w0, hw0, B, hz_w0, XE, FE, XT, FT⟩ := laid2 w #[.int .i64 kd', .string nm', .int .i64 n', .int .i64 tk, .slice ta tn tc, .slice sa sm sc] 40 #[.int .i64 uk, .slice ua un uc] 33
  replace B := Lib.hid B
  go_enter Tryz.func48, Tryz.ntmps48
  go_wp2_with fail
  rw [← hw0]
  clear hw0
  have CS : Calls Tryz.prog 34 #[.slice va vn vc1, .agg #[.int .i64 kd', .string nm', .int .i64 n', .int .i64 tk, .slice ta tn tc, .slice sa sm sc]] w0 (ISynNo pe _ w0) := (IHS.out D pe (.slice va vn vc1) (.agg #[.int .i64 kd', .string nm', .int .i64 n', .int .i64 tk, .slice ta tn tc, .slice sa sm sc]) C _ _ (HV.out.below B.out) (HE.out.below B.out) HOK.out (HERR.out.below B.out) (HMT.out.below B.out)).mono fun e w' h => isyn_no HS.out h
  refine (CS).mono ?_
  rintro e w1 ⟨DL, lk, la, ln, lc, gg, rfl, ho, hgz, hb⟩
  have Ol := Lib.hid ho
  clear ho
  have hz_w1 := hb.size
  replace B := bb B hb
  replace XE := xb XE hb
  replace FE := fb FE hb
  replace XT := xb XT hb
  replace FT := fb FT hb
  clear hb
  obtain ⟨wa2, hwa2, hb, hy_wa2, XT13, FT13⟩ := laid1 w1 #[.int .i64 lk, .slice la ln lc] 33
  have hz_wa2 := hb.size
  replace B := bb B hb
  replace XE := xb XE hb
  replace FE := fb FE hb
  replace XT := xb XT hb
  replace FT := fb FT hb
  replace Ol := ob Ol hb
  clear hb
  have cT_0 := XT.out.2 0
  have cT_1 := XT.out.2 1
  have cT13_0 := XT13.out.2 0
  have cT13_1 := XT13.out.2 1
  rw [hwa2] at cT_0
  rw [hwa2] at cT_1
  rw [hwa2] at cT13_0
  rw [hwa2] at cT13_1
  go_wp2_with fail
  clear cT_0 cT_1 cT13_0 cT13_1
  rw [← hwa2]
  clear hwa2
  have HW : Hid (anaE (d + 1) C (.node kd' nm n ty es) x = false) := by show _ = _; rw [HR.out, HS.out]
  go_ret
  exact ⟨by rw [HW.out]; try rfl, B.out⟩
 | some tx =>
  have HS := Lib.hid hs
  clear hs
  have hsz0 : tx.size ≤ 641 := by have h1 := syn_few (d := d + 1) HOK.out; rw [HS.out] at h1; exact h1
  cases hho : tx.okay x with
  | false =>
   have HO := Lib.hid hho
   clear hho
   obtain ⟨w0, hw0, B, hz_w0, XE, FE, XT, FT⟩ := laid2 w #[.int .i64 kd', .string nm', .int .i64 n', .int .i64 tk, .slice ta tn tc, .slice sa sm sc] 40 #[.int .i64 uk, .slice ua un uc] 33
   replace B := Lib.hid B
   go_enter Tryz.func48, Tryz.ntmps48
   go_wp2_with fail
   rw [← hw0]
   clear hw0
   have CS : Calls Tryz.prog 34 #[.slice va vn vc1, .agg #[.int .i64 kd', .string nm', .int .i64 n', .int .i64 tk, .slice ta tn tc, .slice sa sm sc]] w0 (ISynYes tx w0) := (IHS.out D pe (.slice va vn vc1) (.agg #[.int .i64 kd', .string nm', .int .i64 n', .int .i64 tk, .slice ta tn tc, .slice sa sm sc]) C _ _ (HV.out.below B.out) (HE.out.below B.out) HOK.out (HERR.out.below B.out) (HMT.out.below B.out)).mono fun e w' h => isyn_yes HS.out h
   refine (CS).mono ?_
   rintro e w1 ⟨DL, lk, la, ln, lc, rfl, ho, hb⟩
   have Ol := Lib.hid ho
   clear ho
   have hz_w1 := hb.size
   replace B := bb B hb
   replace XE := xb XE hb
   replace FE := fb FE hb
   replace XT := xb XT hb
   replace FT := fb FT hb
   clear hb
   obtain ⟨wa2, hwa2, hb, hy_wa2, XT13, FT13⟩ := laid1 w1 #[.int .i64 lk, .slice la ln lc] 33
   have hz_wa2 := hb.size
   replace B := bb B hb
   replace XE := xb XE hb
   replace FE := fb FE hb
   replace XT := xb XT hb
   replace FT := fb FT hb
   replace Ol := ob Ol hb
   clear hb
   have cT_0 := XT.out.2 0
   have cT_1 := XT.out.2 1
   have cT13_0 := XT13.out.2 0
   have cT13_1 := XT13.out.2 1
   rw [hwa2] at cT_0
   rw [hwa2] at cT_1
   rw [hwa2] at cT13_0
   rw [hwa2] at cT13_1
   go_wp2_with fail
   clear cT_0 cT_1 cT13_0 cT13_1
   rw [← hwa2]
   clear hwa2
   have CC := implConsistent (DL + D2) (.agg #[.int .i64 lk, .slice la ln lc]) (.agg #[.int .i64 uk, .slice ua un uc]) tx x wa2 (Ol.out.at_.mono (by omega)) ((HU.out.below B.out).mono (by omega)) (by omega) hx (HMT.out.below B.out)
   have e0 := HO.out
   unfold Ty.okay at e0
   rw [e0] at CC
   clear e0
   refine (CC).mono ?_
   rintro e w3 ⟨rfl, hb⟩
   have hz_w3 := hb.size
   replace B := bb B hb
   replace XE := xb XE hb
   replace FE := fb FE hb
   replace XT := xb XT hb
   replace FT := fb FT hb
   replace XT13 := xb XT13 hb
   replace FT13 := fb FT13 hb
   replace Ol := ob Ol hb
   clear hb
   go_wp2_with fail
   refine (unlessNo _ pe (HERR.out.below B.out)).mono ?_
   rintro e w4 ⟨rfl, hb⟩
   have hz_w4 := hb.size
   replace B := bb B hb
   replace XE := xb XE hb
   replace FE := fb FE hb
   replace XT := xb XT hb
   replace FT := fb FT hb
   replace XT13 := xb XT13 hb
   replace FT13 := fb FT13 hb
   replace Ol := ob Ol hb
   clear hb
   go_wp2_with fail
   have HW : Hid (anaE (d + 1) C (.node kd' nm n ty es) x = false) := by show _ = _; rw [HR.out, HS.out]; exact HO.out
   go_ret
   exact ⟨by rw [HW.out]; try rfl, B.out⟩
  | true =>
   have HO := Lib.hid hho
   clear hho
   obtain ⟨w0, hw0, B, hz_w0, XE, FE, XT, FT⟩ := laid2 w #[.int .i64 kd', .string nm', .int .i64 n', .int .i64 tk, .slice ta tn tc, .slice sa sm sc] 40 #[.int .i64 uk, .slice ua un uc] 33
   replace B := Lib.hid B
   go_enter Tryz.func48, Tryz.ntmps48
   go_wp2_with fail
   rw [← hw0]
   clear hw0
   have CS : Calls Tryz.prog 34 #[.slice va vn vc1, .agg #[.int .i64 kd', .string nm', .int .i64 n', .int .i64 tk, .slice ta tn tc, .slice sa sm sc]] w0 (ISynYes tx w0) := (IHS.out D pe (.slice va vn vc1) (.agg #[.int .i64 kd', .string nm', .int .i64 n', .int .i64 tk, .slice ta tn tc, .slice sa sm sc]) C _ _ (HV.out.below B.out) (HE.out.below B.out) HOK.out (HERR.out.below B.out) (HMT.out.below B.out)).mono fun e w' h => isyn_yes HS.out h
   refine (CS).mono ?_
   rintro e w1 ⟨DL, lk, la, ln, lc, rfl, ho, hb⟩
   have Ol := Lib.hid ho
   clear ho
   have hz_w1 := hb.size
   replace B := bb B hb
   replace XE := xb XE hb
   replace FE := fb FE hb
   replace XT := xb XT hb
   replace FT := fb FT hb
   clear hb
   obtain ⟨wa2, hwa2, hb, hy_wa2, XT13, FT13⟩ := laid1 w1 #[.int .i64 lk, .slice la ln lc] 33
   have hz_wa2 := hb.size
   replace B := bb B hb
   replace XE := xb XE hb
   replace FE := fb FE hb
   replace XT := xb XT hb
   replace FT := fb FT hb
   replace Ol := ob Ol hb
   clear hb
   have cT_0 := XT.out.2 0
   have cT_1 := XT.out.2 1
   have cT13_0 := XT13.out.2 0
   have cT13_1 := XT13.out.2 1
   rw [hwa2] at cT_0
   rw [hwa2] at cT_1
   rw [hwa2] at cT13_0
   rw [hwa2] at cT13_1
   go_wp2_with fail
   clear cT_0 cT_1 cT13_0 cT13_1
   rw [← hwa2]
   clear hwa2
   have CC := implConsistent (DL + D2) (.agg #[.int .i64 lk, .slice la ln lc]) (.agg #[.int .i64 uk, .slice ua un uc]) tx x wa2 (Ol.out.at_.mono (by omega)) ((HU.out.below B.out).mono (by omega)) (by omega) hx (HMT.out.below B.out)
   have e0 := HO.out
   unfold Ty.okay at e0
   rw [e0] at CC
   clear e0
   refine (CC).mono ?_
   rintro e w3 ⟨rfl, hb⟩
   have hz_w3 := hb.size
   replace B := bb B hb
   replace XE := xb XE hb
   replace FE := fb FE hb
   replace XT := xb XT hb
   replace FT := fb FT hb
   replace XT13 := xb XT13 hb
   replace FT13 := fb FT13 hb
   replace Ol := ob Ol hb
   clear hb
   go_wp2_with fail
   refine (unlessYes _).mono ?_
   rintro e w4 ⟨rfl, hb⟩
   have hz_w4 := hb.size
   replace B := bb B hb
   replace XE := xb XE hb
   replace FE := fb FE hb
   replace XT := xb XT hb
   replace FT := fb FT hb
   replace XT13 := xb XT13 hb
   replace FT13 := fb FT13 hb
   replace Ol := ob Ol hb
   clear hb
   go_wp2_with fail
   have HW : Hid (anaE (d + 1) C (.node kd' nm n ty es) x = true) := by show _ = _; rw [HR.out, HS.out]; exact HO.out
   go_ret
   exact ⟨by rw [HW.out]; try rfl, B.out⟩
theorem implAna_step (d : Nat) (ihs : ImplSynSaid (d + 1)) (iha : ImplAnaSaid d) : ImplAnaSaid (d + 1) := by
 intro D D2 pe vc v tv C t x w hv he ht hok hx herr hmt
 cases t with
 | node k nm n ty es =>
  by_cases h3 : k = 3
  ·subst h3; exact implAna3 d iha D D2 pe vc v tv C nm n ty es x w hv he ht hok hx herr hmt
  by_cases h9 : k = 9
  ·subst h9; exact implAna9 d iha D D2 pe vc v tv C nm n ty es x w hv he ht hok hx herr hmt
  by_cases h10 : k = 10
  ·subst h10; exact implAna10 d iha D D2 pe vc v tv C nm n ty es x w hv he ht hok hx herr hmt
  exact implAnaElse d ihs k h3 h9 h10 D D2 pe vc v tv C nm n ty es x w hv he ht hok hx herr hmt
end Go.Proofs.YteffjeejbdjjpaaGreatDoor
namespace Go.Proofs.YteffjeejbdjjpaaGreatDoor
open Go.RowKit

theorem implSyn_step (d : Nat) (ihs : ImplSynSaid d) (iha : ImplAnaSaid d) : ImplSynSaid (d + 1) := by
  intro D pe vc v C t w hv he hok herr hmt
  cases t with
  | node k nm n ty es =>
    rcases form_kind hok.1 with rfl | rfl | rfl | rfl | rfl | rfl | rfl | rfl | rfl | rfl | rfl | rfl | rfl | rfl
    · exact implSyn1 d  D pe vc v C nm n ty es w hv he hok herr hmt
    · exact implSyn2 d  D pe vc v C nm n ty es w hv he hok herr hmt
    · exact implSyn3 d ihs D pe vc v C nm n ty es w hv he hok herr hmt
    · exact implSyn4 d ihs iha D pe vc v C nm n ty es w hv he hok herr hmt
    · exact implSyn5 d  D pe vc v C nm n ty es w hv he hok herr hmt
    · exact implSyn6 d iha D pe vc v C nm n ty es w hv he hok herr hmt
    · exact implSyn7 d iha D pe vc v C nm n ty es w hv he hok herr hmt
    · exact implSyn8 d  D pe vc v C nm n ty es w hv he hok herr hmt
    · exact implSyn9 d ihs iha D pe vc v C nm n ty es w hv he hok herr hmt
    · exact implSyn10 d ihs D pe vc v C nm n ty es w hv he hok herr hmt
    · exact implSyn11 d ihs D pe vc v C nm n ty es w hv he hok herr hmt
    · exact implSyn12 d ihs D pe vc v C nm n ty es w hv he hok herr hmt
    · exact implSyn13 d iha D pe vc v C nm n ty es w hv he hok herr hmt
    · exact implSyn14 d ihs D pe vc v C nm n ty es w hv he hok herr hmt
theorem implTyp_all : ∀ d, ImplSynSaid d ∧ ImplAnaSaid d
  | 0 => ⟨fun _ _ _ _ _ _ _ _ h _ => h.elim, fun _ _ _ _ _ _ _ _ _ _ _ h _ _ _ => h.elim⟩
  | d + 1 => by
    obtain ⟨h1, h2⟩ := implTyp_all d
    have h3 := implSyn_step d h1 h2
    exact ⟨h3, implAna_step d h3 h2⟩
end Go.Proofs.YteffjeejbdjjpaaGreatDoor
