/-
  Proved: spec.l9Mark: what a mark synthesizes.
-/
import Derived.Test.YteffjeejbdjjpaaGreatDoorWellG27
import Derived.Test.YteffjeejbdjjpaaGreatDoorWellG14
import Derived.Test.YteffjeejbdjjpaaGreatDoorWellG20
namespace Go.Proofs.YteffjeejbdjjpaaGreatDoor
open Go.RowKit

theorem syn_mark (d : Nat) (C : List Bi) (nm : ByteArray) (n : Int) (ty : Ty) (es : List Ex) (h0 : 0 < es.length) : synE (d + 1) C (.node 14 nm n ty es) = onlyIf ((synE d C es[0]).isSome || (decide (es[0].kind = 2) && !(Bi.look C es[0].name).isSome)) tyU := by
 rw [synE_succ]; simp only [synStep]; rw [Ex.arg_get h0]; simp
set_option maxRecDepth 100000 in
set_option maxHeartbeats 2000000 in
theorem specMark (d : Nat) (ihs : SpecSynSaid d) (D : Nat) (vc v : Value) (C : List Bi) (nm : ByteArray) (n : Int) (ty : Ty) (es : List Ex) (w : World) (hv : BisAt w D vc C) (he : ExAt w (d + 1) v (.node 14 nm n ty es)) (hok : TypOk C (.node 14 nm n ty es)) :
  Calls Tryz.prog 63 #[vc, v] w (SynEnd (synE (d + 1) C (.node 14 nm n ty es)) w) := by
 obtain ⟨c3, c4, sl, hx, hk0, hk1, hn0, hn1, hnm, hty, sa, sc, hsl, hcap, hcap2, hat⟩ := he
 subst hsl
 obtain ⟨tk, ta, tn, tc, rfl, rfl⟩ := at_parts hty
 subst hx
 obtain ⟨va, vn, vc1, rfl⟩ : ∃ a n c, vc = .slice a n c := by obtain ⟨a, cap, hv, _⟩ := hv; exact ⟨_, _, _, hv⟩
 have hlen : es.length = 1 := by have h1 := (form_parts hok.1).1; have h2 : arity 14 = 1 := rfl; omega
 have hq0 : 0 < es.length := by omega
 obtain ⟨b, off, q0_0, q0_1, q0_2, q0_3, q0_4, q0_5, e0, hbl, z0_0, z0_1, z0_2, z0_3, z0_4, z0_5, ht0⟩ := hat 0 hq0
 subst e0
 obtain ⟨xk, xnm, xn, xtk, xta, xtn, xtc, xsa, xsm, xsc, rfl, rfl, rfl, rfl, rfl, rfl⟩ := ex_cells ht0
 simp only [Nat.zero_mul, Nat.add_zero] at z0_0 z0_1 z0_2 z0_3 z0_4 z0_5
 have K0_0 := Lib.hid z0_0
 have K0_1 := Lib.hid z0_1
 have K0_2 := Lib.hid z0_2
 have K0_3 := Lib.hid z0_3
 have K0_4 := Lib.hid z0_4
 have K0_5 := Lib.hid z0_5
 clear z0_0 z0_1 z0_2 z0_3 z0_4 z0_5
 have HT0 := Lib.hid ht0
 clear ht0
 have HV := Lib.hid hv
 clear hv
 have HOK := Lib.hid hok
 clear hok hat
 have HTY := Lib.hid hty
 clear hty
 have HNM := Lib.hid hnm
 clear hnm
 obtain ⟨hkd, hnme⟩ := ex_root HT0.out
 have HR := Lib.hid (syn_mark d C nm n ty es hq0)
 have IHS := Lib.hid ihs
 clear ihs
 rw [hlen]
 clear hlen
 obtain ⟨w0, hw0, B, hz_w0, XE, FE, XR, FR⟩ := laid2 w #[.int .i64 14, .string nm, .int .i64 n, .int .i64 tk, .slice ta tn tc, .slice (some ⟨b, off, none⟩) 1 sc] 40 #[.int .i64 0, .slice none 0 0] 33
 replace B := Lib.hid B
 go_enter Tryz.func63, Tryz.ntmps63
 have k0_0 := K0_0.out
 have k0_1 := K0_1.out
 have k0_2 := K0_2.out
 have k0_3 := K0_3.out
 have k0_4 := K0_4.out
 have k0_5 := K0_5.out
 go_wp2_with fail
 clear k0_0 k0_1 k0_2 k0_3 k0_4 k0_5
 rw [← hw0]
 clear hw0
 obtain ⟨r0, hr0⟩ : ∃ r, synE d C es[0] = r := ⟨_, rfl⟩
 have CS := IHS.out D _ _ C es[0] _ (HV.out.below B.out) (HT0.out.below B.out) (HOK.out.part 0 hq0)
 rw [hr0] at CS
 have hsf0 := syn_few (d := d) (HOK.out.part 0 hq0)
 rw [hr0] at hsf0
 have HS0 := Lib.hid hr0
 clear hr0
 refine (CS).mono ?_
 rintro e w1 ⟨D1, r1k, r1a, r1n, r1c, rfl, ho, hb⟩
 have Os1 := Lib.hid ho
 clear ho
 have hz_w1 := hb.size
 replace B := bb B hb
 replace XE := xb XE hb
 replace FE := fb FE hb
 replace XR := xb XR hb
 replace FR := fb FR hb
 clear hb
 obtain ⟨wa2, hwa2, hb, hy_wa2, XT6, FT6⟩ := laid1 w1 #[.int .i64 r1k, .slice r1a r1n r1c] 33
 have hz_wa2 := hb.size
 replace B := bb B hb
 replace XE := xb XE hb
 replace FE := fb FE hb
 replace XR := xb XR hb
 replace FR := fb FR hb
 replace Os1 := ob Os1 hb
 clear hb
 have cE_0 := XE.out.2 0
 have cE_1 := XE.out.2 1
 have cE_2 := XE.out.2 2
 have cE_3 := XE.out.2 3
 have cE_4 := XE.out.2 4
 have cE_5 := XE.out.2 5
 have k0_0 := kc hbl B K0_0
 have k0_1 := kc hbl B K0_1
 have k0_2 := kc hbl B K0_2
 have k0_3 := kc hbl B K0_3
 have k0_4 := kc hbl B K0_4
 have k0_5 := kc hbl B K0_5
 rw [hwa2] at cE_0
 rw [hwa2] at cE_1
 rw [hwa2] at cE_2
 rw [hwa2] at cE_3
 rw [hwa2] at cE_4
 rw [hwa2] at cE_5
 rw [hwa2] at k0_0
 rw [hwa2] at k0_1
 rw [hwa2] at k0_2
 rw [hwa2] at k0_3
 rw [hwa2] at k0_4
 rw [hwa2] at k0_5
 go_wp2_with fail
 clear cE_0 cE_1 cE_2 cE_3 cE_4 cE_5 k0_0 k0_1 k0_2 k0_3 k0_4 k0_5
 rw [← hwa2]
 clear hwa2
 obtain ⟨rl, hrl⟩ : ∃ r, Bi.look C xnm = r := ⟨_, rfl⟩
 have CL := (specLook D _ xnm C _ (HV.out.below B.out) (by have := HOK.out.2.2.1; omega)).mono (fun _ _ h => look_b h)
 rw [hrl] at CL
 have HL := Lib.hid hrl
 clear hrl
 refine (CL).mono ?_
 rintro e w3 ⟨DL, lk, la, ln, lc, rfl, ho, hb⟩
 have Ol := Lib.hid ho
 clear ho
 have hz_w3 := hb.size
 replace B := bb B hb
 replace XE := xb XE hb
 replace FE := fb FE hb
 replace XR := xb XR hb
 replace FR := fb FR hb
 replace XT6 := xb XT6 hb
 replace FT6 := fb FT6 hb
 replace Os1 := ob Os1 hb
 clear hb
 obtain ⟨wa4, hwa4, hb, hy_wa4, XT8, FT8⟩ := laid1 w3 #[.int .i64 lk, .slice la ln lc] 33
 have hz_wa4 := hb.size
 replace B := bb B hb
 replace XE := xb XE hb
 replace FE := fb FE hb
 replace XR := xb XR hb
 replace FR := fb FR hb
 replace XT6 := xb XT6 hb
 replace FT6 := fb FT6 hb
 replace Os1 := ob Os1 hb
 replace Ol := ob Ol hb
 clear hb
 cases r0 with
 | none =>
  by_cases qk : xk = 2
  ·have HKD := Lib.hid (hkd.trans qk)
   have HNME := Lib.hid hnme
   have qb : (xk == 2) = true := by simp [qk]
   clear hkd hnme qk
   cases rl with
   | none =>
    have cE_0 := XE.out.2 0
    have cE_1 := XE.out.2 1
    have cE_2 := XE.out.2 2
    have cE_3 := XE.out.2 3
    have cE_4 := XE.out.2 4
    have cE_5 := XE.out.2 5
    have cR_0 := XR.out.2 0
    have cR_1 := XR.out.2 1
    have fR_0 := FR.out.2 0
    have fR_1 := FR.out.2 1
    have k0_0 := kc hbl B K0_0
    have k0_1 := kc hbl B K0_1
    have k0_2 := kc hbl B K0_2
    have k0_3 := kc hbl B K0_3
    have k0_4 := kc hbl B K0_4
    have k0_5 := kc hbl B K0_5
    rw [hwa4] at cE_0
    rw [hwa4] at cE_1
    rw [hwa4] at cE_2
    rw [hwa4] at cE_3
    rw [hwa4] at cE_4
    rw [hwa4] at cE_5
    rw [hwa4] at cR_0
    rw [hwa4] at cR_1
    rw [hwa4] at fR_0
    rw [hwa4] at fR_1
    rw [hwa4] at k0_0
    rw [hwa4] at k0_1
    rw [hwa4] at k0_2
    rw [hwa4] at k0_3
    rw [hwa4] at k0_4
    rw [hwa4] at k0_5
    go_wp2_with fail
    clear cE_0 cE_1 cE_2 cE_3 cE_4 cE_5 cR_0 cR_1 fR_0 fR_1 k0_0 k0_1 k0_2 k0_3 k0_4 k0_5
    rw [← hwa4]
    clear hwa4
    refine (specUnknownType _).mono ?_
    rintro e w5 ⟨rfl, hb⟩
    have hz_w5 := hb.size
    replace B := bb B hb
    replace XE := xb XE hb
    replace FE := fb FE hb
    replace XR := xb XR hb
    replace FR := fb FR hb
    replace XT6 := xb XT6 hb
    replace FT6 := fb FT6 hb
    replace XT8 := xb XT8 hb
    replace FT8 := fb FT8 hb
    replace Os1 := ob Os1 hb
    replace Ol := ob Ol hb
    clear hb
    have cR_0 := XR.out.2 0
    have cR_1 := XR.out.2 1
    have fR_0 := FR.out.2 0
    have fR_1 := FR.out.2 1
    go_wp2_with fail
    clear cR_0 cR_1 fR_0 fR_1
    have HW : Hid (synE (d + 1) C (.node 14 nm n ty es) = some tyU) := by show _ = _; rw [HR.out, HS0.out, HKD.out, HNME.out, HL.out]; simp [onlyIf]
    have XZ := put2_box (u := .int .i64 1) (v := .slice none 0 0) XR.out
    have h0 := XZ.2 0
    have h1 := XZ.2 1
    unfold put2 at h0 h1
    refine bodyPost_ret (v := .tuple #[.agg #[.int .i64 1, .slice none 0 0], .bool true]) (by simp [results, Tryz.results63, go_sem, h0, h1]) rfl ?_
    exact (by (try rw [HW.out]); exact ⟨1, _, _, _, _, rfl, leaf_in _ 1 _ _ (by omega) (by omega) (Nat.le_refl _), put2_below B.out (by omega)⟩)
   | some tl =>
    have cE_0 := XE.out.2 0
    have cE_1 := XE.out.2 1
    have cE_2 := XE.out.2 2
    have cE_3 := XE.out.2 3
    have cE_4 := XE.out.2 4
    have cE_5 := XE.out.2 5
    have cR_0 := XR.out.2 0
    have cR_1 := XR.out.2 1
    have fR_0 := FR.out.2 0
    have fR_1 := FR.out.2 1
    have k0_0 := kc hbl B K0_0
    have k0_1 := kc hbl B K0_1
    have k0_2 := kc hbl B K0_2
    have k0_3 := kc hbl B K0_3
    have k0_4 := kc hbl B K0_4
    have k0_5 := kc hbl B K0_5
    rw [hwa4] at cE_0
    rw [hwa4] at cE_1
    rw [hwa4] at cE_2
    rw [hwa4] at cE_3
    rw [hwa4] at cE_4
    rw [hwa4] at cE_5
    rw [hwa4] at cR_0
    rw [hwa4] at cR_1
    rw [hwa4] at fR_0
    rw [hwa4] at fR_1
    rw [hwa4] at k0_0
    rw [hwa4] at k0_1
    rw [hwa4] at k0_2
    rw [hwa4] at k0_3
    rw [hwa4] at k0_4
    rw [hwa4] at k0_5
    go_wp2_with fail
    clear cE_0 cE_1 cE_2 cE_3 cE_4 cE_5 cR_0 cR_1 fR_0 fR_1 k0_0 k0_1 k0_2 k0_3 k0_4 k0_5
    rw [← hwa4]
    clear hwa4
    have HW : Hid (synE (d + 1) C (.node 14 nm n ty es) = none) := by show _ = _; rw [HR.out, HS0.out, HKD.out, HNME.out, HL.out]; simp [onlyIf]
    have XZ := put2_box (u := .int .i64 0) (v := .slice none 0 0) XR.out
    have h0 := XZ.2 0
    have h1 := XZ.2 1
    unfold put2 at h0 h1
    refine bodyPost_ret (v := .tuple #[.agg #[.int .i64 0, .slice none 0 0], .bool false]) (by simp [results, Tryz.results63, go_sem, h0, h1]) rfl ?_
    exact (by (try rw [HW.out]); exact ⟨1, _, _, _, _, rfl, leaf_in _ 0 _ _ (by omega) (by omega) (Nat.le_refl _), put2_below B.out (by omega)⟩)
  ·have qb : (xk == 2) = false := by simp [qk]
   have HKD := Lib.hid hkd
   have HQK := Lib.hid qk
   clear hkd hnme qk
   cases rl with
   | none =>
    have cE_0 := XE.out.2 0
    have cE_1 := XE.out.2 1
    have cE_2 := XE.out.2 2
    have cE_3 := XE.out.2 3
    have cE_4 := XE.out.2 4
    have cE_5 := XE.out.2 5
    have cR_0 := XR.out.2 0
    have cR_1 := XR.out.2 1
    have fR_0 := FR.out.2 0
    have fR_1 := FR.out.2 1
    have k0_0 := kc hbl B K0_0
    have k0_1 := kc hbl B K0_1
    have k0_2 := kc hbl B K0_2
    have k0_3 := kc hbl B K0_3
    have k0_4 := kc hbl B K0_4
    have k0_5 := kc hbl B K0_5
    rw [hwa4] at cE_0
    rw [hwa4] at cE_1
    rw [hwa4] at cE_2
    rw [hwa4] at cE_3
    rw [hwa4] at cE_4
    rw [hwa4] at cE_5
    rw [hwa4] at cR_0
    rw [hwa4] at cR_1
    rw [hwa4] at fR_0
    rw [hwa4] at fR_1
    rw [hwa4] at k0_0
    rw [hwa4] at k0_1
    rw [hwa4] at k0_2
    rw [hwa4] at k0_3
    rw [hwa4] at k0_4
    rw [hwa4] at k0_5
    go_wp2_with fail
    clear cE_0 cE_1 cE_2 cE_3 cE_4 cE_5 cR_0 cR_1 fR_0 fR_1 k0_0 k0_1 k0_2 k0_3 k0_4 k0_5
    rw [← hwa4]
    clear hwa4
    have HW : Hid (synE (d + 1) C (.node 14 nm n ty es) = none) := by show _ = _; rw [HR.out, HS0.out, HKD.out]; simp [onlyIf, HQK.out]
    have XZ := put2_box (u := .int .i64 0) (v := .slice none 0 0) XR.out
    have h0 := XZ.2 0
    have h1 := XZ.2 1
    unfold put2 at h0 h1
    refine bodyPost_ret (v := .tuple #[.agg #[.int .i64 0, .slice none 0 0], .bool false]) (by simp [results, Tryz.results63, go_sem, h0, h1]) rfl ?_
    exact (by (try rw [HW.out]); exact ⟨1, _, _, _, _, rfl, leaf_in _ 0 _ _ (by omega) (by omega) (Nat.le_refl _), put2_below B.out (by omega)⟩)
   | some tl =>
    have cE_0 := XE.out.2 0
    have cE_1 := XE.out.2 1
    have cE_2 := XE.out.2 2
    have cE_3 := XE.out.2 3
    have cE_4 := XE.out.2 4
    have cE_5 := XE.out.2 5
    have cR_0 := XR.out.2 0
    have cR_1 := XR.out.2 1
    have fR_0 := FR.out.2 0
    have fR_1 := FR.out.2 1
    have k0_0 := kc hbl B K0_0
    have k0_1 := kc hbl B K0_1
    have k0_2 := kc hbl B K0_2
    have k0_3 := kc hbl B K0_3
    have k0_4 := kc hbl B K0_4
    have k0_5 := kc hbl B K0_5
    rw [hwa4] at cE_0
    rw [hwa4] at cE_1
    rw [hwa4] at cE_2
    rw [hwa4] at cE_3
    rw [hwa4] at cE_4
    rw [hwa4] at cE_5
    rw [hwa4] at cR_0
    rw [hwa4] at cR_1
    rw [hwa4] at fR_0
    rw [hwa4] at fR_1
    rw [hwa4] at k0_0
    rw [hwa4] at k0_1
    rw [hwa4] at k0_2
    rw [hwa4] at k0_3
    rw [hwa4] at k0_4
    rw [hwa4] at k0_5
    go_wp2_with fail
    clear cE_0 cE_1 cE_2 cE_3 cE_4 cE_5 cR_0 cR_1 fR_0 fR_1 k0_0 k0_1 k0_2 k0_3 k0_4 k0_5
    rw [← hwa4]
    clear hwa4
    have HW : Hid (synE (d + 1) C (.node 14 nm n ty es) = none) := by show _ = _; rw [HR.out, HS0.out, HKD.out]; simp [onlyIf, HQK.out]
    have XZ := put2_box (u := .int .i64 0) (v := .slice none 0 0) XR.out
    have h0 := XZ.2 0
    have h1 := XZ.2 1
    unfold put2 at h0 h1
    refine bodyPost_ret (v := .tuple #[.agg #[.int .i64 0, .slice none 0 0], .bool false]) (by simp [results, Tryz.results63, go_sem, h0, h1]) rfl ?_
    exact (by (try rw [HW.out]); exact ⟨1, _, _, _, _, rfl, leaf_in _ 0 _ _ (by omega) (by omega) (Nat.le_refl _), put2_below B.out (by omega)⟩)
 | some t0 =>
  clear hkd hnme
  cases rl with
  | none =>
   have cE_0 := XE.out.2 0
   have cE_1 := XE.out.2 1
   have cE_2 := XE.out.2 2
   have cE_3 := XE.out.2 3
   have cE_4 := XE.out.2 4
   have cE_5 := XE.out.2 5
   have cR_0 := XR.out.2 0
   have cR_1 := XR.out.2 1
   have fR_0 := FR.out.2 0
   have fR_1 := FR.out.2 1
   have k0_0 := kc hbl B K0_0
   have k0_1 := kc hbl B K0_1
   have k0_2 := kc hbl B K0_2
   have k0_3 := kc hbl B K0_3
   have k0_4 := kc hbl B K0_4
   have k0_5 := kc hbl B K0_5
   rw [hwa4] at cE_0
   rw [hwa4] at cE_1
   rw [hwa4] at cE_2
   rw [hwa4] at cE_3
   rw [hwa4] at cE_4
   rw [hwa4] at cE_5
   rw [hwa4] at cR_0
   rw [hwa4] at cR_1
   rw [hwa4] at fR_0
   rw [hwa4] at fR_1
   rw [hwa4] at k0_0
   rw [hwa4] at k0_1
   rw [hwa4] at k0_2
   rw [hwa4] at k0_3
   rw [hwa4] at k0_4
   rw [hwa4] at k0_5
   go_wp2_with fail
   clear cE_0 cE_1 cE_2 cE_3 cE_4 cE_5 cR_0 cR_1 fR_0 fR_1 k0_0 k0_1 k0_2 k0_3 k0_4 k0_5
   rw [← hwa4]
   clear hwa4
   refine (specUnknownType _).mono ?_
   rintro e w5 ⟨rfl, hb⟩
   have hz_w5 := hb.size
   replace B := bb B hb
   replace XE := xb XE hb
   replace FE := fb FE hb
   replace XR := xb XR hb
   replace FR := fb FR hb
   replace XT6 := xb XT6 hb
   replace FT6 := fb FT6 hb
   replace XT8 := xb XT8 hb
   replace FT8 := fb FT8 hb
   replace Os1 := ob Os1 hb
   replace Ol := ob Ol hb
   clear hb
   have cR_0 := XR.out.2 0
   have cR_1 := XR.out.2 1
   have fR_0 := FR.out.2 0
   have fR_1 := FR.out.2 1
   go_wp2_with fail
   clear cR_0 cR_1 fR_0 fR_1
   have HW : Hid (synE (d + 1) C (.node 14 nm n ty es) = some tyU) := by show _ = _; rw [HR.out, HS0.out]; simp [onlyIf]
   have XZ := put2_box (u := .int .i64 1) (v := .slice none 0 0) XR.out
   have h0 := XZ.2 0
   have h1 := XZ.2 1
   unfold put2 at h0 h1
   refine bodyPost_ret (v := .tuple #[.agg #[.int .i64 1, .slice none 0 0], .bool true]) (by simp [results, Tryz.results63, go_sem, h0, h1]) rfl ?_
   exact (by (try rw [HW.out]); exact ⟨1, _, _, _, _, rfl, leaf_in _ 1 _ _ (by omega) (by omega) (Nat.le_refl _), put2_below B.out (by omega)⟩)
  | some tl =>
   have cE_0 := XE.out.2 0
   have cE_1 := XE.out.2 1
   have cE_2 := XE.out.2 2
   have cE_3 := XE.out.2 3
   have cE_4 := XE.out.2 4
   have cE_5 := XE.out.2 5
   have cR_0 := XR.out.2 0
   have cR_1 := XR.out.2 1
   have fR_0 := FR.out.2 0
   have fR_1 := FR.out.2 1
   have k0_0 := kc hbl B K0_0
   have k0_1 := kc hbl B K0_1
   have k0_2 := kc hbl B K0_2
   have k0_3 := kc hbl B K0_3
   have k0_4 := kc hbl B K0_4
   have k0_5 := kc hbl B K0_5
   rw [hwa4] at cE_0
   rw [hwa4] at cE_1
   rw [hwa4] at cE_2
   rw [hwa4] at cE_3
   rw [hwa4] at cE_4
   rw [hwa4] at cE_5
   rw [hwa4] at cR_0
   rw [hwa4] at cR_1
   rw [hwa4] at fR_0
   rw [hwa4] at fR_1
   rw [hwa4] at k0_0
   rw [hwa4] at k0_1
   rw [hwa4] at k0_2
   rw [hwa4] at k0_3
   rw [hwa4] at k0_4
   rw [hwa4] at k0_5
   go_wp2_with fail
   clear cE_0 cE_1 cE_2 cE_3 cE_4 cE_5 cR_0 cR_1 fR_0 fR_1 k0_0 k0_1 k0_2 k0_3 k0_4 k0_5
   rw [← hwa4]
   clear hwa4
   refine (specUnknownType _).mono ?_
   rintro e w5 ⟨rfl, hb⟩
   have hz_w5 := hb.size
   replace B := bb B hb
   replace XE := xb XE hb
   replace FE := fb FE hb
   replace XR := xb XR hb
   replace FR := fb FR hb
   replace XT6 := xb XT6 hb
   replace FT6 := fb FT6 hb
   replace XT8 := xb XT8 hb
   replace FT8 := fb FT8 hb
   replace Os1 := ob Os1 hb
   replace Ol := ob Ol hb
   clear hb
   have cR_0 := XR.out.2 0
   have cR_1 := XR.out.2 1
   have fR_0 := FR.out.2 0
   have fR_1 := FR.out.2 1
   go_wp2_with fail
   clear cR_0 cR_1 fR_0 fR_1
   have HW : Hid (synE (d + 1) C (.node 14 nm n ty es) = some tyU) := by show _ = _; rw [HR.out, HS0.out]; simp [onlyIf]
   have XZ := put2_box (u := .int .i64 1) (v := .slice none 0 0) XR.out
   have h0 := XZ.2 0
   have h1 := XZ.2 1
   unfold put2 at h0 h1
   refine bodyPost_ret (v := .tuple #[.agg #[.int .i64 1, .slice none 0 0], .bool true]) (by simp [results, Tryz.results63, go_sem, h0, h1]) rfl ?_
   exact (by (try rw [HW.out]); exact ⟨1, _, _, _, _, rfl, leaf_in _ 1 _ _ (by omega) (by omega) (Nat.le_refl _), put2_below B.out (by omega)⟩)
end Go.Proofs.YteffjeejbdjjpaaGreatDoor
