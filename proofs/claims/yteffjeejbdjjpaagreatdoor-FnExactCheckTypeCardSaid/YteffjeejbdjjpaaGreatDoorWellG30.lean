/-
  Proved: spec.l9If: what a choice synthesizes.
-/
import Derived.Test.YteffjeejbdjjpaaGreatDoorWellG27
import Derived.Test.YteffjeejbdjjpaaGreatDoorWellG20
namespace Go.Proofs.YteffjeejbdjjpaaGreatDoor
open Go.RowKit

theorem syn_if (d : Nat) (C : List Bi) (nm : ByteArray) (n : Int) (ty : Ty) (es : List Ex) (h0 : 0 < es.length) (h1 : 1 < es.length) (h2 : 2 < es.length) : synE (d + 1) C (.node 9 nm n ty es) = ifOf (synE d C es[1]) (synE d C es[2]) (anaE d C es[0] tyB) := by
 rw [synE_succ]; simp only [synStep]; rw [Ex.arg_get h0, Ex.arg_get h1, Ex.arg_get h2]; simp
set_option maxRecDepth 100000 in
set_option maxHeartbeats 2000000 in
theorem specIf (d : Nat) (ihs : SpecSynSaid d) (iha : SpecAnaSaid d) (D : Nat) (vc v : Value) (C : List Bi) (nm : ByteArray) (n : Int) (ty : Ty) (es : List Ex) (w : World) (hv : BisAt w D vc C) (he : ExAt w (d + 1) v (.node 9 nm n ty es)) (hok : TypOk C (.node 9 nm n ty es)) :
  Calls Tryz.prog 60 #[vc, v] w (SynEnd (synE (d + 1) C (.node 9 nm n ty es)) w) := by
 obtain ⟨c3, c4, sl, hx, hk0, hk1, hn0, hn1, hnm, hty, sa, sc, hsl, hcap, hcap2, hat⟩ := he
 subst hsl
 obtain ⟨tk, ta, tn, tc, rfl, rfl⟩ := at_parts hty
 subst hx
 obtain ⟨va, vn, vc1, rfl⟩ : ∃ a n c, vc = .slice a n c := by obtain ⟨a, cap, hv, _⟩ := hv; exact ⟨_, _, _, hv⟩
 have hlen : es.length = 3 := by have h1 := (form_parts hok.1).1; have h2 : arity 9 = 3 := rfl; omega
 have hq0 : 0 < es.length := by omega
 have hq1 : 1 < es.length := by omega
 have hq2 : 2 < es.length := by omega
 obtain ⟨b, off, q0_0, q0_1, q0_2, q0_3, q0_4, q0_5, e0, hbl, z0_0, z0_1, z0_2, z0_3, z0_4, z0_5, ht0⟩ := hat 0 hq0
 subst e0
 obtain ⟨xk, xnm, xn, xtk, xta, xtn, xtc, xsa, xsm, xsc, rfl, rfl, rfl, rfl, rfl, rfl⟩ := ex_cells ht0
 simp only [Nat.zero_mul, Nat.add_zero] at z0_0 z0_1 z0_2 z0_3 z0_4 z0_5
 have K0_0 := Lib.hid z0_0
 have K0_1 := Lib.hid z0_1
 have K0_2 := Lib.hid z0_2
 have K0_3 := Lib.hid z0_3
 have K0_4 := Lib.hid z0_4
 have K0_5 := Lib.hid z0_5
 clear z0_0 z0_1 z0_2 z0_3 z0_4 z0_5
 have HT0 := Lib.hid ht0
 clear ht0
 obtain ⟨b1, off1, q1_0, q1_1, q1_2, q1_3, q1_4, q1_5, e1, hbl1, z1_0, z1_1, z1_2, z1_3, z1_4, z1_5, ht1⟩ := hat 1 hq1
 injection e1 with e1
 injection e1 with ea1 eb1
 subst ea1 eb1
 obtain ⟨yk, ynm, yn, ytk, yta, ytn, ytc, ysa, ysm, ysc, rfl, rfl, rfl, rfl, rfl, rfl⟩ := ex_cells ht1
 simp only [Nat.one_mul] at z1_0 z1_1 z1_2 z1_3 z1_4 z1_5
 have K1_0 := Lib.hid z1_0
 have K1_1 := Lib.hid z1_1
 have K1_2 := Lib.hid z1_2
 have K1_3 := Lib.hid z1_3
 have K1_4 := Lib.hid z1_4
 have K1_5 := Lib.hid z1_5
 clear z1_0 z1_1 z1_2 z1_3 z1_4 z1_5
 have HT1 := Lib.hid ht1
 clear ht1
 obtain ⟨b2, off2, q2_0, q2_1, q2_2, q2_3, q2_4, q2_5, e2, hbl2, z2_0, z2_1, z2_2, z2_3, z2_4, z2_5, ht2⟩ := hat 2 hq2
 injection e2 with e2
 injection e2 with ea2 eb2
 subst ea2 eb2
 obtain ⟨zk, znm, zn, ztk, zta, ztn, ztc, zsa, zsm, zsc, rfl, rfl, rfl, rfl, rfl, rfl⟩ := ex_cells ht2
 simp only [Nat.reduceMul] at z2_0 z2_1 z2_2 z2_3 z2_4 z2_5
 have K2_0 := Lib.hid z2_0
 have K2_1 := Lib.hid z2_1
 have K2_2 := Lib.hid z2_2
 have K2_3 := Lib.hid z2_3
 have K2_4 := Lib.hid z2_4
 have K2_5 := Lib.hid z2_5
 clear z2_0 z2_1 z2_2 z2_3 z2_4 z2_5
 have HT2 := Lib.hid ht2
 clear ht2
 have HV := Lib.hid hv
 clear hv
 have HOK := Lib.hid hok
 clear hok hat
 have HTY := Lib.hid hty
 clear hty
 have HNM := Lib.hid hnm
 clear hnm
 have HR := Lib.hid (syn_if d C nm n ty es hq0 hq1 hq2)
 have IHS := Lib.hid ihs
 have IHA := Lib.hid iha
 clear ihs iha
 rw [hlen]
 clear hlen
 obtain ⟨w0, hw0, B, hz_w0, XE, FE, XR, FR⟩ := laid2 w #[.int .i64 9, .string nm, .int .i64 n, .int .i64 tk, .slice ta tn tc, .slice (some ⟨b, off, none⟩) 3 sc] 40 #[.int .i64 0, .slice none 0 0] 33
 replace B := Lib.hid B
 go_enter Tryz.func60, Tryz.ntmps60
 have k1_0 := K1_0.out
 have k1_1 := K1_1.out
 have k1_2 := K1_2.out
 have k1_3 := K1_3.out
 have k1_4 := K1_4.out
 have k1_5 := K1_5.out
 go_wp2_with fail
 clear k1_0 k1_1 k1_2 k1_3 k1_4 k1_5
 rw [← hw0]
 clear hw0
 obtain ⟨r1, hr1⟩ : ∃ r, synE d C es[1] = r := ⟨_, rfl⟩
 have CS := IHS.out D _ _ C es[1] _ (HV.out.below B.out) (HT1.out.below B.out) (HOK.out.part 1 hq1)
 rw [hr1] at CS
 have hsf1 := syn_few (d := d) (HOK.out.part 1 hq1)
 rw [hr1] at hsf1
 have HS1 := Lib.hid hr1
 clear hr1
 refine (CS).mono ?_
 rintro e w1 ⟨D1, r1k, r1a, r1n, r1c, rfl, ho, hb⟩
 have Os1 := Lib.hid ho
 clear ho
 have hz_w1 := hb.size
 replace B := bb B hb
 replace XE := xb XE hb
 replace FE := fb FE hb
 replace XR := xb XR hb
 replace FR := fb FR hb
 clear hb
 obtain ⟨wa2, hwa2, hb, hy_wa2, XT6, FT6⟩ := laid1 w1 #[.int .i64 r1k, .slice r1a r1n r1c] 33
 have hz_wa2 := hb.size
 replace B := bb B hb
 replace XE := xb XE hb
 replace FE := fb FE hb
 replace XR := xb XR hb
 replace FR := fb FR hb
 replace Os1 := ob Os1 hb
 clear hb
 have cE_0 := XE.out.2 0
 have cE_1 := XE.out.2 1
 have cE_2 := XE.out.2 2
 have cE_3 := XE.out.2 3
 have cE_4 := XE.out.2 4
 have cE_5 := XE.out.2 5
 have k2_0 := kc hbl B K2_0
 have k2_1 := kc hbl B K2_1
 have k2_2 := kc hbl B K2_2
 have k2_3 := kc hbl B K2_3
 have k2_4 := kc hbl B K2_4
 have k2_5 := kc hbl B K2_5
 rw [hwa2] at cE_0
 rw [hwa2] at cE_1
 rw [hwa2] at cE_2
 rw [hwa2] at cE_3
 rw [hwa2] at cE_4
 rw [hwa2] at cE_5
 rw [hwa2] at k2_0
 rw [hwa2] at k2_1
 rw [hwa2] at k2_2
 rw [hwa2] at k2_3
 rw [hwa2] at k2_4
 rw [hwa2] at k2_5
 go_wp2_with fail
 clear cE_0 cE_1 cE_2 cE_3 cE_4 cE_5 k2_0 k2_1 k2_2 k2_3 k2_4 k2_5
 rw [← hwa2]
 clear hwa2
 obtain ⟨r2, hr2⟩ : ∃ r, synE d C es[2] = r := ⟨_, rfl⟩
 have CS := IHS.out D _ _ C es[2] _ (HV.out.below B.out) (HT2.out.below B.out) (HOK.out.part 2 hq2)
 rw [hr2] at CS
 have hsf2 := syn_few (d := d) (HOK.out.part 2 hq2)
 rw [hr2] at hsf2
 have HS2 := Lib.hid hr2
 clear hr2
 refine (CS).mono ?_
 rintro e w3 ⟨D3, r3k, r3a, r3n, r3c, rfl, ho, hb⟩
 have Os3 := Lib.hid ho
 clear ho
 have hz_w3 := hb.size
 replace B := bb B hb
 replace XE := xb XE hb
 replace FE := fb FE hb
 replace XR := xb XR hb
 replace FR := fb FR hb
 replace XT6 := xb XT6 hb
 replace FT6 := fb FT6 hb
 replace Os1 := ob Os1 hb
 clear hb
 go_upto_region 3 with fail
 obtain ⟨wa4, hwa4, hb, hy_wa4, XT8, FT8⟩ := laid1 w3 #[.int .i64 r3k, .slice r3a r3n r3c] 33
 have hz_wa4 := hb.size
 replace B := bb B hb
 replace XE := xb XE hb
 replace FE := fb FE hb
 replace XR := xb XR hb
 replace FR := fb FR hb
 replace XT6 := xb XT6 hb
 replace FT6 := fb FT6 hb
 replace Os1 := ob Os1 hb
 replace Os3 := ob Os3 hb
 clear hb
 rw [← hwa4]
 clear hwa4
 cases r1 with
 | none =>
  cases r2 with
  | none =>
   have gE_0 := gx XE 0
   have gE_1 := gx XE 1
   have gE_2 := gx XE 2
   have gE_3 := gx XE 3
   have gE_4 := gx XE 4
   have gE_5 := gx XE 5
   have gk0_0 := gk hbl B K0_0
   have gk0_1 := gk hbl B K0_1
   have gk0_2 := gk hbl B K0_2
   have gk0_3 := gk hbl B K0_3
   have gk0_4 := gk hbl B K0_4
   have gk0_5 := gk hbl B K0_5
   refine wp_region_grown wa4.heap.size (by kernel_rfl) (by kernel_rfl) ?_
   repeat (go_big_quiet_step (fail))
   refine wpQuiet_nil ?_
   rintro wq5 ⟨⟨wz, hb⟩, hqe⟩
   have hqe2 : wq5 = wz := hqe
   clear hqe
   subst hqe2
   clear gE_0 gE_1 gE_2 gE_3 gE_4 gE_5 gk0_0 gk0_1 gk0_2 gk0_3 gk0_4 gk0_5
   have hz_wq5 := hb.size
   replace B := bb B hb
   replace XE := xb XE hb
   replace FE := fb FE hb
   replace XR := xb XR hb
   replace FR := fb FR hb
   replace XT6 := xb XT6 hb
   replace FT6 := fb FT6 hb
   replace XT8 := xb XT8 hb
   replace FT8 := fb FT8 hb
   replace Os1 := ob Os1 hb
   replace Os3 := ob Os3 hb
   clear hb
   have cR_0 := XR.out.2 0
   have cR_1 := XR.out.2 1
   have fR_0 := FR.out.2 0
   have fR_1 := FR.out.2 1
   go_wp2_with fail
   clear cR_0 cR_1 fR_0 fR_1
   have HW : Hid (synE (d + 1) C (.node 9 nm n ty es) = none) := by show _ = _; rw [HR.out, HS1.out, HS2.out]; rfl
   have XZ := put2_box (u := .int .i64 0) (v := .slice none 0 0) XR.out
   have h0 := XZ.2 0
   have h1 := XZ.2 1
   unfold put2 at h0 h1
   refine bodyPost_ret (v := .tuple #[.agg #[.int .i64 0, .slice none 0 0], .bool false]) (by simp [results, Tryz.results60, go_sem, h0, h1]) rfl ?_
   exact (by (try rw [HW.out]); exact ⟨1, _, _, _, _, rfl, leaf_in _ 0 _ _ (by omega) (by omega) (Nat.le_refl _), put2_below B.out (by omega)⟩)
  | some t2 =>
   have hsz2 : t2.size ≤ 641 := hsf2
   clear hsf2
   have gE_0 := gx XE 0
   have gE_1 := gx XE 1
   have gE_2 := gx XE 2
   have gE_3 := gx XE 3
   have gE_4 := gx XE 4
   have gE_5 := gx XE 5
   have gk0_0 := gk hbl B K0_0
   have gk0_1 := gk hbl B K0_1
   have gk0_2 := gk hbl B K0_2
   have gk0_3 := gk hbl B K0_3
   have gk0_4 := gk hbl B K0_4
   have gk0_5 := gk hbl B K0_5
   refine wp_region_grown wa4.heap.size (by kernel_rfl) (by kernel_rfl) ?_
   repeat (go_big_quiet_step (fail))
   refine wpQuiet_nil ?_
   rintro wq5 ⟨⟨wz, hb⟩, hqe⟩
   have hqe2 : wq5 = wz := hqe
   clear hqe
   subst hqe2
   clear gE_0 gE_1 gE_2 gE_3 gE_4 gE_5 gk0_0 gk0_1 gk0_2 gk0_3 gk0_4 gk0_5
   have hz_wq5 := hb.size
   replace B := bb B hb
   replace XE := xb XE hb
   replace FE := fb FE hb
   replace XR := xb XR hb
   replace FR := fb FR hb
   replace XT6 := xb XT6 hb
   replace FT6 := fb FT6 hb
   replace XT8 := xb XT8 hb
   replace FT8 := fb FT8 hb
   replace Os1 := ob Os1 hb
   replace Os3 := ob Os3 hb
   clear hb
   have cR_0 := XR.out.2 0
   have cR_1 := XR.out.2 1
   have fR_0 := FR.out.2 0
   have fR_1 := FR.out.2 1
   go_wp2_with fail
   clear cR_0 cR_1 fR_0 fR_1
   have HW : Hid (synE (d + 1) C (.node 9 nm n ty es) = none) := by show _ = _; rw [HR.out, HS1.out, HS2.out]; rfl
   have XZ := put2_box (u := .int .i64 0) (v := .slice none 0 0) XR.out
   have h0 := XZ.2 0
   have h1 := XZ.2 1
   unfold put2 at h0 h1
   refine bodyPost_ret (v := .tuple #[.agg #[.int .i64 0, .slice none 0 0], .bool false]) (by simp [results, Tryz.results60, go_sem, h0, h1]) rfl ?_
   exact (by (try rw [HW.out]); exact ⟨1, _, _, _, _, rfl, leaf_in _ 0 _ _ (by omega) (by omega) (Nat.le_refl _), put2_below B.out (by omega)⟩)
 | some t1 =>
  have hsz1 : t1.size ≤ 641 := hsf1
  clear hsf1
  cases r2 with
  | none =>
   have gE_0 := gx XE 0
   have gE_1 := gx XE 1
   have gE_2 := gx XE 2
   have gE_3 := gx XE 3
   have gE_4 := gx XE 4
   have gE_5 := gx XE 5
   have gk0_0 := gk hbl B K0_0
   have gk0_1 := gk hbl B K0_1
   have gk0_2 := gk hbl B K0_2
   have gk0_3 := gk hbl B K0_3
   have gk0_4 := gk hbl B K0_4
   have gk0_5 := gk hbl B K0_5
   refine wp_region_grown wa4.heap.size (by kernel_rfl) (by kernel_rfl) ?_
   repeat (go_big_quiet_step (fail))
   refine wpQuiet_nil ?_
   rintro wq5 ⟨⟨wz, hb⟩, hqe⟩
   have hqe2 : wq5 = wz := hqe
   clear hqe
   subst hqe2
   clear gE_0 gE_1 gE_2 gE_3 gE_4 gE_5 gk0_0 gk0_1 gk0_2 gk0_3 gk0_4 gk0_5
   have hz_wq5 := hb.size
   replace B := bb B hb
   replace XE := xb XE hb
   replace FE := fb FE hb
   replace XR := xb XR hb
   replace FR := fb FR hb
   replace XT6 := xb XT6 hb
   replace FT6 := fb FT6 hb
   replace XT8 := xb XT8 hb
   replace FT8 := fb FT8 hb
   replace Os1 := ob Os1 hb
   replace Os3 := ob Os3 hb
   clear hb
   have cR_0 := XR.out.2 0
   have cR_1 := XR.out.2 1
   have fR_0 := FR.out.2 0
   have fR_1 := FR.out.2 1
   go_wp2_with fail
   clear cR_0 cR_1 fR_0 fR_1
   have HW : Hid (synE (d + 1) C (.node 9 nm n ty es) = none) := by show _ = _; rw [HR.out, HS1.out, HS2.out]; simp [ifOf]
   have XZ := put2_box (u := .int .i64 0) (v := .slice none 0 0) XR.out
   have h0 := XZ.2 0
   have h1 := XZ.2 1
   unfold put2 at h0 h1
   refine bodyPost_ret (v := .tuple #[.agg #[.int .i64 0, .slice none 0 0], .bool false]) (by simp [results, Tryz.results60, go_sem, h0, h1]) rfl ?_
   exact (by (try rw [HW.out]); exact ⟨1, _, _, _, _, rfl, leaf_in _ 0 _ _ (by omega) (by omega) (Nat.le_refl _), put2_below B.out (by omega)⟩)
  | some t2 =>
   have hsz2 : t2.size ≤ 641 := hsf2
   clear hsf2
   cases ha : anaE d C es[0] tyB with
   | false =>
    have HA := Lib.hid ha
    clear ha
    have gE_0 := gx XE 0
    have gE_1 := gx XE 1
    have gE_2 := gx XE 2
    have gE_3 := gx XE 3
    have gE_4 := gx XE 4
    have gE_5 := gx XE 5
    have gk0_0 := gk hbl B K0_0
    have gk0_1 := gk hbl B K0_1
    have gk0_2 := gk hbl B K0_2
    have gk0_3 := gk hbl B K0_3
    have gk0_4 := gk hbl B K0_4
    have gk0_5 := gk hbl B K0_5
    have CB : ∀ q : Grown wa4.heap.size wa4, Calls Tryz.prog 57 #[] q.val fun e w' => e = .returned (.agg #[.int .i64 3, .slice none 0 0]) ∧ Below q.val.heap.size q.val w' := fun q => specBoolType q.val
    have CA : ∀ q : Grown wa4.heap.size wa4, Calls Tryz.prog 45 #[.slice va vn vc1, .agg #[.int .i64 xk, .string xnm, .int .i64 xn, .int .i64 xtk, .slice xta xtn xtc, .slice xsa xsm xsc], .agg #[.int .i64 3, .slice none 0 0]] q.val fun e w' => e = .returned (.bool false) ∧ Below q.val.heap.size q.val w' := fun q => by have h := IHA.out D _ _ _ _ C es[0] tyB q.val ((HV.out.below B.out).below q.old) ((HT0.out.below B.out).below q.old) (leaf_at _ 3 (by omega) (by omega)) (HOK.out.part 0 hq0) (by simp [tyB, Ty.size, Ty.sizes]); rw [HA.out] at h; exact h
    refine wp_region_grown wa4.heap.size (by kernel_rfl) (by kernel_rfl) ?_
    repeat (go_big_quiet_step ((first | (go_at_call 57; exact grown_of (Nat.le_refl _) (CB _)) | (go_at_call 45; exact grown_of (Nat.le_refl _) (CA _)))))
    refine wpQuiet_nil ?_
    rintro wq5 ⟨⟨wz, hb⟩, hqe⟩
    have hqe2 : wq5 = wz := hqe
    clear hqe
    subst hqe2
    clear gE_0 gE_1 gE_2 gE_3 gE_4 gE_5 gk0_0 gk0_1 gk0_2 gk0_3 gk0_4 gk0_5 CA CB
    have hz_wq5 := hb.size
    replace B := bb B hb
    replace XE := xb XE hb
    replace FE := fb FE hb
    replace XR := xb XR hb
    replace FR := fb FR hb
    replace XT6 := xb XT6 hb
    replace FT6 := fb FT6 hb
    replace XT8 := xb XT8 hb
    replace FT8 := fb FT8 hb
    replace Os1 := ob Os1 hb
    replace Os3 := ob Os3 hb
    clear hb
    have cR_0 := XR.out.2 0
    have cR_1 := XR.out.2 1
    have fR_0 := FR.out.2 0
    have fR_1 := FR.out.2 1
    go_wp2_with fail
    clear cR_0 cR_1 fR_0 fR_1
    have HW : Hid (synE (d + 1) C (.node 9 nm n ty es) = none) := by show _ = _; rw [HR.out, HS1.out, HS2.out]; simp [ifOf, onlyIf, HA.out]
    have XZ := put2_box (u := .int .i64 0) (v := .slice none 0 0) XR.out
    have h0 := XZ.2 0
    have h1 := XZ.2 1
    unfold put2 at h0 h1
    refine bodyPost_ret (v := .tuple #[.agg #[.int .i64 0, .slice none 0 0], .bool false]) (by simp [results, Tryz.results60, go_sem, h0, h1]) rfl ?_
    exact (by (try rw [HW.out]); exact ⟨1, _, _, _, _, rfl, leaf_in _ 0 _ _ (by omega) (by omega) (Nat.le_refl _), put2_below B.out (by omega)⟩)
   | true =>
    have HA := Lib.hid ha
    clear ha
    have gE_0 := gx XE 0
    have gE_1 := gx XE 1
    have gE_2 := gx XE 2
    have gE_3 := gx XE 3
    have gE_4 := gx XE 4
    have gE_5 := gx XE 5
    have gk0_0 := gk hbl B K0_0
    have gk0_1 := gk hbl B K0_1
    have gk0_2 := gk hbl B K0_2
    have gk0_3 := gk hbl B K0_3
    have gk0_4 := gk hbl B K0_4
    have gk0_5 := gk hbl B K0_5
    have CB : ∀ q : Grown wa4.heap.size wa4, Calls Tryz.prog 57 #[] q.val fun e w' => e = .returned (.agg #[.int .i64 3, .slice none 0 0]) ∧ Below q.val.heap.size q.val w' := fun q => specBoolType q.val
    have CA : ∀ q : Grown wa4.heap.size wa4, Calls Tryz.prog 45 #[.slice va vn vc1, .agg #[.int .i64 xk, .string xnm, .int .i64 xn, .int .i64 xtk, .slice xta xtn xtc, .slice xsa xsm xsc], .agg #[.int .i64 3, .slice none 0 0]] q.val fun e w' => e = .returned (.bool true) ∧ Below q.val.heap.size q.val w' := fun q => by have h := IHA.out D _ _ _ _ C es[0] tyB q.val ((HV.out.below B.out).below q.old) ((HT0.out.below B.out).below q.old) (leaf_at _ 3 (by omega) (by omega)) (HOK.out.part 0 hq0) (by simp [tyB, Ty.size, Ty.sizes]); rw [HA.out] at h; exact h
    refine wp_region_grown wa4.heap.size (by kernel_rfl) (by kernel_rfl) ?_
    repeat (go_big_quiet_step ((first | (go_at_call 57; exact grown_of (Nat.le_refl _) (CB _)) | (go_at_call 45; exact grown_of (Nat.le_refl _) (CA _)))))
    refine wpQuiet_nil ?_
    rintro wq5 ⟨⟨wz, hb⟩, hqe⟩
    have hqe2 : wq5 = wz := hqe
    clear hqe
    subst hqe2
    clear gE_0 gE_1 gE_2 gE_3 gE_4 gE_5 gk0_0 gk0_1 gk0_2 gk0_3 gk0_4 gk0_5 CA CB
    have hz_wq5 := hb.size
    replace B := bb B hb
    replace XE := xb XE hb
    replace FE := fb FE hb
    replace XR := xb XR hb
    replace FR := fb FR hb
    replace XT6 := xb XT6 hb
    replace FT6 := fb FT6 hb
    replace XT8 := xb XT8 hb
    replace FT8 := fb FT8 hb
    replace Os1 := ob Os1 hb
    replace Os3 := ob Os3 hb
    clear hb
    have cT6_0 := XT6.out.2 0
    have cT6_1 := XT6.out.2 1
    have cT8_0 := XT8.out.2 0
    have cT8_1 := XT8.out.2 1
    go_wp2_with fail
    clear cT6_0 cT6_1 cT8_0 cT8_1
    refine (Calls.mono (specMeetL (D1 + D3) _ _ t1 t2 _ (by omega) (by omega) (Os1.out.at_.mono (by omega)) (Os3.out.at_.mono (by omega))) (fun _ _ h => meet_b h)).mono ?_
    rintro e w6 ⟨D9, p1k, p1a, p1n, p1c, rfl, ho1, hb⟩
    have Op1 := Lib.hid ho1
    clear ho1
    have hz_w6 := hb.size
    replace B := bb B hb
    replace XE := xb XE hb
    replace FE := fb FE hb
    replace XR := xb XR hb
    replace FR := fb FR hb
    replace XT6 := xb XT6 hb
    replace FT6 := fb FT6 hb
    replace XT8 := xb XT8 hb
    replace FT8 := fb FT8 hb
    replace Os1 := ob Os1 hb
    replace Os3 := ob Os3 hb
    clear hb
    obtain ⟨wa7, hwa7, hb, hy_wa7, XT10, FT10⟩ := laid1 w6 #[.int .i64 p1k, .slice p1a p1n p1c] 33
    have hz_wa7 := hb.size
    replace B := bb B hb
    replace XE := xb XE hb
    replace FE := fb FE hb
    replace XR := xb XR hb
    replace FR := fb FR hb
    replace XT6 := xb XT6 hb
    replace FT6 := fb FT6 hb
    replace XT8 := xb XT8 hb
    replace FT8 := fb FT8 hb
    replace Os1 := ob Os1 hb
    replace Os3 := ob Os3 hb
    replace Op1 := ob Op1 hb
    clear hb
    have cR_0 := XR.out.2 0
    have cR_1 := XR.out.2 1
    have cT10_0 := XT10.out.2 0
    have cT10_1 := XT10.out.2 1
    have fR_0 := FR.out.2 0
    have fR_1 := FR.out.2 1
    rw [hwa7] at cR_0
    rw [hwa7] at cR_1
    rw [hwa7] at cT10_0
    rw [hwa7] at cT10_1
    rw [hwa7] at fR_0
    rw [hwa7] at fR_1
    go_wp2_with fail
    clear cR_0 cR_1 cT10_0 cT10_1 fR_0 fR_1
    rw [← hwa7]
    clear hwa7
    have HW : Hid ((synE (d + 1) C (.node 9 nm n ty es)).isSome = t1.okay t2 ∧ (synE (d + 1) C (.node 9 nm n ty es)).getD (.node 0 []) = t1.both t2) := by show _ ∧ _; rw [HR.out, HS1.out, HS2.out, HA.out]; unfold Ty.both; cases hk : t1.okay t2 <;> simp [ifOf, onlyIf, hk]
    have XZ := put2_box (u := .int .i64 p1k) (v := .slice p1a p1n p1c) XR.out
    have h0 := XZ.2 0
    have h1 := XZ.2 1
    unfold put2 at h0 h1
    refine bodyPost_ret (v := .tuple #[.agg #[.int .i64 p1k, .slice p1a p1n p1c], .bool (t1.okay t2)]) (by simp [results, Tryz.results60, go_sem, h0, h1]) rfl ?_
    exact (by refine ⟨D9, _, _, _, _, by rw [HW.out.1], ?_, put2_below B.out (by omega)⟩; rw [HW.out.2]; exact (put2_own Op1.out (by omega)).widen (by omega) (by first | (simp; omega) | simp) (Nat.le_refl _))
end Go.Proofs.YteffjeejbdjjpaaGreatDoor
