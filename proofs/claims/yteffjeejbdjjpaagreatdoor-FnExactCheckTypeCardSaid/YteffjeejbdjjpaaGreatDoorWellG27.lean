/-
  Proved: spec.l9Ap: what an application synthesizes.
-/
import Derived.Test.YteffjeejbdjjpaaGreatDoorWellG20
import Derived.Test.YteffjeejbdjjpaaGreatDoorWellG26
import Derived.Test.YteffjeejbdjjpaaGreatDoorWellG3
import Derived.BigQuiet
namespace Go.Proofs.YteffjeejbdjjpaaGreatDoor
open Go.RowKit

/-- What the reference's synthesis, and its analysis, are held to, for expressions of this depth. -/
def SpecSynSaid (d : Nat) : Prop := ∀ (D : Nat) (vc v : Value) (C : List Bi) (t : Ex) (w : World), BisAt w D vc C → ExAt w d v t → TypOk C t → Calls Tryz.prog 29 #[vc, v] w (SynEnd (synE d C t) w)
def SpecAnaSaid (d : Nat) : Prop := ∀ (D D2 : Nat) (vc v tv : Value) (C : List Bi) (t : Ex) (x : Ty) (w : World), BisAt w D vc C → ExAt w d v t → TyAt w D2 tv x → TypOk C t → x.size ≤ 1048577 → Calls Tryz.prog 45 #[vc, v, tv] w fun e w' => e = .returned (.bool (anaE d C t x)) ∧ Below w.heap.size w w'
theorem syn_ap (d : Nat) (C : List Bi) (nm : ByteArray) (n : Int) (ty : Ty) (es : List Ex) (h0 : 0 < es.length) (h1 : 1 < es.length) : synE (d + 1) C (.node 4 nm n ty es) = apOf (synE d C es[0]) (anaE d C es[1]) := by
 rw [synE_succ]; simp only [synStep]; rw [Ex.arg_get h0, Ex.arg_get h1]; simp
set_option maxRecDepth 100000 in
set_option maxHeartbeats 2000000 in
theorem specAp (d : Nat) (ihs : SpecSynSaid d) (iha : SpecAnaSaid d) (D : Nat) (vc v : Value) (C : List Bi) (nm : ByteArray) (n : Int) (ty : Ty) (es : List Ex) (w : World) (hv : BisAt w D vc C) (he : ExAt w (d + 1) v (.node 4 nm n ty es)) (hok : TypOk C (.node 4 nm n ty es)) :
  Calls Tryz.prog 59 #[vc, v] w (SynEnd (synE (d + 1) C (.node 4 nm n ty es)) w) := by
 obtain ⟨c3, c4, sl, hx, hk0, hk1, hn0, hn1, hnm, hty, sa, sc, hsl, hcap, hcap2, hat⟩ := he
 subst hsl
 obtain ⟨tk, ta, tn, tc, rfl, rfl⟩ := at_parts hty
 subst hx
 obtain ⟨va, vn, vc1, rfl⟩ : ∃ a n c, vc = .slice a n c := by obtain ⟨a, cap, hv, _⟩ := hv; exact ⟨_, _, _, hv⟩
 have hlen : es.length = 2 := by have h1 := (form_parts hok.1).1; have h2 : arity 4 = 2 := rfl; omega
 have hq0 : 0 < es.length := by omega
 have hq1 : 1 < es.length := by omega
 obtain ⟨b, off, q0_0, q0_1, q0_2, q0_3, q0_4, q0_5, e0, hbl, z0_0, z0_1, z0_2, z0_3, z0_4, z0_5, ht0⟩ := hat 0 hq0
 subst e0
 obtain ⟨xk, xnm, xn, xtk, xta, xtn, xtc, xsa, xsm, xsc, rfl, rfl, rfl, rfl, rfl, rfl⟩ := ex_cells ht0
 simp only [Nat.zero_mul, Nat.add_zero] at z0_0 z0_1 z0_2 z0_3 z0_4 z0_5
 have K0_0 := Lib.hid z0_0
 have K0_1 := Lib.hid z0_1
 have K0_2 := Lib.hid z0_2
 have K0_3 := Lib.hid z0_3
 have K0_4 := Lib.hid z0_4
 have K0_5 := Lib.hid z0_5
 clear z0_0 z0_1 z0_2 z0_3 z0_4 z0_5
 have HT0 := Lib.hid ht0
 clear ht0
 obtain ⟨b1, off1, q1_0, q1_1, q1_2, q1_3, q1_4, q1_5, e1, hbl1, z1_0, z1_1, z1_2, z1_3, z1_4, z1_5, ht1⟩ := hat 1 hq1
 injection e1 with e1
 injection e1 with ea1 eb1
 subst ea1 eb1
 obtain ⟨yk, ynm, yn, ytk, yta, ytn, ytc, ysa, ysm, ysc, rfl, rfl, rfl, rfl, rfl, rfl⟩ := ex_cells ht1
 simp only [Nat.one_mul] at z1_0 z1_1 z1_2 z1_3 z1_4 z1_5
 have K1_0 := Lib.hid z1_0
 have K1_1 := Lib.hid z1_1
 have K1_2 := Lib.hid z1_2
 have K1_3 := Lib.hid z1_3
 have K1_4 := Lib.hid z1_4
 have K1_5 := Lib.hid z1_5
 clear z1_0 z1_1 z1_2 z1_3 z1_4 z1_5
 have HT1 := Lib.hid ht1
 clear ht1
 have HV := Lib.hid hv
 clear hv
 have HOK := Lib.hid hok
 clear hok hat
 have HTY := Lib.hid hty
 clear hty
 have HNM := Lib.hid hnm
 clear hnm
 have HR := Lib.hid (syn_ap d C nm n ty es hq0 hq1)
 have IHS := Lib.hid ihs
 have IHA := Lib.hid iha
 clear ihs iha
 rw [hlen]
 clear hlen
 cases hs0 : synE d C es[0] with
 | none =>
  have HS0 := Lib.hid hs0
  clear hs0
  obtain ⟨w0, hw0, B, hz_w0, XE, FE, XR, FR⟩ := laid2 w #[.int .i64 4, .string nm, .int .i64 n, .int .i64 tk, .slice ta tn tc, .slice (some ⟨b, off, none⟩) 2 sc] 40 #[.int .i64 0, .slice none 0 0] 33
  replace B := Lib.hid B
  go_enter Tryz.func59, Tryz.ntmps59
  have k0_0 := K0_0.out
  have k0_1 := K0_1.out
  have k0_2 := K0_2.out
  have k0_3 := K0_3.out
  have k0_4 := K0_4.out
  have k0_5 := K0_5.out
  go_wp2_with fail
  clear k0_0 k0_1 k0_2 k0_3 k0_4 k0_5
  rw [← hw0]
  clear hw0
  have CS : Calls Tryz.prog 29 #[.slice va vn vc1, .agg #[.int .i64 xk, .string xnm, .int .i64 xn, .int .i64 xtk, .slice xta xtn xtc, .slice xsa xsm xsc]] w0 (SynNo w0) := by have h := IHS.out D _ _ C es[0] _ (HV.out.below B.out) (HT0.out.below B.out) (HOK.out.part 0 hq0); rw [HS0.out] at h; exact h
  refine (CS).mono ?_
  rintro e w1 ⟨D1, r1k, r1a, r1n, r1c, rfl, ho, hb⟩
  have Os1 := Lib.hid ho
  clear ho
  have hz_w1 := hb.size
  replace B := bb B hb
  replace XE := xb XE hb
  replace FE := fb FE hb
  replace XR := xb XR hb
  replace FR := fb FR hb
  clear hb
  have cE_0 := XE.out.2 0
  have cE_1 := XE.out.2 1
  have cE_2 := XE.out.2 2
  have cE_3 := XE.out.2 3
  have cE_4 := XE.out.2 4
  have cE_5 := XE.out.2 5
  have cR_0 := XR.out.2 0
  have cR_1 := XR.out.2 1
  go_wp2_with fail
  clear cE_0 cE_1 cE_2 cE_3 cE_4 cE_5 cR_0 cR_1
  obtain ⟨wa2, hwa2, hb, hy_wa2, XT6, FT6⟩ := laid1 w1 #[.int .i64 r1k, .slice r1a r1n r1c] 33
  have hz_wa2 := hb.size
  replace B := bb B hb
  replace XE := xb XE hb
  replace FE := fb FE hb
  replace XR := xb XR hb
  replace FR := fb FR hb
  replace Os1 := ob Os1 hb
  clear hb
  rw [← hwa2]
  clear hwa2
  refine (Calls.mono (specMatchArrow _ _ _ _ Os1.out.at_ (by simp [Ty.size, Ty.sizes])) (fun _ _ h => match_b (parts_null 4) h)).mono ?_
  rintro e w3 ⟨D9, p1k, p1a, p1n, p1c, p2k, p2a, p2n, p2c, mid, rfl, hm, ho1, ho2, hb⟩
  have Op1 := Lib.hid ho1
  clear ho1
  have Op2 := Lib.hid ho2
  clear ho2
  have hz_w3 := hb.size
  replace B := bb B hb
  replace XE := xb XE hb
  replace FE := fb FE hb
  replace XR := xb XR hb
  replace FR := fb FR hb
  replace XT6 := xb XT6 hb
  replace FT6 := fb FT6 hb
  replace Os1 := ob Os1 hb
  clear hb
  go_upto_region 3 with fail
  obtain ⟨wa4, hwa4, hb, hy_wa4, XT8, FT8, XT9, FT9⟩ := laid2 w3 #[.int .i64 p1k, .slice p1a p1n p1c] 33 #[.int .i64 p2k, .slice p2a p2n p2c] 33
  have hz_wa4 := hb.size
  replace B := bb B hb
  replace XE := xb XE hb
  replace FE := fb FE hb
  replace XR := xb XR hb
  replace FR := fb FR hb
  replace XT6 := xb XT6 hb
  replace FT6 := fb FT6 hb
  replace Os1 := ob Os1 hb
  replace Op1 := ob Op1 hb
  replace Op2 := ob Op2 hb
  clear hb
  rw [← hwa4]
  clear hwa4
  have gE_0 := gx XE 0
  have gE_1 := gx XE 1
  have gE_2 := gx XE 2
  have gE_3 := gx XE 3
  have gE_4 := gx XE 4
  have gE_5 := gx XE 5
  have gT8_0 := gx XT8 0
  have gT8_1 := gx XT8 1
  have gk1_0 := gk hbl B K1_0
  have gk1_1 := gk hbl B K1_1
  have gk1_2 := gk hbl B K1_2
  have gk1_3 := gk hbl B K1_3
  have gk1_4 := gk hbl B K1_4
  have gk1_5 := gk hbl B K1_5
  refine wp_region_grown wa4.heap.size (by kernel_rfl) (by kernel_rfl) ?_
  repeat (go_big_quiet_step (fail))
  refine wpQuiet_nil ?_
  rintro _ ⟨⟨wq5, hb⟩, rfl⟩
  clear gE_0 gE_1 gE_2 gE_3 gE_4 gE_5 gT8_0 gT8_1 gk1_0 gk1_1 gk1_2 gk1_3 gk1_4 gk1_5
  have hz_wq5 := hb.size
  replace B := bb B hb
  replace XE := xb XE hb
  replace FE := fb FE hb
  replace XR := xb XR hb
  replace FR := fb FR hb
  replace XT6 := xb XT6 hb
  replace FT6 := fb FT6 hb
  replace XT8 := xb XT8 hb
  replace FT8 := fb FT8 hb
  replace XT9 := xb XT9 hb
  replace FT9 := fb FT9 hb
  replace Os1 := ob Os1 hb
  replace Op1 := ob Op1 hb
  replace Op2 := ob Op2 hb
  clear hb
  have cR_0 := XR.out.2 0
  have cR_1 := XR.out.2 1
  have cT9_0 := XT9.out.2 0
  have cT9_1 := XT9.out.2 1
  have fR_0 := FR.out.2 0
  have fR_1 := FR.out.2 1
  go_wp2_with fail
  clear cR_0 cR_1 cT9_0 cT9_1 fR_0 fR_1
  have HW : Hid (synE (d + 1) C (.node 4 nm n ty es) = none) := by show _ = _; rw [HR.out, HS0.out]; rfl
  have XZ := put2_box (u := .int .i64 0) (v := .slice none 0 0) XR.out
  have h0 := XZ.2 0
  have h1 := XZ.2 1
  unfold put2 at h0 h1
  refine bodyPost_ret (v := .tuple #[.agg #[.int .i64 0, .slice none 0 0], .bool false]) (by simp [results, Tryz.results59, go_sem, h0, h1]) rfl ?_
  exact (by (try rw [HW.out]); exact ⟨1, _, _, _, _, rfl, leaf_in _ 0 _ _ (by omega) (by omega) (Nat.le_refl _), put2_below B.out (by omega)⟩)
 | some t0 =>
  have hsz0 : t0.size ≤ 641 := by have h1 := syn_few (d := d) (HOK.out.part 0 hq0); rw [hs0] at h1; exact h1
  have HS0 := Lib.hid hs0
  clear hs0
  cases hp : (t0.parts 4).2.2 with
  | false =>
   have HP := Lib.hid hp
   clear hp
   obtain ⟨w0, hw0, B, hz_w0, XE, FE, XR, FR⟩ := laid2 w #[.int .i64 4, .string nm, .int .i64 n, .int .i64 tk, .slice ta tn tc, .slice (some ⟨b, off, none⟩) 2 sc] 40 #[.int .i64 0, .slice none 0 0] 33
   replace B := Lib.hid B
   go_enter Tryz.func59, Tryz.ntmps59
   have k0_0 := K0_0.out
   have k0_1 := K0_1.out
   have k0_2 := K0_2.out
   have k0_3 := K0_3.out
   have k0_4 := K0_4.out
   have k0_5 := K0_5.out
   go_wp2_with fail
   clear k0_0 k0_1 k0_2 k0_3 k0_4 k0_5
   rw [← hw0]
   clear hw0
   have CS : Calls Tryz.prog 29 #[.slice va vn vc1, .agg #[.int .i64 xk, .string xnm, .int .i64 xn, .int .i64 xtk, .slice xta xtn xtc, .slice xsa xsm xsc]] w0 (SynYes t0 w0) := by have h := IHS.out D _ _ C es[0] _ (HV.out.below B.out) (HT0.out.below B.out) (HOK.out.part 0 hq0); rw [HS0.out] at h; exact h
   refine (CS).mono ?_
   rintro e w1 ⟨D1, r1k, r1a, r1n, r1c, rfl, ho, hb⟩
   have Os1 := Lib.hid ho
   clear ho
   have hz_w1 := hb.size
   replace B := bb B hb
   replace XE := xb XE hb
   replace FE := fb FE hb
   replace XR := xb XR hb
   replace FR := fb FR hb
   clear hb
   have cE_0 := XE.out.2 0
   have cE_1 := XE.out.2 1
   have cE_2 := XE.out.2 2
   have cE_3 := XE.out.2 3
   have cE_4 := XE.out.2 4
   have cE_5 := XE.out.2 5
   have cR_0 := XR.out.2 0
   have cR_1 := XR.out.2 1
   go_wp2_with fail
   clear cE_0 cE_1 cE_2 cE_3 cE_4 cE_5 cR_0 cR_1
   obtain ⟨wa2, hwa2, hb, hy_wa2, XT6, FT6⟩ := laid1 w1 #[.int .i64 r1k, .slice r1a r1n r1c] 33
   have hz_wa2 := hb.size
   replace B := bb B hb
   replace XE := xb XE hb
   replace FE := fb FE hb
   replace XR := xb XR hb
   replace FR := fb FR hb
   replace Os1 := ob Os1 hb
   clear hb
   rw [← hwa2]
   clear hwa2
   refine (Calls.mono (specMatchArrow _ _ _ _ Os1.out.at_ (by omega)) (fun _ _ h => match_b HP.out h)).mono ?_
   rintro e w3 ⟨D9, p1k, p1a, p1n, p1c, p2k, p2a, p2n, p2c, mid, rfl, hm, ho1, ho2, hb⟩
   have Op1 := Lib.hid ho1
   clear ho1
   have Op2 := Lib.hid ho2
   clear ho2
   have hz_w3 := hb.size
   replace B := bb B hb
   replace XE := xb XE hb
   replace FE := fb FE hb
   replace XR := xb XR hb
   replace FR := fb FR hb
   replace XT6 := xb XT6 hb
   replace FT6 := fb FT6 hb
   replace Os1 := ob Os1 hb
   clear hb
   go_upto_region 3 with fail
   obtain ⟨wa4, hwa4, hb, hy_wa4, XT8, FT8, XT9, FT9⟩ := laid2 w3 #[.int .i64 p1k, .slice p1a p1n p1c] 33 #[.int .i64 p2k, .slice p2a p2n p2c] 33
   have hz_wa4 := hb.size
   replace B := bb B hb
   replace XE := xb XE hb
   replace FE := fb FE hb
   replace XR := xb XR hb
   replace FR := fb FR hb
   replace XT6 := xb XT6 hb
   replace FT6 := fb FT6 hb
   replace Os1 := ob Os1 hb
   replace Op1 := ob Op1 hb
   replace Op2 := ob Op2 hb
   clear hb
   rw [← hwa4]
   clear hwa4
   have gE_0 := gx XE 0
   have gE_1 := gx XE 1
   have gE_2 := gx XE 2
   have gE_3 := gx XE 3
   have gE_4 := gx XE 4
   have gE_5 := gx XE 5
   have gT8_0 := gx XT8 0
   have gT8_1 := gx XT8 1
   have gk1_0 := gk hbl B K1_0
   have gk1_1 := gk hbl B K1_1
   have gk1_2 := gk hbl B K1_2
   have gk1_3 := gk hbl B K1_3
   have gk1_4 := gk hbl B K1_4
   have gk1_5 := gk hbl B K1_5
   refine wp_region_grown wa4.heap.size (by kernel_rfl) (by kernel_rfl) ?_
   repeat (go_big_quiet_step (fail))
   refine wpQuiet_nil ?_
   rintro _ ⟨⟨wq5, hb⟩, rfl⟩
   clear gE_0 gE_1 gE_2 gE_3 gE_4 gE_5 gT8_0 gT8_1 gk1_0 gk1_1 gk1_2 gk1_3 gk1_4 gk1_5
   have hz_wq5 := hb.size
   replace B := bb B hb
   replace XE := xb XE hb
   replace FE := fb FE hb
   replace XR := xb XR hb
   replace FR := fb FR hb
   replace XT6 := xb XT6 hb
   replace FT6 := fb FT6 hb
   replace XT8 := xb XT8 hb
   replace FT8 := fb FT8 hb
   replace XT9 := xb XT9 hb
   replace FT9 := fb FT9 hb
   replace Os1 := ob Os1 hb
   replace Op1 := ob Op1 hb
   replace Op2 := ob Op2 hb
   clear hb
   have cR_0 := XR.out.2 0
   have cR_1 := XR.out.2 1
   have cT9_0 := XT9.out.2 0
   have cT9_1 := XT9.out.2 1
   have fR_0 := FR.out.2 0
   have fR_1 := FR.out.2 1
   go_wp2_with fail
   clear cR_0 cR_1 cT9_0 cT9_1 fR_0 fR_1
   have HW : Hid (synE (d + 1) C (.node 4 nm n ty es) = none) := by show _ = _; rw [HR.out, HS0.out]; simp [apOf, onlyIf, HP.out]
   have XZ := put2_box (u := .int .i64 0) (v := .slice none 0 0) XR.out
   have h0 := XZ.2 0
   have h1 := XZ.2 1
   unfold put2 at h0 h1
   refine bodyPost_ret (v := .tuple #[.agg #[.int .i64 0, .slice none 0 0], .bool false]) (by simp [results, Tryz.results59, go_sem, h0, h1]) rfl ?_
   exact (by (try rw [HW.out]); exact ⟨1, _, _, _, _, rfl, leaf_in _ 0 _ _ (by omega) (by omega) (Nat.le_refl _), put2_below B.out (by omega)⟩)
  | true =>
   have HP := Lib.hid hp
   clear hp
   cases ha : anaE d C es[1] (t0.parts 4).1 with
   | false =>
    have HA := Lib.hid ha
    clear ha
    obtain ⟨w0, hw0, B, hz_w0, XE, FE, XR, FR⟩ := laid2 w #[.int .i64 4, .string nm, .int .i64 n, .int .i64 tk, .slice ta tn tc, .slice (some ⟨b, off, none⟩) 2 sc] 40 #[.int .i64 0, .slice none 0 0] 33
    replace B := Lib.hid B
    go_enter Tryz.func59, Tryz.ntmps59
    have k0_0 := K0_0.out
    have k0_1 := K0_1.out
    have k0_2 := K0_2.out
    have k0_3 := K0_3.out
    have k0_4 := K0_4.out
    have k0_5 := K0_5.out
    go_wp2_with fail
    clear k0_0 k0_1 k0_2 k0_3 k0_4 k0_5
    rw [← hw0]
    clear hw0
    have CS : Calls Tryz.prog 29 #[.slice va vn vc1, .agg #[.int .i64 xk, .string xnm, .int .i64 xn, .int .i64 xtk, .slice xta xtn xtc, .slice xsa xsm xsc]] w0 (SynYes t0 w0) := by have h := IHS.out D _ _ C es[0] _ (HV.out.below B.out) (HT0.out.below B.out) (HOK.out.part 0 hq0); rw [HS0.out] at h; exact h
    refine (CS).mono ?_
    rintro e w1 ⟨D1, r1k, r1a, r1n, r1c, rfl, ho, hb⟩
    have Os1 := Lib.hid ho
    clear ho
    have hz_w1 := hb.size
    replace B := bb B hb
    replace XE := xb XE hb
    replace FE := fb FE hb
    replace XR := xb XR hb
    replace FR := fb FR hb
    clear hb
    have cE_0 := XE.out.2 0
    have cE_1 := XE.out.2 1
    have cE_2 := XE.out.2 2
    have cE_3 := XE.out.2 3
    have cE_4 := XE.out.2 4
    have cE_5 := XE.out.2 5
    have cR_0 := XR.out.2 0
    have cR_1 := XR.out.2 1
    go_wp2_with fail
    clear cE_0 cE_1 cE_2 cE_3 cE_4 cE_5 cR_0 cR_1
    obtain ⟨wa2, hwa2, hb, hy_wa2, XT6, FT6⟩ := laid1 w1 #[.int .i64 r1k, .slice r1a r1n r1c] 33
    have hz_wa2 := hb.size
    replace B := bb B hb
    replace XE := xb XE hb
    replace FE := fb FE hb
    replace XR := xb XR hb
    replace FR := fb FR hb
    replace Os1 := ob Os1 hb
    clear hb
    rw [← hwa2]
    clear hwa2
    refine (Calls.mono (specMatchArrow _ _ _ _ Os1.out.at_ (by omega)) (fun _ _ h => match_b HP.out h)).mono ?_
    rintro e w3 ⟨D9, p1k, p1a, p1n, p1c, p2k, p2a, p2n, p2c, mid, rfl, hm, ho1, ho2, hb⟩
    have Op1 := Lib.hid ho1
    clear ho1
    have Op2 := Lib.hid ho2
    clear ho2
    have hz_w3 := hb.size
    replace B := bb B hb
    replace XE := xb XE hb
    replace FE := fb FE hb
    replace XR := xb XR hb
    replace FR := fb FR hb
    replace XT6 := xb XT6 hb
    replace FT6 := fb FT6 hb
    replace Os1 := ob Os1 hb
    clear hb
    go_upto_region 3 with fail
    obtain ⟨wa4, hwa4, hb, hy_wa4, XT8, FT8, XT9, FT9⟩ := laid2 w3 #[.int .i64 p1k, .slice p1a p1n p1c] 33 #[.int .i64 p2k, .slice p2a p2n p2c] 33
    have hz_wa4 := hb.size
    replace B := bb B hb
    replace XE := xb XE hb
    replace FE := fb FE hb
    replace XR := xb XR hb
    replace FR := fb FR hb
    replace XT6 := xb XT6 hb
    replace FT6 := fb FT6 hb
    replace Os1 := ob Os1 hb
    replace Op1 := ob Op1 hb
    replace Op2 := ob Op2 hb
    clear hb
    rw [← hwa4]
    clear hwa4
    have gE_0 := gx XE 0
    have gE_1 := gx XE 1
    have gE_2 := gx XE 2
    have gE_3 := gx XE 3
    have gE_4 := gx XE 4
    have gE_5 := gx XE 5
    have gT8_0 := gx XT8 0
    have gT8_1 := gx XT8 1
    have gk1_0 := gk hbl B K1_0
    have gk1_1 := gk hbl B K1_1
    have gk1_2 := gk hbl B K1_2
    have gk1_3 := gk hbl B K1_3
    have gk1_4 := gk hbl B K1_4
    have gk1_5 := gk hbl B K1_5
    have CA : ∀ q : Grown wa4.heap.size wa4, Calls Tryz.prog 45 #[.slice va vn vc1, .agg #[.int .i64 yk, .string ynm, .int .i64 yn, .int .i64 ytk, .slice yta ytn ytc, .slice ysa ysm ysc], .agg #[.int .i64 p1k, .slice p1a p1n p1c]] q.val fun e w' => e = .returned (.bool false) ∧ Below q.val.heap.size q.val w' := fun q => by have h := IHA.out D D9 _ _ _ C es[1] (t0.parts 4).1 q.val ((HV.out.below B.out).below q.old) ((HT1.out.below B.out).below q.old) (Op1.out.at_.below q.old) (HOK.out.part 1 hq1) (by have := (parts_size 4 t0).1; omega); rw [HA.out] at h; exact h
    refine wp_region_grown wa4.heap.size (by kernel_rfl) (by kernel_rfl) ?_
    repeat (go_big_quiet_step ((go_at_call 45; exact grown_of (Nat.le_refl _) (CA _))))
    refine wpQuiet_nil ?_
    rintro _ ⟨⟨wq5, hb⟩, rfl⟩
    clear gE_0 gE_1 gE_2 gE_3 gE_4 gE_5 gT8_0 gT8_1 gk1_0 gk1_1 gk1_2 gk1_3 gk1_4 gk1_5 CA
    have hz_wq5 := hb.size
    replace B := bb B hb
    replace XE := xb XE hb
    replace FE := fb FE hb
    replace XR := xb XR hb
    replace FR := fb FR hb
    replace XT6 := xb XT6 hb
    replace FT6 := fb FT6 hb
    replace XT8 := xb XT8 hb
    replace FT8 := fb FT8 hb
    replace XT9 := xb XT9 hb
    replace FT9 := fb FT9 hb
    replace Os1 := ob Os1 hb
    replace Op1 := ob Op1 hb
    replace Op2 := ob Op2 hb
    clear hb
    have cR_0 := XR.out.2 0
    have cR_1 := XR.out.2 1
    have cT9_0 := XT9.out.2 0
    have cT9_1 := XT9.out.2 1
    have fR_0 := FR.out.2 0
    have fR_1 := FR.out.2 1
    go_wp2_with fail
    clear cR_0 cR_1 cT9_0 cT9_1 fR_0 fR_1
    have HW : Hid (synE (d + 1) C (.node 4 nm n ty es) = none) := by show _ = _; rw [HR.out, HS0.out]; simp [apOf, onlyIf, HP.out, HA.out]
    have XZ := put2_box (u := .int .i64 0) (v := .slice none 0 0) XR.out
    have h0 := XZ.2 0
    have h1 := XZ.2 1
    unfold put2 at h0 h1
    refine bodyPost_ret (v := .tuple #[.agg #[.int .i64 0, .slice none 0 0], .bool false]) (by simp [results, Tryz.results59, go_sem, h0, h1]) rfl ?_
    exact (by (try rw [HW.out]); exact ⟨1, _, _, _, _, rfl, leaf_in _ 0 _ _ (by omega) (by omega) (Nat.le_refl _), put2_below B.out (by omega)⟩)
   | true =>
    have HA := Lib.hid ha
    clear ha
    obtain ⟨w0, hw0, B, hz_w0, XE, FE, XR, FR⟩ := laid2 w #[.int .i64 4, .string nm, .int .i64 n, .int .i64 tk, .slice ta tn tc, .slice (some ⟨b, off, none⟩) 2 sc] 40 #[.int .i64 0, .slice none 0 0] 33
    replace B := Lib.hid B
    go_enter Tryz.func59, Tryz.ntmps59
    have k0_0 := K0_0.out
    have k0_1 := K0_1.out
    have k0_2 := K0_2.out
    have k0_3 := K0_3.out
    have k0_4 := K0_4.out
    have k0_5 := K0_5.out
    go_wp2_with fail
    clear k0_0 k0_1 k0_2 k0_3 k0_4 k0_5
    rw [← hw0]
    clear hw0
    have CS : Calls Tryz.prog 29 #[.slice va vn vc1, .agg #[.int .i64 xk, .string xnm, .int .i64 xn, .int .i64 xtk, .slice xta xtn xtc, .slice xsa xsm xsc]] w0 (SynYes t0 w0) := by have h := IHS.out D _ _ C es[0] _ (HV.out.below B.out) (HT0.out.below B.out) (HOK.out.part 0 hq0); rw [HS0.out] at h; exact h
    refine (CS).mono ?_
    rintro e w1 ⟨D1, r1k, r1a, r1n, r1c, rfl, ho, hb⟩
    have Os1 := Lib.hid ho
    clear ho
    have hz_w1 := hb.size
    replace B := bb B hb
    replace XE := xb XE hb
    replace FE := fb FE hb
    replace XR := xb XR hb
    replace FR := fb FR hb
    clear hb
    have cE_0 := XE.out.2 0
    have cE_1 := XE.out.2 1
    have cE_2 := XE.out.2 2
    have cE_3 := XE.out.2 3
    have cE_4 := XE.out.2 4
    have cE_5 := XE.out.2 5
    have cR_0 := XR.out.2 0
    have cR_1 := XR.out.2 1
    go_wp2_with fail
    clear cE_0 cE_1 cE_2 cE_3 cE_4 cE_5 cR_0 cR_1
    obtain ⟨wa2, hwa2, hb, hy_wa2, XT6, FT6⟩ := laid1 w1 #[.int .i64 r1k, .slice r1a r1n r1c] 33
    have hz_wa2 := hb.size
    replace B := bb B hb
    replace XE := xb XE hb
    replace FE := fb FE hb
    replace XR := xb XR hb
    replace FR := fb FR hb
    replace Os1 := ob Os1 hb
    clear hb
    rw [← hwa2]
    clear hwa2
    refine (Calls.mono (specMatchArrow _ _ _ _ Os1.out.at_ (by omega)) (fun _ _ h => match_b HP.out h)).mono ?_
    rintro e w3 ⟨D9, p1k, p1a, p1n, p1c, p2k, p2a, p2n, p2c, mid, rfl, hm, ho1, ho2, hb⟩
    have Op1 := Lib.hid ho1
    clear ho1
    have Op2 := Lib.hid ho2
    clear ho2
    have hz_w3 := hb.size
    replace B := bb B hb
    replace XE := xb XE hb
    replace FE := fb FE hb
    replace XR := xb XR hb
    replace FR := fb FR hb
    replace XT6 := xb XT6 hb
    replace FT6 := fb FT6 hb
    replace Os1 := ob Os1 hb
    clear hb
    go_upto_region 3 with fail
    obtain ⟨wa4, hwa4, hb, hy_wa4, XT8, FT8, XT9, FT9⟩ := laid2 w3 #[.int .i64 p1k, .slice p1a p1n p1c] 33 #[.int .i64 p2k, .slice p2a p2n p2c] 33
    have hz_wa4 := hb.size
    replace B := bb B hb
    replace XE := xb XE hb
    replace FE := fb FE hb
    replace XR := xb XR hb
    replace FR := fb FR hb
    replace XT6 := xb XT6 hb
    replace FT6 := fb FT6 hb
    replace Os1 := ob Os1 hb
    replace Op1 := ob Op1 hb
    replace Op2 := ob Op2 hb
    clear hb
    rw [← hwa4]
    clear hwa4
    have gE_0 := gx XE 0
    have gE_1 := gx XE 1
    have gE_2 := gx XE 2
    have gE_3 := gx XE 3
    have gE_4 := gx XE 4
    have gE_5 := gx XE 5
    have gT8_0 := gx XT8 0
    have gT8_1 := gx XT8 1
    have gk1_0 := gk hbl B K1_0
    have gk1_1 := gk hbl B K1_1
    have gk1_2 := gk hbl B K1_2
    have gk1_3 := gk hbl B K1_3
    have gk1_4 := gk hbl B K1_4
    have gk1_5 := gk hbl B K1_5
    have CA : ∀ q : Grown wa4.heap.size wa4, Calls Tryz.prog 45 #[.slice va vn vc1, .agg #[.int .i64 yk, .string ynm, .int .i64 yn, .int .i64 ytk, .slice yta ytn ytc, .slice ysa ysm ysc], .agg #[.int .i64 p1k, .slice p1a p1n p1c]] q.val fun e w' => e = .returned (.bool true) ∧ Below q.val.heap.size q.val w' := fun q => by have h := IHA.out D D9 _ _ _ C es[1] (t0.parts 4).1 q.val ((HV.out.below B.out).below q.old) ((HT1.out.below B.out).below q.old) (Op1.out.at_.below q.old) (HOK.out.part 1 hq1) (by have := (parts_size 4 t0).1; omega); rw [HA.out] at h; exact h
    refine wp_region_grown wa4.heap.size (by kernel_rfl) (by kernel_rfl) ?_
    repeat (go_big_quiet_step ((go_at_call 45; exact grown_of (Nat.le_refl _) (CA _))))
    refine wpQuiet_nil ?_
    rintro _ ⟨⟨wq5, hb⟩, rfl⟩
    clear gE_0 gE_1 gE_2 gE_3 gE_4 gE_5 gT8_0 gT8_1 gk1_0 gk1_1 gk1_2 gk1_3 gk1_4 gk1_5 CA
    have hz_wq5 := hb.size
    replace B := bb B hb
    replace XE := xb XE hb
    replace FE := fb FE hb
    replace XR := xb XR hb
    replace FR := fb FR hb
    replace XT6 := xb XT6 hb
    replace FT6 := fb FT6 hb
    replace XT8 := xb XT8 hb
    replace FT8 := fb FT8 hb
    replace XT9 := xb XT9 hb
    replace FT9 := fb FT9 hb
    replace Os1 := ob Os1 hb
    replace Op1 := ob Op1 hb
    replace Op2 := ob Op2 hb
    clear hb
    have cR_0 := XR.out.2 0
    have cR_1 := XR.out.2 1
    have cT9_0 := XT9.out.2 0
    have cT9_1 := XT9.out.2 1
    have fR_0 := FR.out.2 0
    have fR_1 := FR.out.2 1
    go_wp2_with fail
    clear cR_0 cR_1 cT9_0 cT9_1 fR_0 fR_1
    have HW : Hid (synE (d + 1) C (.node 4 nm n ty es) = some (t0.parts 4).2.1) := by show _ = _; rw [HR.out, HS0.out]; simp [apOf, onlyIf, HP.out, HA.out]
    have htop := own_top Op2.out
    have XZ := put2_box (u := .int .i64 p2k) (v := .slice p2a p2n p2c) XR.out
    have h0 := XZ.2 0
    have h1 := XZ.2 1
    unfold put2 at h0 h1
    refine bodyPost_ret (v := .tuple #[.agg #[.int .i64 p2k, .slice p2a p2n p2c], .bool true]) (by simp [results, Tryz.results59, go_sem, h0, h1]) rfl ?_
    exact (by (try rw [HW.out]); exact ⟨D9, _, _, _, _, rfl, (put2_own Op2.out (by omega)).widen (by omega) (by first | (simp; omega) | simp) (Nat.le_refl _), put2_below B.out (by omega)⟩)
end Go.Proofs.YteffjeejbdjjpaaGreatDoor
