/-
  Proved: spec.l9Two: what a function or a pair synthesizes.
-/
import Derived.Test.YteffjeejbdjjpaaGreatDoorWellG27
import Derived.Test.YteffjeejbdjjpaaGreatDoorWellG11
import Derived.Test.YteffjeejbdjjpaaGreatDoorWellG14
import Derived.Deep.RegionHeld3
import Derived.Deep.DeepCutAuto
import Derived.Test.YteffjeejbdjjpaaGreatDoorWellG20
namespace Go.Proofs.YteffjeejbdjjpaaGreatDoor
open Go.RowKit

theorem syn_pair (d : Nat) (C : List Bi) (nm : ByteArray) (n : Int) (ty : Ty) (es : List Ex) (h0 : 0 < es.length) (h1 : 1 < es.length) : synE (d + 1) C (.node 10 nm n ty es) = pairOf (synE d C es[0]) (synE d C es[1]) := by
 rw [synE_succ]; simp only [synStep]; rw [Ex.arg_get h0, Ex.arg_get h1]; simp
theorem syn_lam (d : Nat) (C : List Bi) (nm : ByteArray) (n : Int) (ty : Ty) (es : List Ex) (h0 : 0 < es.length) : synE (d + 1) C (.node 3 nm n ty es) = arrowOf ty (synE d (C ++ [⟨nm, ty⟩]) es[0]) := by
 rw [synE_succ]; simp only [synStep]; rw [Ex.arg_get h0]; simp
set_option maxRecDepth 100000 in
set_option maxHeartbeats 2000000 in
theorem specTwo10 (d : Nat) (ihs : SpecSynSaid d) (D : Nat) (vc v : Value) (C : List Bi) (nm : ByteArray) (n : Int) (ty : Ty) (es : List Ex) (w : World) (hv : BisAt w D vc C) (he : ExAt w (d + 1) v (.node 10 nm n ty es)) (hok : TypOk C (.node 10 nm n ty es)) :
  Calls Tryz.prog 58 #[vc, v] w (TwoEnd (synE (d + 1) C (.node 10 nm n ty es)) w) := by
 obtain ⟨c3, c4, sl, hx, hk0, hk1, hn0, hn1, hnm, hty, sa, sc, hsl, hcap, hcap2, hat⟩ := he
 subst hsl
 obtain ⟨tk, ta, tn, tc, rfl, rfl⟩ := at_parts hty
 subst hx
 obtain ⟨va, vn, vc1, rfl⟩ : ∃ a n c, vc = .slice a n c := by obtain ⟨a, cap, hv, _⟩ := hv; exact ⟨_, _, _, hv⟩
 have hlen : es.length = 2 := by have h1 := (form_parts hok.1).1; have h2 : arity 10 = 2 := rfl; omega
 have hq0 : 0 < es.length := by omega
 have hq1 : 1 < es.length := by omega
 obtain ⟨b, off, q0_0, q0_1, q0_2, q0_3, q0_4, q0_5, e0, hbl, z0_0, z0_1, z0_2, z0_3, z0_4, z0_5, ht0⟩ := hat 0 hq0
 subst e0
 obtain ⟨xk, xnm, xn, xtk, xta, xtn, xtc, xsa, xsm, xsc, rfl, rfl, rfl, rfl, rfl, rfl⟩ := ex_cells ht0
 simp only [Nat.zero_mul, Nat.add_zero] at z0_0 z0_1 z0_2 z0_3 z0_4 z0_5
 have K0_0 := Lib.hid z0_0
 have K0_1 := Lib.hid z0_1
 have K0_2 := Lib.hid z0_2
 have K0_3 := Lib.hid z0_3
 have K0_4 := Lib.hid z0_4
 have K0_5 := Lib.hid z0_5
 clear z0_0 z0_1 z0_2 z0_3 z0_4 z0_5
 have HT0 := Lib.hid ht0
 clear ht0
 obtain ⟨b1, off1, q1_0, q1_1, q1_2, q1_3, q1_4, q1_5, e1, hbl1, z1_0, z1_1, z1_2, z1_3, z1_4, z1_5, ht1⟩ := hat 1 hq1
 injection e1 with e1
 injection e1 with ea1 eb1
 subst ea1 eb1
 obtain ⟨yk, ynm, yn, ytk, yta, ytn, ytc, ysa, ysm, ysc, rfl, rfl, rfl, rfl, rfl, rfl⟩ := ex_cells ht1
 simp only [Nat.one_mul] at z1_0 z1_1 z1_2 z1_3 z1_4 z1_5
 have K1_0 := Lib.hid z1_0
 have K1_1 := Lib.hid z1_1
 have K1_2 := Lib.hid z1_2
 have K1_3 := Lib.hid z1_3
 have K1_4 := Lib.hid z1_4
 have K1_5 := Lib.hid z1_5
 clear z1_0 z1_1 z1_2 z1_3 z1_4 z1_5
 have HT1 := Lib.hid ht1
 clear ht1
 have HV := Lib.hid hv
 clear hv
 have HOK := Lib.hid hok
 clear hok hat
 have HTY := Lib.hid hty
 clear hty
 have HNM := Lib.hid hnm
 clear hnm
 have HR := Lib.hid (syn_pair d C nm n ty es hq0 hq1)
 have IHS := Lib.hid ihs
 clear ihs
 rw [hlen]
 clear hlen
 cases hs0 : synE d C es[0] with
 | none =>
  have HS0 := Lib.hid hs0
  clear hs0
  cases hs1 : synE d C es[1] with
  | none =>
   have HS1 := Lib.hid hs1
   clear hs1
   obtain ⟨w0, hw0, B, hz_w0, XE, FE, XR, FR⟩ := laid2 w #[.int .i64 10, .string nm, .int .i64 n, .int .i64 tk, .slice ta tn tc, .slice (some ⟨b, off, none⟩) 2 sc] 40 #[.int .i64 0, .slice none 0 0] 33
   replace B := Lib.hid B
   go_enter Tryz.func58, Tryz.ntmps58
   have k0_0 := K0_0.out
   have k0_1 := K0_1.out
   have k0_2 := K0_2.out
   have k0_3 := K0_3.out
   have k0_4 := K0_4.out
   have k0_5 := K0_5.out
   go_wp2_with fail
   clear k0_0 k0_1 k0_2 k0_3 k0_4 k0_5
   rw [← hw0]
   clear hw0
   have CS : Calls Tryz.prog 29 #[.slice va vn vc1, .agg #[.int .i64 xk, .string xnm, .int .i64 xn, .int .i64 xtk, .slice xta xtn xtc, .slice xsa xsm xsc]] w0 (SynNo w0) := by have h := IHS.out D _ _ C es[0] _ (HV.out.below B.out) (HT0.out.below B.out) (HOK.out.part 0 hq0); rw [HS0.out] at h; exact h
   refine (CS).mono ?_
   rintro e w1 ⟨D1, r1k, r1a, r1n, r1c, rfl, ho, hb⟩
   have Os1 := Lib.hid ho
   clear ho
   have hz_w1 := hb.size
   replace B := bb B hb
   replace XE := xb XE hb
   replace FE := fb FE hb
   replace XR := xb XR hb
   replace FR := fb FR hb
   clear hb
   obtain ⟨wa2, hwa2, hb, hy_wa2, XT8, FT8⟩ := laid1 w1 #[.int .i64 r1k, .slice r1a r1n r1c] 33
   have hz_wa2 := hb.size
   replace B := bb B hb
   replace XE := xb XE hb
   replace FE := fb FE hb
   replace XR := xb XR hb
   replace FR := fb FR hb
   replace Os1 := ob Os1 hb
   clear hb
   have cE_0 := XE.out.2 0
   have cE_1 := XE.out.2 1
   have cE_2 := XE.out.2 2
   have cE_3 := XE.out.2 3
   have cE_4 := XE.out.2 4
   have cE_5 := XE.out.2 5
   have k1_0 := kc hbl B K1_0
   have k1_1 := kc hbl B K1_1
   have k1_2 := kc hbl B K1_2
   have k1_3 := kc hbl B K1_3
   have k1_4 := kc hbl B K1_4
   have k1_5 := kc hbl B K1_5
   rw [hwa2] at cE_0
   rw [hwa2] at cE_1
   rw [hwa2] at cE_2
   rw [hwa2] at cE_3
   rw [hwa2] at cE_4
   rw [hwa2] at cE_5
   rw [hwa2] at k1_0
   rw [hwa2] at k1_1
   rw [hwa2] at k1_2
   rw [hwa2] at k1_3
   rw [hwa2] at k1_4
   rw [hwa2] at k1_5
   go_wp2_with fail
   clear cE_0 cE_1 cE_2 cE_3 cE_4 cE_5 k1_0 k1_1 k1_2 k1_3 k1_4 k1_5
   rw [← hwa2]
   clear hwa2
   have CS : Calls Tryz.prog 29 #[.slice va vn vc1, .agg #[.int .i64 yk, .string ynm, .int .i64 yn, .int .i64 ytk, .slice yta ytn ytc, .slice ysa ysm ysc]] wa2 (SynNo wa2) := by have h := IHS.out D _ _ C es[1] _ (HV.out.below B.out) (HT1.out.below B.out) (HOK.out.part 1 hq1); rw [HS1.out] at h; exact h
   refine (CS).mono ?_
   rintro e w3 ⟨D3, r3k, r3a, r3n, r3c, rfl, ho, hb⟩
   have Os3 := Lib.hid ho
   clear ho
   have hz_w3 := hb.size
   replace B := bb B hb
   replace XE := xb XE hb
   replace FE := fb FE hb
   replace XR := xb XR hb
   replace FR := fb FR hb
   replace XT8 := xb XT8 hb
   replace FT8 := fb FT8 hb
   replace Os1 := ob Os1 hb
   clear hb
   obtain ⟨wa4, hwa4, hb, hy_wa4, XT10, FT10⟩ := laid1 w3 #[.int .i64 r3k, .slice r3a r3n r3c] 33
   have hz_wa4 := hb.size
   replace B := bb B hb
   replace XE := xb XE hb
   replace FE := fb FE hb
   replace XR := xb XR hb
   replace FR := fb FR hb
   replace XT8 := xb XT8 hb
   replace FT8 := fb FT8 hb
   replace Os1 := ob Os1 hb
   replace Os3 := ob Os3 hb
   clear hb
   have cE_0 := XE.out.2 0
   have cE_1 := XE.out.2 1
   have cE_2 := XE.out.2 2
   have cE_3 := XE.out.2 3
   have cE_4 := XE.out.2 4
   have cE_5 := XE.out.2 5
   have cT8_0 := XT8.out.2 0
   have cT8_1 := XT8.out.2 1
   rw [hwa4] at cE_0
   rw [hwa4] at cE_1
   rw [hwa4] at cE_2
   rw [hwa4] at cE_3
   rw [hwa4] at cE_4
   rw [hwa4] at cE_5
   rw [hwa4] at cT8_0
   rw [hwa4] at cT8_1
   go_wp2_with fail
   clear cE_0 cE_1 cE_2 cE_3 cE_4 cE_5 cT8_0 cT8_1
   rw [← hwa4]
   clear hwa4
   refine (Calls.mono (specPairType (D1 + D3) _ _ (.node 0 []) (.node 0 []) _ (by simp [Ty.size, Ty.sizes]) (by simp [Ty.size, Ty.sizes]) (Os1.out.at_.mono (by omega)) (Os3.out.at_.mono (by omega))) (fun _ _ h => type_e h)).mono ?_
   rintro e w5 ⟨D9, p1k, p1a, p1n, p1c, rfl, ho1, hb⟩
   have Op1 := Lib.hid ho1
   clear ho1
   have hz_w5 := hb.size
   replace B := bb B hb
   replace XE := xb XE hb
   replace FE := fb FE hb
   replace XR := xb XR hb
   replace FR := fb FR hb
   replace XT8 := xb XT8 hb
   replace FT8 := fb FT8 hb
   replace XT10 := xb XT10 hb
   replace FT10 := fb FT10 hb
   replace Os1 := ob Os1 hb
   replace Os3 := ob Os3 hb
   clear hb
   have cR_0 := XR.out.2 0
   have cR_1 := XR.out.2 1
   have fR_0 := FR.out.2 0
   have fR_1 := FR.out.2 1
   go_wp2_with fail
   clear cR_0 cR_1 fR_0 fR_1
   have htop := own_top Op1.out
   have HW : Hid ((synE (d + 1) C (.node 10 nm n ty es)).isSome = false ∧ ∀ x, synE (d + 1) C (.node 10 nm n ty es) = some x → .node 5 [(.node 0 []), (.node 0 [])] = x) := by show _ ∧ _; rw [HR.out, HS0.out, HS1.out]; exact ⟨rfl, fun x h => by cases h⟩
   have XZ := put2_box (u := .int .i64 p1k) (v := .slice p1a p1n p1c) XR.out
   have h0 := XZ.2 0
   have h1 := XZ.2 1
   unfold put2 at h0 h1
   refine bodyPost_ret (v := .tuple #[.agg #[.int .i64 p1k, .slice p1a p1n p1c], .bool false]) (by simp [results, Tryz.results58, go_sem, h0, h1]) rfl ?_
   exact (by refine ⟨D9, _, _, _, _, _, by rw [HW.out.1], ?_, HW.out.2, put2_below B.out (by omega)⟩; exact (put2_own Op1.out (by omega)).widen (by omega) (by first | (simp; omega) | simp) (Nat.le_refl _))
  | some t1 =>
   have hsz1 : t1.size ≤ 641 := by have h1 := syn_few (d := d) (HOK.out.part 1 hq1); rw [hs1] at h1; exact h1
   have HS1 := Lib.hid hs1
   clear hs1
   obtain ⟨w0, hw0, B, hz_w0, XE, FE, XR, FR⟩ := laid2 w #[.int .i64 10, .string nm, .int .i64 n, .int .i64 tk, .slice ta tn tc, .slice (some ⟨b, off, none⟩) 2 sc] 40 #[.int .i64 0, .slice none 0 0] 33
   replace B := Lib.hid B
   go_enter Tryz.func58, Tryz.ntmps58
   have k0_0 := K0_0.out
   have k0_1 := K0_1.out
   have k0_2 := K0_2.out
   have k0_3 := K0_3.out
   have k0_4 := K0_4.out
   have k0_5 := K0_5.out
   go_wp2_with fail
   clear k0_0 k0_1 k0_2 k0_3 k0_4 k0_5
   rw [← hw0]
   clear hw0
   have CS : Calls Tryz.prog 29 #[.slice va vn vc1, .agg #[.int .i64 xk, .string xnm, .int .i64 xn, .int .i64 xtk, .slice xta xtn xtc, .slice xsa xsm xsc]] w0 (SynNo w0) := by have h := IHS.out D _ _ C es[0] _ (HV.out.below B.out) (HT0.out.below B.out) (HOK.out.part 0 hq0); rw [HS0.out] at h; exact h
   refine (CS).mono ?_
   rintro e w1 ⟨D1, r1k, r1a, r1n, r1c, rfl, ho, hb⟩
   have Os1 := Lib.hid ho
   clear ho
   have hz_w1 := hb.size
   replace B := bb B hb
   replace XE := xb XE hb
   replace FE := fb FE hb
   replace XR := xb XR hb
   replace FR := fb FR hb
   clear hb
   obtain ⟨wa2, hwa2, hb, hy_wa2, XT8, FT8⟩ := laid1 w1 #[.int .i64 r1k, .slice r1a r1n r1c] 33
   have hz_wa2 := hb.size
   replace B := bb B hb
   replace XE := xb XE hb
   replace FE := fb FE hb
   replace XR := xb XR hb
   replace FR := fb FR hb
   replace Os1 := ob Os1 hb
   clear hb
   have cE_0 := XE.out.2 0
   have cE_1 := XE.out.2 1
   have cE_2 := XE.out.2 2
   have cE_3 := XE.out.2 3
   have cE_4 := XE.out.2 4
   have cE_5 := XE.out.2 5
   have k1_0 := kc hbl B K1_0
   have k1_1 := kc hbl B K1_1
   have k1_2 := kc hbl B K1_2
   have k1_3 := kc hbl B K1_3
   have k1_4 := kc hbl B K1_4
   have k1_5 := kc hbl B K1_5
   rw [hwa2] at cE_0
   rw [hwa2] at cE_1
   rw [hwa2] at cE_2
   rw [hwa2] at cE_3
   rw [hwa2] at cE_4
   rw [hwa2] at cE_5
   rw [hwa2] at k1_0
   rw [hwa2] at k1_1
   rw [hwa2] at k1_2
   rw [hwa2] at k1_3
   rw [hwa2] at k1_4
   rw [hwa2] at k1_5
   go_wp2_with fail
   clear cE_0 cE_1 cE_2 cE_3 cE_4 cE_5 k1_0 k1_1 k1_2 k1_3 k1_4 k1_5
   rw [← hwa2]
   clear hwa2
   have CS : Calls Tryz.prog 29 #[.slice va vn vc1, .agg #[.int .i64 yk, .string ynm, .int .i64 yn, .int .i64 ytk, .slice yta ytn ytc, .slice ysa ysm ysc]] wa2 (SynYes t1 wa2) := by have h := IHS.out D _ _ C es[1] _ (HV.out.below B.out) (HT1.out.below B.out) (HOK.out.part 1 hq1); rw [HS1.out] at h; exact h
   refine (CS).mono ?_
   rintro e w3 ⟨D3, r3k, r3a, r3n, r3c, rfl, ho, hb⟩
   have Os3 := Lib.hid ho
   clear ho
   have hz_w3 := hb.size
   replace B := bb B hb
   replace XE := xb XE hb
   replace FE := fb FE hb
   replace XR := xb XR hb
   replace FR := fb FR hb
   replace XT8 := xb XT8 hb
   replace FT8 := fb FT8 hb
   replace Os1 := ob Os1 hb
   clear hb
   obtain ⟨wa4, hwa4, hb, hy_wa4, XT10, FT10⟩ := laid1 w3 #[.int .i64 r3k, .slice r3a r3n r3c] 33
   have hz_wa4 := hb.size
   replace B := bb B hb
   replace XE := xb XE hb
   replace FE := fb FE hb
   replace XR := xb XR hb
   replace FR := fb FR hb
   replace XT8 := xb XT8 hb
   replace FT8 := fb FT8 hb
   replace Os1 := ob Os1 hb
   replace Os3 := ob Os3 hb
   clear hb
   have cE_0 := XE.out.2 0
   have cE_1 := XE.out.2 1
   have cE_2 := XE.out.2 2
   have cE_3 := XE.out.2 3
   have cE_4 := XE.out.2 4
   have cE_5 := XE.out.2 5
   have cT8_0 := XT8.out.2 0
   have cT8_1 := XT8.out.2 1
   rw [hwa4] at cE_0
   rw [hwa4] at cE_1
   rw [hwa4] at cE_2
   rw [hwa4] at cE_3
   rw [hwa4] at cE_4
   rw [hwa4] at cE_5
   rw [hwa4] at cT8_0
   rw [hwa4] at cT8_1
   go_wp2_with fail
   clear cE_0 cE_1 cE_2 cE_3 cE_4 cE_5 cT8_0 cT8_1
   rw [← hwa4]
   clear hwa4
   refine (Calls.mono (specPairType (D1 + D3) _ _ (.node 0 []) t1 _ (by simp [Ty.size, Ty.sizes]) (by omega) (Os1.out.at_.mono (by omega)) (Os3.out.at_.mono (by omega))) (fun _ _ h => type_e h)).mono ?_
   rintro e w5 ⟨D9, p1k, p1a, p1n, p1c, rfl, ho1, hb⟩
   have Op1 := Lib.hid ho1
   clear ho1
   have hz_w5 := hb.size
   replace B := bb B hb
   replace XE := xb XE hb
   replace FE := fb FE hb
   replace XR := xb XR hb
   replace FR := fb FR hb
   replace XT8 := xb XT8 hb
   replace FT8 := fb FT8 hb
   replace XT10 := xb XT10 hb
   replace FT10 := fb FT10 hb
   replace Os1 := ob Os1 hb
   replace Os3 := ob Os3 hb
   clear hb
   have cR_0 := XR.out.2 0
   have cR_1 := XR.out.2 1
   have fR_0 := FR.out.2 0
   have fR_1 := FR.out.2 1
   go_wp2_with fail
   clear cR_0 cR_1 fR_0 fR_1
   have htop := own_top Op1.out
   have HW : Hid ((synE (d + 1) C (.node 10 nm n ty es)).isSome = false ∧ ∀ x, synE (d + 1) C (.node 10 nm n ty es) = some x → .node 5 [(.node 0 []), t1] = x) := by show _ ∧ _; rw [HR.out, HS0.out, HS1.out]; exact ⟨rfl, fun x h => by cases h⟩
   have XZ := put2_box (u := .int .i64 p1k) (v := .slice p1a p1n p1c) XR.out
   have h0 := XZ.2 0
   have h1 := XZ.2 1
   unfold put2 at h0 h1
   refine bodyPost_ret (v := .tuple #[.agg #[.int .i64 p1k, .slice p1a p1n p1c], .bool false]) (by simp [results, Tryz.results58, go_sem, h0, h1]) rfl ?_
   exact (by refine ⟨D9, _, _, _, _, _, by rw [HW.out.1], ?_, HW.out.2, put2_below B.out (by omega)⟩; exact (put2_own Op1.out (by omega)).widen (by omega) (by first | (simp; omega) | simp) (Nat.le_refl _))
 | some t0 =>
  have hsz0 : t0.size ≤ 641 := by have h1 := syn_few (d := d) (HOK.out.part 0 hq0); rw [hs0] at h1; exact h1
  have HS0 := Lib.hid hs0
  clear hs0
  cases hs1 : synE d C es[1] with
  | none =>
   have HS1 := Lib.hid hs1
   clear hs1
   obtain ⟨w0, hw0, B, hz_w0, XE, FE, XR, FR⟩ := laid2 w #[.int .i64 10, .string nm, .int .i64 n, .int .i64 tk, .slice ta tn tc, .slice (some ⟨b, off, none⟩) 2 sc] 40 #[.int .i64 0, .slice none 0 0] 33
   replace B := Lib.hid B
   go_enter Tryz.func58, Tryz.ntmps58
   have k0_0 := K0_0.out
   have k0_1 := K0_1.out
   have k0_2 := K0_2.out
   have k0_3 := K0_3.out
   have k0_4 := K0_4.out
   have k0_5 := K0_5.out
   go_wp2_with fail
   clear k0_0 k0_1 k0_2 k0_3 k0_4 k0_5
   rw [← hw0]
   clear hw0
   have CS : Calls Tryz.prog 29 #[.slice va vn vc1, .agg #[.int .i64 xk, .string xnm, .int .i64 xn, .int .i64 xtk, .slice xta xtn xtc, .slice xsa xsm xsc]] w0 (SynYes t0 w0) := by have h := IHS.out D _ _ C es[0] _ (HV.out.below B.out) (HT0.out.below B.out) (HOK.out.part 0 hq0); rw [HS0.out] at h; exact h
   refine (CS).mono ?_
   rintro e w1 ⟨D1, r1k, r1a, r1n, r1c, rfl, ho, hb⟩
   have Os1 := Lib.hid ho
   clear ho
   have hz_w1 := hb.size
   replace B := bb B hb
   replace XE := xb XE hb
   replace FE := fb FE hb
   replace XR := xb XR hb
   replace FR := fb FR hb
   clear hb
   obtain ⟨wa2, hwa2, hb, hy_wa2, XT8, FT8⟩ := laid1 w1 #[.int .i64 r1k, .slice r1a r1n r1c] 33
   have hz_wa2 := hb.size
   replace B := bb B hb
   replace XE := xb XE hb
   replace FE := fb FE hb
   replace XR := xb XR hb
   replace FR := fb FR hb
   replace Os1 := ob Os1 hb
   clear hb
   have cE_0 := XE.out.2 0
   have cE_1 := XE.out.2 1
   have cE_2 := XE.out.2 2
   have cE_3 := XE.out.2 3
   have cE_4 := XE.out.2 4
   have cE_5 := XE.out.2 5
   have k1_0 := kc hbl B K1_0
   have k1_1 := kc hbl B K1_1
   have k1_2 := kc hbl B K1_2
   have k1_3 := kc hbl B K1_3
   have k1_4 := kc hbl B K1_4
   have k1_5 := kc hbl B K1_5
   rw [hwa2] at cE_0
   rw [hwa2] at cE_1
   rw [hwa2] at cE_2
   rw [hwa2] at cE_3
   rw [hwa2] at cE_4
   rw [hwa2] at cE_5
   rw [hwa2] at k1_0
   rw [hwa2] at k1_1
   rw [hwa2] at k1_2
   rw [hwa2] at k1_3
   rw [hwa2] at k1_4
   rw [hwa2] at k1_5
   go_wp2_with fail
   clear cE_0 cE_1 cE_2 cE_3 cE_4 cE_5 k1_0 k1_1 k1_2 k1_3 k1_4 k1_5
   rw [← hwa2]
   clear hwa2
   have CS : Calls Tryz.prog 29 #[.slice va vn vc1, .agg #[.int .i64 yk, .string ynm, .int .i64 yn, .int .i64 ytk, .slice yta ytn ytc, .slice ysa ysm ysc]] wa2 (SynNo wa2) := by have h := IHS.out D _ _ C es[1] _ (HV.out.below B.out) (HT1.out.below B.out) (HOK.out.part 1 hq1); rw [HS1.out] at h; exact h
   refine (CS).mono ?_
   rintro e w3 ⟨D3, r3k, r3a, r3n, r3c, rfl, ho, hb⟩
   have Os3 := Lib.hid ho
   clear ho
   have hz_w3 := hb.size
   replace B := bb B hb
   replace XE := xb XE hb
   replace FE := fb FE hb
   replace XR := xb XR hb
   replace FR := fb FR hb
   replace XT8 := xb XT8 hb
   replace FT8 := fb FT8 hb
   replace Os1 := ob Os1 hb
   clear hb
   obtain ⟨wa4, hwa4, hb, hy_wa4, XT10, FT10⟩ := laid1 w3 #[.int .i64 r3k, .slice r3a r3n r3c] 33
   have hz_wa4 := hb.size
   replace B := bb B hb
   replace XE := xb XE hb
   replace FE := fb FE hb
   replace XR := xb XR hb
   replace FR := fb FR hb
   replace XT8 := xb XT8 hb
   replace FT8 := fb FT8 hb
   replace Os1 := ob Os1 hb
   replace Os3 := ob Os3 hb
   clear hb
   have cE_0 := XE.out.2 0
   have cE_1 := XE.out.2 1
   have cE_2 := XE.out.2 2
   have cE_3 := XE.out.2 3
   have cE_4 := XE.out.2 4
   have cE_5 := XE.out.2 5
   have cT8_0 := XT8.out.2 0
   have cT8_1 := XT8.out.2 1
   rw [hwa4] at cE_0
   rw [hwa4] at cE_1
   rw [hwa4] at cE_2
   rw [hwa4] at cE_3
   rw [hwa4] at cE_4
   rw [hwa4] at cE_5
   rw [hwa4] at cT8_0
   rw [hwa4] at cT8_1
   go_wp2_with fail
   clear cE_0 cE_1 cE_2 cE_3 cE_4 cE_5 cT8_0 cT8_1
   rw [← hwa4]
   clear hwa4
   refine (Calls.mono (specPairType (D1 + D3) _ _ t0 (.node 0 []) _ (by omega) (by simp [Ty.size, Ty.sizes]) (Os1.out.at_.mono (by omega)) (Os3.out.at_.mono (by omega))) (fun _ _ h => type_e h)).mono ?_
   rintro e w5 ⟨D9, p1k, p1a, p1n, p1c, rfl, ho1, hb⟩
   have Op1 := Lib.hid ho1
   clear ho1
   have hz_w5 := hb.size
   replace B := bb B hb
   replace XE := xb XE hb
   replace FE := fb FE hb
   replace XR := xb XR hb
   replace FR := fb FR hb
   replace XT8 := xb XT8 hb
   replace FT8 := fb FT8 hb
   replace XT10 := xb XT10 hb
   replace FT10 := fb FT10 hb
   replace Os1 := ob Os1 hb
   replace Os3 := ob Os3 hb
   clear hb
   have cR_0 := XR.out.2 0
   have cR_1 := XR.out.2 1
   have fR_0 := FR.out.2 0
   have fR_1 := FR.out.2 1
   go_wp2_with fail
   clear cR_0 cR_1 fR_0 fR_1
   have htop := own_top Op1.out
   have HW : Hid ((synE (d + 1) C (.node 10 nm n ty es)).isSome = false ∧ ∀ x, synE (d + 1) C (.node 10 nm n ty es) = some x → .node 5 [t0, (.node 0 [])] = x) := by show _ ∧ _; rw [HR.out, HS0.out, HS1.out]; exact ⟨rfl, fun x h => by cases h⟩
   have XZ := put2_box (u := .int .i64 p1k) (v := .slice p1a p1n p1c) XR.out
   have h0 := XZ.2 0
   have h1 := XZ.2 1
   unfold put2 at h0 h1
   refine bodyPost_ret (v := .tuple #[.agg #[.int .i64 p1k, .slice p1a p1n p1c], .bool false]) (by simp [results, Tryz.results58, go_sem, h0, h1]) rfl ?_
   exact (by refine ⟨D9, _, _, _, _, _, by rw [HW.out.1], ?_, HW.out.2, put2_below B.out (by omega)⟩; exact (put2_own Op1.out (by omega)).widen (by omega) (by first | (simp; omega) | simp) (Nat.le_refl _))
  | some t1 =>
   have hsz1 : t1.size ≤ 641 := by have h1 := syn_few (d := d) (HOK.out.part 1 hq1); rw [hs1] at h1; exact h1
   have HS1 := Lib.hid hs1
   clear hs1
   obtain ⟨w0, hw0, B, hz_w0, XE, FE, XR, FR⟩ := laid2 w #[.int .i64 10, .string nm, .int .i64 n, .int .i64 tk, .slice ta tn tc, .slice (some ⟨b, off, none⟩) 2 sc] 40 #[.int .i64 0, .slice none 0 0] 33
   replace B := Lib.hid B
   go_enter Tryz.func58, Tryz.ntmps58
   have k0_0 := K0_0.out
   have k0_1 := K0_1.out
   have k0_2 := K0_2.out
   have k0_3 := K0_3.out
   have k0_4 := K0_4.out
   have k0_5 := K0_5.out
   go_wp2_with fail
   clear k0_0 k0_1 k0_2 k0_3 k0_4 k0_5
   rw [← hw0]
   clear hw0
   have CS : Calls Tryz.prog 29 #[.slice va vn vc1, .agg #[.int .i64 xk, .string xnm, .int .i64 xn, .int .i64 xtk, .slice xta xtn xtc, .slice xsa xsm xsc]] w0 (SynYes t0 w0) := by have h := IHS.out D _ _ C es[0] _ (HV.out.below B.out) (HT0.out.below B.out) (HOK.out.part 0 hq0); rw [HS0.out] at h; exact h
   refine (CS).mono ?_
   rintro e w1 ⟨D1, r1k, r1a, r1n, r1c, rfl, ho, hb⟩
   have Os1 := Lib.hid ho
   clear ho
   have hz_w1 := hb.size
   replace B := bb B hb
   replace XE := xb XE hb
   replace FE := fb FE hb
   replace XR := xb XR hb
   replace FR := fb FR hb
   clear hb
   obtain ⟨wa2, hwa2, hb, hy_wa2, XT8, FT8⟩ := laid1 w1 #[.int .i64 r1k, .slice r1a r1n r1c] 33
   have hz_wa2 := hb.size
   replace B := bb B hb
   replace XE := xb XE hb
   replace FE := fb FE hb
   replace XR := xb XR hb
   replace FR := fb FR hb
   replace Os1 := ob Os1 hb
   clear hb
   have cE_0 := XE.out.2 0
   have cE_1 := XE.out.2 1
   have cE_2 := XE.out.2 2
   have cE_3 := XE.out.2 3
   have cE_4 := XE.out.2 4
   have cE_5 := XE.out.2 5
   have k1_0 := kc hbl B K1_0
   have k1_1 := kc hbl B K1_1
   have k1_2 := kc hbl B K1_2
   have k1_3 := kc hbl B K1_3
   have k1_4 := kc hbl B K1_4
   have k1_5 := kc hbl B K1_5
   rw [hwa2] at cE_0
   rw [hwa2] at cE_1
   rw [hwa2] at cE_2
   rw [hwa2] at cE_3
   rw [hwa2] at cE_4
   rw [hwa2] at cE_5
   rw [hwa2] at k1_0
   rw [hwa2] at k1_1
   rw [hwa2] at k1_2
   rw [hwa2] at k1_3
   rw [hwa2] at k1_4
   rw [hwa2] at k1_5
   go_wp2_with fail
   clear cE_0 cE_1 cE_2 cE_3 cE_4 cE_5 k1_0 k1_1 k1_2 k1_3 k1_4 k1_5
   rw [← hwa2]
   clear hwa2
   have CS : Calls Tryz.prog 29 #[.slice va vn vc1, .agg #[.int .i64 yk, .string ynm, .int .i64 yn, .int .i64 ytk, .slice yta ytn ytc, .slice ysa ysm ysc]] wa2 (SynYes t1 wa2) := by have h := IHS.out D _ _ C es[1] _ (HV.out.below B.out) (HT1.out.below B.out) (HOK.out.part 1 hq1); rw [HS1.out] at h; exact h
   refine (CS).mono ?_
   rintro e w3 ⟨D3, r3k, r3a, r3n, r3c, rfl, ho, hb⟩
   have Os3 := Lib.hid ho
   clear ho
   have hz_w3 := hb.size
   replace B := bb B hb
   replace XE := xb XE hb
   replace FE := fb FE hb
   replace XR := xb XR hb
   replace FR := fb FR hb
   replace XT8 := xb XT8 hb
   replace FT8 := fb FT8 hb
   replace Os1 := ob Os1 hb
   clear hb
   obtain ⟨wa4, hwa4, hb, hy_wa4, XT10, FT10⟩ := laid1 w3 #[.int .i64 r3k, .slice r3a r3n r3c] 33
   have hz_wa4 := hb.size
   replace B := bb B hb
   replace XE := xb XE hb
   replace FE := fb FE hb
   replace XR := xb XR hb
   replace FR := fb FR hb
   replace XT8 := xb XT8 hb
   replace FT8 := fb FT8 hb
   replace Os1 := ob Os1 hb
   replace Os3 := ob Os3 hb
   clear hb
   have cE_0 := XE.out.2 0
   have cE_1 := XE.out.2 1
   have cE_2 := XE.out.2 2
   have cE_3 := XE.out.2 3
   have cE_4 := XE.out.2 4
   have cE_5 := XE.out.2 5
   have cT8_0 := XT8.out.2 0
   have cT8_1 := XT8.out.2 1
   rw [hwa4] at cE_0
   rw [hwa4] at cE_1
   rw [hwa4] at cE_2
   rw [hwa4] at cE_3
   rw [hwa4] at cE_4
   rw [hwa4] at cE_5
   rw [hwa4] at cT8_0
   rw [hwa4] at cT8_1
   go_wp2_with fail
   clear cE_0 cE_1 cE_2 cE_3 cE_4 cE_5 cT8_0 cT8_1
   rw [← hwa4]
   clear hwa4
   refine (Calls.mono (specPairType (D1 + D3) _ _ t0 t1 _ (by omega) (by omega) (Os1.out.at_.mono (by omega)) (Os3.out.at_.mono (by omega))) (fun _ _ h => type_e h)).mono ?_
   rintro e w5 ⟨D9, p1k, p1a, p1n, p1c, rfl, ho1, hb⟩
   have Op1 := Lib.hid ho1
   clear ho1
   have hz_w5 := hb.size
   replace B := bb B hb
   replace XE := xb XE hb
   replace FE := fb FE hb
   replace XR := xb XR hb
   replace FR := fb FR hb
   replace XT8 := xb XT8 hb
   replace FT8 := fb FT8 hb
   replace XT10 := xb XT10 hb
   replace FT10 := fb FT10 hb
   replace Os1 := ob Os1 hb
   replace Os3 := ob Os3 hb
   clear hb
   have cR_0 := XR.out.2 0
   have cR_1 := XR.out.2 1
   have fR_0 := FR.out.2 0
   have fR_1 := FR.out.2 1
   go_wp2_with fail
   clear cR_0 cR_1 fR_0 fR_1
   have htop := own_top Op1.out
   have HW : Hid ((synE (d + 1) C (.node 10 nm n ty es)).isSome = true ∧ ∀ x, synE (d + 1) C (.node 10 nm n ty es) = some x → .node 5 [t0, t1] = x) := by show _ ∧ _; rw [HR.out, HS0.out, HS1.out]; exact ⟨rfl, fun x h => by injection h⟩
   have XZ := put2_box (u := .int .i64 p1k) (v := .slice p1a p1n p1c) XR.out
   have h0 := XZ.2 0
   have h1 := XZ.2 1
   unfold put2 at h0 h1
   refine bodyPost_ret (v := .tuple #[.agg #[.int .i64 p1k, .slice p1a p1n p1c], .bool true]) (by simp [results, Tryz.results58, go_sem, h0, h1]) rfl ?_
   exact (by refine ⟨D9, _, _, _, _, _, by rw [HW.out.1], ?_, HW.out.2, put2_below B.out (by omega)⟩; exact (put2_own Op1.out (by omega)).widen (by omega) (by first | (simp; omega) | simp) (Nat.le_refl _))
set_option maxRecDepth 100000 in
set_option maxHeartbeats 2000000 in
theorem specTwo3 (d : Nat) (ihs : SpecSynSaid d) (D : Nat) (vc v : Value) (C : List Bi) (nm : ByteArray) (n : Int) (ty : Ty) (es : List Ex) (w : World) (hv : BisAt w D vc C) (he : ExAt w (d + 1) v (.node 3 nm n ty es)) (hok : TypOk C (.node 3 nm n ty es)) :
  Calls Tryz.prog 58 #[vc, v] w (TwoEnd (synE (d + 1) C (.node 3 nm n ty es)) w) := by
 have HE := Lib.hid he
 obtain ⟨c3, c4, sl, hx, hk0, hk1, hn0, hn1, hnm, hty, sa, sc, hsl, hcap, hcap2, hat⟩ := he
 subst hsl
 obtain ⟨tk, ta, tn, tc, rfl, rfl⟩ := at_parts hty
 subst hx
 obtain ⟨va, vn, vc1, rfl⟩ : ∃ a n c, vc = .slice a n c := by obtain ⟨a, cap, hv, _⟩ := hv; exact ⟨_, _, _, hv⟩
 have hlen : es.length = 1 := by have h1 := (form_parts hok.1).1; have h2 : arity 3 = 1 := rfl; omega
 have hq0 : 0 < es.length := by omega
 obtain ⟨b, off, q0_0, q0_1, q0_2, q0_3, q0_4, q0_5, e0, hbl, z0_0, z0_1, z0_2, z0_3, z0_4, z0_5, ht0⟩ := hat 0 hq0
 subst e0
 obtain ⟨xk, xnm, xn, xtk, xta, xtn, xtc, xsa, xsm, xsc, rfl, rfl, rfl, rfl, rfl, rfl⟩ := ex_cells ht0
 simp only [Nat.zero_mul, Nat.add_zero] at z0_0 z0_1 z0_2 z0_3 z0_4 z0_5
 have K0_0 := Lib.hid z0_0
 have K0_1 := Lib.hid z0_1
 have K0_2 := Lib.hid z0_2
 have K0_3 := Lib.hid z0_3
 have K0_4 := Lib.hid z0_4
 have K0_5 := Lib.hid z0_5
 clear z0_0 z0_1 z0_2 z0_3 z0_4 z0_5
 have HT0 := Lib.hid ht0
 clear ht0
 have HV := Lib.hid hv
 clear hv
 have HOK := Lib.hid hok
 clear hok hat
 have HTY := Lib.hid hty
 clear hty
 have HNM := Lib.hid hnm
 clear hnm
 have HR := Lib.hid (syn_lam d C nm n ty es hq0)
 have HOU := Lib.hid (HOK.out.under hq0)
 have hsu := syn_few (d := d) HOU.out
 have IHS := Lib.hid ihs
 clear ihs
 have htz : ty.size ≤ 15 := note_small ((form_parts HOK.out.1).2.2 (Or.inl rfl))
 have hln := HOK.out.len
 obtain ⟨r, hr⟩ : ∃ r, r = synE d (C ++ [⟨nm, ty⟩]) es[0] := ⟨_, rfl⟩
 rw [← hr] at hsu
 have HRR := Lib.hid hr
 clear hr
 rw [hlen] at HE ⊢
 clear hlen
 obtain ⟨w0, hw0, B, hz_w0, XE, FE, XR, FR⟩ := laid2 w #[.int .i64 3, .string nm, .int .i64 n, .int .i64 tk, .slice ta tn tc, .slice (some ⟨b, off, none⟩) 1 sc] 40 #[.int .i64 0, .slice none 0 0] 33
 replace B := Lib.hid B
 go_enter Tryz.func58, Tryz.ntmps58
 go_upto_region 2 with fail
 rw [← hw0]
 clear hw0
 go_cut [6, 7] (fun p ok wx => ∃ D1 k a n1 c lo q, p = .pointer (some ⟨q, 0, none⟩) ∧ ok = .bool r.isSome ∧ BoxAt wx q #[.int .i64 k, .slice a n1 c] ∧ OwnIn wx D1 (.agg #[.int .i64 k, .slice a n1 c]) (r.getD (.node 0 [])) lo wx.heap.size ∧ w0.heap.size ≤ lo ∧ Below w0.heap.size w0 wx)
 case first =>
  have G : Hid (Below w0.heap.size w0 w0) := Below.refl _ _
  obtain ⟨wd1, hwd1⟩ : ∃ W, W = w0.drew := ⟨_, rfl⟩
  have hb : Below w0.heap.size w0 wd1 := by rw [hwd1]; exact below_drew _
  have hz_wd1 := hb.size
  replace B := bb B hb
  replace XE := xb XE hb
  replace FE := fb FE hb
  replace XR := xb XR hb
  replace FR := fb FR hb
  replace G := bb G hb
  clear hb
  refine wp_region_held_drew (S := fun w' => w'.cell? ⟨w.heap.size, 0, none⟩ = some (.int .i64 3) ∧ w'.cell? ⟨w.heap.size, 1, none⟩ = some (.string nm) ∧ w'.cell? ⟨w.heap.size, 2, none⟩ = some (.int .i64 n) ∧ w'.cell? ⟨w.heap.size, 3, none⟩ = some (.int .i64 tk) ∧ w'.cell? ⟨w.heap.size, 4, none⟩ = some (.slice ta tn tc) ∧ w'.cell? ⟨w.heap.size, 5, none⟩ = some (.slice (some ⟨b, off, none⟩) 1 sc) ∧ w'.cell? ⟨b, off, none⟩ = some (.int .i64 xk) ∧ w'.cell? ⟨b, off + 1, none⟩ = some (.string xnm) ∧ w'.cell? ⟨b, off + 2, none⟩ = some (.int .i64 xn) ∧ w'.cell? ⟨b, off + 3, none⟩ = some (.int .i64 xtk) ∧ w'.cell? ⟨b, off + 4, none⟩ = some (.slice xta xtn xtc) ∧ w'.cell? ⟨b, off + 5, none⟩ = some (.slice xsa xsm xsc)) (by kernel_rfl) (by rw [← hwd1]; exact ⟨XE.out.2 0, XE.out.2 1, XE.out.2 2, XE.out.2 3, XE.out.2 4, XE.out.2 5, (B.out.cell (p := ⟨b, off, none⟩) hbl).trans K0_0.out, (B.out.cell (p := ⟨b, off + 1, none⟩) hbl).trans K0_1.out, (B.out.cell (p := ⟨b, off + 2, none⟩) hbl).trans K0_2.out, (B.out.cell (p := ⟨b, off + 3, none⟩) hbl).trans K0_3.out, (B.out.cell (p := ⟨b, off + 4, none⟩) hbl).trans K0_4.out, (B.out.cell (p := ⟨b, off + 5, none⟩) hbl).trans K0_5.out⟩) (fun hHeld => ?_)
  rw [← hwd1] at hHeld ⊢
  clear hwd1
  refine wpAnyH_take (i := 0) (v := ?v1_0) rfl (by kernel_rfl) (by kernel_rfl) (by kernel_rfl) (fun _ _ _ h => h) (Or.inl ⟨by kernel_rfl, ?hy1_0⟩) hHeld ?rest1_0
  case hy1_0 =>
   intro w hSw
   (try dsimp only at hSw)
   go_simp
   all_goals (first | done | with_reducible rfl)
  try simp only [Act.put]
  try simp only [List.setIfInBounds_toArray]
  try simp only [List.set_cons_succ]
  try simp only [List.set_cons_zero]
  refine wpAnyH_take (i := 1) (v := ?v2_1) rfl (by kernel_rfl) (by kernel_rfl) (by kernel_rfl) (fun _ _ _ h => h) (Or.inl ⟨by kernel_rfl, ?hy2_1⟩) hHeld ?rest2_1
  case hy2_1 =>
   intro w hSw
   (try dsimp only at hSw)
   go_simp
   all_goals (first | done | with_reducible rfl)
  try simp only [Act.put]
  try simp only [List.setIfInBounds_toArray]
  try simp only [List.set_cons_succ]
  try simp only [List.set_cons_zero]
  refine wpAnyH_take (i := 3) (v := ?v3_3) rfl (by kernel_rfl) (by kernel_rfl) (by kernel_rfl) (fun _ _ _ h => h) (Or.inl ⟨by kernel_rfl, ?hy3_3⟩) hHeld ?rest3_3
  case hy3_3 =>
   intro w hSw
   (try dsimp only at hSw)
   go_simp
   all_goals (first | done | with_reducible rfl)
  try simp only [Act.put]
  try simp only [List.setIfInBounds_toArray]
  try simp only [List.set_cons_succ]
  try simp only [List.set_cons_zero]
  refine wpAnyH_take (i := 4) (v := ?v4_4) rfl (by kernel_rfl) (by kernel_rfl) (by kernel_rfl) (fun _ _ _ h => h) (Or.inl ⟨by kernel_rfl, ?hy4_4⟩) hHeld ?rest4_4
  case hy4_4 =>
   intro w hSw
   (try dsimp only at hSw)
   go_simp
   all_goals (first | done | with_reducible rfl)
  try simp only [Act.put]
  try simp only [List.setIfInBounds_toArray]
  try simp only [List.set_cons_succ]
  try simp only [List.set_cons_zero]
  refine wpAnyH_take (i := 5) (v := ?v5_5) rfl (by kernel_rfl) (by kernel_rfl) (by kernel_rfl) (fun _ _ _ h => h) (Or.inl ⟨by kernel_rfl, ?hy5_5⟩) hHeld ?rest5_5
  case hy5_5 =>
   intro w hSw
   (try dsimp only at hSw)
   go_simp
   all_goals (first | done | with_reducible rfl)
  try simp only [Act.put]
  try simp only [List.setIfInBounds_toArray]
  try simp only [List.set_cons_succ]
  try simp only [List.set_cons_zero]
  refine wpAnyH_take (i := 6) (v := ?v6_6) rfl (by kernel_rfl) (by kernel_rfl) (by kernel_rfl) (fun _ _ _ h => h) (Or.inl ⟨by kernel_rfl, ?hy6_6⟩) hHeld ?rest6_6
  case hy6_6 =>
   intro w hSw
   (try dsimp only at hSw)
   go_simp
   all_goals (first | done | with_reducible rfl)
  try simp only [Act.put]
  try simp only [List.setIfInBounds_toArray]
  try simp only [List.set_cons_succ]
  try simp only [List.set_cons_zero]
  refine wpAnyH_ready (rs := [2, 11]) (by kernel_rfl) (by simp) ?_
  refine AllReadyH.cons rfl (fun K hK => ?_) (AllReadyH.cons rfl (fun K hK => ?_) AllReadyH.nil)
  ·go_simp
   go_at_call 89
   refine (specCtx9 D (d + 1) _ _ C 3 nm n ty es _ (HV.out.below B.out) (HE.out.below B.out) hln).mono ?_
   rintro e w2 ⟨DC, ca, cn, cc, rfl, hcb, hb⟩
   have HCB := Lib.hid hcb
   clear hcb
   have hz_w2 := hb.size
   replace B := bb B hb
   replace XE := xb XE hb
   replace FE := fb FE hb
   replace XR := xb XR hb
   replace FR := fb FR hb
   replace G := bb G hb
   clear hb
   clear hHeld
   try go_wp2_with fail
   refine hK.out _ _ (by exact ⟨XE.out.2 0, XE.out.2 1, XE.out.2 2, XE.out.2 3, XE.out.2 4, XE.out.2 5, (B.out.cell (p := ⟨b, off, none⟩) hbl).trans K0_0.out, (B.out.cell (p := ⟨b, off + 1, none⟩) hbl).trans K0_1.out, (B.out.cell (p := ⟨b, off + 2, none⟩) hbl).trans K0_2.out, (B.out.cell (p := ⟨b, off + 3, none⟩) hbl).trans K0_3.out, (B.out.cell (p := ⟨b, off + 4, none⟩) hbl).trans K0_4.out, (B.out.cell (p := ⟨b, off + 5, none⟩) hbl).trans K0_5.out⟩) (fun hHeld => ?_)
   clear hK K
   try simp only [Act.put]
   try simp only [List.setIfInBounds_toArray]
   try simp only [List.set_cons_succ]
   try simp only [List.set_cons_zero]
   refine wpAnyH_ready (rs := [7, 11]) (by kernel_rfl) (by simp) ?_
   refine AllReadyH.cons rfl (fun K hK => ?_) (AllReadyH.cons rfl (fun K hK => ?_) AllReadyH.nil)
   ·go_simp
    go_at_call 29
    have CS := IHS.out DC _ _ (C ++ [⟨nm, ty⟩]) es[0] w2 HCB.out (HT0.out.below B.out) HOU.out
    rw [← HRR.out] at CS
    refine CS.mono ?_
    clear CS
    rintro e w3 ⟨D1, r1k, r1a, r1n, r1c, rfl, ho, hb⟩
    have Os1 := Lib.hid ho
    clear ho
    have hlo : w0.heap.size ≤ w2.heap.size := G.out.size
    clear HCB
    have hz_w3 := hb.size
    replace B := bb B hb
    replace XE := xb XE hb
    replace FE := fb FE hb
    replace XR := xb XR hb
    replace FR := fb FR hb
    replace G := bb G hb
    clear hb
    clear hHeld
    try go_wp2_with fail
    refine hK.out _ _ (by exact ⟨XE.out.2 0, XE.out.2 1, XE.out.2 2, XE.out.2 3, XE.out.2 4, XE.out.2 5, (B.out.cell (p := ⟨b, off, none⟩) hbl).trans K0_0.out, (B.out.cell (p := ⟨b, off + 1, none⟩) hbl).trans K0_1.out, (B.out.cell (p := ⟨b, off + 2, none⟩) hbl).trans K0_2.out, (B.out.cell (p := ⟨b, off + 3, none⟩) hbl).trans K0_3.out, (B.out.cell (p := ⟨b, off + 4, none⟩) hbl).trans K0_4.out, (B.out.cell (p := ⟨b, off + 5, none⟩) hbl).trans K0_5.out⟩) (fun hHeld => ?_)
    clear hK K
    try simp only [Act.put]
    try simp only [List.setIfInBounds_toArray]
    try simp only [List.set_cons_succ]
    try simp only [List.set_cons_zero]
    refine wpAnyH_take (i := 8) (v := ?v7_8) rfl (by kernel_rfl) (by kernel_rfl) (by kernel_rfl) (fun _ _ _ h => h) (Or.inl ⟨by kernel_rfl, ?hy7_8⟩) hHeld ?rest7_8
    case hy7_8 =>
     intro w hSw
     (try dsimp only at hSw)
     go_simp
     all_goals (first | done | with_reducible rfl)
    try simp only [Act.put]
    try simp only [List.setIfInBounds_toArray]
    try simp only [List.set_cons_succ]
    try simp only [List.set_cons_zero]
    refine wpAnyH_take (i := 9) (v := ?v8_9) rfl (by kernel_rfl) (by kernel_rfl) (by kernel_rfl) (fun _ _ _ h => h) (Or.inl ⟨by kernel_rfl, ?hy8_9⟩) hHeld ?rest8_9
    case hy8_9 =>
     intro w hSw
     (try dsimp only at hSw)
     go_simp
     all_goals (first | done | with_reducible rfl)
    try simp only [Act.put]
    try simp only [List.setIfInBounds_toArray]
    try simp only [List.set_cons_succ]
    try simp only [List.set_cons_zero]
    refine wpAnyH_take (i := 10) (v := ?v9_10) rfl (by kernel_rfl) (by kernel_rfl) (by kernel_rfl) (fun _ _ _ h => h) (Or.inl ⟨by kernel_rfl, ?hy9_10⟩) hHeld ?rest9_10
    case hy9_10 =>
     intro w hSw
     (try dsimp only at hSw)
     go_simp
     all_goals (first | done | with_reducible rfl)
    try simp only [Act.put]
    try simp only [List.setIfInBounds_toArray]
    try simp only [List.set_cons_succ]
    try simp only [List.set_cons_zero]
    refine wpAnyH_ready (rs := [11]) (by kernel_rfl) (by simp) ?_
    refine AllReadyH.cons rfl (fun K hK => ?_) AllReadyH.nil
    go_simp
    obtain ⟨wa4, hwa4, hb, hy_wa4, XT6, FT6⟩ := laid1 w3 #[.int .i64 0, .slice none 0 0] 33
    have hz_wa4 := hb.size
    replace B := bb B hb
    replace XE := xb XE hb
    replace FE := fb FE hb
    replace XR := xb XR hb
    replace FR := fb FR hb
    replace Os1 := ob Os1 hb
    replace G := bb G hb
    clear hb
    clear hHeld
    try go_wp2_with fail
    rw [← hwa4]
    clear hwa4
    refine hK.out _ _ (by exact ⟨XE.out.2 0, XE.out.2 1, XE.out.2 2, XE.out.2 3, XE.out.2 4, XE.out.2 5, (B.out.cell (p := ⟨b, off, none⟩) hbl).trans K0_0.out, (B.out.cell (p := ⟨b, off + 1, none⟩) hbl).trans K0_1.out, (B.out.cell (p := ⟨b, off + 2, none⟩) hbl).trans K0_2.out, (B.out.cell (p := ⟨b, off + 3, none⟩) hbl).trans K0_3.out, (B.out.cell (p := ⟨b, off + 4, none⟩) hbl).trans K0_4.out, (B.out.cell (p := ⟨b, off + 5, none⟩) hbl).trans K0_5.out⟩) (fun hHeld => ?_)
    clear hK K
    try simp only [Act.put]
    try simp only [List.setIfInBounds_toArray]
    try simp only [List.set_cons_succ]
    try simp only [List.set_cons_zero]
    have cT6_0 := XT6.out.2 0
    have cT6_1 := XT6.out.2 1
    have fT6_0 := FT6.out.2 0
    have fT6_1 := FT6.out.2 1
    refine wpAnyH_ready (rs := [12]) (by kernel_rfl) (by simp) ?_
    refine AllReadyH.cons rfl (fun K hK => ?_) AllReadyH.nil
    go_simp
    clear cT6_0 cT6_1 fT6_0 fT6_1
    clear hHeld
    try go_wp2_with fail
    obtain ⟨ws5, hws5⟩ : ∃ W, W = put2 wa4 (w3.heap.size) (.int .i64 r1k) (.slice r1a r1n r1c) := ⟨_, rfl⟩
    have hy_ws5 : ws5.heap.size = wa4.heap.size := by rw [hws5]; exact put2_size
    replace XE := xo hws5 XE (by omega)
    replace FE := fo hws5 FE
    replace XR := xo hws5 XR (by omega)
    replace FR := fo hws5 FR
    replace XT6 := xs hws5 XT6
    replace FT6 := fo hws5 FT6
    replace Os1 := oo hws5 Os1 (by omega)
    replace B := bo hws5 B (by omega)
    replace G := bo hws5 G (by omega)
    unfold put2 at hws5
    rw [← hws5]
    clear hws5
    refine hK.out _ _ (by exact ⟨XE.out.2 0, XE.out.2 1, XE.out.2 2, XE.out.2 3, XE.out.2 4, XE.out.2 5, (B.out.cell (p := ⟨b, off, none⟩) hbl).trans K0_0.out, (B.out.cell (p := ⟨b, off + 1, none⟩) hbl).trans K0_1.out, (B.out.cell (p := ⟨b, off + 2, none⟩) hbl).trans K0_2.out, (B.out.cell (p := ⟨b, off + 3, none⟩) hbl).trans K0_3.out, (B.out.cell (p := ⟨b, off + 4, none⟩) hbl).trans K0_4.out, (B.out.cell (p := ⟨b, off + 5, none⟩) hbl).trans K0_5.out⟩) (fun hHeld => ?_)
    clear hK K
    try simp only [Act.put]
    try simp only [List.setIfInBounds_toArray]
    try simp only [List.set_cons_succ]
    try simp only [List.set_cons_zero]
    refine wpAnyH_ready (rs := [13]) (by kernel_rfl) (by simp) ?_
    refine AllReadyH.cons rfl (fun K hK => ?_) AllReadyH.nil
    go_simp
    refine hK.out _ _ hHeld (fun hHeld => ?_)
    clear hK K
    try simp only [Act.put]
    try simp only [List.setIfInBounds_toArray]
    try simp only [List.set_cons_succ]
    try simp only [List.set_cons_zero]
    refine wpAnyH_done (by kernel_rfl) ?_ _
    try simp only [List.getElem_toArray]
    try simp only [List.getElem_cons_succ]
    try simp only [List.getElem_cons_zero]
    try simp only [Act.put]
    try simp only [List.setIfInBounds_toArray]
    try simp only [List.set_cons_succ]
    try simp only [List.set_cons_zero]
    go_wp2_with fail
    go_meet
    exact ⟨D1, r1k, r1a, r1n, r1c, w2.heap.size, _, rfl, rfl, XT6.out, (Os1.out.widen (Nat.le_refl _) (own_top Os1.out |> fun _ => by omega) (Nat.le_refl _)), hlo, G.out⟩
   ·go_simp
    obtain ⟨wa3, hwa3, hb, hy_wa3, XT6, FT6⟩ := laid1 w2 #[.int .i64 0, .slice none 0 0] 33
    have hz_wa3 := hb.size
    replace B := bb B hb
    replace XE := xb XE hb
    replace FE := fb FE hb
    replace XR := xb XR hb
    replace FR := fb FR hb
    replace HCB := Lib.hid (HCB.out.below hb)
    replace G := bb G hb
    clear hb
    clear hHeld
    try go_wp2_with fail
    rw [← hwa3]
    clear hwa3
    refine hK.out _ _ (by exact ⟨XE.out.2 0, XE.out.2 1, XE.out.2 2, XE.out.2 3, XE.out.2 4, XE.out.2 5, (B.out.cell (p := ⟨b, off, none⟩) hbl).trans K0_0.out, (B.out.cell (p := ⟨b, off + 1, none⟩) hbl).trans K0_1.out, (B.out.cell (p := ⟨b, off + 2, none⟩) hbl).trans K0_2.out, (B.out.cell (p := ⟨b, off + 3, none⟩) hbl).trans K0_3.out, (B.out.cell (p := ⟨b, off + 4, none⟩) hbl).trans K0_4.out, (B.out.cell (p := ⟨b, off + 5, none⟩) hbl).trans K0_5.out⟩) (fun hHeld => ?_)
    clear hK K
    try simp only [Act.put]
    try simp only [List.setIfInBounds_toArray]
    try simp only [List.set_cons_succ]
    try simp only [List.set_cons_zero]
    refine wpAnyH_ready (rs := [7]) (by kernel_rfl) (by simp) ?_
    refine AllReadyH.cons rfl (fun K hK => ?_) AllReadyH.nil
    go_simp
    go_at_call 29
    have CS := IHS.out DC _ _ (C ++ [⟨nm, ty⟩]) es[0] wa3 HCB.out (HT0.out.below B.out) HOU.out
    rw [← HRR.out] at CS
    refine CS.mono ?_
    clear CS
    rintro e w4 ⟨D1, r1k, r1a, r1n, r1c, rfl, ho, hb⟩
    have Os1 := Lib.hid ho
    clear ho
    have hlo : w0.heap.size ≤ wa3.heap.size := G.out.size
    clear HCB
    have hz_w4 := hb.size
    replace B := bb B hb
    replace XE := xb XE hb
    replace FE := fb FE hb
    replace XR := xb XR hb
    replace FR := fb FR hb
    replace XT6 := xb XT6 hb
    replace FT6 := fb FT6 hb
    replace G := bb G hb
    clear hb
    clear hHeld
    try go_wp2_with fail
    refine hK.out _ _ (by exact ⟨XE.out.2 0, XE.out.2 1, XE.out.2 2, XE.out.2 3, XE.out.2 4, XE.out.2 5, (B.out.cell (p := ⟨b, off, none⟩) hbl).trans K0_0.out, (B.out.cell (p := ⟨b, off + 1, none⟩) hbl).trans K0_1.out, (B.out.cell (p := ⟨b, off + 2, none⟩) hbl).trans K0_2.out, (B.out.cell (p := ⟨b, off + 3, none⟩) hbl).trans K0_3.out, (B.out.cell (p := ⟨b, off + 4, none⟩) hbl).trans K0_4.out, (B.out.cell (p := ⟨b, off + 5, none⟩) hbl).trans K0_5.out⟩) (fun hHeld => ?_)
    clear hK K
    try simp only [Act.put]
    try simp only [List.setIfInBounds_toArray]
    try simp only [List.set_cons_succ]
    try simp only [List.set_cons_zero]
    refine wpAnyH_take (i := 8) (v := ?v10_8) rfl (by kernel_rfl) (by kernel_rfl) (by kernel_rfl) (fun _ _ _ h => h) (Or.inl ⟨by kernel_rfl, ?hy10_8⟩) hHeld ?rest10_8
    case hy10_8 =>
     intro w hSw
     (try dsimp only at hSw)
     go_simp
     all_goals (first | done | with_reducible rfl)
    try simp only [Act.put]
    try simp only [List.setIfInBounds_toArray]
    try simp only [List.set_cons_succ]
    try simp only [List.set_cons_zero]
    refine wpAnyH_take (i := 9) (v := ?v11_9) rfl (by kernel_rfl) (by kernel_rfl) (by kernel_rfl) (fun _ _ _ h => h) (Or.inl ⟨by kernel_rfl, ?hy11_9⟩) hHeld ?rest11_9
    case hy11_9 =>
     intro w hSw
     (try dsimp only at hSw)
     go_simp
     all_goals (first | done | with_reducible rfl)
    try simp only [Act.put]
    try simp only [List.setIfInBounds_toArray]
    try simp only [List.set_cons_succ]
    try simp only [List.set_cons_zero]
    refine wpAnyH_take (i := 10) (v := ?v12_10) rfl (by kernel_rfl) (by kernel_rfl) (by kernel_rfl) (fun _ _ _ h => h) (Or.inl ⟨by kernel_rfl, ?hy12_10⟩) hHeld ?rest12_10
    case hy12_10 =>
     intro w hSw
     (try dsimp only at hSw)
     go_simp
     all_goals (first | done | with_reducible rfl)
    try simp only [Act.put]
    try simp only [List.setIfInBounds_toArray]
    try simp only [List.set_cons_succ]
    try simp only [List.set_cons_zero]
    have cT6_0 := XT6.out.2 0
    have cT6_1 := XT6.out.2 1
    have fT6_0 := FT6.out.2 0
    have fT6_1 := FT6.out.2 1
    refine wpAnyH_ready (rs := [12]) (by kernel_rfl) (by simp) ?_
    refine AllReadyH.cons rfl (fun K hK => ?_) AllReadyH.nil
    go_simp
    clear cT6_0 cT6_1 fT6_0 fT6_1
    clear hHeld
    try go_wp2_with fail
    obtain ⟨ws5, hws5⟩ : ∃ W, W = put2 w4 (w2.heap.size) (.int .i64 r1k) (.slice r1a r1n r1c) := ⟨_, rfl⟩
    have hy_ws5 : ws5.heap.size = w4.heap.size := by rw [hws5]; exact put2_size
    replace XE := xo hws5 XE (by omega)
    replace FE := fo hws5 FE
    replace XR := xo hws5 XR (by omega)
    replace FR := fo hws5 FR
    replace XT6 := xs hws5 XT6
    replace FT6 := fo hws5 FT6
    replace Os1 := oo hws5 Os1 (by omega)
    replace B := bo hws5 B (by omega)
    replace G := bo hws5 G (by omega)
    unfold put2 at hws5
    rw [← hws5]
    clear hws5
    refine hK.out _ _ (by exact ⟨XE.out.2 0, XE.out.2 1, XE.out.2 2, XE.out.2 3, XE.out.2 4, XE.out.2 5, (B.out.cell (p := ⟨b, off, none⟩) hbl).trans K0_0.out, (B.out.cell (p := ⟨b, off + 1, none⟩) hbl).trans K0_1.out, (B.out.cell (p := ⟨b, off + 2, none⟩) hbl).trans K0_2.out, (B.out.cell (p := ⟨b, off + 3, none⟩) hbl).trans K0_3.out, (B.out.cell (p := ⟨b, off + 4, none⟩) hbl).trans K0_4.out, (B.out.cell (p := ⟨b, off + 5, none⟩) hbl).trans K0_5.out⟩) (fun hHeld => ?_)
    clear hK K
    try simp only [Act.put]
    try simp only [List.setIfInBounds_toArray]
    try simp only [List.set_cons_succ]
    try simp only [List.set_cons_zero]
    refine wpAnyH_ready (rs := [13]) (by kernel_rfl) (by simp) ?_
    refine AllReadyH.cons rfl (fun K hK => ?_) AllReadyH.nil
    go_simp
    refine hK.out _ _ hHeld (fun hHeld => ?_)
    clear hK K
    try simp only [Act.put]
    try simp only [List.setIfInBounds_toArray]
    try simp only [List.set_cons_succ]
    try simp only [List.set_cons_zero]
    refine wpAnyH_done (by kernel_rfl) ?_ _
    try simp only [List.getElem_toArray]
    try simp only [List.getElem_cons_succ]
    try simp only [List.getElem_cons_zero]
    try simp only [Act.put]
    try simp only [List.setIfInBounds_toArray]
    try simp only [List.set_cons_succ]
    try simp only [List.set_cons_zero]
    go_wp2_with fail
    go_meet
    exact ⟨D1, r1k, r1a, r1n, r1c, wa3.heap.size, _, rfl, rfl, XT6.out, (Os1.out.widen (Nat.le_refl _) (own_top Os1.out |> fun _ => by omega) (Nat.le_refl _)), hlo, G.out⟩
  ·go_simp
   obtain ⟨wa2, hwa2, hb, hy_wa2, XT6, FT6⟩ := laid1 wd1 #[.int .i64 0, .slice none 0 0] 33
   have hz_wa2 := hb.size
   replace B := bb B hb
   replace XE := xb XE hb
   replace FE := fb FE hb
   replace XR := xb XR hb
   replace FR := fb FR hb
   replace G := bb G hb
   clear hb
   clear hHeld
   try go_wp2_with fail
   rw [← hwa2]
   clear hwa2
   refine hK.out _ _ (by exact ⟨XE.out.2 0, XE.out.2 1, XE.out.2 2, XE.out.2 3, XE.out.2 4, XE.out.2 5, (B.out.cell (p := ⟨b, off, none⟩) hbl).trans K0_0.out, (B.out.cell (p := ⟨b, off + 1, none⟩) hbl).trans K0_1.out, (B.out.cell (p := ⟨b, off + 2, none⟩) hbl).trans K0_2.out, (B.out.cell (p := ⟨b, off + 3, none⟩) hbl).trans K0_3.out, (B.out.cell (p := ⟨b, off + 4, none⟩) hbl).trans K0_4.out, (B.out.cell (p := ⟨b, off + 5, none⟩) hbl).trans K0_5.out⟩) (fun hHeld => ?_)
   clear hK K
   try simp only [Act.put]
   try simp only [List.setIfInBounds_toArray]
   try simp only [List.set_cons_succ]
   try simp only [List.set_cons_zero]
   refine wpAnyH_ready (rs := [2]) (by kernel_rfl) (by simp) ?_
   refine AllReadyH.cons rfl (fun K hK => ?_) AllReadyH.nil
   go_simp
   go_at_call 89
   refine (specCtx9 D (d + 1) _ _ C 3 nm n ty es _ (HV.out.below B.out) (HE.out.below B.out) hln).mono ?_
   rintro e w3 ⟨DC, ca, cn, cc, rfl, hcb, hb⟩
   have HCB := Lib.hid hcb
   clear hcb
   have hz_w3 := hb.size
   replace B := bb B hb
   replace XE := xb XE hb
   replace FE := fb FE hb
   replace XR := xb XR hb
   replace FR := fb FR hb
   replace XT6 := xb XT6 hb
   replace FT6 := fb FT6 hb
   replace G := bb G hb
   clear hb
   clear hHeld
   try go_wp2_with fail
   refine hK.out _ _ (by exact ⟨XE.out.2 0, XE.out.2 1, XE.out.2 2, XE.out.2 3, XE.out.2 4, XE.out.2 5, (B.out.cell (p := ⟨b, off, none⟩) hbl).trans K0_0.out, (B.out.cell (p := ⟨b, off + 1, none⟩) hbl).trans K0_1.out, (B.out.cell (p := ⟨b, off + 2, none⟩) hbl).trans K0_2.out, (B.out.cell (p := ⟨b, off + 3, none⟩) hbl).trans K0_3.out, (B.out.cell (p := ⟨b, off + 4, none⟩) hbl).trans K0_4.out, (B.out.cell (p := ⟨b, off + 5, none⟩) hbl).trans K0_5.out⟩) (fun hHeld => ?_)
   clear hK K
   try simp only [Act.put]
   try simp only [List.setIfInBounds_toArray]
   try simp only [List.set_cons_succ]
   try simp only [List.set_cons_zero]
   refine wpAnyH_ready (rs := [7]) (by kernel_rfl) (by simp) ?_
   refine AllReadyH.cons rfl (fun K hK => ?_) AllReadyH.nil
   go_simp
   go_at_call 29
   have CS := IHS.out DC _ _ (C ++ [⟨nm, ty⟩]) es[0] w3 HCB.out (HT0.out.below B.out) HOU.out
   rw [← HRR.out] at CS
   refine CS.mono ?_
   clear CS
   rintro e w4 ⟨D1, r1k, r1a, r1n, r1c, rfl, ho, hb⟩
   have Os1 := Lib.hid ho
   clear ho
   have hlo : w0.heap.size ≤ w3.heap.size := G.out.size
   clear HCB
   have hz_w4 := hb.size
   replace B := bb B hb
   replace XE := xb XE hb
   replace FE := fb FE hb
   replace XR := xb XR hb
   replace FR := fb FR hb
   replace XT6 := xb XT6 hb
   replace FT6 := fb FT6 hb
   replace G := bb G hb
   clear hb
   clear hHeld
   try go_wp2_with fail
   refine hK.out _ _ (by exact ⟨XE.out.2 0, XE.out.2 1, XE.out.2 2, XE.out.2 3, XE.out.2 4, XE.out.2 5, (B.out.cell (p := ⟨b, off, none⟩) hbl).trans K0_0.out, (B.out.cell (p := ⟨b, off + 1, none⟩) hbl).trans K0_1.out, (B.out.cell (p := ⟨b, off + 2, none⟩) hbl).trans K0_2.out, (B.out.cell (p := ⟨b, off + 3, none⟩) hbl).trans K0_3.out, (B.out.cell (p := ⟨b, off + 4, none⟩) hbl).trans K0_4.out, (B.out.cell (p := ⟨b, off + 5, none⟩) hbl).trans K0_5.out⟩) (fun hHeld => ?_)
   clear hK K
   try simp only [Act.put]
   try simp only [List.setIfInBounds_toArray]
   try simp only [List.set_cons_succ]
   try simp only [List.set_cons_zero]
   refine wpAnyH_take (i := 8) (v := ?v13_8) rfl (by kernel_rfl) (by kernel_rfl) (by kernel_rfl) (fun _ _ _ h => h) (Or.inl ⟨by kernel_rfl, ?hy13_8⟩) hHeld ?rest13_8
   case hy13_8 =>
    intro w hSw
    (try dsimp only at hSw)
    go_simp
    all_goals (first | done | with_reducible rfl)
   try simp only [Act.put]
   try simp only [List.setIfInBounds_toArray]
   try simp only [List.set_cons_succ]
   try simp only [List.set_cons_zero]
   refine wpAnyH_take (i := 9) (v := ?v14_9) rfl (by kernel_rfl) (by kernel_rfl) (by kernel_rfl) (fun _ _ _ h => h) (Or.inl ⟨by kernel_rfl, ?hy14_9⟩) hHeld ?rest14_9
   case hy14_9 =>
    intro w hSw
    (try dsimp only at hSw)
    go_simp
    all_goals (first | done | with_reducible rfl)
   try simp only [Act.put]
   try simp only [List.setIfInBounds_toArray]
   try simp only [List.set_cons_succ]
   try simp only [List.set_cons_zero]
   refine wpAnyH_take (i := 10) (v := ?v15_10) rfl (by kernel_rfl) (by kernel_rfl) (by kernel_rfl) (fun _ _ _ h => h) (Or.inl ⟨by kernel_rfl, ?hy15_10⟩) hHeld ?rest15_10
   case hy15_10 =>
    intro w hSw
    (try dsimp only at hSw)
    go_simp
    all_goals (first | done | with_reducible rfl)
   try simp only [Act.put]
   try simp only [List.setIfInBounds_toArray]
   try simp only [List.set_cons_succ]
   try simp only [List.set_cons_zero]
   have cT6_0 := XT6.out.2 0
   have cT6_1 := XT6.out.2 1
   have fT6_0 := FT6.out.2 0
   have fT6_1 := FT6.out.2 1
   refine wpAnyH_ready (rs := [12]) (by kernel_rfl) (by simp) ?_
   refine AllReadyH.cons rfl (fun K hK => ?_) AllReadyH.nil
   go_simp
   clear cT6_0 cT6_1 fT6_0 fT6_1
   clear hHeld
   try go_wp2_with fail
   obtain ⟨ws5, hws5⟩ : ∃ W, W = put2 w4 (wd1.heap.size) (.int .i64 r1k) (.slice r1a r1n r1c) := ⟨_, rfl⟩
   have hy_ws5 : ws5.heap.size = w4.heap.size := by rw [hws5]; exact put2_size
   replace XE := xo hws5 XE (by omega)
   replace FE := fo hws5 FE
   replace XR := xo hws5 XR (by omega)
   replace FR := fo hws5 FR
   replace XT6 := xs hws5 XT6
   replace FT6 := fo hws5 FT6
   replace Os1 := oo hws5 Os1 (by omega)
   replace B := bo hws5 B (by omega)
   replace G := bo hws5 G (by omega)
   unfold put2 at hws5
   rw [← hws5]
   clear hws5
   refine hK.out _ _ (by exact ⟨XE.out.2 0, XE.out.2 1, XE.out.2 2, XE.out.2 3, XE.out.2 4, XE.out.2 5, (B.out.cell (p := ⟨b, off, none⟩) hbl).trans K0_0.out, (B.out.cell (p := ⟨b, off + 1, none⟩) hbl).trans K0_1.out, (B.out.cell (p := ⟨b, off + 2, none⟩) hbl).trans K0_2.out, (B.out.cell (p := ⟨b, off + 3, none⟩) hbl).trans K0_3.out, (B.out.cell (p := ⟨b, off + 4, none⟩) hbl).trans K0_4.out, (B.out.cell (p := ⟨b, off + 5, none⟩) hbl).trans K0_5.out⟩) (fun hHeld => ?_)
   clear hK K
   try simp only [Act.put]
   try simp only [List.setIfInBounds_toArray]
   try simp only [List.set_cons_succ]
   try simp only [List.set_cons_zero]
   refine wpAnyH_ready (rs := [13]) (by kernel_rfl) (by simp) ?_
   refine AllReadyH.cons rfl (fun K hK => ?_) AllReadyH.nil
   go_simp
   refine hK.out _ _ hHeld (fun hHeld => ?_)
   clear hK K
   try simp only [Act.put]
   try simp only [List.setIfInBounds_toArray]
   try simp only [List.set_cons_succ]
   try simp only [List.set_cons_zero]
   refine wpAnyH_done (by kernel_rfl) ?_ _
   try simp only [List.getElem_toArray]
   try simp only [List.getElem_cons_succ]
   try simp only [List.getElem_cons_zero]
   try simp only [Act.put]
   try simp only [List.setIfInBounds_toArray]
   try simp only [List.set_cons_succ]
   try simp only [List.set_cons_zero]
   go_wp2_with fail
   go_meet
   exact ⟨D1, r1k, r1a, r1n, r1c, w3.heap.size, _, rfl, rfl, XT6.out, (Os1.out.widen (Nat.le_refl _) (own_top Os1.out |> fun _ => by omega) (Nat.le_refl _)), hlo, G.out⟩
 case rest =>
  obtain ⟨D1, r1k, r1a, r1n, r1c, lo, q, rfl, rfl, hX6, hO1, hlo, hb⟩ := hcut
  have XT6 := Lib.hid hX6
  clear hX6
  have Os1 := Lib.hid hO1
  clear hO1
  have hz_wc := hb.size
  replace B := bb B hb
  replace XE := xb XE hb
  replace FE := fb FE hb
  replace XR := xb XR hb
  replace FR := fb FR hb
  clear hb
  have cE_0 := XE.out.2 0
  have cE_1 := XE.out.2 1
  have cE_2 := XE.out.2 2
  have cE_3 := XE.out.2 3
  have cE_4 := XE.out.2 4
  have cE_5 := XE.out.2 5
  have cT6_0 := XT6.out.2 0
  have cT6_1 := XT6.out.2 1
  go_wp2_with fail
  clear cE_0 cE_1 cE_2 cE_3 cE_4 cE_5 cT6_0 cT6_1
  refine (Calls.mono (specArrowType (d + D1) _ _ ty (r.getD (.node 0 [])) _ (by omega) (by omega) ((HTY.out.below B.out).mono (by omega)) (Os1.out.at_.mono (by omega))) (fun _ _ h => type_e h)).mono ?_
  rintro e w1 ⟨D9, p1k, p1a, p1n, p1c, rfl, ho1, hb⟩
  have Op1 := Lib.hid ho1
  clear ho1
  have hz_w1 := hb.size
  replace B := bb B hb
  replace XE := xb XE hb
  replace FE := fb FE hb
  replace XR := xb XR hb
  replace FR := fb FR hb
  replace XT6 := xb XT6 hb
  replace Os1 := ob Os1 hb
  clear hb
  have cR_0 := XR.out.2 0
  have cR_1 := XR.out.2 1
  have fR_0 := FR.out.2 0
  have fR_1 := FR.out.2 1
  go_wp2_with fail
  clear cR_0 cR_1 fR_0 fR_1
  have htop := own_top Op1.out
  have HW : Hid ((synE (d + 1) C (.node 3 nm n ty es)).isSome = r.isSome ∧ ∀ x, synE (d + 1) C (.node 3 nm n ty es) = some x → .node 4 [ty, r.getD (.node 0 [])] = x) := by show _ ∧ _; rw [HR.out, ← HRR.out]; cases r with | none => exact ⟨rfl, fun x h => by cases h⟩ | some y => exact ⟨rfl, fun x h => by injection h⟩
  have XZ := put2_box (u := .int .i64 p1k) (v := .slice p1a p1n p1c) XR.out
  have h0 := XZ.2 0
  have h1 := XZ.2 1
  unfold put2 at h0 h1
  refine bodyPost_ret (v := .tuple #[.agg #[.int .i64 p1k, .slice p1a p1n p1c], .bool r.isSome]) (by simp [results, Tryz.results58, go_sem, h0, h1]) rfl ?_
  exact (by refine ⟨D9, _, _, _, _, _, by rw [HW.out.1], ?_, HW.out.2, put2_below B.out (by omega)⟩; exact (put2_own Op1.out (by omega)).widen (by omega) (by first | (simp; omega) | simp) (Nat.le_refl _))
end Go.Proofs.YteffjeejbdjjpaaGreatDoor
