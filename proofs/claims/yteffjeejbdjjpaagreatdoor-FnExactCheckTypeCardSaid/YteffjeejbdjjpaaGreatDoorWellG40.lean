/-
  Proved: impl.synthPart: what a part of a pair synthesizes.
-/
import Derived.Test.YteffjeejbdjjpaaGreatDoorWellG37
import Derived.Test.YteffjeejbdjjpaaGreatDoorWellG20
namespace Go.Proofs.YteffjeejbdjjpaaGreatDoor
open Go.RowKit

theorem syn_partI11 (d : Nat) (C : List Bi) (nm : ByteArray) (n : Int) (ty : Ty) (es : List Ex) (h0 : 0 < es.length) : synE (d + 1) C (.node 11 nm n ty es) = partOf true (synE d C es[0]) := by
 rw [synE_succ]; simp only [synStep]; rw [Ex.arg_get h0]; simp
set_option maxRecDepth 100000 in
set_option maxHeartbeats 2000000 in
theorem implPart11 (d : Nat) (ihs : ImplSynSaid d) (D : Nat) (pe : Addr) (vc v : Value) (C : List Bi) (nm : ByteArray) (n : Int) (ty : Ty) (es : List Ex) (w : World) (hv : BisAt w D vc C) (he : ExAt w (d + 1) v (.node 11 nm n ty es)) (hok : TypOk C (.node 11 nm n ty es)) (herr : ErrAt w pe) (hmt : MeetTab w) :
  Calls Tryz.prog 79 #[vc, v] w (ISynEnd pe (synE (d + 1) C (.node 11 nm n ty es)) (16 * (Ex.node 11 nm n ty es).count + 1) w) := by
 obtain ⟨c3, c4, sl, hx, hk0, hk1, hn0, hn1, hnm, hty, sa, sc, hsl, hcap, hcap2, hat⟩ := he
 subst hsl
 obtain ⟨tk, ta, tn, tc, rfl, rfl⟩ := at_parts hty
 subst hx
 obtain ⟨va, vn, vc1, rfl⟩ : ∃ a n c, vc = .slice a n c := by obtain ⟨a, cap, hv, _⟩ := hv; exact ⟨_, _, _, hv⟩
 have hlen : es.length = 1 := by have h1 := (form_parts hok.1).1; have h2 : arity 11 = 1 := rfl; omega
 have hq0 : 0 < es.length := by omega
 obtain ⟨b, off, q0_0, q0_1, q0_2, q0_3, q0_4, q0_5, e0, hbl, z0_0, z0_1, z0_2, z0_3, z0_4, z0_5, ht0⟩ := hat 0 hq0
 subst e0
 obtain ⟨xk, xnm, xn, xtk, xta, xtn, xtc, xsa, xsm, xsc, rfl, rfl, rfl, rfl, rfl, rfl⟩ := ex_cells ht0
 simp only [Nat.zero_mul, Nat.add_zero] at z0_0 z0_1 z0_2 z0_3 z0_4 z0_5
 have K0_0 := Lib.hid z0_0
 have K0_1 := Lib.hid z0_1
 have K0_2 := Lib.hid z0_2
 have K0_3 := Lib.hid z0_3
 have K0_4 := Lib.hid z0_4
 have K0_5 := Lib.hid z0_5
 clear z0_0 z0_1 z0_2 z0_3 z0_4 z0_5
 have HT0 := Lib.hid ht0
 clear ht0
 have HV := Lib.hid hv
 clear hv
 have HOK := Lib.hid hok
 clear hok hat
 have HTY := Lib.hid hty
 clear hty
 have HNM := Lib.hid hnm
 clear hnm
 have HERR := Lib.hid herr
 have HMT := Lib.hid hmt
 clear herr hmt
 have IHS := Lib.hid ihs
 clear ihs
 have hcn : (Ex.node 11 nm n ty es).count = 1 + Ex.counts es := count_node (by omega)
 have hcp0 := count_part es 0 hq0
 have hcm := HOK.out.2.2.2
 rw [hcn] at hcm
 obtain ⟨N, hN⟩ : ∃ N, N = (Ex.node 11 nm n ty es).count := ⟨_, rfl⟩
 rw [← hN] at hcn
 rw [← hN]
 have hsz9 : ∀ x, synE (d + 1) C (.node 11 nm n ty es) = some x → x.size ≤ 16 * N + 1 := fun x hx => by have h := syn_size (d + 1) C _ x HOK.out.2.1 HOK.out.1 hx; rw [hN]; exact h
 have HSZ9 := Lib.hid hsz9
 clear hsz9 hN
 rw [hlen]
 clear hlen
 have HR := Lib.hid (syn_partI11 d C nm n ty es hq0)
 obtain ⟨w0, hw0, B, hz_w0, XE, FE, XR, FR⟩ := laid2 w #[.int .i64 11, .string nm, .int .i64 n, .int .i64 tk, .slice ta tn tc, .slice (some ⟨b, off, none⟩) 1 sc] 40 #[.int .i64 0, .slice none 0 0] 33
 replace B := Lib.hid B
 go_enter Tryz.func79, Tryz.ntmps79
 have k0_0 := K0_0.out
 have k0_1 := K0_1.out
 have k0_2 := K0_2.out
 have k0_3 := K0_3.out
 have k0_4 := K0_4.out
 have k0_5 := K0_5.out
 go_wp2_with fail
 clear k0_0 k0_1 k0_2 k0_3 k0_4 k0_5
 rw [← hw0]
 clear hw0
 obtain ⟨r0, hr0⟩ : ∃ r, synE d C es[0] = r := ⟨_, rfl⟩
 have CS := IHS.out D pe _ _ C es[0] w0 (HV.out.below B.out) (HT0.out.below B.out) (HOK.out.part 0 hq0) (HERR.out.below B.out) (HMT.out.below B.out)
 rw [hr0] at CS
 have HS0 := Lib.hid hr0
 clear hr0
 refine (CS).mono ?_
 rintro e w1 ⟨D1, r1k, r1a, r1n, r1c, t0, rfl, ho, hsz0, hgx, hb⟩
 have Os1 := Lib.hid ho
 clear ho
 have hz_w1 := hb.size
 replace B := bb B hb
 replace XE := xb XE hb
 replace FE := fb FE hb
 replace XR := xb XR hb
 replace FR := fb FR hb
 clear hb
 cases r0 with
 | none =>
  have hgz1 := hsz0
  clear hgx
  rw [show errOf pe (Option.isSome (none : Option Ty)) = .iface 141 (.pointer (some pe)) from rfl]
  obtain ⟨wa2, hwa2, hb, hy_wa2, XT6, FT6⟩ := laid1 w1 #[.int .i64 r1k, .slice r1a r1n r1c] 33
  have hz_wa2 := hb.size
  replace B := bb B hb
  replace XE := xb XE hb
  replace FE := fb FE hb
  replace XR := xb XR hb
  replace FR := fb FR hb
  replace Os1 := ob Os1 hb
  clear hb
  have cE_0 := XE.out.2 0
  have cE_1 := XE.out.2 1
  have cE_2 := XE.out.2 2
  have cE_3 := XE.out.2 3
  have cE_4 := XE.out.2 4
  have cE_5 := XE.out.2 5
  have cR_0 := XR.out.2 0
  have cR_1 := XR.out.2 1
  have cT6_0 := XT6.out.2 0
  have cT6_1 := XT6.out.2 1
  have fR_0 := FR.out.2 0
  have fR_1 := FR.out.2 1
  rw [hwa2] at cE_0
  rw [hwa2] at cE_1
  rw [hwa2] at cE_2
  rw [hwa2] at cE_3
  rw [hwa2] at cE_4
  rw [hwa2] at cE_5
  rw [hwa2] at cR_0
  rw [hwa2] at cR_1
  rw [hwa2] at cT6_0
  rw [hwa2] at cT6_1
  rw [hwa2] at fR_0
  rw [hwa2] at fR_1
  go_wp2_with fail
  clear cE_0 cE_1 cE_2 cE_3 cE_4 cE_5 cR_0 cR_1 cT6_0 cT6_1 fR_0 fR_1
  rw [← hwa2]
  clear hwa2
  have XZ := put2_box (u := .int .i64 0) (v := .slice none 0 0) XR.out
  have h0 := XZ.2 0
  have h1 := XZ.2 1
  unfold put2 at h0 h1
  have hwz0 := B.out.size
  have HW : Hid (synE (d + 1) C (.node 11 nm n ty es) = none) := by show _ = _; rw [HR.out, HS0.out]; rfl
  refine bodyPost_ret (v := .tuple #[.agg #[.int .i64 0, .slice none 0 0], .iface 141 (.pointer (some pe))]) (by simp [results, Tryz.results79, go_sem, h0, h1]) rfl ?_
  exact isyn_ret_no (lo := w.heap.size) (hi := w.heap.size) HW.out (leaf_in _ 0 _ _ (by omega) (by omega) (by first | omega | (simp; omega) | simp)) (Nat.le_refl _) (by first | omega | (simp; omega) | simp) (by simp [Ty.size, Ty.sizes]) (put2_below B.out (by omega))
 | some tt0 =>
  obtain rfl : t0 = tt0 := hgx _ rfl
  clear hgx
  rw [show errOf pe (Option.isSome (some t0)) = .nilIface from rfl]
  obtain ⟨wa2, hwa2, hb, hy_wa2, XT6, FT6⟩ := laid1 w1 #[.int .i64 r1k, .slice r1a r1n r1c] 33
  have hz_wa2 := hb.size
  replace B := bb B hb
  replace XE := xb XE hb
  replace FE := fb FE hb
  replace XR := xb XR hb
  replace FR := fb FR hb
  replace Os1 := ob Os1 hb
  clear hb
  have cE_0 := XE.out.2 0
  have cE_1 := XE.out.2 1
  have cE_2 := XE.out.2 2
  have cE_3 := XE.out.2 3
  have cE_4 := XE.out.2 4
  have cE_5 := XE.out.2 5
  have cR_0 := XR.out.2 0
  have cR_1 := XR.out.2 1
  have cT6_0 := XT6.out.2 0
  have cT6_1 := XT6.out.2 1
  have fR_0 := FR.out.2 0
  have fR_1 := FR.out.2 1
  rw [hwa2] at cE_0
  rw [hwa2] at cE_1
  rw [hwa2] at cE_2
  rw [hwa2] at cE_3
  rw [hwa2] at cE_4
  rw [hwa2] at cE_5
  rw [hwa2] at cR_0
  rw [hwa2] at cR_1
  rw [hwa2] at cT6_0
  rw [hwa2] at cT6_1
  rw [hwa2] at fR_0
  rw [hwa2] at fR_1
  go_wp2_with fail
  clear cE_0 cE_1 cE_2 cE_3 cE_4 cE_5 cR_0 cR_1 cT6_0 cT6_1 fR_0 fR_1
  rw [← hwa2]
  clear hwa2
  refine (Calls.mono (implMatchPair _ _ _ _ Os1.out.at_ (by omega)) (fun _ _ h => match_b rfl h)).mono ?_
  rintro e w3 ⟨D9, p1k, p1a, p1n, p1c, p2k, p2a, p2n, p2c, mid, rfl, hm, ho1, ho2, hb⟩
  have Op1 := Lib.hid ho1
  clear ho1
  have Op2 := Lib.hid ho2
  clear ho2
  have hz_w3 := hb.size
  replace B := bb B hb
  replace XE := xb XE hb
  replace FE := fb FE hb
  replace XR := xb XR hb
  replace FR := fb FR hb
  replace XT6 := xb XT6 hb
  replace FT6 := fb FT6 hb
  replace Os1 := ob Os1 hb
  clear hb
  obtain ⟨wa4, hwa4, hb, hy_wa4, XT8, FT8, XT9, FT9⟩ := laid2 w3 #[.int .i64 p1k, .slice p1a p1n p1c] 33 #[.int .i64 p2k, .slice p2a p2n p2c] 33
  have hz_wa4 := hb.size
  replace B := bb B hb
  replace XE := xb XE hb
  replace FE := fb FE hb
  replace XR := xb XR hb
  replace FR := fb FR hb
  replace XT6 := xb XT6 hb
  replace FT6 := fb FT6 hb
  replace Os1 := ob Os1 hb
  replace Op1 := ob Op1 hb
  replace Op2 := ob Op2 hb
  clear hb
  have cE_0 := XE.out.2 0
  have cE_1 := XE.out.2 1
  have cE_2 := XE.out.2 2
  have cE_3 := XE.out.2 3
  have cE_4 := XE.out.2 4
  have cE_5 := XE.out.2 5
  rw [hwa4] at cE_0
  rw [hwa4] at cE_1
  rw [hwa4] at cE_2
  rw [hwa4] at cE_3
  rw [hwa4] at cE_4
  rw [hwa4] at cE_5
  go_wp2_with fail
  clear cE_0 cE_1 cE_2 cE_3 cE_4 cE_5
  rw [← hwa4]
  clear hwa4
  have HE9 : Hid (synE (d + 1) C (.node 11 nm n ty es) = onlyIf (t0.parts 5).2.2 (t0.parts 5).1) := by show _ = _; rw [HR.out, HS0.out]; rfl
  obtain ⟨wd5, hwd5⟩ : ∃ W, W = wa4.drew := ⟨_, rfl⟩
  have hb : Below wa4.heap.size wa4 wd5 := by rw [hwd5]; exact below_drew _
  have hz_wd5 := hb.size
  replace B := bb B hb
  replace XE := xb XE hb
  replace FE := fb FE hb
  replace XR := xb XR hb
  replace FR := fb FR hb
  replace XT6 := xb XT6 hb
  replace FT6 := fb FT6 hb
  replace XT8 := xb XT8 hb
  replace FT8 := fb FT8 hb
  replace XT9 := xb XT9 hb
  replace FT9 := fb FT9 hb
  replace Os1 := ob Os1 hb
  replace Op1 := ob Op1 hb
  replace Op2 := ob Op2 hb
  clear hb
  refine wp_region_held_drew (S := fun w' => w'.cell? ⟨w3.heap.size, 0, none⟩ = some (.int .i64 p1k) ∧ w'.cell? ⟨w3.heap.size, 1, none⟩ = some (.slice p1a p1n p1c)) (by kernel_rfl) (by rw [← hwd5]; exact ⟨XT8.out.2 0, XT8.out.2 1⟩) (fun hHeld => ?_)
  rw [← hwd5] at hHeld ⊢
  clear hwd5
  refine wpAnyH_take (i := 0) (v := ?v10_0) rfl (by kernel_rfl) (by kernel_rfl) (by kernel_rfl) (fun _ _ _ h => h) (Or.inl ⟨by kernel_rfl, ?hy10_0⟩) hHeld ?rest10_0
  case hy10_0 =>
   intro w hSw
   (try dsimp only at hSw)
   go_simp
   all_goals (first | done | with_reducible rfl)
  try simp only [Act.put]
  try simp only [List.setIfInBounds_toArray]
  try simp only [List.set_cons_succ]
  try simp only [List.set_cons_zero]
  refine wpAnyH_take (i := 1) (v := ?v11_1) rfl (by kernel_rfl) (by kernel_rfl) (by kernel_rfl) (fun _ _ _ h => h) (Or.inl ⟨by kernel_rfl, ?hy11_1⟩) hHeld ?rest11_1
  case hy11_1 =>
   intro w hSw
   (try dsimp only at hSw)
   go_simp
   all_goals (first | done | with_reducible rfl)
  try simp only [Act.put]
  try simp only [List.setIfInBounds_toArray]
  try simp only [List.set_cons_succ]
  try simp only [List.set_cons_zero]
  refine wpAnyH_ready (rs := [2]) (by kernel_rfl) (by simp) ?_
  refine AllReadyH.cons rfl (fun K hK => ?_) AllReadyH.nil
  go_simp
  go_at_call 69
  refine (implUnless _ _ pe (HERR.out.below B.out)).mono ?_
  rintro e w6 ⟨rfl, hb⟩
  have hz_w6 := hb.size
  replace B := bb B hb
  replace XE := xb XE hb
  replace FE := fb FE hb
  replace XR := xb XR hb
  replace FR := fb FR hb
  replace XT6 := xb XT6 hb
  replace FT6 := fb FT6 hb
  replace XT8 := xb XT8 hb
  replace FT8 := fb FT8 hb
  replace XT9 := xb XT9 hb
  replace FT9 := fb FT9 hb
  replace Os1 := ob Os1 hb
  replace Op1 := ob Op1 hb
  replace Op2 := ob Op2 hb
  clear hb
  clear hHeld
  try go_wp2_with fail
  refine hK.out _ _ (by exact ⟨XT8.out.2 0, XT8.out.2 1⟩) (fun hHeld => ?_)
  clear hK K
  try simp only [Act.put]
  try simp only [List.setIfInBounds_toArray]
  try simp only [List.set_cons_succ]
  try simp only [List.set_cons_zero]
  have cR_0 := XR.out.2 0
  have cR_1 := XR.out.2 1
  have fR_0 := FR.out.2 0
  have fR_1 := FR.out.2 1
  refine wpAnyH_ready (rs := [3]) (by kernel_rfl) (by simp) ?_
  refine AllReadyH.cons rfl (fun K hK => ?_) AllReadyH.nil
  go_simp
  clear cR_0 cR_1 fR_0 fR_1
  clear hHeld
  try go_wp2_with fail
  obtain ⟨ws7, hws7⟩ : ∃ W, W = put2 w6 (w.heap.size + 1) (.int .i64 p1k) (.slice p1a p1n p1c) := ⟨_, rfl⟩
  have hy_ws7 : ws7.heap.size = w6.heap.size := by rw [hws7]; exact put2_size
  replace XE := xo hws7 XE (by omega)
  replace FE := fo hws7 FE
  replace XR := xs hws7 XR
  replace FR := fo hws7 FR
  replace XT6 := xo hws7 XT6 (by omega)
  replace FT6 := fo hws7 FT6
  replace XT8 := xo hws7 XT8 (by omega)
  replace FT8 := fo hws7 FT8
  replace XT9 := xo hws7 XT9 (by omega)
  replace FT9 := fo hws7 FT9
  replace Os1 := oo hws7 Os1 (by omega)
  replace Op1 := oo hws7 Op1 (by omega)
  replace Op2 := oo hws7 Op2 (by omega)
  replace B := bo hws7 B (by omega)
  unfold put2 at hws7
  rw [← hws7]
  clear hws7
  refine hK.out _ _ (by exact ⟨XT8.out.2 0, XT8.out.2 1⟩) (fun hHeld => ?_)
  clear hK K
  try simp only [Act.put]
  try simp only [List.setIfInBounds_toArray]
  try simp only [List.set_cons_succ]
  try simp only [List.set_cons_zero]
  refine wpAnyH_ready (rs := [4]) (by kernel_rfl) (by simp) ?_
  refine AllReadyH.cons rfl (fun K hK => ?_) AllReadyH.nil
  go_simp
  refine hK.out _ _ hHeld (fun hHeld => ?_)
  clear hK K
  try simp only [Act.put]
  try simp only [List.setIfInBounds_toArray]
  try simp only [List.set_cons_succ]
  try simp only [List.set_cons_zero]
  refine wpAnyH_done (by kernel_rfl) ?_ _
  try simp only [List.getElem_toArray]
  try simp only [List.getElem_cons_succ]
  try simp only [List.getElem_cons_zero]
  try simp only [Act.put]
  try simp only [List.setIfInBounds_toArray]
  try simp only [List.set_cons_succ]
  try simp only [List.set_cons_zero]
  go_wp2_with fail
  have h0 := XR.out.2 0
  have h1 := XR.out.2 1
  have htop := own_top Op1.out
  have HW : Hid ((synE (d + 1) C (.node 11 nm n ty es)).isSome = ((t0.parts 5).2.2)) := by show _ = _; rw [HE9.out, onlyIf_some]
  refine bodyPost_ret (v := .tuple #[.agg #[.int .i64 p1k, .slice p1a p1n p1c], errOf pe ((t0.parts 5).2.2)]) (by simp [results, Tryz.results79, go_sem, h0, h1]) rfl ?_
  exact ⟨_, _, _, _, _, (t0.parts 5).1, by rw [HW.out], (Op1.out).widen (by omega) (by first | (simp; omega) | simp | omega) (Nat.le_refl _), (by have := (parts_size 5 t0).1; omega), (fun x h => by rw [HE9.out] at h; exact onlyIf_is h), B.out⟩
theorem syn_partI12 (d : Nat) (C : List Bi) (nm : ByteArray) (n : Int) (ty : Ty) (es : List Ex) (h0 : 0 < es.length) : synE (d + 1) C (.node 12 nm n ty es) = partOf false (synE d C es[0]) := by
 rw [synE_succ]; simp only [synStep]; rw [Ex.arg_get h0]; simp
set_option maxRecDepth 100000 in
set_option maxHeartbeats 2000000 in
theorem implPart12 (d : Nat) (ihs : ImplSynSaid d) (D : Nat) (pe : Addr) (vc v : Value) (C : List Bi) (nm : ByteArray) (n : Int) (ty : Ty) (es : List Ex) (w : World) (hv : BisAt w D vc C) (he : ExAt w (d + 1) v (.node 12 nm n ty es)) (hok : TypOk C (.node 12 nm n ty es)) (herr : ErrAt w pe) (hmt : MeetTab w) :
  Calls Tryz.prog 79 #[vc, v] w (ISynEnd pe (synE (d + 1) C (.node 12 nm n ty es)) (16 * (Ex.node 12 nm n ty es).count + 1) w) := by
 obtain ⟨c3, c4, sl, hx, hk0, hk1, hn0, hn1, hnm, hty, sa, sc, hsl, hcap, hcap2, hat⟩ := he
 subst hsl
 obtain ⟨tk, ta, tn, tc, rfl, rfl⟩ := at_parts hty
 subst hx
 obtain ⟨va, vn, vc1, rfl⟩ : ∃ a n c, vc = .slice a n c := by obtain ⟨a, cap, hv, _⟩ := hv; exact ⟨_, _, _, hv⟩
 have hlen : es.length = 1 := by have h1 := (form_parts hok.1).1; have h2 : arity 12 = 1 := rfl; omega
 have hq0 : 0 < es.length := by omega
 obtain ⟨b, off, q0_0, q0_1, q0_2, q0_3, q0_4, q0_5, e0, hbl, z0_0, z0_1, z0_2, z0_3, z0_4, z0_5, ht0⟩ := hat 0 hq0
 subst e0
 obtain ⟨xk, xnm, xn, xtk, xta, xtn, xtc, xsa, xsm, xsc, rfl, rfl, rfl, rfl, rfl, rfl⟩ := ex_cells ht0
 simp only [Nat.zero_mul, Nat.add_zero] at z0_0 z0_1 z0_2 z0_3 z0_4 z0_5
 have K0_0 := Lib.hid z0_0
 have K0_1 := Lib.hid z0_1
 have K0_2 := Lib.hid z0_2
 have K0_3 := Lib.hid z0_3
 have K0_4 := Lib.hid z0_4
 have K0_5 := Lib.hid z0_5
 clear z0_0 z0_1 z0_2 z0_3 z0_4 z0_5
 have HT0 := Lib.hid ht0
 clear ht0
 have HV := Lib.hid hv
 clear hv
 have HOK := Lib.hid hok
 clear hok hat
 have HTY := Lib.hid hty
 clear hty
 have HNM := Lib.hid hnm
 clear hnm
 have HERR := Lib.hid herr
 have HMT := Lib.hid hmt
 clear herr hmt
 have IHS := Lib.hid ihs
 clear ihs
 have hcn : (Ex.node 12 nm n ty es).count = 1 + Ex.counts es := count_node (by omega)
 have hcp0 := count_part es 0 hq0
 have hcm := HOK.out.2.2.2
 rw [hcn] at hcm
 obtain ⟨N, hN⟩ : ∃ N, N = (Ex.node 12 nm n ty es).count := ⟨_, rfl⟩
 rw [← hN] at hcn
 rw [← hN]
 have hsz9 : ∀ x, synE (d + 1) C (.node 12 nm n ty es) = some x → x.size ≤ 16 * N + 1 := fun x hx => by have h := syn_size (d + 1) C _ x HOK.out.2.1 HOK.out.1 hx; rw [hN]; exact h
 have HSZ9 := Lib.hid hsz9
 clear hsz9 hN
 rw [hlen]
 clear hlen
 have HR := Lib.hid (syn_partI12 d C nm n ty es hq0)
 obtain ⟨w0, hw0, B, hz_w0, XE, FE, XR, FR⟩ := laid2 w #[.int .i64 12, .string nm, .int .i64 n, .int .i64 tk, .slice ta tn tc, .slice (some ⟨b, off, none⟩) 1 sc] 40 #[.int .i64 0, .slice none 0 0] 33
 replace B := Lib.hid B
 go_enter Tryz.func79, Tryz.ntmps79
 have k0_0 := K0_0.out
 have k0_1 := K0_1.out
 have k0_2 := K0_2.out
 have k0_3 := K0_3.out
 have k0_4 := K0_4.out
 have k0_5 := K0_5.out
 go_wp2_with fail
 clear k0_0 k0_1 k0_2 k0_3 k0_4 k0_5
 rw [← hw0]
 clear hw0
 obtain ⟨r0, hr0⟩ : ∃ r, synE d C es[0] = r := ⟨_, rfl⟩
 have CS := IHS.out D pe _ _ C es[0] w0 (HV.out.below B.out) (HT0.out.below B.out) (HOK.out.part 0 hq0) (HERR.out.below B.out) (HMT.out.below B.out)
 rw [hr0] at CS
 have HS0 := Lib.hid hr0
 clear hr0
 refine (CS).mono ?_
 rintro e w1 ⟨D1, r1k, r1a, r1n, r1c, t0, rfl, ho, hsz0, hgx, hb⟩
 have Os1 := Lib.hid ho
 clear ho
 have hz_w1 := hb.size
 replace B := bb B hb
 replace XE := xb XE hb
 replace FE := fb FE hb
 replace XR := xb XR hb
 replace FR := fb FR hb
 clear hb
 cases r0 with
 | none =>
  have hgz1 := hsz0
  clear hgx
  rw [show errOf pe (Option.isSome (none : Option Ty)) = .iface 141 (.pointer (some pe)) from rfl]
  obtain ⟨wa2, hwa2, hb, hy_wa2, XT6, FT6⟩ := laid1 w1 #[.int .i64 r1k, .slice r1a r1n r1c] 33
  have hz_wa2 := hb.size
  replace B := bb B hb
  replace XE := xb XE hb
  replace FE := fb FE hb
  replace XR := xb XR hb
  replace FR := fb FR hb
  replace Os1 := ob Os1 hb
  clear hb
  have cE_0 := XE.out.2 0
  have cE_1 := XE.out.2 1
  have cE_2 := XE.out.2 2
  have cE_3 := XE.out.2 3
  have cE_4 := XE.out.2 4
  have cE_5 := XE.out.2 5
  have cR_0 := XR.out.2 0
  have cR_1 := XR.out.2 1
  have cT6_0 := XT6.out.2 0
  have cT6_1 := XT6.out.2 1
  have fR_0 := FR.out.2 0
  have fR_1 := FR.out.2 1
  rw [hwa2] at cE_0
  rw [hwa2] at cE_1
  rw [hwa2] at cE_2
  rw [hwa2] at cE_3
  rw [hwa2] at cE_4
  rw [hwa2] at cE_5
  rw [hwa2] at cR_0
  rw [hwa2] at cR_1
  rw [hwa2] at cT6_0
  rw [hwa2] at cT6_1
  rw [hwa2] at fR_0
  rw [hwa2] at fR_1
  go_wp2_with fail
  clear cE_0 cE_1 cE_2 cE_3 cE_4 cE_5 cR_0 cR_1 cT6_0 cT6_1 fR_0 fR_1
  rw [← hwa2]
  clear hwa2
  have XZ := put2_box (u := .int .i64 0) (v := .slice none 0 0) XR.out
  have h0 := XZ.2 0
  have h1 := XZ.2 1
  unfold put2 at h0 h1
  have hwz0 := B.out.size
  have HW : Hid (synE (d + 1) C (.node 12 nm n ty es) = none) := by show _ = _; rw [HR.out, HS0.out]; rfl
  refine bodyPost_ret (v := .tuple #[.agg #[.int .i64 0, .slice none 0 0], .iface 141 (.pointer (some pe))]) (by simp [results, Tryz.results79, go_sem, h0, h1]) rfl ?_
  exact isyn_ret_no (lo := w.heap.size) (hi := w.heap.size) HW.out (leaf_in _ 0 _ _ (by omega) (by omega) (by first | omega | (simp; omega) | simp)) (Nat.le_refl _) (by first | omega | (simp; omega) | simp) (by simp [Ty.size, Ty.sizes]) (put2_below B.out (by omega))
 | some tt0 =>
  obtain rfl : t0 = tt0 := hgx _ rfl
  clear hgx
  rw [show errOf pe (Option.isSome (some t0)) = .nilIface from rfl]
  obtain ⟨wa2, hwa2, hb, hy_wa2, XT6, FT6⟩ := laid1 w1 #[.int .i64 r1k, .slice r1a r1n r1c] 33
  have hz_wa2 := hb.size
  replace B := bb B hb
  replace XE := xb XE hb
  replace FE := fb FE hb
  replace XR := xb XR hb
  replace FR := fb FR hb
  replace Os1 := ob Os1 hb
  clear hb
  have cE_0 := XE.out.2 0
  have cE_1 := XE.out.2 1
  have cE_2 := XE.out.2 2
  have cE_3 := XE.out.2 3
  have cE_4 := XE.out.2 4
  have cE_5 := XE.out.2 5
  have cR_0 := XR.out.2 0
  have cR_1 := XR.out.2 1
  have cT6_0 := XT6.out.2 0
  have cT6_1 := XT6.out.2 1
  have fR_0 := FR.out.2 0
  have fR_1 := FR.out.2 1
  rw [hwa2] at cE_0
  rw [hwa2] at cE_1
  rw [hwa2] at cE_2
  rw [hwa2] at cE_3
  rw [hwa2] at cE_4
  rw [hwa2] at cE_5
  rw [hwa2] at cR_0
  rw [hwa2] at cR_1
  rw [hwa2] at cT6_0
  rw [hwa2] at cT6_1
  rw [hwa2] at fR_0
  rw [hwa2] at fR_1
  go_wp2_with fail
  clear cE_0 cE_1 cE_2 cE_3 cE_4 cE_5 cR_0 cR_1 cT6_0 cT6_1 fR_0 fR_1
  rw [← hwa2]
  clear hwa2
  refine (Calls.mono (implMatchPair _ _ _ _ Os1.out.at_ (by omega)) (fun _ _ h => match_b rfl h)).mono ?_
  rintro e w3 ⟨D9, p1k, p1a, p1n, p1c, p2k, p2a, p2n, p2c, mid, rfl, hm, ho1, ho2, hb⟩
  have Op1 := Lib.hid ho1
  clear ho1
  have Op2 := Lib.hid ho2
  clear ho2
  have hz_w3 := hb.size
  replace B := bb B hb
  replace XE := xb XE hb
  replace FE := fb FE hb
  replace XR := xb XR hb
  replace FR := fb FR hb
  replace XT6 := xb XT6 hb
  replace FT6 := fb FT6 hb
  replace Os1 := ob Os1 hb
  clear hb
  obtain ⟨wa4, hwa4, hb, hy_wa4, XT8, FT8, XT9, FT9⟩ := laid2 w3 #[.int .i64 p1k, .slice p1a p1n p1c] 33 #[.int .i64 p2k, .slice p2a p2n p2c] 33
  have hz_wa4 := hb.size
  replace B := bb B hb
  replace XE := xb XE hb
  replace FE := fb FE hb
  replace XR := xb XR hb
  replace FR := fb FR hb
  replace XT6 := xb XT6 hb
  replace FT6 := fb FT6 hb
  replace Os1 := ob Os1 hb
  replace Op1 := ob Op1 hb
  replace Op2 := ob Op2 hb
  clear hb
  have cE_0 := XE.out.2 0
  have cE_1 := XE.out.2 1
  have cE_2 := XE.out.2 2
  have cE_3 := XE.out.2 3
  have cE_4 := XE.out.2 4
  have cE_5 := XE.out.2 5
  rw [hwa4] at cE_0
  rw [hwa4] at cE_1
  rw [hwa4] at cE_2
  rw [hwa4] at cE_3
  rw [hwa4] at cE_4
  rw [hwa4] at cE_5
  go_wp2_with fail
  clear cE_0 cE_1 cE_2 cE_3 cE_4 cE_5
  rw [← hwa4]
  clear hwa4
  have HE9 : Hid (synE (d + 1) C (.node 12 nm n ty es) = onlyIf (t0.parts 5).2.2 (t0.parts 5).2.1) := by show _ = _; rw [HR.out, HS0.out]; rfl
  obtain ⟨wd5, hwd5⟩ : ∃ W, W = wa4.drew := ⟨_, rfl⟩
  have hb : Below wa4.heap.size wa4 wd5 := by rw [hwd5]; exact below_drew _
  have hz_wd5 := hb.size
  replace B := bb B hb
  replace XE := xb XE hb
  replace FE := fb FE hb
  replace XR := xb XR hb
  replace FR := fb FR hb
  replace XT6 := xb XT6 hb
  replace FT6 := fb FT6 hb
  replace XT8 := xb XT8 hb
  replace FT8 := fb FT8 hb
  replace XT9 := xb XT9 hb
  replace FT9 := fb FT9 hb
  replace Os1 := ob Os1 hb
  replace Op1 := ob Op1 hb
  replace Op2 := ob Op2 hb
  clear hb
  refine wp_region_held_drew (S := fun w' => w'.cell? ⟨w3.heap.size + 1, 0, none⟩ = some (.int .i64 p2k) ∧ w'.cell? ⟨w3.heap.size + 1, 1, none⟩ = some (.slice p2a p2n p2c)) (by kernel_rfl) (by rw [← hwd5]; exact ⟨XT9.out.2 0, XT9.out.2 1⟩) (fun hHeld => ?_)
  rw [← hwd5] at hHeld ⊢
  clear hwd5
  refine wpAnyH_take (i := 0) (v := ?v12_0) rfl (by kernel_rfl) (by kernel_rfl) (by kernel_rfl) (fun _ _ _ h => h) (Or.inl ⟨by kernel_rfl, ?hy12_0⟩) hHeld ?rest12_0
  case hy12_0 =>
   intro w hSw
   (try dsimp only at hSw)
   go_simp
   all_goals (first | done | with_reducible rfl)
  try simp only [Act.put]
  try simp only [List.setIfInBounds_toArray]
  try simp only [List.set_cons_succ]
  try simp only [List.set_cons_zero]
  refine wpAnyH_take (i := 1) (v := ?v13_1) rfl (by kernel_rfl) (by kernel_rfl) (by kernel_rfl) (fun _ _ _ h => h) (Or.inl ⟨by kernel_rfl, ?hy13_1⟩) hHeld ?rest13_1
  case hy13_1 =>
   intro w hSw
   (try dsimp only at hSw)
   go_simp
   all_goals (first | done | with_reducible rfl)
  try simp only [Act.put]
  try simp only [List.setIfInBounds_toArray]
  try simp only [List.set_cons_succ]
  try simp only [List.set_cons_zero]
  refine wpAnyH_ready (rs := [2]) (by kernel_rfl) (by simp) ?_
  refine AllReadyH.cons rfl (fun K hK => ?_) AllReadyH.nil
  go_simp
  go_at_call 69
  refine (implUnless _ _ pe (HERR.out.below B.out)).mono ?_
  rintro e w6 ⟨rfl, hb⟩
  have hz_w6 := hb.size
  replace B := bb B hb
  replace XE := xb XE hb
  replace FE := fb FE hb
  replace XR := xb XR hb
  replace FR := fb FR hb
  replace XT6 := xb XT6 hb
  replace FT6 := fb FT6 hb
  replace XT8 := xb XT8 hb
  replace FT8 := fb FT8 hb
  replace XT9 := xb XT9 hb
  replace FT9 := fb FT9 hb
  replace Os1 := ob Os1 hb
  replace Op1 := ob Op1 hb
  replace Op2 := ob Op2 hb
  clear hb
  clear hHeld
  try go_wp2_with fail
  refine hK.out _ _ (by exact ⟨XT9.out.2 0, XT9.out.2 1⟩) (fun hHeld => ?_)
  clear hK K
  try simp only [Act.put]
  try simp only [List.setIfInBounds_toArray]
  try simp only [List.set_cons_succ]
  try simp only [List.set_cons_zero]
  have cR_0 := XR.out.2 0
  have cR_1 := XR.out.2 1
  have fR_0 := FR.out.2 0
  have fR_1 := FR.out.2 1
  refine wpAnyH_ready (rs := [3]) (by kernel_rfl) (by simp) ?_
  refine AllReadyH.cons rfl (fun K hK => ?_) AllReadyH.nil
  go_simp
  clear cR_0 cR_1 fR_0 fR_1
  clear hHeld
  try go_wp2_with fail
  obtain ⟨ws7, hws7⟩ : ∃ W, W = put2 w6 (w.heap.size + 1) (.int .i64 p2k) (.slice p2a p2n p2c) := ⟨_, rfl⟩
  have hy_ws7 : ws7.heap.size = w6.heap.size := by rw [hws7]; exact put2_size
  replace XE := xo hws7 XE (by omega)
  replace FE := fo hws7 FE
  replace XR := xs hws7 XR
  replace FR := fo hws7 FR
  replace XT6 := xo hws7 XT6 (by omega)
  replace FT6 := fo hws7 FT6
  replace XT8 := xo hws7 XT8 (by omega)
  replace FT8 := fo hws7 FT8
  replace XT9 := xo hws7 XT9 (by omega)
  replace FT9 := fo hws7 FT9
  replace Os1 := oo hws7 Os1 (by omega)
  replace Op1 := oo hws7 Op1 (by omega)
  replace Op2 := oo hws7 Op2 (by omega)
  replace B := bo hws7 B (by omega)
  unfold put2 at hws7
  rw [← hws7]
  clear hws7
  refine hK.out _ _ (by exact ⟨XT9.out.2 0, XT9.out.2 1⟩) (fun hHeld => ?_)
  clear hK K
  try simp only [Act.put]
  try simp only [List.setIfInBounds_toArray]
  try simp only [List.set_cons_succ]
  try simp only [List.set_cons_zero]
  refine wpAnyH_ready (rs := [4]) (by kernel_rfl) (by simp) ?_
  refine AllReadyH.cons rfl (fun K hK => ?_) AllReadyH.nil
  go_simp
  refine hK.out _ _ hHeld (fun hHeld => ?_)
  clear hK K
  try simp only [Act.put]
  try simp only [List.setIfInBounds_toArray]
  try simp only [List.set_cons_succ]
  try simp only [List.set_cons_zero]
  refine wpAnyH_done (by kernel_rfl) ?_ _
  try simp only [List.getElem_toArray]
  try simp only [List.getElem_cons_succ]
  try simp only [List.getElem_cons_zero]
  try simp only [Act.put]
  try simp only [List.setIfInBounds_toArray]
  try simp only [List.set_cons_succ]
  try simp only [List.set_cons_zero]
  go_wp2_with fail
  have h0 := XR.out.2 0
  have h1 := XR.out.2 1
  have htop := own_top Op2.out
  have HW : Hid ((synE (d + 1) C (.node 12 nm n ty es)).isSome = ((t0.parts 5).2.2)) := by show _ = _; rw [HE9.out, onlyIf_some]
  refine bodyPost_ret (v := .tuple #[.agg #[.int .i64 p2k, .slice p2a p2n p2c], errOf pe ((t0.parts 5).2.2)]) (by simp [results, Tryz.results79, go_sem, h0, h1]) rfl ?_
  exact ⟨_, _, _, _, _, (t0.parts 5).2.1, by rw [HW.out], (Op2.out).widen (by omega) (by first | (simp; omega) | simp | omega) (Nat.le_refl _), (by have := (parts_size 5 t0).2; omega), (fun x h => by rw [HE9.out] at h; exact onlyIf_is h), B.out⟩
end Go.Proofs.YteffjeejbdjjpaaGreatDoor
