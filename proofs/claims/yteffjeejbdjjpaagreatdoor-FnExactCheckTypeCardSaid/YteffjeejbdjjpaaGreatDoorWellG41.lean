/-
  Proved: impl.synth: leaves, variables, what others synthesize.
-/
import Derived.Test.YteffjeejbdjjpaaGreatDoorWellG37
import Derived.Test.YteffjeejbdjjpaaGreatDoorWellG40
import Derived.Test.YteffjeejbdjjpaaGreatDoorWellG39
import Derived.Test.YteffjeejbdjjpaaGreatDoorWellG3
import Derived.Test.YteffjeejbdjjpaaGreatDoorWellG15
import Derived.Test.YteffjeejbdjjpaaGreatDoorWellG20
namespace Go.Proofs.YteffjeejbdjjpaaGreatDoor
open Go.RowKit

set_option maxRecDepth 100000 in
set_option maxHeartbeats 2000000 in
theorem implSyn1 (d : Nat)  (D : Nat) (pe : Addr) (vc v : Value) (C : List Bi) (nm : ByteArray) (n : Int) (ty : Ty) (es : List Ex) (w : World) (hv : BisAt w D vc C) (he : ExAt w (d + 1) v (.node 1 nm n ty es)) (hok : TypOk C (.node 1 nm n ty es)) (herr : ErrAt w pe) (hmt : MeetTab w) :
  Calls Tryz.prog 34 #[vc, v] w (ISynEnd pe (synE (d + 1) C (.node 1 nm n ty es)) (16 * (Ex.node 1 nm n ty es).count + 1) w) := by
 obtain ⟨c3, c4, sl, hx, hk0, hk1, hn0, hn1, hnm, hty, sa, sc, hsl, hcap, hcap2, hat⟩ := he
 subst hsl
 obtain ⟨tk, ta, tn, tc, rfl, rfl⟩ := at_parts hty
 subst hx
 obtain ⟨va, vn, vc1, rfl⟩ : ∃ a n c, vc = .slice a n c := by obtain ⟨a, cap, hv, _⟩ := hv; exact ⟨_, _, _, hv⟩
 have hlen : es.length = 0 := by have h1 := (form_parts hok.1).1; have h2 : arity 1 = 0 := rfl; omega
 have HV := Lib.hid hv
 clear hv
 have HOK := Lib.hid hok
 clear hok hat
 have HTY := Lib.hid hty
 clear hty
 have HNM := Lib.hid hnm
 clear hnm
 have HERR := Lib.hid herr
 have HMT := Lib.hid hmt
 clear herr hmt
 have hcn : (Ex.node 1 nm n ty es).count = 1 + Ex.counts es := count_node (by omega)
 have hcm := HOK.out.2.2.2
 rw [hcn] at hcm
 obtain ⟨N, hN⟩ : ∃ N, N = (Ex.node 1 nm n ty es).count := ⟨_, rfl⟩
 rw [← hN] at hcn
 rw [← hN]
 have hsz9 : ∀ x, synE (d + 1) C (.node 1 nm n ty es) = some x → x.size ≤ 16 * N + 1 := fun x hx => by have h := syn_size (d + 1) C _ x HOK.out.2.1 HOK.out.1 hx; rw [hN]; exact h
 have HSZ9 := Lib.hid hsz9
 clear hsz9 hN
 clear hlen
 obtain ⟨w0, hw0, B, hz_w0, XE, FE, XR, FR⟩ := laid2 w #[.int .i64 1, .string nm, .int .i64 n, .int .i64 tk, .slice ta tn tc, .slice sa es.length sc] 40 #[.int .i64 0, .slice none 0 0] 33
 replace B := Lib.hid B
 go_enter Tryz.func34, Tryz.ntmps34
 go_wp2_with fail
 rw [← hw0]
 clear hw0
 refine (implUnknownType _).mono ?_
 rintro e w1 ⟨rfl, hb⟩
 have hz_w1 := hb.size
 replace B := bb B hb
 replace XE := xb XE hb
 replace FE := fb FE hb
 replace XR := xb XR hb
 replace FR := fb FR hb
 clear hb
 have cR_0 := XR.out.2 0
 have cR_1 := XR.out.2 1
 have fR_0 := FR.out.2 0
 have fR_1 := FR.out.2 1
 go_wp2_with fail
 clear cR_0 cR_1 fR_0 fR_1
 have XZ := put2_box (u := .int .i64 1) (v := .slice none 0 0) XR.out
 have h0 := XZ.2 0
 have h1 := XZ.2 1
 unfold put2 at h0 h1
 have hwz0 := B.out.size
 have HW : Hid (synE (d + 1) C (.node 1 nm n ty es) = some tyU) := by show _ = _; rw [synE_succ]; simp [synStep]
 refine bodyPost_ret (v := .tuple #[.agg #[.int .i64 1, .slice none 0 0], .nilIface]) (by simp [results, Tryz.results34, go_sem, h0, h1]) rfl ?_
 exact isyn_ret_yes (lo := w.heap.size) (hi := w.heap.size) HW.out (leaf_in _ 1 _ _ (by omega) (by omega) (by first | omega | (simp; omega) | simp)) (Nat.le_refl _) (by first | omega | (simp; omega) | simp) (HSZ9.out _ HW.out) (put2_below B.out (by omega))
set_option maxRecDepth 100000 in
set_option maxHeartbeats 2000000 in
theorem implSyn5 (d : Nat)  (D : Nat) (pe : Addr) (vc v : Value) (C : List Bi) (nm : ByteArray) (n : Int) (ty : Ty) (es : List Ex) (w : World) (hv : BisAt w D vc C) (he : ExAt w (d + 1) v (.node 5 nm n ty es)) (hok : TypOk C (.node 5 nm n ty es)) (herr : ErrAt w pe) (hmt : MeetTab w) :
  Calls Tryz.prog 34 #[vc, v] w (ISynEnd pe (synE (d + 1) C (.node 5 nm n ty es)) (16 * (Ex.node 5 nm n ty es).count + 1) w) := by
 obtain ⟨c3, c4, sl, hx, hk0, hk1, hn0, hn1, hnm, hty, sa, sc, hsl, hcap, hcap2, hat⟩ := he
 subst hsl
 obtain ⟨tk, ta, tn, tc, rfl, rfl⟩ := at_parts hty
 subst hx
 obtain ⟨va, vn, vc1, rfl⟩ : ∃ a n c, vc = .slice a n c := by obtain ⟨a, cap, hv, _⟩ := hv; exact ⟨_, _, _, hv⟩
 have hlen : es.length = 0 := by have h1 := (form_parts hok.1).1; have h2 : arity 5 = 0 := rfl; omega
 have HV := Lib.hid hv
 clear hv
 have HOK := Lib.hid hok
 clear hok hat
 have HTY := Lib.hid hty
 clear hty
 have HNM := Lib.hid hnm
 clear hnm
 have HERR := Lib.hid herr
 have HMT := Lib.hid hmt
 clear herr hmt
 have hcn : (Ex.node 5 nm n ty es).count = 1 + Ex.counts es := count_node (by omega)
 have hcm := HOK.out.2.2.2
 rw [hcn] at hcm
 obtain ⟨N, hN⟩ : ∃ N, N = (Ex.node 5 nm n ty es).count := ⟨_, rfl⟩
 rw [← hN] at hcn
 rw [← hN]
 have hsz9 : ∀ x, synE (d + 1) C (.node 5 nm n ty es) = some x → x.size ≤ 16 * N + 1 := fun x hx => by have h := syn_size (d + 1) C _ x HOK.out.2.1 HOK.out.1 hx; rw [hN]; exact h
 have HSZ9 := Lib.hid hsz9
 clear hsz9 hN
 clear hlen
 obtain ⟨w0, hw0, B, hz_w0, XE, FE, XR, FR⟩ := laid2 w #[.int .i64 5, .string nm, .int .i64 n, .int .i64 tk, .slice ta tn tc, .slice sa es.length sc] 40 #[.int .i64 0, .slice none 0 0] 33
 replace B := Lib.hid B
 go_enter Tryz.func34, Tryz.ntmps34
 go_wp2_with fail
 rw [← hw0]
 clear hw0
 refine (implNumType _).mono ?_
 rintro e w1 ⟨rfl, hb⟩
 have hz_w1 := hb.size
 replace B := bb B hb
 replace XE := xb XE hb
 replace FE := fb FE hb
 replace XR := xb XR hb
 replace FR := fb FR hb
 clear hb
 have cR_0 := XR.out.2 0
 have cR_1 := XR.out.2 1
 have fR_0 := FR.out.2 0
 have fR_1 := FR.out.2 1
 go_wp2_with fail
 clear cR_0 cR_1 fR_0 fR_1
 have XZ := put2_box (u := .int .i64 2) (v := .slice none 0 0) XR.out
 have h0 := XZ.2 0
 have h1 := XZ.2 1
 unfold put2 at h0 h1
 have hwz0 := B.out.size
 have HW : Hid (synE (d + 1) C (.node 5 nm n ty es) = some tyN) := by show _ = _; rw [synE_succ]; simp [synStep]
 refine bodyPost_ret (v := .tuple #[.agg #[.int .i64 2, .slice none 0 0], .nilIface]) (by simp [results, Tryz.results34, go_sem, h0, h1]) rfl ?_
 exact isyn_ret_yes (lo := w.heap.size) (hi := w.heap.size) HW.out (leaf_in _ 2 _ _ (by omega) (by omega) (by first | omega | (simp; omega) | simp)) (Nat.le_refl _) (by first | omega | (simp; omega) | simp) (HSZ9.out _ HW.out) (put2_below B.out (by omega))
set_option maxRecDepth 100000 in
set_option maxHeartbeats 2000000 in
theorem implSyn8 (d : Nat)  (D : Nat) (pe : Addr) (vc v : Value) (C : List Bi) (nm : ByteArray) (n : Int) (ty : Ty) (es : List Ex) (w : World) (hv : BisAt w D vc C) (he : ExAt w (d + 1) v (.node 8 nm n ty es)) (hok : TypOk C (.node 8 nm n ty es)) (herr : ErrAt w pe) (hmt : MeetTab w) :
  Calls Tryz.prog 34 #[vc, v] w (ISynEnd pe (synE (d + 1) C (.node 8 nm n ty es)) (16 * (Ex.node 8 nm n ty es).count + 1) w) := by
 obtain ⟨c3, c4, sl, hx, hk0, hk1, hn0, hn1, hnm, hty, sa, sc, hsl, hcap, hcap2, hat⟩ := he
 subst hsl
 obtain ⟨tk, ta, tn, tc, rfl, rfl⟩ := at_parts hty
 subst hx
 obtain ⟨va, vn, vc1, rfl⟩ : ∃ a n c, vc = .slice a n c := by obtain ⟨a, cap, hv, _⟩ := hv; exact ⟨_, _, _, hv⟩
 have hlen : es.length = 0 := by have h1 := (form_parts hok.1).1; have h2 : arity 8 = 0 := rfl; omega
 have HV := Lib.hid hv
 clear hv
 have HOK := Lib.hid hok
 clear hok hat
 have HTY := Lib.hid hty
 clear hty
 have HNM := Lib.hid hnm
 clear hnm
 have HERR := Lib.hid herr
 have HMT := Lib.hid hmt
 clear herr hmt
 have hcn : (Ex.node 8 nm n ty es).count = 1 + Ex.counts es := count_node (by omega)
 have hcm := HOK.out.2.2.2
 rw [hcn] at hcm
 obtain ⟨N, hN⟩ : ∃ N, N = (Ex.node 8 nm n ty es).count := ⟨_, rfl⟩
 rw [← hN] at hcn
 rw [← hN]
 have hsz9 : ∀ x, synE (d + 1) C (.node 8 nm n ty es) = some x → x.size ≤ 16 * N + 1 := fun x hx => by have h := syn_size (d + 1) C _ x HOK.out.2.1 HOK.out.1 hx; rw [hN]; exact h
 have HSZ9 := Lib.hid hsz9
 clear hsz9 hN
 clear hlen
 obtain ⟨w0, hw0, B, hz_w0, XE, FE, XR, FR⟩ := laid2 w #[.int .i64 8, .string nm, .int .i64 n, .int .i64 tk, .slice ta tn tc, .slice sa es.length sc] 40 #[.int .i64 0, .slice none 0 0] 33
 replace B := Lib.hid B
 go_enter Tryz.func34, Tryz.ntmps34
 go_wp2_with fail
 rw [← hw0]
 clear hw0
 refine (implBoolType _).mono ?_
 rintro e w1 ⟨rfl, hb⟩
 have hz_w1 := hb.size
 replace B := bb B hb
 replace XE := xb XE hb
 replace FE := fb FE hb
 replace XR := xb XR hb
 replace FR := fb FR hb
 clear hb
 have cR_0 := XR.out.2 0
 have cR_1 := XR.out.2 1
 have fR_0 := FR.out.2 0
 have fR_1 := FR.out.2 1
 go_wp2_with fail
 clear cR_0 cR_1 fR_0 fR_1
 have XZ := put2_box (u := .int .i64 3) (v := .slice none 0 0) XR.out
 have h0 := XZ.2 0
 have h1 := XZ.2 1
 unfold put2 at h0 h1
 have hwz0 := B.out.size
 have HW : Hid (synE (d + 1) C (.node 8 nm n ty es) = some tyB) := by show _ = _; rw [synE_succ]; simp [synStep]
 refine bodyPost_ret (v := .tuple #[.agg #[.int .i64 3, .slice none 0 0], .nilIface]) (by simp [results, Tryz.results34, go_sem, h0, h1]) rfl ?_
 exact isyn_ret_yes (lo := w.heap.size) (hi := w.heap.size) HW.out (leaf_in _ 3 _ _ (by omega) (by omega) (by first | omega | (simp; omega) | simp)) (Nat.le_refl _) (by first | omega | (simp; omega) | simp) (HSZ9.out _ HW.out) (put2_below B.out (by omega))
set_option maxRecDepth 100000 in
set_option maxHeartbeats 2000000 in
theorem implSyn2 (d : Nat)  (D : Nat) (pe : Addr) (vc v : Value) (C : List Bi) (nm : ByteArray) (n : Int) (ty : Ty) (es : List Ex) (w : World) (hv : BisAt w D vc C) (he : ExAt w (d + 1) v (.node 2 nm n ty es)) (hok : TypOk C (.node 2 nm n ty es)) (herr : ErrAt w pe) (hmt : MeetTab w) :
  Calls Tryz.prog 34 #[vc, v] w (ISynEnd pe (synE (d + 1) C (.node 2 nm n ty es)) (16 * (Ex.node 2 nm n ty es).count + 1) w) := by
 obtain ⟨c3, c4, sl, hx, hk0, hk1, hn0, hn1, hnm, hty, sa, sc, hsl, hcap, hcap2, hat⟩ := he
 subst hsl
 obtain ⟨tk, ta, tn, tc, rfl, rfl⟩ := at_parts hty
 subst hx
 obtain ⟨va, vn, vc1, rfl⟩ : ∃ a n c, vc = .slice a n c := by obtain ⟨a, cap, hv, _⟩ := hv; exact ⟨_, _, _, hv⟩
 have hlen : es.length = 0 := by have h1 := (form_parts hok.1).1; have h2 : arity 2 = 0 := rfl; omega
 have HV := Lib.hid hv
 clear hv
 have HOK := Lib.hid hok
 clear hok hat
 have HTY := Lib.hid hty
 clear hty
 have HNM := Lib.hid hnm
 clear hnm
 have HERR := Lib.hid herr
 have HMT := Lib.hid hmt
 clear herr hmt
 have hcn : (Ex.node 2 nm n ty es).count = 1 + Ex.counts es := count_node (by omega)
 have hcm := HOK.out.2.2.2
 rw [hcn] at hcm
 obtain ⟨N, hN⟩ : ∃ N, N = (Ex.node 2 nm n ty es).count := ⟨_, rfl⟩
 rw [← hN] at hcn
 rw [← hN]
 have hsz9 : ∀ x, synE (d + 1) C (.node 2 nm n ty es) = some x → x.size ≤ 16 * N + 1 := fun x hx => by have h := syn_size (d + 1) C _ x HOK.out.2.1 HOK.out.1 hx; rw [hN]; exact h
 have HSZ9 := Lib.hid hsz9
 clear hsz9 hN
 clear hlen
 have hr : synE (d + 1) C (.node 2 nm n ty es) = Bi.look C nm := by rw [synE_succ]; simp [synStep]
 have HR := Lib.hid hr
 clear hr
 cases hl : Bi.look C nm with
 | none =>
  have HL := Lib.hid hl
  clear hl
  obtain ⟨w0, hw0, B, hz_w0, XE, FE, XR, FR⟩ := laid2 w #[.int .i64 2, .string nm, .int .i64 n, .int .i64 tk, .slice ta tn tc, .slice sa es.length sc] 40 #[.int .i64 0, .slice none 0 0] 33
  replace B := Lib.hid B
  go_enter Tryz.func34, Tryz.ntmps34
  go_wp2_with fail
  rw [← hw0]
  clear hw0
  have CL : Calls Tryz.prog 68 #[.slice va vn vc1, .string nm] w0 (SynNo w0) := by have h := (implLook D _ nm C _ (HV.out.below B.out) (by have := HOK.out.2.2.1; omega)).mono (fun _ _ h => look_b h); rw [HL.out] at h; exact h
  refine (CL).mono ?_
  rintro e w1 ⟨DL, lk, la, ln, lc, rfl, ho, hb⟩
  have Ol := Lib.hid ho
  clear ho
  have hz_w1 := hb.size
  replace B := bb B hb
  replace XE := xb XE hb
  replace FE := fb FE hb
  replace XR := xb XR hb
  replace FR := fb FR hb
  clear hb
  go_wp2_with fail
  obtain ⟨wa2, hwa2, hb, hy_wa2, XT6, FT6⟩ := laid1 w1 #[.int .i64 lk, .slice la ln lc] 33
  have hz_wa2 := hb.size
  replace B := bb B hb
  replace XE := xb XE hb
  replace FE := fb FE hb
  replace XR := xb XR hb
  replace FR := fb FR hb
  replace Ol := ob Ol hb
  clear hb
  rw [← hwa2]
  clear hwa2
  obtain ⟨wd3, hwd3⟩ : ∃ W, W = wa2.drew := ⟨_, rfl⟩
  have hb : Below wa2.heap.size wa2 wd3 := by rw [hwd3]; exact below_drew _
  have hz_wd3 := hb.size
  replace B := bb B hb
  replace XE := xb XE hb
  replace FE := fb FE hb
  replace XR := xb XR hb
  replace FR := fb FR hb
  replace XT6 := xb XT6 hb
  replace FT6 := fb FT6 hb
  replace Ol := ob Ol hb
  clear hb
  refine wp_region_held_drew (S := fun w' => w'.cell? ⟨w1.heap.size, 0, none⟩ = some (.int .i64 lk) ∧ w'.cell? ⟨w1.heap.size, 1, none⟩ = some (.slice la ln lc)) (by kernel_rfl) (by rw [← hwd3]; exact ⟨XT6.out.2 0, XT6.out.2 1⟩) (fun hHeld => ?_)
  rw [← hwd3] at hHeld ⊢
  clear hwd3
  refine wpAnyH_take (i := 0) (v := ?v39_0) rfl (by kernel_rfl) (by kernel_rfl) (by kernel_rfl) (fun _ _ _ h => h) (Or.inl ⟨by kernel_rfl, ?hy39_0⟩) hHeld ?rest39_0
  case hy39_0 =>
   intro w hSw
   (try dsimp only at hSw)
   go_simp
   all_goals (first | done | with_reducible rfl)
  try simp only [Act.put]
  try simp only [List.setIfInBounds_toArray]
  try simp only [List.set_cons_succ]
  try simp only [List.set_cons_zero]
  refine wpAnyH_take (i := 1) (v := ?v40_1) rfl (by kernel_rfl) (by kernel_rfl) (by kernel_rfl) (fun _ _ _ h => h) (Or.inl ⟨by kernel_rfl, ?hy40_1⟩) hHeld ?rest40_1
  case hy40_1 =>
   intro w hSw
   (try dsimp only at hSw)
   go_simp
   all_goals (first | done | with_reducible rfl)
  try simp only [Act.put]
  try simp only [List.setIfInBounds_toArray]
  try simp only [List.set_cons_succ]
  try simp only [List.set_cons_zero]
  refine wpAnyH_ready (rs := [2]) (by kernel_rfl) (by simp) ?_
  refine AllReadyH.cons rfl (fun K hK => ?_) AllReadyH.nil
  go_simp
  go_at_call 69
  refine (unlessNo _ pe (HERR.out.below B.out)).mono ?_
  rintro e w4 ⟨rfl, hb⟩
  have hz_w4 := hb.size
  replace B := bb B hb
  replace XE := xb XE hb
  replace FE := fb FE hb
  replace XR := xb XR hb
  replace FR := fb FR hb
  replace XT6 := xb XT6 hb
  replace FT6 := fb FT6 hb
  replace Ol := ob Ol hb
  clear hb
  clear hHeld
  try go_wp2_with fail
  refine hK.out _ _ (by exact ⟨XT6.out.2 0, XT6.out.2 1⟩) (fun hHeld => ?_)
  clear hK K
  try simp only [Act.put]
  try simp only [List.setIfInBounds_toArray]
  try simp only [List.set_cons_succ]
  try simp only [List.set_cons_zero]
  have cR_0 := XR.out.2 0
  have cR_1 := XR.out.2 1
  have fR_0 := FR.out.2 0
  have fR_1 := FR.out.2 1
  refine wpAnyH_ready (rs := [3]) (by kernel_rfl) (by simp) ?_
  refine AllReadyH.cons rfl (fun K hK => ?_) AllReadyH.nil
  go_simp
  clear cR_0 cR_1 fR_0 fR_1
  clear hHeld
  try go_wp2_with fail
  obtain ⟨ws5, hws5⟩ : ∃ W, W = put2 w4 (w.heap.size + 1) (.int .i64 lk) (.slice la ln lc) := ⟨_, rfl⟩
  have hy_ws5 : ws5.heap.size = w4.heap.size := by rw [hws5]; exact put2_size
  replace XE := xo hws5 XE (by omega)
  replace FE := fo hws5 FE
  replace XR := xs hws5 XR
  replace FR := fo hws5 FR
  replace XT6 := xo hws5 XT6 (by omega)
  replace FT6 := fo hws5 FT6
  replace Ol := oo hws5 Ol (by omega)
  replace B := bo hws5 B (by omega)
  unfold put2 at hws5
  rw [← hws5]
  clear hws5
  refine hK.out _ _ (by exact ⟨XT6.out.2 0, XT6.out.2 1⟩) (fun hHeld => ?_)
  clear hK K
  try simp only [Act.put]
  try simp only [List.setIfInBounds_toArray]
  try simp only [List.set_cons_succ]
  try simp only [List.set_cons_zero]
  refine wpAnyH_ready (rs := [4]) (by kernel_rfl) (by simp) ?_
  refine AllReadyH.cons rfl (fun K hK => ?_) AllReadyH.nil
  go_simp
  refine hK.out _ _ hHeld (fun hHeld => ?_)
  clear hK K
  try simp only [Act.put]
  try simp only [List.setIfInBounds_toArray]
  try simp only [List.set_cons_succ]
  try simp only [List.set_cons_zero]
  refine wpAnyH_done (by kernel_rfl) ?_ _
  try simp only [List.getElem_toArray]
  try simp only [List.getElem_cons_succ]
  try simp only [List.getElem_cons_zero]
  try simp only [Act.put]
  try simp only [List.setIfInBounds_toArray]
  try simp only [List.set_cons_succ]
  try simp only [List.set_cons_zero]
  go_wp2_with fail
  have h0 := XR.out.2 0
  have h1 := XR.out.2 1
  have htop := own_top Ol.out
  have HW : Hid (synE (d + 1) C (.node 2 nm n ty es) = none) := by show _ = _; rw [HR.out, HL.out]
  refine bodyPost_ret (v := .tuple #[.agg #[.int .i64 lk, .slice la ln lc], .iface 141 (.pointer (some pe))]) (by simp [results, Tryz.results34, go_sem, h0, h1]) rfl ?_
  exact isyn_ret_no HW.out Ol.out (by omega) (by first | (simp; omega) | simp | omega) (by simp [Ty.size, Ty.sizes]) B.out
 | some tl =>
  have HL := Lib.hid hl
  clear hl
  obtain ⟨w0, hw0, B, hz_w0, XE, FE, XR, FR⟩ := laid2 w #[.int .i64 2, .string nm, .int .i64 n, .int .i64 tk, .slice ta tn tc, .slice sa es.length sc] 40 #[.int .i64 0, .slice none 0 0] 33
  replace B := Lib.hid B
  go_enter Tryz.func34, Tryz.ntmps34
  go_wp2_with fail
  rw [← hw0]
  clear hw0
  have CL : Calls Tryz.prog 68 #[.slice va vn vc1, .string nm] w0 (SynYes tl w0) := by have h := (implLook D _ nm C _ (HV.out.below B.out) (by have := HOK.out.2.2.1; omega)).mono (fun _ _ h => look_b h); rw [HL.out] at h; exact h
  refine (CL).mono ?_
  rintro e w1 ⟨DL, lk, la, ln, lc, rfl, ho, hb⟩
  have Ol := Lib.hid ho
  clear ho
  have hz_w1 := hb.size
  replace B := bb B hb
  replace XE := xb XE hb
  replace FE := fb FE hb
  replace XR := xb XR hb
  replace FR := fb FR hb
  clear hb
  go_wp2_with fail
  obtain ⟨wa2, hwa2, hb, hy_wa2, XT6, FT6⟩ := laid1 w1 #[.int .i64 lk, .slice la ln lc] 33
  have hz_wa2 := hb.size
  replace B := bb B hb
  replace XE := xb XE hb
  replace FE := fb FE hb
  replace XR := xb XR hb
  replace FR := fb FR hb
  replace Ol := ob Ol hb
  clear hb
  rw [← hwa2]
  clear hwa2
  obtain ⟨wd3, hwd3⟩ : ∃ W, W = wa2.drew := ⟨_, rfl⟩
  have hb : Below wa2.heap.size wa2 wd3 := by rw [hwd3]; exact below_drew _
  have hz_wd3 := hb.size
  replace B := bb B hb
  replace XE := xb XE hb
  replace FE := fb FE hb
  replace XR := xb XR hb
  replace FR := fb FR hb
  replace XT6 := xb XT6 hb
  replace FT6 := fb FT6 hb
  replace Ol := ob Ol hb
  clear hb
  refine wp_region_held_drew (S := fun w' => w'.cell? ⟨w1.heap.size, 0, none⟩ = some (.int .i64 lk) ∧ w'.cell? ⟨w1.heap.size, 1, none⟩ = some (.slice la ln lc)) (by kernel_rfl) (by rw [← hwd3]; exact ⟨XT6.out.2 0, XT6.out.2 1⟩) (fun hHeld => ?_)
  rw [← hwd3] at hHeld ⊢
  clear hwd3
  refine wpAnyH_take (i := 0) (v := ?v41_0) rfl (by kernel_rfl) (by kernel_rfl) (by kernel_rfl) (fun _ _ _ h => h) (Or.inl ⟨by kernel_rfl, ?hy41_0⟩) hHeld ?rest41_0
  case hy41_0 =>
   intro w hSw
   (try dsimp only at hSw)
   go_simp
   all_goals (first | done | with_reducible rfl)
  try simp only [Act.put]
  try simp only [List.setIfInBounds_toArray]
  try simp only [List.set_cons_succ]
  try simp only [List.set_cons_zero]
  refine wpAnyH_take (i := 1) (v := ?v42_1) rfl (by kernel_rfl) (by kernel_rfl) (by kernel_rfl) (fun _ _ _ h => h) (Or.inl ⟨by kernel_rfl, ?hy42_1⟩) hHeld ?rest42_1
  case hy42_1 =>
   intro w hSw
   (try dsimp only at hSw)
   go_simp
   all_goals (first | done | with_reducible rfl)
  try simp only [Act.put]
  try simp only [List.setIfInBounds_toArray]
  try simp only [List.set_cons_succ]
  try simp only [List.set_cons_zero]
  refine wpAnyH_ready (rs := [2]) (by kernel_rfl) (by simp) ?_
  refine AllReadyH.cons rfl (fun K hK => ?_) AllReadyH.nil
  go_simp
  go_at_call 69
  refine (unlessYes _).mono ?_
  rintro e w4 ⟨rfl, hb⟩
  have hz_w4 := hb.size
  replace B := bb B hb
  replace XE := xb XE hb
  replace FE := fb FE hb
  replace XR := xb XR hb
  replace FR := fb FR hb
  replace XT6 := xb XT6 hb
  replace FT6 := fb FT6 hb
  replace Ol := ob Ol hb
  clear hb
  clear hHeld
  try go_wp2_with fail
  refine hK.out _ _ (by exact ⟨XT6.out.2 0, XT6.out.2 1⟩) (fun hHeld => ?_)
  clear hK K
  try simp only [Act.put]
  try simp only [List.setIfInBounds_toArray]
  try simp only [List.set_cons_succ]
  try simp only [List.set_cons_zero]
  have cR_0 := XR.out.2 0
  have cR_1 := XR.out.2 1
  have fR_0 := FR.out.2 0
  have fR_1 := FR.out.2 1
  refine wpAnyH_ready (rs := [3]) (by kernel_rfl) (by simp) ?_
  refine AllReadyH.cons rfl (fun K hK => ?_) AllReadyH.nil
  go_simp
  clear cR_0 cR_1 fR_0 fR_1
  clear hHeld
  try go_wp2_with fail
  obtain ⟨ws5, hws5⟩ : ∃ W, W = put2 w4 (w.heap.size + 1) (.int .i64 lk) (.slice la ln lc) := ⟨_, rfl⟩
  have hy_ws5 : ws5.heap.size = w4.heap.size := by rw [hws5]; exact put2_size
  replace XE := xo hws5 XE (by omega)
  replace FE := fo hws5 FE
  replace XR := xs hws5 XR
  replace FR := fo hws5 FR
  replace XT6 := xo hws5 XT6 (by omega)
  replace FT6 := fo hws5 FT6
  replace Ol := oo hws5 Ol (by omega)
  replace B := bo hws5 B (by omega)
  unfold put2 at hws5
  rw [← hws5]
  clear hws5
  refine hK.out _ _ (by exact ⟨XT6.out.2 0, XT6.out.2 1⟩) (fun hHeld => ?_)
  clear hK K
  try simp only [Act.put]
  try simp only [List.setIfInBounds_toArray]
  try simp only [List.set_cons_succ]
  try simp only [List.set_cons_zero]
  refine wpAnyH_ready (rs := [4]) (by kernel_rfl) (by simp) ?_
  refine AllReadyH.cons rfl (fun K hK => ?_) AllReadyH.nil
  go_simp
  refine hK.out _ _ hHeld (fun hHeld => ?_)
  clear hK K
  try simp only [Act.put]
  try simp only [List.setIfInBounds_toArray]
  try simp only [List.set_cons_succ]
  try simp only [List.set_cons_zero]
  refine wpAnyH_done (by kernel_rfl) ?_ _
  try simp only [List.getElem_toArray]
  try simp only [List.getElem_cons_succ]
  try simp only [List.getElem_cons_zero]
  try simp only [Act.put]
  try simp only [List.setIfInBounds_toArray]
  try simp only [List.set_cons_succ]
  try simp only [List.set_cons_zero]
  go_wp2_with fail
  have h0 := XR.out.2 0
  have h1 := XR.out.2 1
  have htop := own_top Ol.out
  have HW : Hid (synE (d + 1) C (.node 2 nm n ty es) = some tl) := by show _ = _; rw [HR.out, HL.out]
  refine bodyPost_ret (v := .tuple #[.agg #[.int .i64 lk, .slice la ln lc], .nilIface]) (by simp [results, Tryz.results34, go_sem, h0, h1]) rfl ?_
  exact isyn_ret_yes HW.out Ol.out (by omega) (by first | (simp; omega) | simp | omega) (HSZ9.out _ HW.out) B.out
set_option maxRecDepth 100000 in
set_option maxHeartbeats 2000000 in
theorem implSyn4 (d : Nat) (ihs : ImplSynSaid d) (iha : ImplAnaSaid d) (D : Nat) (pe : Addr) (vc v : Value) (C : List Bi) (nm : ByteArray) (n : Int) (ty : Ty) (es : List Ex) (w : World) (hv : BisAt w D vc C) (he : ExAt w (d + 1) v (.node 4 nm n ty es)) (hok : TypOk C (.node 4 nm n ty es)) (herr : ErrAt w pe) (hmt : MeetTab w) :
  Calls Tryz.prog 34 #[vc, v] w (ISynEnd pe (synE (d + 1) C (.node 4 nm n ty es)) (16 * (Ex.node 4 nm n ty es).count + 1) w) := by
 have HE := Lib.hid he
 have CS := Lib.hid fun w1 h1 h2 h3 h4 => implAp d ihs iha D pe vc v C nm n ty es w1 h1 h2 hok h3 h4
 obtain ⟨kd', nm', n', tk, ta, tn, tc, sa, sm, sc, hv2⟩ := ex_parts he
 obtain ⟨va, vn, vc1, rfl⟩ : ∃ a n c, vc = .slice a n c := by obtain ⟨a, cap, hv, _⟩ := hv; exact ⟨_, _, _, hv⟩
 subst hv2
 obtain ⟨hke, hne⟩ := ex_root he
 have hke2 : kd' = 4 := hke.symm
 subst hke2
 clear hke hne he
 have HV := Lib.hid hv
 have HERR := Lib.hid herr
 have HMT := Lib.hid hmt
 clear hv hok ihs iha herr hmt
 obtain ⟨w0, hw0, B, hz_w0, XE, FE, XR, FR⟩ := laid2 w #[.int .i64 4, .string nm', .int .i64 n', .int .i64 tk, .slice ta tn tc, .slice sa sm sc] 40 #[.int .i64 0, .slice none 0 0] 33
 replace B := Lib.hid B
 go_enter Tryz.func34, Tryz.ntmps34
 go_wp2_with fail
 rw [← hw0]
 clear hw0
 refine (CS.out _ (HV.out.below B.out) (HE.out.below B.out) (HERR.out.below B.out) (HMT.out.below B.out)).mono ?_
 rintro e w1 ⟨DL, lk, la, ln, lc, tl, rfl, ho, hgz, hgx, hb⟩
 have Ol := Lib.hid ho
 clear ho
 have hz_w1 := hb.size
 replace B := bb B hb
 replace XE := xb XE hb
 replace FE := fb FE hb
 replace XR := xb XR hb
 replace FR := fb FR hb
 clear hb
 have cR_0 := XR.out.2 0
 have cR_1 := XR.out.2 1
 have fR_0 := FR.out.2 0
 have fR_1 := FR.out.2 1
 go_wp2_with fail
 clear cR_0 cR_1 fR_0 fR_1
 have XZ := put2_box (u := .int .i64 lk) (v := .slice la ln lc) XR.out
 have h0 := XZ.2 0
 have h1 := XZ.2 1
 unfold put2 at h0 h1
 have htop := own_top Ol.out
 have HW : Hid ((synE (d + 1) C (.node 4 nm n ty es)).isSome = ((synE (d + 1) C (.node 4 nm n ty es)).isSome)) := by show _ = _; rfl
 refine bodyPost_ret (v := .tuple #[.agg #[.int .i64 lk, .slice la ln lc], errOf pe ((synE (d + 1) C (.node 4 nm n ty es)).isSome)]) (by simp [results, Tryz.results34, go_sem, h0, h1]) rfl ?_
 exact ⟨_, _, _, _, _, tl, by rw [HW.out], (put2_own Ol.out (by omega)).widen (by omega) (by first | (simp; omega) | simp | omega) (Nat.le_refl _), hgz, hgx, (put2_below B.out (by omega))⟩
set_option maxRecDepth 100000 in
set_option maxHeartbeats 2000000 in
theorem implSyn9 (d : Nat) (ihs : ImplSynSaid d) (iha : ImplAnaSaid d) (D : Nat) (pe : Addr) (vc v : Value) (C : List Bi) (nm : ByteArray) (n : Int) (ty : Ty) (es : List Ex) (w : World) (hv : BisAt w D vc C) (he : ExAt w (d + 1) v (.node 9 nm n ty es)) (hok : TypOk C (.node 9 nm n ty es)) (herr : ErrAt w pe) (hmt : MeetTab w) :
  Calls Tryz.prog 34 #[vc, v] w (ISynEnd pe (synE (d + 1) C (.node 9 nm n ty es)) (16 * (Ex.node 9 nm n ty es).count + 1) w) := by
 have HE := Lib.hid he
 have CS := Lib.hid fun w1 h1 h2 h3 h4 => implChoice d ihs iha D pe vc v C nm n ty es w1 h1 h2 hok h3 h4
 obtain ⟨kd', nm', n', tk, ta, tn, tc, sa, sm, sc, hv2⟩ := ex_parts he
 obtain ⟨va, vn, vc1, rfl⟩ : ∃ a n c, vc = .slice a n c := by obtain ⟨a, cap, hv, _⟩ := hv; exact ⟨_, _, _, hv⟩
 subst hv2
 obtain ⟨hke, hne⟩ := ex_root he
 have hke2 : kd' = 9 := hke.symm
 subst hke2
 clear hke hne he
 have HV := Lib.hid hv
 have HERR := Lib.hid herr
 have HMT := Lib.hid hmt
 clear hv hok ihs iha herr hmt
 obtain ⟨w0, hw0, B, hz_w0, XE, FE, XR, FR⟩ := laid2 w #[.int .i64 9, .string nm', .int .i64 n', .int .i64 tk, .slice ta tn tc, .slice sa sm sc] 40 #[.int .i64 0, .slice none 0 0] 33
 replace B := Lib.hid B
 go_enter Tryz.func34, Tryz.ntmps34
 go_wp2_with fail
 rw [← hw0]
 clear hw0
 refine (CS.out _ (HV.out.below B.out) (HE.out.below B.out) (HERR.out.below B.out) (HMT.out.below B.out)).mono ?_
 rintro e w1 ⟨DL, lk, la, ln, lc, tl, rfl, ho, hgz, hgx, hb⟩
 have Ol := Lib.hid ho
 clear ho
 have hz_w1 := hb.size
 replace B := bb B hb
 replace XE := xb XE hb
 replace FE := fb FE hb
 replace XR := xb XR hb
 replace FR := fb FR hb
 clear hb
 have cR_0 := XR.out.2 0
 have cR_1 := XR.out.2 1
 have fR_0 := FR.out.2 0
 have fR_1 := FR.out.2 1
 go_wp2_with fail
 clear cR_0 cR_1 fR_0 fR_1
 have XZ := put2_box (u := .int .i64 lk) (v := .slice la ln lc) XR.out
 have h0 := XZ.2 0
 have h1 := XZ.2 1
 unfold put2 at h0 h1
 have htop := own_top Ol.out
 have HW : Hid ((synE (d + 1) C (.node 9 nm n ty es)).isSome = ((synE (d + 1) C (.node 9 nm n ty es)).isSome)) := by show _ = _; rfl
 refine bodyPost_ret (v := .tuple #[.agg #[.int .i64 lk, .slice la ln lc], errOf pe ((synE (d + 1) C (.node 9 nm n ty es)).isSome)]) (by simp [results, Tryz.results34, go_sem, h0, h1]) rfl ?_
 exact ⟨_, _, _, _, _, tl, by rw [HW.out], (put2_own Ol.out (by omega)).widen (by omega) (by first | (simp; omega) | simp | omega) (Nat.le_refl _), hgz, hgx, (put2_below B.out (by omega))⟩
set_option maxRecDepth 100000 in
set_option maxHeartbeats 2000000 in
theorem implSyn11 (d : Nat) (ihs : ImplSynSaid d) (D : Nat) (pe : Addr) (vc v : Value) (C : List Bi) (nm : ByteArray) (n : Int) (ty : Ty) (es : List Ex) (w : World) (hv : BisAt w D vc C) (he : ExAt w (d + 1) v (.node 11 nm n ty es)) (hok : TypOk C (.node 11 nm n ty es)) (herr : ErrAt w pe) (hmt : MeetTab w) :
  Calls Tryz.prog 34 #[vc, v] w (ISynEnd pe (synE (d + 1) C (.node 11 nm n ty es)) (16 * (Ex.node 11 nm n ty es).count + 1) w) := by
 have HE := Lib.hid he
 have CS := Lib.hid fun w1 h1 h2 h3 h4 => implPart11 d ihs D pe vc v C nm n ty es w1 h1 h2 hok h3 h4
 obtain ⟨kd', nm', n', tk, ta, tn, tc, sa, sm, sc, hv2⟩ := ex_parts he
 obtain ⟨va, vn, vc1, rfl⟩ : ∃ a n c, vc = .slice a n c := by obtain ⟨a, cap, hv, _⟩ := hv; exact ⟨_, _, _, hv⟩
 subst hv2
 obtain ⟨hke, hne⟩ := ex_root he
 have hke2 : kd' = 11 := hke.symm
 subst hke2
 clear hke hne he
 have HV := Lib.hid hv
 have HERR := Lib.hid herr
 have HMT := Lib.hid hmt
 clear hv hok ihs herr hmt
 obtain ⟨w0, hw0, B, hz_w0, XE, FE, XR, FR⟩ := laid2 w #[.int .i64 11, .string nm', .int .i64 n', .int .i64 tk, .slice ta tn tc, .slice sa sm sc] 40 #[.int .i64 0, .slice none 0 0] 33
 replace B := Lib.hid B
 go_enter Tryz.func34, Tryz.ntmps34
 go_wp2_with fail
 rw [← hw0]
 clear hw0
 refine (CS.out _ (HV.out.below B.out) (HE.out.below B.out) (HERR.out.below B.out) (HMT.out.below B.out)).mono ?_
 rintro e w1 ⟨DL, lk, la, ln, lc, tl, rfl, ho, hgz, hgx, hb⟩
 have Ol := Lib.hid ho
 clear ho
 have hz_w1 := hb.size
 replace B := bb B hb
 replace XE := xb XE hb
 replace FE := fb FE hb
 replace XR := xb XR hb
 replace FR := fb FR hb
 clear hb
 have cR_0 := XR.out.2 0
 have cR_1 := XR.out.2 1
 have fR_0 := FR.out.2 0
 have fR_1 := FR.out.2 1
 go_wp2_with fail
 clear cR_0 cR_1 fR_0 fR_1
 have XZ := put2_box (u := .int .i64 lk) (v := .slice la ln lc) XR.out
 have h0 := XZ.2 0
 have h1 := XZ.2 1
 unfold put2 at h0 h1
 have htop := own_top Ol.out
 have HW : Hid ((synE (d + 1) C (.node 11 nm n ty es)).isSome = ((synE (d + 1) C (.node 11 nm n ty es)).isSome)) := by show _ = _; rfl
 refine bodyPost_ret (v := .tuple #[.agg #[.int .i64 lk, .slice la ln lc], errOf pe ((synE (d + 1) C (.node 11 nm n ty es)).isSome)]) (by simp [results, Tryz.results34, go_sem, h0, h1]) rfl ?_
 exact ⟨_, _, _, _, _, tl, by rw [HW.out], (put2_own Ol.out (by omega)).widen (by omega) (by first | (simp; omega) | simp | omega) (Nat.le_refl _), hgz, hgx, (put2_below B.out (by omega))⟩
set_option maxRecDepth 100000 in
set_option maxHeartbeats 2000000 in
theorem implSyn12 (d : Nat) (ihs : ImplSynSaid d) (D : Nat) (pe : Addr) (vc v : Value) (C : List Bi) (nm : ByteArray) (n : Int) (ty : Ty) (es : List Ex) (w : World) (hv : BisAt w D vc C) (he : ExAt w (d + 1) v (.node 12 nm n ty es)) (hok : TypOk C (.node 12 nm n ty es)) (herr : ErrAt w pe) (hmt : MeetTab w) :
  Calls Tryz.prog 34 #[vc, v] w (ISynEnd pe (synE (d + 1) C (.node 12 nm n ty es)) (16 * (Ex.node 12 nm n ty es).count + 1) w) := by
 have HE := Lib.hid he
 have CS := Lib.hid fun w1 h1 h2 h3 h4 => implPart12 d ihs D pe vc v C nm n ty es w1 h1 h2 hok h3 h4
 obtain ⟨kd', nm', n', tk, ta, tn, tc, sa, sm, sc, hv2⟩ := ex_parts he
 obtain ⟨va, vn, vc1, rfl⟩ : ∃ a n c, vc = .slice a n c := by obtain ⟨a, cap, hv, _⟩ := hv; exact ⟨_, _, _, hv⟩
 subst hv2
 obtain ⟨hke, hne⟩ := ex_root he
 have hke2 : kd' = 12 := hke.symm
 subst hke2
 clear hke hne he
 have HV := Lib.hid hv
 have HERR := Lib.hid herr
 have HMT := Lib.hid hmt
 clear hv hok ihs herr hmt
 obtain ⟨w0, hw0, B, hz_w0, XE, FE, XR, FR⟩ := laid2 w #[.int .i64 12, .string nm', .int .i64 n', .int .i64 tk, .slice ta tn tc, .slice sa sm sc] 40 #[.int .i64 0, .slice none 0 0] 33
 replace B := Lib.hid B
 go_enter Tryz.func34, Tryz.ntmps34
 go_wp2_with fail
 rw [← hw0]
 clear hw0
 refine (CS.out _ (HV.out.below B.out) (HE.out.below B.out) (HERR.out.below B.out) (HMT.out.below B.out)).mono ?_
 rintro e w1 ⟨DL, lk, la, ln, lc, tl, rfl, ho, hgz, hgx, hb⟩
 have Ol := Lib.hid ho
 clear ho
 have hz_w1 := hb.size
 replace B := bb B hb
 replace XE := xb XE hb
 replace FE := fb FE hb
 replace XR := xb XR hb
 replace FR := fb FR hb
 clear hb
 have cR_0 := XR.out.2 0
 have cR_1 := XR.out.2 1
 have fR_0 := FR.out.2 0
 have fR_1 := FR.out.2 1
 go_wp2_with fail
 clear cR_0 cR_1 fR_0 fR_1
 have XZ := put2_box (u := .int .i64 lk) (v := .slice la ln lc) XR.out
 have h0 := XZ.2 0
 have h1 := XZ.2 1
 unfold put2 at h0 h1
 have htop := own_top Ol.out
 have HW : Hid ((synE (d + 1) C (.node 12 nm n ty es)).isSome = ((synE (d + 1) C (.node 12 nm n ty es)).isSome)) := by show _ = _; rfl
 refine bodyPost_ret (v := .tuple #[.agg #[.int .i64 lk, .slice la ln lc], errOf pe ((synE (d + 1) C (.node 12 nm n ty es)).isSome)]) (by simp [results, Tryz.results34, go_sem, h0, h1]) rfl ?_
 exact ⟨_, _, _, _, _, tl, by rw [HW.out], (put2_own Ol.out (by omega)).widen (by omega) (by first | (simp; omega) | simp | omega) (Nat.le_refl _), hgz, hgx, (put2_below B.out (by omega))⟩
set_option maxRecDepth 100000 in
set_option maxHeartbeats 2000000 in
theorem implSyn14 (d : Nat) (ihs : ImplSynSaid d) (D : Nat) (pe : Addr) (vc v : Value) (C : List Bi) (nm : ByteArray) (n : Int) (ty : Ty) (es : List Ex) (w : World) (hv : BisAt w D vc C) (he : ExAt w (d + 1) v (.node 14 nm n ty es)) (hok : TypOk C (.node 14 nm n ty es)) (herr : ErrAt w pe) (hmt : MeetTab w) :
  Calls Tryz.prog 34 #[vc, v] w (ISynEnd pe (synE (d + 1) C (.node 14 nm n ty es)) (16 * (Ex.node 14 nm n ty es).count + 1) w) := by
 have HE := Lib.hid he
 have CS := Lib.hid fun w1 h1 h2 h3 h4 => implMark d ihs D pe vc v C nm n ty es w1 h1 h2 hok h3 h4
 obtain ⟨kd', nm', n', tk, ta, tn, tc, sa, sm, sc, hv2⟩ := ex_parts he
 obtain ⟨va, vn, vc1, rfl⟩ : ∃ a n c, vc = .slice a n c := by obtain ⟨a, cap, hv, _⟩ := hv; exact ⟨_, _, _, hv⟩
 subst hv2
 obtain ⟨hke, hne⟩ := ex_root he
 have hke2 : kd' = 14 := hke.symm
 subst hke2
 clear hke hne he
 have HV := Lib.hid hv
 have HERR := Lib.hid herr
 have HMT := Lib.hid hmt
 clear hv hok ihs herr hmt
 obtain ⟨w0, hw0, B, hz_w0, XE, FE, XR, FR⟩ := laid2 w #[.int .i64 14, .string nm', .int .i64 n', .int .i64 tk, .slice ta tn tc, .slice sa sm sc] 40 #[.int .i64 0, .slice none 0 0] 33
 replace B := Lib.hid B
 go_enter Tryz.func34, Tryz.ntmps34
 go_wp2_with fail
 rw [← hw0]
 clear hw0
 refine (CS.out _ (HV.out.below B.out) (HE.out.below B.out) (HERR.out.below B.out) (HMT.out.below B.out)).mono ?_
 rintro e w1 ⟨DL, lk, la, ln, lc, tl, rfl, ho, hgz, hgx, hb⟩
 have Ol := Lib.hid ho
 clear ho
 have hz_w1 := hb.size
 replace B := bb B hb
 replace XE := xb XE hb
 replace FE := fb FE hb
 replace XR := xb XR hb
 replace FR := fb FR hb
 clear hb
 have cR_0 := XR.out.2 0
 have cR_1 := XR.out.2 1
 have fR_0 := FR.out.2 0
 have fR_1 := FR.out.2 1
 go_wp2_with fail
 clear cR_0 cR_1 fR_0 fR_1
 have XZ := put2_box (u := .int .i64 lk) (v := .slice la ln lc) XR.out
 have h0 := XZ.2 0
 have h1 := XZ.2 1
 unfold put2 at h0 h1
 have htop := own_top Ol.out
 have HW : Hid ((synE (d + 1) C (.node 14 nm n ty es)).isSome = ((synE (d + 1) C (.node 14 nm n ty es)).isSome)) := by show _ = _; rfl
 refine bodyPost_ret (v := .tuple #[.agg #[.int .i64 lk, .slice la ln lc], errOf pe ((synE (d + 1) C (.node 14 nm n ty es)).isSome)]) (by simp [results, Tryz.results34, go_sem, h0, h1]) rfl ?_
 exact ⟨_, _, _, _, _, tl, by rw [HW.out], (put2_own Ol.out (by omega)).widen (by omega) (by first | (simp; omega) | simp | omega) (Nat.le_refl _), hgz, hgx, (put2_below B.out (by omega))⟩
end Go.Proofs.YteffjeejbdjjpaaGreatDoor
