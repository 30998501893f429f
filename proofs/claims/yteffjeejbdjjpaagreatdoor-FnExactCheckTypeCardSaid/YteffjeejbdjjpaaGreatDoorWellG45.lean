/-
  Proved: impl.synth: sums, comparisons, ascriptions.
-/
import Derived.Test.YteffjeejbdjjpaaGreatDoorWellG42
import Derived.Test.YteffjeejbdjjpaaGreatDoorWellG37
import Derived.Test.YteffjeejbdjjpaaGreatDoorWellG3
import Derived.Test.YteffjeejbdjjpaaGreatDoorWellG15
import Derived.Test.YteffjeejbdjjpaaGreatDoorWellG20
namespace Go.Proofs.YteffjeejbdjjpaaGreatDoor
open Go.RowKit

set_option maxRecDepth 100000 in
set_option maxHeartbeats 2000000 in
theorem implSyn6 (d : Nat) (iha : ImplAnaSaid d) (D : Nat) (pe : Addr) (vc v : Value) (C : List Bi) (nm : ByteArray) (n : Int) (ty : Ty) (es : List Ex) (w : World) (hv : BisAt w D vc C) (he : ExAt w (d + 1) v (.node 6 nm n ty es)) (hok : TypOk C (.node 6 nm n ty es)) (herr : ErrAt w pe) (hmt : MeetTab w) :
  Calls Tryz.prog 34 #[vc, v] w (ISynEnd pe (synE (d + 1) C (.node 6 nm n ty es)) (16 * (Ex.node 6 nm n ty es).count + 1) w) := by
 obtain ⟨c3, c4, sl, hx, hk0, hk1, hn0, hn1, hnm, hty, sa, sc, hsl, hcap, hcap2, hat⟩ := he
 subst hsl
 obtain ⟨tk, ta, tn, tc, rfl, rfl⟩ := at_parts hty
 subst hx
 have HROW : Hid (ExsAt w d (.slice sa es.length sc) es) := Lib.hid ⟨_, _, rfl, hcap, hcap2, hat⟩
 obtain ⟨va, vn, vc1, rfl⟩ : ∃ a n c, vc = .slice a n c := by obtain ⟨a, cap, hv, _⟩ := hv; exact ⟨_, _, _, hv⟩
 have hlen : es.length = 2 := by have h1 := (form_parts hok.1).1; have h2 : arity 6 = 2 := rfl; omega
 have hq0 : 0 < es.length := by omega
 have hq1 : 1 < es.length := by omega
 obtain ⟨b, off, q0_0, q0_1, q0_2, q0_3, q0_4, q0_5, e0, hbl, z0_0, z0_1, z0_2, z0_3, z0_4, z0_5, ht0⟩ := hat 0 hq0
 subst e0
 obtain ⟨xk, xnm, xn, xtk, xta, xtn, xtc, xsa, xsm, xsc, rfl, rfl, rfl, rfl, rfl, rfl⟩ := ex_cells ht0
 simp only [Nat.zero_mul, Nat.add_zero] at z0_0 z0_1 z0_2 z0_3 z0_4 z0_5
 have K0_0 := Lib.hid z0_0
 have K0_1 := Lib.hid z0_1
 have K0_2 := Lib.hid z0_2
 have K0_3 := Lib.hid z0_3
 have K0_4 := Lib.hid z0_4
 have K0_5 := Lib.hid z0_5
 clear z0_0 z0_1 z0_2 z0_3 z0_4 z0_5
 have HT0 := Lib.hid ht0
 clear ht0
 obtain ⟨b1, off1, q1_0, q1_1, q1_2, q1_3, q1_4, q1_5, e1, hbl1, z1_0, z1_1, z1_2, z1_3, z1_4, z1_5, ht1⟩ := hat 1 hq1
 injection e1 with e1
 injection e1 with ea1 eb1
 subst ea1 eb1
 obtain ⟨yk, ynm, yn, ytk, yta, ytn, ytc, ysa, ysm, ysc, rfl, rfl, rfl, rfl, rfl, rfl⟩ := ex_cells ht1
 simp only [Nat.one_mul] at z1_0 z1_1 z1_2 z1_3 z1_4 z1_5
 have K1_0 := Lib.hid z1_0
 have K1_1 := Lib.hid z1_1
 have K1_2 := Lib.hid z1_2
 have K1_3 := Lib.hid z1_3
 have K1_4 := Lib.hid z1_4
 have K1_5 := Lib.hid z1_5
 clear z1_0 z1_1 z1_2 z1_3 z1_4 z1_5
 have HT1 := Lib.hid ht1
 clear ht1
 have HV := Lib.hid hv
 clear hv
 have HOK := Lib.hid hok
 clear hok hat
 have HTY := Lib.hid hty
 clear hty
 have HNM := Lib.hid hnm
 clear hnm
 have HERR := Lib.hid herr
 have HMT := Lib.hid hmt
 have IHA := Lib.hid iha
 clear herr hmt iha
 rw [hlen] at HROW ⊢
 have hr : synE (d + 1) C (.node 6 nm n ty es) = onlyIf (anaAll d C es [tyN, tyN]) tyN := by rw [synE_succ, anaAll_two d C es _ _ hq0 hq1]; simp only [synStep]; rw [Ex.arg_get hq0, Ex.arg_get hq1]; simp
 have HR := Lib.hid hr
 clear hr
 obtain ⟨w0, hw0, B, hz_w0, XE, FE, XR, FR⟩ := laid2 w #[.int .i64 6, .string nm, .int .i64 n, .int .i64 tk, .slice ta tn tc, .slice (some ⟨b, off, none⟩) 2 sc] 40 #[.int .i64 0, .slice none 0 0] 33
 replace B := Lib.hid B
 go_enter Tryz.func34, Tryz.ntmps34
 go_wp2_with fail
 rw [← hw0]
 clear hw0
 obtain ⟨wd1, hwd1⟩ : ∃ W, W = w0.drew := ⟨_, rfl⟩
 have hb : Below w0.heap.size w0 wd1 := by rw [hwd1]; exact below_drew _
 have hz_wd1 := hb.size
 replace B := bb B hb
 replace XE := xb XE hb
 replace FE := fb FE hb
 replace XR := xb XR hb
 replace FR := fb FR hb
 clear hb
 refine wp_region_held_drew (S := fun w' => w'.cell? ⟨w.heap.size, 0, none⟩ = some (.int .i64 6) ∧ w'.cell? ⟨w.heap.size, 1, none⟩ = some (.string nm) ∧ w'.cell? ⟨w.heap.size, 2, none⟩ = some (.int .i64 n) ∧ w'.cell? ⟨w.heap.size, 3, none⟩ = some (.int .i64 tk) ∧ w'.cell? ⟨w.heap.size, 4, none⟩ = some (.slice ta tn tc) ∧ w'.cell? ⟨w.heap.size, 5, none⟩ = some (.slice (some ⟨b, off, none⟩) 2 sc)) (by kernel_rfl) (by rw [← hwd1]; exact ⟨XE.out.2 0, XE.out.2 1, XE.out.2 2, XE.out.2 3, XE.out.2 4, XE.out.2 5⟩) (fun hHeld => ?_)
 rw [← hwd1] at hHeld ⊢
 clear hwd1
 refine wpAnyH_take (i := 1) (v := ?v61_1) rfl (by kernel_rfl) (by kernel_rfl) (by kernel_rfl) (fun _ _ _ h => h) (Or.inl ⟨by kernel_rfl, ?hy61_1⟩) hHeld ?rest61_1
 case hy61_1 =>
  intro w hSw
  (try dsimp only at hSw)
  go_simp
  all_goals (first | done | with_reducible rfl)
 try simp only [Act.put]
 try simp only [List.setIfInBounds_toArray]
 try simp only [List.set_cons_succ]
 try simp only [List.set_cons_zero]
 refine wpAnyH_take (i := 2) (v := ?v62_2) rfl (by kernel_rfl) (by kernel_rfl) (by kernel_rfl) (fun _ _ _ h => h) (Or.inl ⟨by kernel_rfl, ?hy62_2⟩) hHeld ?rest62_2
 case hy62_2 =>
  intro w hSw
  (try dsimp only at hSw)
  go_simp
  all_goals (first | done | with_reducible rfl)
 try simp only [Act.put]
 try simp only [List.setIfInBounds_toArray]
 try simp only [List.set_cons_succ]
 try simp only [List.set_cons_zero]
 refine wpAnyH_take (i := 3) (v := ?v63_3) rfl (by kernel_rfl) (by kernel_rfl) (by kernel_rfl) (fun _ _ _ h => h) (Or.inl ⟨by kernel_rfl, ?hy63_3⟩) hHeld ?rest63_3
 case hy63_3 =>
  intro w hSw
  (try dsimp only at hSw)
  go_simp
  all_goals (first | done | with_reducible rfl)
 try simp only [Act.put]
 try simp only [List.setIfInBounds_toArray]
 try simp only [List.set_cons_succ]
 try simp only [List.set_cons_zero]
 refine wpAnyH_ready (rs := [0]) (by kernel_rfl) (by simp) ?_
 refine AllReadyH.cons rfl (fun K hK => ?_) AllReadyH.nil
 go_simp
 go_at_call 73
 refine (implNumType _).mono ?_
 rintro e w2 ⟨rfl, hb⟩
 have hz_w2 := hb.size
 replace B := bb B hb
 replace XE := xb XE hb
 replace FE := fb FE hb
 replace XR := xb XR hb
 replace FR := fb FR hb
 clear hb
 clear hHeld
 try go_wp2_with fail
 refine hK.out _ _ (by exact ⟨XE.out.2 0, XE.out.2 1, XE.out.2 2, XE.out.2 3, XE.out.2 4, XE.out.2 5⟩) (fun hHeld => ?_)
 clear hK K
 try simp only [Act.put]
 try simp only [List.setIfInBounds_toArray]
 try simp only [List.set_cons_succ]
 try simp only [List.set_cons_zero]
 refine wpAnyH_ready (rs := [4]) (by kernel_rfl) (by simp) ?_
 refine AllReadyH.cons rfl (fun K hK => ?_) AllReadyH.nil
 go_simp
 go_at_call 73
 refine (implNumType _).mono ?_
 rintro e w3 ⟨rfl, hb⟩
 have hz_w3 := hb.size
 replace B := bb B hb
 replace XE := xb XE hb
 replace FE := fb FE hb
 replace XR := xb XR hb
 replace FR := fb FR hb
 clear hb
 clear hHeld
 try go_wp2_with fail
 refine hK.out _ _ (by exact ⟨XE.out.2 0, XE.out.2 1, XE.out.2 2, XE.out.2 3, XE.out.2 4, XE.out.2 5⟩) (fun hHeld => ?_)
 clear hK K
 try simp only [Act.put]
 try simp only [List.setIfInBounds_toArray]
 try simp only [List.set_cons_succ]
 try simp only [List.set_cons_zero]
 refine wpAnyH_ready (rs := [5]) (by kernel_rfl) (by simp) ?_
 refine AllReadyH.cons rfl (fun K hK => ?_) AllReadyH.nil
 go_simp
 go_at_call 73
 refine (implNumType _).mono ?_
 rintro e w4 ⟨rfl, hb⟩
 have hz_w4 := hb.size
 replace B := bb B hb
 replace XE := xb XE hb
 replace FE := fb FE hb
 replace XR := xb XR hb
 replace FR := fb FR hb
 clear hb
 clear hHeld
 try go_wp2_with fail
 refine hK.out _ _ (by exact ⟨XE.out.2 0, XE.out.2 1, XE.out.2 2, XE.out.2 3, XE.out.2 4, XE.out.2 5⟩) (fun hHeld => ?_)
 clear hK K
 try simp only [Act.put]
 try simp only [List.setIfInBounds_toArray]
 try simp only [List.set_cons_succ]
 try simp only [List.set_cons_zero]
 refine wpAnyH_ready (rs := [6]) (by kernel_rfl) (by simp) ?_
 refine AllReadyH.cons rfl (fun K hK => ?_) AllReadyH.nil
 go_simp
 obtain ⟨wa5, hwa5, hb, hy_wa5, XTS, FTS⟩ := laid1 w4 #[.int .i64 2, .slice none 0 0, .int .i64 2, .slice none 0 0] 33
 have hz_wa5 := hb.size
 replace B := bb B hb
 replace XE := xb XE hb
 replace FE := fb FE hb
 replace XR := xb XR hb
 replace FR := fb FR hb
 clear hb
 clear hHeld
 try go_wp2_with fail
 rw [← hwa5]
 clear hwa5
 refine hK.out _ _ (by exact ⟨XE.out.2 0, XE.out.2 1, XE.out.2 2, XE.out.2 3, XE.out.2 4, XE.out.2 5⟩) (fun hHeld => ?_)
 clear hK K
 try simp only [Act.put]
 try simp only [List.setIfInBounds_toArray]
 try simp only [List.set_cons_succ]
 try simp only [List.set_cons_zero]
 refine wpAnyH_ready (rs := [7]) (by kernel_rfl) (by simp) ?_
 refine AllReadyH.cons rfl (fun K hK => ?_) AllReadyH.nil
 go_simp
 go_at_call 75
 have CA := implAll d IHA.out D 1 pe _ _ _ C es [tyN, tyN] w wa5 B.out HV.out HROW.out (tys2 XTS.out (leaf_at _ 2 (by omega) (by omega)) (leaf_at _ 2 (by omega) (by omega))) (by simp; omega) (fun j h => HOK.out.part j h) (sizes_two tyN_size tyN_size) HERR.out HMT.out
 refine CA.mono ?_
 clear CA
 rintro e w6 ⟨rfl, hb⟩
 have hz_w6 := hb.size
 replace B := bb B hb
 replace XE := xb XE hb
 replace FE := fb FE hb
 replace XR := xb XR hb
 replace FR := fb FR hb
 replace XTS := xb XTS hb
 replace FTS := fb FTS hb
 clear hb
 clear hHeld
 try go_wp2_with fail
 refine hK.out _ _ (by exact ⟨XE.out.2 0, XE.out.2 1, XE.out.2 2, XE.out.2 3, XE.out.2 4, XE.out.2 5⟩) (fun hHeld => ?_)
 clear hK K
 try simp only [Act.put]
 try simp only [List.setIfInBounds_toArray]
 try simp only [List.set_cons_succ]
 try simp only [List.set_cons_zero]
 have cR_0 := XR.out.2 0
 have cR_1 := XR.out.2 1
 have fR_0 := FR.out.2 0
 have fR_1 := FR.out.2 1
 refine wpAnyH_ready (rs := [8]) (by kernel_rfl) (by simp) ?_
 refine AllReadyH.cons rfl (fun K hK => ?_) AllReadyH.nil
 go_simp
 clear cR_0 cR_1 fR_0 fR_1
 clear hHeld
 try go_wp2_with fail
 obtain ⟨ws7, hws7⟩ : ∃ W, W = put2 w6 (w.heap.size + 1) (.int .i64 2) (.slice none 0 0) := ⟨_, rfl⟩
 have hy_ws7 : ws7.heap.size = w6.heap.size := by rw [hws7]; exact put2_size
 replace XE := xo hws7 XE (by omega)
 replace FE := fo hws7 FE
 replace XR := xs hws7 XR
 replace FR := fo hws7 FR
 replace XTS := xo hws7 XTS (by omega)
 replace FTS := fo hws7 FTS
 replace B := bo hws7 B (by omega)
 unfold put2 at hws7
 rw [← hws7]
 clear hws7
 refine hK.out _ _ (by exact ⟨XE.out.2 0, XE.out.2 1, XE.out.2 2, XE.out.2 3, XE.out.2 4, XE.out.2 5⟩) (fun hHeld => ?_)
 clear hK K
 try simp only [Act.put]
 try simp only [List.setIfInBounds_toArray]
 try simp only [List.set_cons_succ]
 try simp only [List.set_cons_zero]
 refine wpAnyH_ready (rs := [9]) (by kernel_rfl) (by simp) ?_
 refine AllReadyH.cons rfl (fun K hK => ?_) AllReadyH.nil
 go_simp
 refine hK.out _ _ hHeld (fun hHeld => ?_)
 clear hK K
 try simp only [Act.put]
 try simp only [List.setIfInBounds_toArray]
 try simp only [List.set_cons_succ]
 try simp only [List.set_cons_zero]
 refine wpAnyH_done (by kernel_rfl) ?_ _
 try simp only [List.getElem_toArray]
 try simp only [List.getElem_cons_succ]
 try simp only [List.getElem_cons_zero]
 try simp only [Act.put]
 try simp only [List.setIfInBounds_toArray]
 try simp only [List.set_cons_succ]
 try simp only [List.set_cons_zero]
 go_wp2_with fail
 have h0 := XR.out.2 0
 have h1 := XR.out.2 1
 have HW : Hid ((synE (d + 1) C (.node 6 nm n ty es)).isSome = (anaAll d C es [tyN, tyN])) := by show _ = _; rw [HR.out, onlyIf_some]
 refine bodyPost_ret (v := .tuple #[.agg #[.int .i64 2, .slice none 0 0], errOf pe (anaAll d C es [tyN, tyN])]) (by simp [results, Tryz.results34, go_sem, h0, h1]) rfl ?_
 exact ⟨1, _, _, _, _, tyN, by rw [HW.out], leaf_in _ 2 _ _ (by omega) (by omega) (Nat.le_refl _), (by simp [tyN, Ty.size, Ty.sizes]), (fun x h => by rw [HR.out] at h; exact onlyIf_is h), B.out⟩
set_option maxRecDepth 100000 in
set_option maxHeartbeats 2000000 in
theorem implSyn7 (d : Nat) (iha : ImplAnaSaid d) (D : Nat) (pe : Addr) (vc v : Value) (C : List Bi) (nm : ByteArray) (n : Int) (ty : Ty) (es : List Ex) (w : World) (hv : BisAt w D vc C) (he : ExAt w (d + 1) v (.node 7 nm n ty es)) (hok : TypOk C (.node 7 nm n ty es)) (herr : ErrAt w pe) (hmt : MeetTab w) :
  Calls Tryz.prog 34 #[vc, v] w (ISynEnd pe (synE (d + 1) C (.node 7 nm n ty es)) (16 * (Ex.node 7 nm n ty es).count + 1) w) := by
 obtain ⟨c3, c4, sl, hx, hk0, hk1, hn0, hn1, hnm, hty, sa, sc, hsl, hcap, hcap2, hat⟩ := he
 subst hsl
 obtain ⟨tk, ta, tn, tc, rfl, rfl⟩ := at_parts hty
 subst hx
 have HROW : Hid (ExsAt w d (.slice sa es.length sc) es) := Lib.hid ⟨_, _, rfl, hcap, hcap2, hat⟩
 obtain ⟨va, vn, vc1, rfl⟩ : ∃ a n c, vc = .slice a n c := by obtain ⟨a, cap, hv, _⟩ := hv; exact ⟨_, _, _, hv⟩
 have hlen : es.length = 2 := by have h1 := (form_parts hok.1).1; have h2 : arity 7 = 2 := rfl; omega
 have hq0 : 0 < es.length := by omega
 have hq1 : 1 < es.length := by omega
 obtain ⟨b, off, q0_0, q0_1, q0_2, q0_3, q0_4, q0_5, e0, hbl, z0_0, z0_1, z0_2, z0_3, z0_4, z0_5, ht0⟩ := hat 0 hq0
 subst e0
 obtain ⟨xk, xnm, xn, xtk, xta, xtn, xtc, xsa, xsm, xsc, rfl, rfl, rfl, rfl, rfl, rfl⟩ := ex_cells ht0
 simp only [Nat.zero_mul, Nat.add_zero] at z0_0 z0_1 z0_2 z0_3 z0_4 z0_5
 have K0_0 := Lib.hid z0_0
 have K0_1 := Lib.hid z0_1
 have K0_2 := Lib.hid z0_2
 have K0_3 := Lib.hid z0_3
 have K0_4 := Lib.hid z0_4
 have K0_5 := Lib.hid z0_5
 clear z0_0 z0_1 z0_2 z0_3 z0_4 z0_5
 have HT0 := Lib.hid ht0
 clear ht0
 obtain ⟨b1, off1, q1_0, q1_1, q1_2, q1_3, q1_4, q1_5, e1, hbl1, z1_0, z1_1, z1_2, z1_3, z1_4, z1_5, ht1⟩ := hat 1 hq1
 injection e1 with e1
 injection e1 with ea1 eb1
 subst ea1 eb1
 obtain ⟨yk, ynm, yn, ytk, yta, ytn, ytc, ysa, ysm, ysc, rfl, rfl, rfl, rfl, rfl, rfl⟩ := ex_cells ht1
 simp only [Nat.one_mul] at z1_0 z1_1 z1_2 z1_3 z1_4 z1_5
 have K1_0 := Lib.hid z1_0
 have K1_1 := Lib.hid z1_1
 have K1_2 := Lib.hid z1_2
 have K1_3 := Lib.hid z1_3
 have K1_4 := Lib.hid z1_4
 have K1_5 := Lib.hid z1_5
 clear z1_0 z1_1 z1_2 z1_3 z1_4 z1_5
 have HT1 := Lib.hid ht1
 clear ht1
 have HV := Lib.hid hv
 clear hv
 have HOK := Lib.hid hok
 clear hok hat
 have HTY := Lib.hid hty
 clear hty
 have HNM := Lib.hid hnm
 clear hnm
 have HERR := Lib.hid herr
 have HMT := Lib.hid hmt
 have IHA := Lib.hid iha
 clear herr hmt iha
 rw [hlen] at HROW ⊢
 have hr : synE (d + 1) C (.node 7 nm n ty es) = onlyIf (anaAll d C es [tyN, tyN]) tyB := by rw [synE_succ, anaAll_two d C es _ _ hq0 hq1]; simp only [synStep]; rw [Ex.arg_get hq0, Ex.arg_get hq1]; simp
 have HR := Lib.hid hr
 clear hr
 obtain ⟨w0, hw0, B, hz_w0, XE, FE, XR, FR⟩ := laid2 w #[.int .i64 7, .string nm, .int .i64 n, .int .i64 tk, .slice ta tn tc, .slice (some ⟨b, off, none⟩) 2 sc] 40 #[.int .i64 0, .slice none 0 0] 33
 replace B := Lib.hid B
 go_enter Tryz.func34, Tryz.ntmps34
 go_wp2_with fail
 rw [← hw0]
 clear hw0
 obtain ⟨wd1, hwd1⟩ : ∃ W, W = w0.drew := ⟨_, rfl⟩
 have hb : Below w0.heap.size w0 wd1 := by rw [hwd1]; exact below_drew _
 have hz_wd1 := hb.size
 replace B := bb B hb
 replace XE := xb XE hb
 replace FE := fb FE hb
 replace XR := xb XR hb
 replace FR := fb FR hb
 clear hb
 refine wp_region_held_drew (S := fun w' => w'.cell? ⟨w.heap.size, 0, none⟩ = some (.int .i64 7) ∧ w'.cell? ⟨w.heap.size, 1, none⟩ = some (.string nm) ∧ w'.cell? ⟨w.heap.size, 2, none⟩ = some (.int .i64 n) ∧ w'.cell? ⟨w.heap.size, 3, none⟩ = some (.int .i64 tk) ∧ w'.cell? ⟨w.heap.size, 4, none⟩ = some (.slice ta tn tc) ∧ w'.cell? ⟨w.heap.size, 5, none⟩ = some (.slice (some ⟨b, off, none⟩) 2 sc)) (by kernel_rfl) (by rw [← hwd1]; exact ⟨XE.out.2 0, XE.out.2 1, XE.out.2 2, XE.out.2 3, XE.out.2 4, XE.out.2 5⟩) (fun hHeld => ?_)
 rw [← hwd1] at hHeld ⊢
 clear hwd1
 refine wpAnyH_take (i := 1) (v := ?v64_1) rfl (by kernel_rfl) (by kernel_rfl) (by kernel_rfl) (fun _ _ _ h => h) (Or.inl ⟨by kernel_rfl, ?hy64_1⟩) hHeld ?rest64_1
 case hy64_1 =>
  intro w hSw
  (try dsimp only at hSw)
  go_simp
  all_goals (first | done | with_reducible rfl)
 try simp only [Act.put]
 try simp only [List.setIfInBounds_toArray]
 try simp only [List.set_cons_succ]
 try simp only [List.set_cons_zero]
 refine wpAnyH_take (i := 2) (v := ?v65_2) rfl (by kernel_rfl) (by kernel_rfl) (by kernel_rfl) (fun _ _ _ h => h) (Or.inl ⟨by kernel_rfl, ?hy65_2⟩) hHeld ?rest65_2
 case hy65_2 =>
  intro w hSw
  (try dsimp only at hSw)
  go_simp
  all_goals (first | done | with_reducible rfl)
 try simp only [Act.put]
 try simp only [List.setIfInBounds_toArray]
 try simp only [List.set_cons_succ]
 try simp only [List.set_cons_zero]
 refine wpAnyH_take (i := 3) (v := ?v66_3) rfl (by kernel_rfl) (by kernel_rfl) (by kernel_rfl) (fun _ _ _ h => h) (Or.inl ⟨by kernel_rfl, ?hy66_3⟩) hHeld ?rest66_3
 case hy66_3 =>
  intro w hSw
  (try dsimp only at hSw)
  go_simp
  all_goals (first | done | with_reducible rfl)
 try simp only [Act.put]
 try simp only [List.setIfInBounds_toArray]
 try simp only [List.set_cons_succ]
 try simp only [List.set_cons_zero]
 refine wpAnyH_ready (rs := [0]) (by kernel_rfl) (by simp) ?_
 refine AllReadyH.cons rfl (fun K hK => ?_) AllReadyH.nil
 go_simp
 go_at_call 74
 refine (implBoolType _).mono ?_
 rintro e w2 ⟨rfl, hb⟩
 have hz_w2 := hb.size
 replace B := bb B hb
 replace XE := xb XE hb
 replace FE := fb FE hb
 replace XR := xb XR hb
 replace FR := fb FR hb
 clear hb
 clear hHeld
 try go_wp2_with fail
 refine hK.out _ _ (by exact ⟨XE.out.2 0, XE.out.2 1, XE.out.2 2, XE.out.2 3, XE.out.2 4, XE.out.2 5⟩) (fun hHeld => ?_)
 clear hK K
 try simp only [Act.put]
 try simp only [List.setIfInBounds_toArray]
 try simp only [List.set_cons_succ]
 try simp only [List.set_cons_zero]
 refine wpAnyH_ready (rs := [4]) (by kernel_rfl) (by simp) ?_
 refine AllReadyH.cons rfl (fun K hK => ?_) AllReadyH.nil
 go_simp
 go_at_call 73
 refine (implNumType _).mono ?_
 rintro e w3 ⟨rfl, hb⟩
 have hz_w3 := hb.size
 replace B := bb B hb
 replace XE := xb XE hb
 replace FE := fb FE hb
 replace XR := xb XR hb
 replace FR := fb FR hb
 clear hb
 clear hHeld
 try go_wp2_with fail
 refine hK.out _ _ (by exact ⟨XE.out.2 0, XE.out.2 1, XE.out.2 2, XE.out.2 3, XE.out.2 4, XE.out.2 5⟩) (fun hHeld => ?_)
 clear hK K
 try simp only [Act.put]
 try simp only [List.setIfInBounds_toArray]
 try simp only [List.set_cons_succ]
 try simp only [List.set_cons_zero]
 refine wpAnyH_ready (rs := [5]) (by kernel_rfl) (by simp) ?_
 refine AllReadyH.cons rfl (fun K hK => ?_) AllReadyH.nil
 go_simp
 go_at_call 73
 refine (implNumType _).mono ?_
 rintro e w4 ⟨rfl, hb⟩
 have hz_w4 := hb.size
 replace B := bb B hb
 replace XE := xb XE hb
 replace FE := fb FE hb
 replace XR := xb XR hb
 replace FR := fb FR hb
 clear hb
 clear hHeld
 try go_wp2_with fail
 refine hK.out _ _ (by exact ⟨XE.out.2 0, XE.out.2 1, XE.out.2 2, XE.out.2 3, XE.out.2 4, XE.out.2 5⟩) (fun hHeld => ?_)
 clear hK K
 try simp only [Act.put]
 try simp only [List.setIfInBounds_toArray]
 try simp only [List.set_cons_succ]
 try simp only [List.set_cons_zero]
 refine wpAnyH_ready (rs := [6]) (by kernel_rfl) (by simp) ?_
 refine AllReadyH.cons rfl (fun K hK => ?_) AllReadyH.nil
 go_simp
 obtain ⟨wa5, hwa5, hb, hy_wa5, XTS, FTS⟩ := laid1 w4 #[.int .i64 2, .slice none 0 0, .int .i64 2, .slice none 0 0] 33
 have hz_wa5 := hb.size
 replace B := bb B hb
 replace XE := xb XE hb
 replace FE := fb FE hb
 replace XR := xb XR hb
 replace FR := fb FR hb
 clear hb
 clear hHeld
 try go_wp2_with fail
 rw [← hwa5]
 clear hwa5
 refine hK.out _ _ (by exact ⟨XE.out.2 0, XE.out.2 1, XE.out.2 2, XE.out.2 3, XE.out.2 4, XE.out.2 5⟩) (fun hHeld => ?_)
 clear hK K
 try simp only [Act.put]
 try simp only [List.setIfInBounds_toArray]
 try simp only [List.set_cons_succ]
 try simp only [List.set_cons_zero]
 refine wpAnyH_ready (rs := [7]) (by kernel_rfl) (by simp) ?_
 refine AllReadyH.cons rfl (fun K hK => ?_) AllReadyH.nil
 go_simp
 go_at_call 75
 have CA := implAll d IHA.out D 1 pe _ _ _ C es [tyN, tyN] w wa5 B.out HV.out HROW.out (tys2 XTS.out (leaf_at _ 2 (by omega) (by omega)) (leaf_at _ 2 (by omega) (by omega))) (by simp; omega) (fun j h => HOK.out.part j h) (sizes_two tyN_size tyN_size) HERR.out HMT.out
 refine CA.mono ?_
 clear CA
 rintro e w6 ⟨rfl, hb⟩
 have hz_w6 := hb.size
 replace B := bb B hb
 replace XE := xb XE hb
 replace FE := fb FE hb
 replace XR := xb XR hb
 replace FR := fb FR hb
 replace XTS := xb XTS hb
 replace FTS := fb FTS hb
 clear hb
 clear hHeld
 try go_wp2_with fail
 refine hK.out _ _ (by exact ⟨XE.out.2 0, XE.out.2 1, XE.out.2 2, XE.out.2 3, XE.out.2 4, XE.out.2 5⟩) (fun hHeld => ?_)
 clear hK K
 try simp only [Act.put]
 try simp only [List.setIfInBounds_toArray]
 try simp only [List.set_cons_succ]
 try simp only [List.set_cons_zero]
 have cR_0 := XR.out.2 0
 have cR_1 := XR.out.2 1
 have fR_0 := FR.out.2 0
 have fR_1 := FR.out.2 1
 refine wpAnyH_ready (rs := [8]) (by kernel_rfl) (by simp) ?_
 refine AllReadyH.cons rfl (fun K hK => ?_) AllReadyH.nil
 go_simp
 clear cR_0 cR_1 fR_0 fR_1
 clear hHeld
 try go_wp2_with fail
 obtain ⟨ws7, hws7⟩ : ∃ W, W = put2 w6 (w.heap.size + 1) (.int .i64 3) (.slice none 0 0) := ⟨_, rfl⟩
 have hy_ws7 : ws7.heap.size = w6.heap.size := by rw [hws7]; exact put2_size
 replace XE := xo hws7 XE (by omega)
 replace FE := fo hws7 FE
 replace XR := xs hws7 XR
 replace FR := fo hws7 FR
 replace XTS := xo hws7 XTS (by omega)
 replace FTS := fo hws7 FTS
 replace B := bo hws7 B (by omega)
 unfold put2 at hws7
 rw [← hws7]
 clear hws7
 refine hK.out _ _ (by exact ⟨XE.out.2 0, XE.out.2 1, XE.out.2 2, XE.out.2 3, XE.out.2 4, XE.out.2 5⟩) (fun hHeld => ?_)
 clear hK K
 try simp only [Act.put]
 try simp only [List.setIfInBounds_toArray]
 try simp only [List.set_cons_succ]
 try simp only [List.set_cons_zero]
 refine wpAnyH_ready (rs := [9]) (by kernel_rfl) (by simp) ?_
 refine AllReadyH.cons rfl (fun K hK => ?_) AllReadyH.nil
 go_simp
 refine hK.out _ _ hHeld (fun hHeld => ?_)
 clear hK K
 try simp only [Act.put]
 try simp only [List.setIfInBounds_toArray]
 try simp only [List.set_cons_succ]
 try simp only [List.set_cons_zero]
 refine wpAnyH_done (by kernel_rfl) ?_ _
 try simp only [List.getElem_toArray]
 try simp only [List.getElem_cons_succ]
 try simp only [List.getElem_cons_zero]
 try simp only [Act.put]
 try simp only [List.setIfInBounds_toArray]
 try simp only [List.set_cons_succ]
 try simp only [List.set_cons_zero]
 go_wp2_with fail
 have h0 := XR.out.2 0
 have h1 := XR.out.2 1
 have HW : Hid ((synE (d + 1) C (.node 7 nm n ty es)).isSome = (anaAll d C es [tyN, tyN])) := by show _ = _; rw [HR.out, onlyIf_some]
 refine bodyPost_ret (v := .tuple #[.agg #[.int .i64 3, .slice none 0 0], errOf pe (anaAll d C es [tyN, tyN])]) (by simp [results, Tryz.results34, go_sem, h0, h1]) rfl ?_
 exact ⟨1, _, _, _, _, tyB, by rw [HW.out], leaf_in _ 3 _ _ (by omega) (by omega) (Nat.le_refl _), (by simp [tyB, Ty.size, Ty.sizes]), (fun x h => by rw [HR.out] at h; exact onlyIf_is h), B.out⟩
set_option maxRecDepth 100000 in
set_option maxHeartbeats 2000000 in
theorem implSyn13 (d : Nat) (iha : ImplAnaSaid d) (D : Nat) (pe : Addr) (vc v : Value) (C : List Bi) (nm : ByteArray) (n : Int) (ty : Ty) (es : List Ex) (w : World) (hv : BisAt w D vc C) (he : ExAt w (d + 1) v (.node 13 nm n ty es)) (hok : TypOk C (.node 13 nm n ty es)) (herr : ErrAt w pe) (hmt : MeetTab w) :
  Calls Tryz.prog 34 #[vc, v] w (ISynEnd pe (synE (d + 1) C (.node 13 nm n ty es)) (16 * (Ex.node 13 nm n ty es).count + 1) w) := by
 obtain ⟨c3, c4, sl, hx, hk0, hk1, hn0, hn1, hnm, hty, sa, sc, hsl, hcap, hcap2, hat⟩ := he
 subst hsl
 obtain ⟨tk, ta, tn, tc, rfl, rfl⟩ := at_parts hty
 subst hx
 obtain ⟨va, vn, vc1, rfl⟩ : ∃ a n c, vc = .slice a n c := by obtain ⟨a, cap, hv, _⟩ := hv; exact ⟨_, _, _, hv⟩
 have hlen : es.length = 1 := by have h1 := (form_parts hok.1).1; have h2 : arity 13 = 1 := rfl; omega
 have hq0 : 0 < es.length := by omega
 obtain ⟨b, off, q0_0, q0_1, q0_2, q0_3, q0_4, q0_5, e0, hbl, z0_0, z0_1, z0_2, z0_3, z0_4, z0_5, ht0⟩ := hat 0 hq0
 subst e0
 obtain ⟨xk, xnm, xn, xtk, xta, xtn, xtc, xsa, xsm, xsc, rfl, rfl, rfl, rfl, rfl, rfl⟩ := ex_cells ht0
 simp only [Nat.zero_mul, Nat.add_zero] at z0_0 z0_1 z0_2 z0_3 z0_4 z0_5
 have K0_0 := Lib.hid z0_0
 have K0_1 := Lib.hid z0_1
 have K0_2 := Lib.hid z0_2
 have K0_3 := Lib.hid z0_3
 have K0_4 := Lib.hid z0_4
 have K0_5 := Lib.hid z0_5
 clear z0_0 z0_1 z0_2 z0_3 z0_4 z0_5
 have HT0 := Lib.hid ht0
 clear ht0
 have HV := Lib.hid hv
 clear hv
 have HOK := Lib.hid hok
 clear hok hat
 have HTY := Lib.hid hty
 clear hty
 have HNM := Lib.hid hnm
 clear hnm
 have HERR := Lib.hid herr
 have HMT := Lib.hid hmt
 clear herr hmt
 have IHA := Lib.hid iha
 clear iha
 have hcn : (Ex.node 13 nm n ty es).count = 1 + Ex.counts es := count_node (by omega)
 have hcp0 := count_part es 0 hq0
 have hcm := HOK.out.2.2.2
 rw [hcn] at hcm
 obtain ⟨N, hN⟩ : ∃ N, N = (Ex.node 13 nm n ty es).count := ⟨_, rfl⟩
 rw [← hN] at hcn
 rw [← hN]
 have hsz9 : ∀ x, synE (d + 1) C (.node 13 nm n ty es) = some x → x.size ≤ 16 * N + 1 := fun x hx => by have h := syn_size (d + 1) C _ x HOK.out.2.1 HOK.out.1 hx; rw [hN]; exact h
 have HSZ9 := Lib.hid hsz9
 clear hsz9 hN
 rw [hlen]
 clear hlen
 have hr : synE (d + 1) C (.node 13 nm n ty es) = onlyIf (anaE d C es[0] ty) ty := by rw [synE_succ]; simp only [synStep]; rw [Ex.arg_get hq0]; simp
 have HR := Lib.hid hr
 clear hr
 have htz : ty.size ≤ 15 := note_small ((form_parts HOK.out.1).2.2 (Or.inr rfl))
 obtain ⟨w0, hw0, B, hz_w0, XE, FE, XR, FR⟩ := laid2 w #[.int .i64 13, .string nm, .int .i64 n, .int .i64 tk, .slice ta tn tc, .slice (some ⟨b, off, none⟩) 1 sc] 40 #[.int .i64 0, .slice none 0 0] 33
 replace B := Lib.hid B
 go_enter Tryz.func34, Tryz.ntmps34
 go_wp2_with fail
 rw [← hw0]
 clear hw0
 obtain ⟨wd1, hwd1⟩ : ∃ W, W = w0.drew := ⟨_, rfl⟩
 have hb : Below w0.heap.size w0 wd1 := by rw [hwd1]; exact below_drew _
 have hz_wd1 := hb.size
 replace B := bb B hb
 replace XE := xb XE hb
 replace FE := fb FE hb
 replace XR := xb XR hb
 replace FR := fb FR hb
 clear hb
 refine wp_region_held_drew (S := fun w' => w'.cell? ⟨w.heap.size, 0, none⟩ = some (.int .i64 13) ∧ w'.cell? ⟨w.heap.size, 1, none⟩ = some (.string nm) ∧ w'.cell? ⟨w.heap.size, 2, none⟩ = some (.int .i64 n) ∧ w'.cell? ⟨w.heap.size, 3, none⟩ = some (.int .i64 tk) ∧ w'.cell? ⟨w.heap.size, 4, none⟩ = some (.slice ta tn tc) ∧ w'.cell? ⟨w.heap.size, 5, none⟩ = some (.slice (some ⟨b, off, none⟩) 1 sc) ∧ w'.cell? ⟨b, off, none⟩ = some (.int .i64 xk) ∧ w'.cell? ⟨b, off + 1, none⟩ = some (.string xnm) ∧ w'.cell? ⟨b, off + 2, none⟩ = some (.int .i64 xn) ∧ w'.cell? ⟨b, off + 3, none⟩ = some (.int .i64 xtk) ∧ w'.cell? ⟨b, off + 4, none⟩ = some (.slice xta xtn xtc) ∧ w'.cell? ⟨b, off + 5, none⟩ = some (.slice xsa xsm xsc)) (by kernel_rfl) (by rw [← hwd1]; exact ⟨XE.out.2 0, XE.out.2 1, XE.out.2 2, XE.out.2 3, XE.out.2 4, XE.out.2 5, (B.out.cell (p := ⟨b, off, none⟩) hbl).trans K0_0.out, (B.out.cell (p := ⟨b, off + 1, none⟩) hbl).trans K0_1.out, (B.out.cell (p := ⟨b, off + 2, none⟩) hbl).trans K0_2.out, (B.out.cell (p := ⟨b, off + 3, none⟩) hbl).trans K0_3.out, (B.out.cell (p := ⟨b, off + 4, none⟩) hbl).trans K0_4.out, (B.out.cell (p := ⟨b, off + 5, none⟩) hbl).trans K0_5.out⟩) (fun hHeld => ?_)
 rw [← hwd1] at hHeld ⊢
 clear hwd1
 refine wpAnyH_take (i := 0) (v := ?v67_0) rfl (by kernel_rfl) (by kernel_rfl) (by kernel_rfl) (fun _ _ _ h => h) (Or.inl ⟨by kernel_rfl, ?hy67_0⟩) hHeld ?rest67_0
 case hy67_0 =>
  intro w hSw
  (try dsimp only at hSw)
  go_simp
  all_goals (first | done | with_reducible rfl)
 try simp only [Act.put]
 try simp only [List.setIfInBounds_toArray]
 try simp only [List.set_cons_succ]
 try simp only [List.set_cons_zero]
 refine wpAnyH_take (i := 1) (v := ?v68_1) rfl (by kernel_rfl) (by kernel_rfl) (by kernel_rfl) (fun _ _ _ h => h) (Or.inl ⟨by kernel_rfl, ?hy68_1⟩) hHeld ?rest68_1
 case hy68_1 =>
  intro w hSw
  (try dsimp only at hSw)
  go_simp
  all_goals (first | done | with_reducible rfl)
 try simp only [Act.put]
 try simp only [List.setIfInBounds_toArray]
 try simp only [List.set_cons_succ]
 try simp only [List.set_cons_zero]
 refine wpAnyH_take (i := 3) (v := ?v69_3) rfl (by kernel_rfl) (by kernel_rfl) (by kernel_rfl) (fun _ _ _ h => h) (Or.inl ⟨by kernel_rfl, ?hy69_3⟩) hHeld ?rest69_3
 case hy69_3 =>
  intro w hSw
  (try dsimp only at hSw)
  go_simp
  all_goals (first | done | with_reducible rfl)
 try simp only [Act.put]
 try simp only [List.setIfInBounds_toArray]
 try simp only [List.set_cons_succ]
 try simp only [List.set_cons_zero]
 refine wpAnyH_take (i := 4) (v := ?v70_4) rfl (by kernel_rfl) (by kernel_rfl) (by kernel_rfl) (fun _ _ _ h => h) (Or.inl ⟨by kernel_rfl, ?hy70_4⟩) hHeld ?rest70_4
 case hy70_4 =>
  intro w hSw
  (try dsimp only at hSw)
  go_simp
  all_goals (first | done | with_reducible rfl)
 try simp only [Act.put]
 try simp only [List.setIfInBounds_toArray]
 try simp only [List.set_cons_succ]
 try simp only [List.set_cons_zero]
 refine wpAnyH_take (i := 5) (v := ?v71_5) rfl (by kernel_rfl) (by kernel_rfl) (by kernel_rfl) (fun _ _ _ h => h) (Or.inl ⟨by kernel_rfl, ?hy71_5⟩) hHeld ?rest71_5
 case hy71_5 =>
  intro w hSw
  (try dsimp only at hSw)
  go_simp
  all_goals (first | done | with_reducible rfl)
 try simp only [Act.put]
 try simp only [List.setIfInBounds_toArray]
 try simp only [List.set_cons_succ]
 try simp only [List.set_cons_zero]
 refine wpAnyH_take (i := 6) (v := ?v72_6) rfl (by kernel_rfl) (by kernel_rfl) (by kernel_rfl) (fun _ _ _ h => h) (Or.inl ⟨by kernel_rfl, ?hy72_6⟩) hHeld ?rest72_6
 case hy72_6 =>
  intro w hSw
  (try dsimp only at hSw)
  go_simp
  all_goals (first | done | with_reducible rfl)
 try simp only [Act.put]
 try simp only [List.setIfInBounds_toArray]
 try simp only [List.set_cons_succ]
 try simp only [List.set_cons_zero]
 refine wpAnyH_take (i := 7) (v := ?v73_7) rfl (by kernel_rfl) (by kernel_rfl) (by kernel_rfl) (fun _ _ _ h => h) (Or.inl ⟨by kernel_rfl, ?hy73_7⟩) hHeld ?rest73_7
 case hy73_7 =>
  intro w hSw
  (try dsimp only at hSw)
  go_simp
  all_goals (first | done | with_reducible rfl)
 try simp only [Act.put]
 try simp only [List.setIfInBounds_toArray]
 try simp only [List.set_cons_succ]
 try simp only [List.set_cons_zero]
 refine wpAnyH_take (i := 8) (v := ?v74_8) rfl (by kernel_rfl) (by kernel_rfl) (by kernel_rfl) (fun _ _ _ h => h) (Or.inl ⟨by kernel_rfl, ?hy74_8⟩) hHeld ?rest74_8
 case hy74_8 =>
  intro w hSw
  (try dsimp only at hSw)
  go_simp
  all_goals (first | done | with_reducible rfl)
 try simp only [Act.put]
 try simp only [List.setIfInBounds_toArray]
 try simp only [List.set_cons_succ]
 try simp only [List.set_cons_zero]
 refine wpAnyH_take (i := 9) (v := ?v75_9) rfl (by kernel_rfl) (by kernel_rfl) (by kernel_rfl) (fun _ _ _ h => h) (Or.inl ⟨by kernel_rfl, ?hy75_9⟩) hHeld ?rest75_9
 case hy75_9 =>
  intro w hSw
  (try dsimp only at hSw)
  go_simp
  all_goals (first | done | with_reducible rfl)
 try simp only [Act.put]
 try simp only [List.setIfInBounds_toArray]
 try simp only [List.set_cons_succ]
 try simp only [List.set_cons_zero]
 refine wpAnyH_ready (rs := [2]) (by kernel_rfl) (by simp) ?_
 refine AllReadyH.cons rfl (fun K hK => ?_) AllReadyH.nil
 go_simp
 go_at_call 80
 refine (Calls.mono (implCopy d _ ty _ (by omega) (HTY.out.below B.out)) (fun _ _ h => type_e h)).mono ?_
 rintro e w2 ⟨DL, lk, la, ln, lc, rfl, ho, hb⟩
 have Ol := Lib.hid ho
 clear ho
 have hz_w2 := hb.size
 replace B := bb B hb
 replace XE := xb XE hb
 replace FE := fb FE hb
 replace XR := xb XR hb
 replace FR := fb FR hb
 clear hb
 clear hHeld
 try go_wp2_with fail
 refine hK.out _ _ (by exact ⟨XE.out.2 0, XE.out.2 1, XE.out.2 2, XE.out.2 3, XE.out.2 4, XE.out.2 5, (B.out.cell (p := ⟨b, off, none⟩) hbl).trans K0_0.out, (B.out.cell (p := ⟨b, off + 1, none⟩) hbl).trans K0_1.out, (B.out.cell (p := ⟨b, off + 2, none⟩) hbl).trans K0_2.out, (B.out.cell (p := ⟨b, off + 3, none⟩) hbl).trans K0_3.out, (B.out.cell (p := ⟨b, off + 4, none⟩) hbl).trans K0_4.out, (B.out.cell (p := ⟨b, off + 5, none⟩) hbl).trans K0_5.out⟩) (fun hHeld => ?_)
 clear hK K
 try simp only [Act.put]
 try simp only [List.setIfInBounds_toArray]
 try simp only [List.set_cons_succ]
 try simp only [List.set_cons_zero]
 refine wpAnyH_ready (rs := [10]) (by kernel_rfl) (by simp) ?_
 refine AllReadyH.cons rfl (fun K hK => ?_) AllReadyH.nil
 go_simp
 go_at_call 48
 have CA := IHA.out D d pe _ _ _ C es[0] ty w2 (HV.out.below B.out) (HT0.out.below B.out) (HTY.out.below B.out) (HOK.out.part 0 hq0) (by omega) (HERR.out.below B.out) (HMT.out.below B.out)
 refine CA.mono ?_
 clear CA
 rintro e w3 ⟨rfl, hb⟩
 have hz_w3 := hb.size
 replace B := bb B hb
 replace XE := xb XE hb
 replace FE := fb FE hb
 replace XR := xb XR hb
 replace FR := fb FR hb
 replace Ol := ob Ol hb
 clear hb
 clear hHeld
 try go_wp2_with fail
 refine hK.out _ _ (by exact ⟨XE.out.2 0, XE.out.2 1, XE.out.2 2, XE.out.2 3, XE.out.2 4, XE.out.2 5, (B.out.cell (p := ⟨b, off, none⟩) hbl).trans K0_0.out, (B.out.cell (p := ⟨b, off + 1, none⟩) hbl).trans K0_1.out, (B.out.cell (p := ⟨b, off + 2, none⟩) hbl).trans K0_2.out, (B.out.cell (p := ⟨b, off + 3, none⟩) hbl).trans K0_3.out, (B.out.cell (p := ⟨b, off + 4, none⟩) hbl).trans K0_4.out, (B.out.cell (p := ⟨b, off + 5, none⟩) hbl).trans K0_5.out⟩) (fun hHeld => ?_)
 clear hK K
 try simp only [Act.put]
 try simp only [List.setIfInBounds_toArray]
 try simp only [List.set_cons_succ]
 try simp only [List.set_cons_zero]
 have cR_0 := XR.out.2 0
 have cR_1 := XR.out.2 1
 have fR_0 := FR.out.2 0
 have fR_1 := FR.out.2 1
 refine wpAnyH_ready (rs := [11]) (by kernel_rfl) (by simp) ?_
 refine AllReadyH.cons rfl (fun K hK => ?_) AllReadyH.nil
 go_simp
 clear cR_0 cR_1 fR_0 fR_1
 clear hHeld
 try go_wp2_with fail
 obtain ⟨ws4, hws4⟩ : ∃ W, W = put2 w3 (w.heap.size + 1) (.int .i64 lk) (.slice la ln lc) := ⟨_, rfl⟩
 have hy_ws4 : ws4.heap.size = w3.heap.size := by rw [hws4]; exact put2_size
 replace XE := xo hws4 XE (by omega)
 replace FE := fo hws4 FE
 replace XR := xs hws4 XR
 replace FR := fo hws4 FR
 replace Ol := oo hws4 Ol (by omega)
 replace B := bo hws4 B (by omega)
 unfold put2 at hws4
 rw [← hws4]
 clear hws4
 refine hK.out _ _ (by exact ⟨XE.out.2 0, XE.out.2 1, XE.out.2 2, XE.out.2 3, XE.out.2 4, XE.out.2 5, (B.out.cell (p := ⟨b, off, none⟩) hbl).trans K0_0.out, (B.out.cell (p := ⟨b, off + 1, none⟩) hbl).trans K0_1.out, (B.out.cell (p := ⟨b, off + 2, none⟩) hbl).trans K0_2.out, (B.out.cell (p := ⟨b, off + 3, none⟩) hbl).trans K0_3.out, (B.out.cell (p := ⟨b, off + 4, none⟩) hbl).trans K0_4.out, (B.out.cell (p := ⟨b, off + 5, none⟩) hbl).trans K0_5.out⟩) (fun hHeld => ?_)
 clear hK K
 try simp only [Act.put]
 try simp only [List.setIfInBounds_toArray]
 try simp only [List.set_cons_succ]
 try simp only [List.set_cons_zero]
 refine wpAnyH_ready (rs := [12]) (by kernel_rfl) (by simp) ?_
 refine AllReadyH.cons rfl (fun K hK => ?_) AllReadyH.nil
 go_simp
 refine hK.out _ _ hHeld (fun hHeld => ?_)
 clear hK K
 try simp only [Act.put]
 try simp only [List.setIfInBounds_toArray]
 try simp only [List.set_cons_succ]
 try simp only [List.set_cons_zero]
 refine wpAnyH_done (by kernel_rfl) ?_ _
 try simp only [List.getElem_toArray]
 try simp only [List.getElem_cons_succ]
 try simp only [List.getElem_cons_zero]
 try simp only [Act.put]
 try simp only [List.setIfInBounds_toArray]
 try simp only [List.set_cons_succ]
 try simp only [List.set_cons_zero]
 go_wp2_with fail
 have h0 := XR.out.2 0
 have h1 := XR.out.2 1
 have htop := own_top Ol.out
 have HW : Hid ((synE (d + 1) C (.node 13 nm n ty es)).isSome = (anaE d C es[0] ty)) := by show _ = _; rw [HR.out, onlyIf_some]
 refine bodyPost_ret (v := .tuple #[.agg #[.int .i64 lk, .slice la ln lc], errOf pe (anaE d C es[0] ty)]) (by simp [results, Tryz.results34, go_sem, h0, h1]) rfl ?_
 exact ⟨_, _, _, _, _, ty, by rw [HW.out], (Ol.out).widen (by omega) (by first | (simp; omega) | simp | omega) (Nat.le_refl _), (by omega), (fun x h => by rw [HR.out] at h; exact onlyIf_is h), B.out⟩
end Go.Proofs.YteffjeejbdjjpaaGreatDoor
