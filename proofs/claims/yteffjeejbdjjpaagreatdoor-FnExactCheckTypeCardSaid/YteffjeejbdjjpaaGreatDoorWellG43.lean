/-
  Proved: impl.analyze: what an expression is analyzed against.
-/
import Derived.Test.YteffjeejbdjjpaaGreatDoorWellG42
import Derived.Test.YteffjeejbdjjpaaGreatDoorWellG37
import Derived.Test.YteffjeejbdjjpaaGreatDoorWellG3
import Derived.Test.YteffjeejbdjjpaaGreatDoorWellG17
import Derived.Test.YteffjeejbdjjpaaGreatDoorWellG20
namespace Go.Proofs.YteffjeejbdjjpaaGreatDoor
open Go.RowKit

set_option maxRecDepth 100000 in
set_option maxHeartbeats 2000000 in
theorem implAna3 (d : Nat) (iha : ImplAnaSaid d) (D D2 : Nat) (pe : Addr) (vc v tv : Value) (C : List Bi) (nm : ByteArray) (n : Int) (ty : Ty) (es : List Ex) (x : Ty) (w : World) (hv : BisAt w D vc C) (he : ExAt w (d + 1) v (.node 3 nm n ty es)) (ht : TyAt w D2 tv x) (hok : TypOk C (.node 3 nm n ty es)) (hx : x.size ≤ 1048577) (herr : ErrAt w pe) (hmt : MeetTab w) :
  Calls Tryz.prog 48 #[vc, v, tv] w fun e w' => e = .returned (errOf pe (anaE (d + 1) C (.node 3 nm n ty es) x)) ∧ Below w.heap.size w w' := by
 have HE := Lib.hid he
 obtain ⟨uk, ua, un, uc, rfl⟩ := agg_parts ht
 have HU := Lib.hid ht
 clear ht
 obtain ⟨c3, c4, sl, hx, hk0, hk1, hn0, hn1, hnm, hty, sa, sc, hsl, hcap, hcap2, hat⟩ := he
 subst hsl
 obtain ⟨tk, ta, tn, tc, rfl, rfl⟩ := at_parts hty
 subst hx
 have HROW : Hid (ExsAt w d (.slice sa es.length sc) es) := Lib.hid ⟨_, _, rfl, hcap, hcap2, hat⟩
 obtain ⟨va, vn, vc1, rfl⟩ : ∃ a n c, vc = .slice a n c := by obtain ⟨a, cap, hv, _⟩ := hv; exact ⟨_, _, _, hv⟩
 have hlen : es.length = 1 := by have h1 := (form_parts hok.1).1; have h2 : arity 3 = 1 := rfl; omega
 have hq0 : 0 < es.length := by omega
 obtain ⟨b, off, q0_0, q0_1, q0_2, q0_3, q0_4, q0_5, e0, hbl, z0_0, z0_1, z0_2, z0_3, z0_4, z0_5, ht0⟩ := hat 0 hq0
 subst e0
 obtain ⟨xk, xnm, xn, xtk, xta, xtn, xtc, xsa, xsm, xsc, rfl, rfl, rfl, rfl, rfl, rfl⟩ := ex_cells ht0
 simp only [Nat.zero_mul, Nat.add_zero] at z0_0 z0_1 z0_2 z0_3 z0_4 z0_5
 have K0_0 := Lib.hid z0_0
 have K0_1 := Lib.hid z0_1
 have K0_2 := Lib.hid z0_2
 have K0_3 := Lib.hid z0_3
 have K0_4 := Lib.hid z0_4
 have K0_5 := Lib.hid z0_5
 clear z0_0 z0_1 z0_2 z0_3 z0_4 z0_5
 have HT0 := Lib.hid ht0
 clear ht0
 have HV := Lib.hid hv
 clear hv
 have HOK := Lib.hid hok
 clear hok hat
 have HTY := Lib.hid hty
 clear hty
 have HNM := Lib.hid hnm
 clear hnm
 have IHA := Lib.hid iha
 have HERR := Lib.hid herr
 have HMT := Lib.hid hmt
 clear iha herr hmt
 rw [hlen] at HE HROW ⊢
 have hr : anaE (d + 1) C (.node 3 nm n ty es) x = ((x.parts 4).2.2 && (ty.okay (x.parts 4).1 && anaE d (C ++ [⟨nm, ty⟩]) es[0] (x.parts 4).2.1)) := by rw [anaE_succ]; simp only [anaStep]; rw [Ex.arg_get hq0]; simp
 have HR := Lib.hid hr
 clear hr
 have HOU := Lib.hid (HOK.out.under hq0)
 have htz : ty.size ≤ 15 := note_small ((form_parts HOK.out.1).2.2 (Or.inl rfl))
 have hln := HOK.out.len
 have hps := parts_size 4 x
 cases hhp : (x.parts 4).2.2 with
 | false =>
  have HP := Lib.hid hhp
  clear hhp
  obtain ⟨w0, hw0, B, hz_w0, XE, FE, XT, FT⟩ := laid2 w #[.int .i64 3, .string nm, .int .i64 n, .int .i64 tk, .slice ta tn tc, .slice (some ⟨b, off, none⟩) 1 sc] 40 #[.int .i64 uk, .slice ua un uc] 33
  replace B := Lib.hid B
  go_enter Tryz.func48, Tryz.ntmps48
  go_wp2_with fail
  rw [← hw0]
  clear hw0
  refine (Calls.mono (implMatchArrow _ _ _ _ (HU.out.below B.out) hx) (fun _ _ h => match_b HP.out h)).mono ?_
  rintro e w1 ⟨D9, p1k, p1a, p1n, p1c, p2k, p2a, p2n, p2c, mid, rfl, hm, ho1, ho2, hb⟩
  have Op1 := Lib.hid ho1
  clear ho1
  have Op2 := Lib.hid ho2
  clear ho2
  have hz_w1 := hb.size
  replace B := bb B hb
  replace XE := xb XE hb
  replace FE := fb FE hb
  replace XT := xb XT hb
  replace FT := fb FT hb
  clear hb
  obtain ⟨wa2, hwa2, hb, hy_wa2, XT7, FT7, XT8, FT8⟩ := laid2 w1 #[.int .i64 p1k, .slice p1a p1n p1c] 33 #[.int .i64 p2k, .slice p2a p2n p2c] 33
  have hz_wa2 := hb.size
  replace B := bb B hb
  replace XE := xb XE hb
  replace FE := fb FE hb
  replace XT := xb XT hb
  replace FT := fb FT hb
  replace Op1 := ob Op1 hb
  replace Op2 := ob Op2 hb
  clear hb
  have hge := (HERR.out.below B.out).1
  rw [hwa2] at hge
  go_wp2_with fail
  clear hge
  rw [← hwa2]
  clear hwa2
  go_ret
  have HW : Hid (anaE (d + 1) C (.node 3 nm n ty es) x = false) := by show _ = _; rw [HR.out, HP.out]; rfl
  exact ⟨by rw [HW.out]; rfl, B.out⟩
 | true =>
  have HP := Lib.hid hhp
  clear hhp
  cases hho : ty.okay (x.parts 4).1 with
  | false =>
   have HO := Lib.hid hho
   clear hho
   obtain ⟨w0, hw0, B, hz_w0, XE, FE, XT, FT⟩ := laid2 w #[.int .i64 3, .string nm, .int .i64 n, .int .i64 tk, .slice ta tn tc, .slice (some ⟨b, off, none⟩) 1 sc] 40 #[.int .i64 uk, .slice ua un uc] 33
   replace B := Lib.hid B
   go_enter Tryz.func48, Tryz.ntmps48
   go_wp2_with fail
   rw [← hw0]
   clear hw0
   refine (Calls.mono (implMatchArrow _ _ _ _ (HU.out.below B.out) hx) (fun _ _ h => match_b HP.out h)).mono ?_
   rintro e w1 ⟨D9, p1k, p1a, p1n, p1c, p2k, p2a, p2n, p2c, mid, rfl, hm, ho1, ho2, hb⟩
   have Op1 := Lib.hid ho1
   clear ho1
   have Op2 := Lib.hid ho2
   clear ho2
   have hz_w1 := hb.size
   replace B := bb B hb
   replace XE := xb XE hb
   replace FE := fb FE hb
   replace XT := xb XT hb
   replace FT := fb FT hb
   clear hb
   obtain ⟨wa2, hwa2, hb, hy_wa2, XT7, FT7, XT8, FT8⟩ := laid2 w1 #[.int .i64 p1k, .slice p1a p1n p1c] 33 #[.int .i64 p2k, .slice p2a p2n p2c] 33
   have hz_wa2 := hb.size
   replace B := bb B hb
   replace XE := xb XE hb
   replace FE := fb FE hb
   replace XT := xb XT hb
   replace FT := fb FT hb
   replace Op1 := ob Op1 hb
   replace Op2 := ob Op2 hb
   clear hb
   have cE_0 := XE.out.2 0
   have cE_1 := XE.out.2 1
   have cE_2 := XE.out.2 2
   have cE_3 := XE.out.2 3
   have cE_4 := XE.out.2 4
   have cE_5 := XE.out.2 5
   have cT7_0 := XT7.out.2 0
   have cT7_1 := XT7.out.2 1
   rw [hwa2] at cE_0
   rw [hwa2] at cE_1
   rw [hwa2] at cE_2
   rw [hwa2] at cE_3
   rw [hwa2] at cE_4
   rw [hwa2] at cE_5
   rw [hwa2] at cT7_0
   rw [hwa2] at cT7_1
   go_wp2_with fail
   clear cE_0 cE_1 cE_2 cE_3 cE_4 cE_5 cT7_0 cT7_1
   rw [← hwa2]
   clear hwa2
   have CC := implConsistent (d + D9) (.agg #[.int .i64 tk, .slice ta tn tc]) (.agg #[.int .i64 p1k, .slice p1a p1n p1c]) ty (x.parts 4).1 wa2 ((HTY.out.below B.out).mono (by omega)) (Op1.out.at_.mono (by omega)) (by omega) (by omega) (HMT.out.below B.out)
   have e0 := HO.out
   unfold Ty.okay at e0
   rw [e0] at CC
   clear e0
   refine CC.mono ?_
   clear CC
   rintro e w3 ⟨rfl, hb⟩
   have hz_w3 := hb.size
   replace B := bb B hb
   replace XE := xb XE hb
   replace FE := fb FE hb
   replace XT := xb XT hb
   replace FT := fb FT hb
   replace XT7 := xb XT7 hb
   replace FT7 := fb FT7 hb
   replace XT8 := xb XT8 hb
   replace FT8 := fb FT8 hb
   replace Op1 := ob Op1 hb
   replace Op2 := ob Op2 hb
   clear hb
   have hge := (HERR.out.below B.out).1
   go_wp2_with fail
   clear hge
   go_ret
   have HW : Hid (anaE (d + 1) C (.node 3 nm n ty es) x = false) := by show _ = _; rw [HR.out, HP.out, HO.out]; rfl
   exact ⟨by rw [HW.out]; rfl, B.out⟩
  | true =>
   have HO := Lib.hid hho
   clear hho
   obtain ⟨w0, hw0, B, hz_w0, XE, FE, XT, FT⟩ := laid2 w #[.int .i64 3, .string nm, .int .i64 n, .int .i64 tk, .slice ta tn tc, .slice (some ⟨b, off, none⟩) 1 sc] 40 #[.int .i64 uk, .slice ua un uc] 33
   replace B := Lib.hid B
   go_enter Tryz.func48, Tryz.ntmps48
   go_wp2_with fail
   rw [← hw0]
   clear hw0
   refine (Calls.mono (implMatchArrow _ _ _ _ (HU.out.below B.out) hx) (fun _ _ h => match_b HP.out h)).mono ?_
   rintro e w1 ⟨D9, p1k, p1a, p1n, p1c, p2k, p2a, p2n, p2c, mid, rfl, hm, ho1, ho2, hb⟩
   have Op1 := Lib.hid ho1
   clear ho1
   have Op2 := Lib.hid ho2
   clear ho2
   have hz_w1 := hb.size
   replace B := bb B hb
   replace XE := xb XE hb
   replace FE := fb FE hb
   replace XT := xb XT hb
   replace FT := fb FT hb
   clear hb
   obtain ⟨wa2, hwa2, hb, hy_wa2, XT7, FT7, XT8, FT8⟩ := laid2 w1 #[.int .i64 p1k, .slice p1a p1n p1c] 33 #[.int .i64 p2k, .slice p2a p2n p2c] 33
   have hz_wa2 := hb.size
   replace B := bb B hb
   replace XE := xb XE hb
   replace FE := fb FE hb
   replace XT := xb XT hb
   replace FT := fb FT hb
   replace Op1 := ob Op1 hb
   replace Op2 := ob Op2 hb
   clear hb
   have cE_0 := XE.out.2 0
   have cE_1 := XE.out.2 1
   have cE_2 := XE.out.2 2
   have cE_3 := XE.out.2 3
   have cE_4 := XE.out.2 4
   have cE_5 := XE.out.2 5
   have cT7_0 := XT7.out.2 0
   have cT7_1 := XT7.out.2 1
   rw [hwa2] at cE_0
   rw [hwa2] at cE_1
   rw [hwa2] at cE_2
   rw [hwa2] at cE_3
   rw [hwa2] at cE_4
   rw [hwa2] at cE_5
   rw [hwa2] at cT7_0
   rw [hwa2] at cT7_1
   go_wp2_with fail
   clear cE_0 cE_1 cE_2 cE_3 cE_4 cE_5 cT7_0 cT7_1
   rw [← hwa2]
   clear hwa2
   have CC := implConsistent (d + D9) (.agg #[.int .i64 tk, .slice ta tn tc]) (.agg #[.int .i64 p1k, .slice p1a p1n p1c]) ty (x.parts 4).1 wa2 ((HTY.out.below B.out).mono (by omega)) (Op1.out.at_.mono (by omega)) (by omega) (by omega) (HMT.out.below B.out)
   have e0 := HO.out
   unfold Ty.okay at e0
   rw [e0] at CC
   clear e0
   refine CC.mono ?_
   clear CC
   rintro e w3 ⟨rfl, hb⟩
   have hz_w3 := hb.size
   replace B := bb B hb
   replace XE := xb XE hb
   replace FE := fb FE hb
   replace XT := xb XT hb
   replace FT := fb FT hb
   replace XT7 := xb XT7 hb
   replace FT7 := fb FT7 hb
   replace XT8 := xb XT8 hb
   replace FT8 := fb FT8 hb
   replace Op1 := ob Op1 hb
   replace Op2 := ob Op2 hb
   clear hb
   go_wp2_with fail
   obtain ⟨wd4, hwd4⟩ : ∃ W, W = w3.drew := ⟨_, rfl⟩
   have hb : Below w3.heap.size w3 wd4 := by rw [hwd4]; exact below_drew _
   have hz_wd4 := hb.size
   replace B := bb B hb
   replace XE := xb XE hb
   replace FE := fb FE hb
   replace XT := xb XT hb
   replace FT := fb FT hb
   replace XT7 := xb XT7 hb
   replace FT7 := fb FT7 hb
   replace XT8 := xb XT8 hb
   replace FT8 := fb FT8 hb
   replace Op1 := ob Op1 hb
   replace Op2 := ob Op2 hb
   clear hb
   refine wp_region_held_drew (S := fun w' => w'.cell? ⟨w.heap.size, 0, none⟩ = some (.int .i64 3) ∧ w'.cell? ⟨w.heap.size, 1, none⟩ = some (.string nm) ∧ w'.cell? ⟨w.heap.size, 2, none⟩ = some (.int .i64 n) ∧ w'.cell? ⟨w.heap.size, 3, none⟩ = some (.int .i64 tk) ∧ w'.cell? ⟨w.heap.size, 4, none⟩ = some (.slice ta tn tc) ∧ w'.cell? ⟨w.heap.size, 5, none⟩ = some (.slice (some ⟨b, off, none⟩) 1 sc) ∧ w'.cell? ⟨w1.heap.size + 1, 0, none⟩ = some (.int .i64 p2k) ∧ w'.cell? ⟨w1.heap.size + 1, 1, none⟩ = some (.slice p2a p2n p2c) ∧ w'.cell? ⟨b, off, none⟩ = some (.int .i64 xk) ∧ w'.cell? ⟨b, off + 1, none⟩ = some (.string xnm) ∧ w'.cell? ⟨b, off + 2, none⟩ = some (.int .i64 xn) ∧ w'.cell? ⟨b, off + 3, none⟩ = some (.int .i64 xtk) ∧ w'.cell? ⟨b, off + 4, none⟩ = some (.slice xta xtn xtc) ∧ w'.cell? ⟨b, off + 5, none⟩ = some (.slice xsa xsm xsc)) (by kernel_rfl) (by rw [← hwd4]; exact ⟨XE.out.2 0, XE.out.2 1, XE.out.2 2, XE.out.2 3, XE.out.2 4, XE.out.2 5, XT8.out.2 0, XT8.out.2 1, (B.out.cell (p := ⟨b, off, none⟩) hbl).trans K0_0.out, (B.out.cell (p := ⟨b, off + 1, none⟩) hbl).trans K0_1.out, (B.out.cell (p := ⟨b, off + 2, none⟩) hbl).trans K0_2.out, (B.out.cell (p := ⟨b, off + 3, none⟩) hbl).trans K0_3.out, (B.out.cell (p := ⟨b, off + 4, none⟩) hbl).trans K0_4.out, (B.out.cell (p := ⟨b, off + 5, none⟩) hbl).trans K0_5.out⟩) (fun hHeld => ?_)
   rw [← hwd4] at hHeld ⊢
   clear hwd4
   refine wpAnyH_take (i := 0) (v := ?v29_0) rfl (by kernel_rfl) (by kernel_rfl) (by kernel_rfl) (fun _ _ _ h => h) (Or.inl ⟨by kernel_rfl, ?hy29_0⟩) hHeld ?rest29_0
   case hy29_0 =>
    intro w hSw
    (try dsimp only at hSw)
    go_simp
    all_goals (first | done | with_reducible rfl)
   try simp only [Act.put]
   try simp only [List.setIfInBounds_toArray]
   try simp only [List.set_cons_succ]
   try simp only [List.set_cons_zero]
   refine wpAnyH_take (i := 1) (v := ?v30_1) rfl (by kernel_rfl) (by kernel_rfl) (by kernel_rfl) (fun _ _ _ h => h) (Or.inl ⟨by kernel_rfl, ?hy30_1⟩) hHeld ?rest30_1
   case hy30_1 =>
    intro w hSw
    (try dsimp only at hSw)
    go_simp
    all_goals (first | done | with_reducible rfl)
   try simp only [Act.put]
   try simp only [List.setIfInBounds_toArray]
   try simp only [List.set_cons_succ]
   try simp only [List.set_cons_zero]
   refine wpAnyH_take (i := 2) (v := ?v31_2) rfl (by kernel_rfl) (by kernel_rfl) (by kernel_rfl) (fun _ _ _ h => h) (Or.inl ⟨by kernel_rfl, ?hy31_2⟩) hHeld ?rest31_2
   case hy31_2 =>
    intro w hSw
    (try dsimp only at hSw)
    go_simp
    all_goals (first | done | with_reducible rfl)
   try simp only [Act.put]
   try simp only [List.setIfInBounds_toArray]
   try simp only [List.set_cons_succ]
   try simp only [List.set_cons_zero]
   refine wpAnyH_take (i := 3) (v := ?v32_3) rfl (by kernel_rfl) (by kernel_rfl) (by kernel_rfl) (fun _ _ _ h => h) (Or.inl ⟨by kernel_rfl, ?hy32_3⟩) hHeld ?rest32_3
   case hy32_3 =>
    intro w hSw
    (try dsimp only at hSw)
    go_simp
    all_goals (first | done | with_reducible rfl)
   try simp only [Act.put]
   try simp only [List.setIfInBounds_toArray]
   try simp only [List.set_cons_succ]
   try simp only [List.set_cons_zero]
   refine wpAnyH_take (i := 4) (v := ?v33_4) rfl (by kernel_rfl) (by kernel_rfl) (by kernel_rfl) (fun _ _ _ h => h) (Or.inl ⟨by kernel_rfl, ?hy33_4⟩) hHeld ?rest33_4
   case hy33_4 =>
    intro w hSw
    (try dsimp only at hSw)
    go_simp
    all_goals (first | done | with_reducible rfl)
   try simp only [Act.put]
   try simp only [List.setIfInBounds_toArray]
   try simp only [List.set_cons_succ]
   try simp only [List.set_cons_zero]
   refine wpAnyH_take (i := 6) (v := ?v34_6) rfl (by kernel_rfl) (by kernel_rfl) (by kernel_rfl) (fun _ _ _ h => h) (Or.inl ⟨by kernel_rfl, ?hy34_6⟩) hHeld ?rest34_6
   case hy34_6 =>
    intro w hSw
    (try dsimp only at hSw)
    go_simp
    all_goals (first | done | with_reducible rfl)
   try simp only [Act.put]
   try simp only [List.setIfInBounds_toArray]
   try simp only [List.set_cons_succ]
   try simp only [List.set_cons_zero]
   refine wpAnyH_take (i := 7) (v := ?v35_7) rfl (by kernel_rfl) (by kernel_rfl) (by kernel_rfl) (fun _ _ _ h => h) (Or.inl ⟨by kernel_rfl, ?hy35_7⟩) hHeld ?rest35_7
   case hy35_7 =>
    intro w hSw
    (try dsimp only at hSw)
    go_simp
    all_goals (first | done | with_reducible rfl)
   try simp only [Act.put]
   try simp only [List.setIfInBounds_toArray]
   try simp only [List.set_cons_succ]
   try simp only [List.set_cons_zero]
   refine wpAnyH_take (i := 8) (v := ?v36_8) rfl (by kernel_rfl) (by kernel_rfl) (by kernel_rfl) (fun _ _ _ h => h) (Or.inl ⟨by kernel_rfl, ?hy36_8⟩) hHeld ?rest36_8
   case hy36_8 =>
    intro w hSw
    (try dsimp only at hSw)
    go_simp
    all_goals (first | done | with_reducible rfl)
   try simp only [Act.put]
   try simp only [List.setIfInBounds_toArray]
   try simp only [List.set_cons_succ]
   try simp only [List.set_cons_zero]
   refine wpAnyH_take (i := 9) (v := ?v37_9) rfl (by kernel_rfl) (by kernel_rfl) (by kernel_rfl) (fun _ _ _ h => h) (Or.inl ⟨by kernel_rfl, ?hy37_9⟩) hHeld ?rest37_9
   case hy37_9 =>
    intro w hSw
    (try dsimp only at hSw)
    go_simp
    all_goals (first | done | with_reducible rfl)
   try simp only [Act.put]
   try simp only [List.setIfInBounds_toArray]
   try simp only [List.set_cons_succ]
   try simp only [List.set_cons_zero]
   refine wpAnyH_take (i := 10) (v := ?v38_10) rfl (by kernel_rfl) (by kernel_rfl) (by kernel_rfl) (fun _ _ _ h => h) (Or.inl ⟨by kernel_rfl, ?hy38_10⟩) hHeld ?rest38_10
   case hy38_10 =>
    intro w hSw
    (try dsimp only at hSw)
    go_simp
    all_goals (first | done | with_reducible rfl)
   try simp only [Act.put]
   try simp only [List.setIfInBounds_toArray]
   try simp only [List.set_cons_succ]
   try simp only [List.set_cons_zero]
   refine wpAnyH_ready (rs := [5]) (by kernel_rfl) (by simp) ?_
   refine AllReadyH.cons rfl (fun K hK => ?_) AllReadyH.nil
   go_simp
   go_at_call 70
   refine (implWith8 D d _ _ C nm ty _ (HV.out.below B.out) (HTY.out.below B.out) HNM.out hln).mono ?_
   rintro e w5 ⟨DC, ca, cn, cc, rfl, hcb, hb⟩
   have HCB := Lib.hid hcb
   clear hcb
   have hz_w5 := hb.size
   replace B := bb B hb
   replace XE := xb XE hb
   replace FE := fb FE hb
   replace XT := xb XT hb
   replace FT := fb FT hb
   replace XT7 := xb XT7 hb
   replace FT7 := fb FT7 hb
   replace XT8 := xb XT8 hb
   replace FT8 := fb FT8 hb
   replace Op1 := ob Op1 hb
   replace Op2 := ob Op2 hb
   clear hb
   clear hHeld
   try go_wp2_with fail
   refine hK.out _ _ (by exact ⟨XE.out.2 0, XE.out.2 1, XE.out.2 2, XE.out.2 3, XE.out.2 4, XE.out.2 5, XT8.out.2 0, XT8.out.2 1, (B.out.cell (p := ⟨b, off, none⟩) hbl).trans K0_0.out, (B.out.cell (p := ⟨b, off + 1, none⟩) hbl).trans K0_1.out, (B.out.cell (p := ⟨b, off + 2, none⟩) hbl).trans K0_2.out, (B.out.cell (p := ⟨b, off + 3, none⟩) hbl).trans K0_3.out, (B.out.cell (p := ⟨b, off + 4, none⟩) hbl).trans K0_4.out, (B.out.cell (p := ⟨b, off + 5, none⟩) hbl).trans K0_5.out⟩) (fun hHeld => ?_)
   clear hK K
   try simp only [Act.put]
   try simp only [List.setIfInBounds_toArray]
   try simp only [List.set_cons_succ]
   try simp only [List.set_cons_zero]
   refine wpAnyH_ready (rs := [11]) (by kernel_rfl) (by simp) ?_
   refine AllReadyH.cons rfl (fun K hK => ?_) AllReadyH.nil
   go_simp
   go_at_call 48
   have CA := IHA.out DC D9 pe _ _ _ (C ++ [⟨nm, ty⟩]) es[0] (x.parts 4).2.1 w5 HCB.out (HT0.out.below B.out) Op2.out.at_ HOU.out (by omega) (HERR.out.below B.out) (HMT.out.below B.out)
   refine CA.mono ?_
   clear CA
   rintro e w6 ⟨rfl, hb⟩
   clear HCB
   have hz_w6 := hb.size
   replace B := bb B hb
   replace XE := xb XE hb
   replace FE := fb FE hb
   replace XT := xb XT hb
   replace FT := fb FT hb
   replace XT7 := xb XT7 hb
   replace FT7 := fb FT7 hb
   replace XT8 := xb XT8 hb
   replace FT8 := fb FT8 hb
   replace Op1 := ob Op1 hb
   replace Op2 := ob Op2 hb
   clear hb
   clear hHeld
   try go_wp2_with fail
   refine hK.out _ _ (by exact ⟨XE.out.2 0, XE.out.2 1, XE.out.2 2, XE.out.2 3, XE.out.2 4, XE.out.2 5, XT8.out.2 0, XT8.out.2 1, (B.out.cell (p := ⟨b, off, none⟩) hbl).trans K0_0.out, (B.out.cell (p := ⟨b, off + 1, none⟩) hbl).trans K0_1.out, (B.out.cell (p := ⟨b, off + 2, none⟩) hbl).trans K0_2.out, (B.out.cell (p := ⟨b, off + 3, none⟩) hbl).trans K0_3.out, (B.out.cell (p := ⟨b, off + 4, none⟩) hbl).trans K0_4.out, (B.out.cell (p := ⟨b, off + 5, none⟩) hbl).trans K0_5.out⟩) (fun hHeld => ?_)
   clear hK K
   try simp only [Act.put]
   try simp only [List.setIfInBounds_toArray]
   try simp only [List.set_cons_succ]
   try simp only [List.set_cons_zero]
   refine wpAnyH_ready (rs := [12]) (by kernel_rfl) (by simp) ?_
   refine AllReadyH.cons rfl (fun K hK => ?_) AllReadyH.nil
   go_simp
   refine hK.out _ _ hHeld (fun hHeld => ?_)
   clear hK K
   try simp only [Act.put]
   try simp only [List.setIfInBounds_toArray]
   try simp only [List.set_cons_succ]
   try simp only [List.set_cons_zero]
   refine wpAnyH_done (by kernel_rfl) ?_ _
   try simp only [List.getElem_toArray]
   try simp only [List.getElem_cons_succ]
   try simp only [List.getElem_cons_zero]
   try simp only [Act.put]
   try simp only [List.setIfInBounds_toArray]
   try simp only [List.set_cons_succ]
   try simp only [List.set_cons_zero]
   go_wp2_with fail
   go_ret
   have HW : Hid (anaE (d + 1) C (.node 3 nm n ty es) x = anaE d (C ++ [⟨nm, ty⟩]) es[0] (x.parts 4).2.1) := by show _ = _; rw [HR.out, HP.out, HO.out]; rfl
   exact ⟨by rw [HW.out]; rfl, B.out⟩
end Go.Proofs.YteffjeejbdjjpaaGreatDoor
