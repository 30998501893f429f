/-
  Proved: spec.l9Ana: what an expression is analyzed against.
-/
import Derived.Test.YteffjeejbdjjpaaGreatDoorWellG32
import Derived.Test.YteffjeejbdjjpaaGreatDoorWellG19
import Derived.Test.YteffjeejbdjjpaaGreatDoorWellG20
namespace Go.Proofs.YteffjeejbdjjpaaGreatDoor
open Go.RowKit

set_option maxRecDepth 100000 in
set_option maxHeartbeats 2000000 in
theorem specAna9 (d : Nat) (ihs : SpecSynSaid (d + 1)) (iha : SpecAnaSaid d) (D D2 : Nat) (vc v tv : Value) (C : List Bi) (nm : ByteArray) (n : Int) (ty : Ty) (es : List Ex) (x : Ty) (w : World) (hv : BisAt w D vc C) (he : ExAt w (d + 1) v (.node 9 nm n ty es)) (ht : TyAt w D2 tv x) (hok : TypOk C (.node 9 nm n ty es)) (hx : x.size ≤ 1048577) :
  Calls Tryz.prog 45 #[vc, v, tv] w fun e w' => e = .returned (.bool (anaE (d + 1) C (.node 9 nm n ty es) x)) ∧ Below w.heap.size w w' := by
 have HE := Lib.hid he
 obtain ⟨uk, ua, un, uc, rfl⟩ := agg_parts ht
 have HU := Lib.hid ht
 clear ht
 obtain ⟨c3, c4, sl, hx, hk0, hk1, hn0, hn1, hnm, hty, sa, sc, hsl, hcap, hcap2, hat⟩ := he
 subst hsl
 obtain ⟨tk, ta, tn, tc, rfl, rfl⟩ := at_parts hty
 subst hx
 obtain ⟨va, vn, vc1, rfl⟩ : ∃ a n c, vc = .slice a n c := by obtain ⟨a, cap, hv, _⟩ := hv; exact ⟨_, _, _, hv⟩
 have hlen : es.length = 3 := by have h1 := (form_parts hok.1).1; have h2 : arity 9 = 3 := rfl; omega
 have hq0 : 0 < es.length := by omega
 have hq1 : 1 < es.length := by omega
 have hq2 : 2 < es.length := by omega
 obtain ⟨b, off, q0_0, q0_1, q0_2, q0_3, q0_4, q0_5, e0, hbl, z0_0, z0_1, z0_2, z0_3, z0_4, z0_5, ht0⟩ := hat 0 hq0
 subst e0
 obtain ⟨xk, xnm, xn, xtk, xta, xtn, xtc, xsa, xsm, xsc, rfl, rfl, rfl, rfl, rfl, rfl⟩ := ex_cells ht0
 simp only [Nat.zero_mul, Nat.add_zero] at z0_0 z0_1 z0_2 z0_3 z0_4 z0_5
 have K0_0 := Lib.hid z0_0
 have K0_1 := Lib.hid z0_1
 have K0_2 := Lib.hid z0_2
 have K0_3 := Lib.hid z0_3
 have K0_4 := Lib.hid z0_4
 have K0_5 := Lib.hid z0_5
 clear z0_0 z0_1 z0_2 z0_3 z0_4 z0_5
 have HT0 := Lib.hid ht0
 clear ht0
 obtain ⟨b1, off1, q1_0, q1_1, q1_2, q1_3, q1_4, q1_5, e1, hbl1, z1_0, z1_1, z1_2, z1_3, z1_4, z1_5, ht1⟩ := hat 1 hq1
 injection e1 with e1
 injection e1 with ea1 eb1
 subst ea1 eb1
 obtain ⟨yk, ynm, yn, ytk, yta, ytn, ytc, ysa, ysm, ysc, rfl, rfl, rfl, rfl, rfl, rfl⟩ := ex_cells ht1
 simp only [Nat.one_mul] at z1_0 z1_1 z1_2 z1_3 z1_4 z1_5
 have K1_0 := Lib.hid z1_0
 have K1_1 := Lib.hid z1_1
 have K1_2 := Lib.hid z1_2
 have K1_3 := Lib.hid z1_3
 have K1_4 := Lib.hid z1_4
 have K1_5 := Lib.hid z1_5
 clear z1_0 z1_1 z1_2 z1_3 z1_4 z1_5
 have HT1 := Lib.hid ht1
 clear ht1
 obtain ⟨b2, off2, q2_0, q2_1, q2_2, q2_3, q2_4, q2_5, e2, hbl2, z2_0, z2_1, z2_2, z2_3, z2_4, z2_5, ht2⟩ := hat 2 hq2
 injection e2 with e2
 injection e2 with ea2 eb2
 subst ea2 eb2
 obtain ⟨zk, znm, zn, ztk, zta, ztn, ztc, zsa, zsm, zsc, rfl, rfl, rfl, rfl, rfl, rfl⟩ := ex_cells ht2
 simp only [Nat.reduceMul] at z2_0 z2_1 z2_2 z2_3 z2_4 z2_5
 have K2_0 := Lib.hid z2_0
 have K2_1 := Lib.hid z2_1
 have K2_2 := Lib.hid z2_2
 have K2_3 := Lib.hid z2_3
 have K2_4 := Lib.hid z2_4
 have K2_5 := Lib.hid z2_5
 clear z2_0 z2_1 z2_2 z2_3 z2_4 z2_5
 have HT2 := Lib.hid ht2
 clear ht2
 have HV := Lib.hid hv
 clear hv
 have HOK := Lib.hid hok
 clear hok hat
 have HTY := Lib.hid hty
 clear hty
 have HNM := Lib.hid hnm
 clear hnm
 have IHS := Lib.hid ihs
 have IHA := Lib.hid iha
 clear ihs iha
 rw [hlen] at HE ⊢
 clear hlen
 have hr : anaE (d + 1) C (.node 9 nm n ty es) x = (anaE d C es[0] tyB && (anaE d C es[1] x && anaE d C es[2] x)) := by rw [anaE_succ]; simp only [anaStep]; rw [Ex.arg_get hq0, Ex.arg_get hq1, Ex.arg_get hq2]; simp
 have HR := Lib.hid hr
 clear hr
 obtain ⟨w0, hw0, B, hz_w0, XE, FE, XT, FT⟩ := laid2 w #[.int .i64 9, .string nm, .int .i64 n, .int .i64 tk, .slice ta tn tc, .slice (some ⟨b, off, none⟩) 3 sc] 40 #[.int .i64 uk, .slice ua un uc] 33
 replace B := Lib.hid B
 go_enter Tryz.func45, Tryz.ntmps45
 go_wp2_with fail
 rw [← hw0]
 clear hw0
 cases hha0 : anaE d C es[0] tyB with
 | false =>
  have HA0 := Lib.hid hha0
  clear hha0
  have gE_0 := gx XE 0
  have gE_1 := gx XE 1
  have gE_2 := gx XE 2
  have gE_3 := gx XE 3
  have gE_4 := gx XE 4
  have gE_5 := gx XE 5
  have gT_0 := gx XT 0
  have gT_1 := gx XT 1
  have gk0_0 := gk hbl B K0_0
  have gk0_1 := gk hbl B K0_1
  have gk0_2 := gk hbl B K0_2
  have gk0_3 := gk hbl B K0_3
  have gk0_4 := gk hbl B K0_4
  have gk0_5 := gk hbl B K0_5
  have gk1_0 := gk hbl B K1_0
  have gk1_1 := gk hbl B K1_1
  have gk1_2 := gk hbl B K1_2
  have gk1_3 := gk hbl B K1_3
  have gk1_4 := gk hbl B K1_4
  have gk1_5 := gk hbl B K1_5
  have gk2_0 := gk hbl B K2_0
  have gk2_1 := gk hbl B K2_1
  have gk2_2 := gk hbl B K2_2
  have gk2_3 := gk hbl B K2_3
  have gk2_4 := gk hbl B K2_4
  have gk2_5 := gk hbl B K2_5
  have CB : ∀ q : Grown w0.heap.size w0, Calls Tryz.prog 57 #[] q.val fun e w' => e = .returned (.agg #[.int .i64 3, .slice none 0 0]) ∧ Below q.val.heap.size q.val w' := fun q => specBoolType q.val
  have CA0 : ∀ q : Grown w0.heap.size w0, Calls Tryz.prog 45 #[.slice va vn vc1, .agg #[.int .i64 xk, .string xnm, .int .i64 xn, .int .i64 xtk, .slice xta xtn xtc, .slice xsa xsm xsc], .agg #[.int .i64 3, .slice none 0 0]] q.val fun e w' => e = .returned (.bool false) ∧ Below q.val.heap.size q.val w' := fun q => by have h := IHA.out D _ _ _ _ C es[0] tyB q.val ((HV.out.below B.out).below q.old) ((HT0.out.below B.out).below q.old) (leaf_at _ 3 (by omega) (by omega)) (HOK.out.part 0 hq0) (by simp [tyB, Ty.size, Ty.sizes]); rw [HA0.out] at h; exact h
  refine wp_region_grown w0.heap.size (by kernel_rfl) (by kernel_rfl) ?_
  repeat (go_big_quiet_step ((first | (go_at_call 57; exact grown_of (Nat.le_refl _) (CB _)) | (go_at_call 45; first | (with_reducible exact grown_of (Nat.le_refl _) (CA0 _))))))
  refine wpQuiet_nil ?_
  rintro wq1 ⟨⟨wz, hb⟩, hqe⟩
  have hqe2 : wq1 = wz := hqe
  clear hqe
  subst hqe2
  clear gE_0 gE_1 gE_2 gE_3 gE_4 gE_5 gT_0 gT_1 gk0_0 gk0_1 gk0_2 gk0_3 gk0_4 gk0_5 gk1_0 gk1_1 gk1_2 gk1_3 gk1_4 gk1_5 gk2_0 gk2_1 gk2_2 gk2_3 gk2_4 gk2_5 CB CA0
  have hz_wq1 := hb.size
  replace B := bb B hb
  replace XE := xb XE hb
  replace FE := fb FE hb
  replace XT := xb XT hb
  replace FT := fb FT hb
  clear hb
  go_wp2_with fail
  have HW : Hid (anaE (d + 1) C (.node 9 nm n ty es) x = false) := by show _ = _; rw [HR.out, HA0.out]; rfl
  go_ret
  exact ⟨by rw [HW.out]; try rfl, B.out⟩
 | true =>
  have HA0 := Lib.hid hha0
  clear hha0
  cases hha1 : anaE d C es[1] x with
  | false =>
   have HA1 := Lib.hid hha1
   clear hha1
   have gE_0 := gx XE 0
   have gE_1 := gx XE 1
   have gE_2 := gx XE 2
   have gE_3 := gx XE 3
   have gE_4 := gx XE 4
   have gE_5 := gx XE 5
   have gT_0 := gx XT 0
   have gT_1 := gx XT 1
   have gk0_0 := gk hbl B K0_0
   have gk0_1 := gk hbl B K0_1
   have gk0_2 := gk hbl B K0_2
   have gk0_3 := gk hbl B K0_3
   have gk0_4 := gk hbl B K0_4
   have gk0_5 := gk hbl B K0_5
   have gk1_0 := gk hbl B K1_0
   have gk1_1 := gk hbl B K1_1
   have gk1_2 := gk hbl B K1_2
   have gk1_3 := gk hbl B K1_3
   have gk1_4 := gk hbl B K1_4
   have gk1_5 := gk hbl B K1_5
   have gk2_0 := gk hbl B K2_0
   have gk2_1 := gk hbl B K2_1
   have gk2_2 := gk hbl B K2_2
   have gk2_3 := gk hbl B K2_3
   have gk2_4 := gk hbl B K2_4
   have gk2_5 := gk hbl B K2_5
   have CB : ∀ q : Grown w0.heap.size w0, Calls Tryz.prog 57 #[] q.val fun e w' => e = .returned (.agg #[.int .i64 3, .slice none 0 0]) ∧ Below q.val.heap.size q.val w' := fun q => specBoolType q.val
   have CA0 : ∀ q : Grown w0.heap.size w0, Calls Tryz.prog 45 #[.slice va vn vc1, .agg #[.int .i64 xk, .string xnm, .int .i64 xn, .int .i64 xtk, .slice xta xtn xtc, .slice xsa xsm xsc], .agg #[.int .i64 3, .slice none 0 0]] q.val fun e w' => e = .returned (.bool true) ∧ Below q.val.heap.size q.val w' := fun q => by have h := IHA.out D _ _ _ _ C es[0] tyB q.val ((HV.out.below B.out).below q.old) ((HT0.out.below B.out).below q.old) (leaf_at _ 3 (by omega) (by omega)) (HOK.out.part 0 hq0) (by simp [tyB, Ty.size, Ty.sizes]); rw [HA0.out] at h; exact h
   have CA1 : ∀ q : Grown w0.heap.size w0, Calls Tryz.prog 45 #[.slice va vn vc1, .agg #[.int .i64 yk, .string ynm, .int .i64 yn, .int .i64 ytk, .slice yta ytn ytc, .slice ysa ysm ysc], .agg #[.int .i64 uk, .slice ua un uc]] q.val fun e w' => e = .returned (.bool false) ∧ Below q.val.heap.size q.val w' := fun q => by have h := IHA.out D _ _ _ _ C es[1] x q.val ((HV.out.below B.out).below q.old) ((HT1.out.below B.out).below q.old) ((HU.out.below B.out).below q.old) (HOK.out.part 1 hq1) (hx); rw [HA1.out] at h; exact h
   refine wp_region_grown w0.heap.size (by kernel_rfl) (by kernel_rfl) ?_
   repeat (go_big_quiet_step ((first | (go_at_call 57; exact grown_of (Nat.le_refl _) (CB _)) | (go_at_call 45; first | (with_reducible exact grown_of (Nat.le_refl _) (CA0 _)) | (with_reducible exact grown_of (Nat.le_refl _) (CA1 _))))))
   refine wpQuiet_nil ?_
   rintro wq1 ⟨⟨wz, hb⟩, hqe⟩
   have hqe2 : wq1 = wz := hqe
   clear hqe
   subst hqe2
   clear gE_0 gE_1 gE_2 gE_3 gE_4 gE_5 gT_0 gT_1 gk0_0 gk0_1 gk0_2 gk0_3 gk0_4 gk0_5 gk1_0 gk1_1 gk1_2 gk1_3 gk1_4 gk1_5 gk2_0 gk2_1 gk2_2 gk2_3 gk2_4 gk2_5 CB CA0 CA1
   have hz_wq1 := hb.size
   replace B := bb B hb
   replace XE := xb XE hb
   replace FE := fb FE hb
   replace XT := xb XT hb
   replace FT := fb FT hb
   clear hb
   go_wp2_with fail
   have HW : Hid (anaE (d + 1) C (.node 9 nm n ty es) x = false) := by show _ = _; rw [HR.out, HA0.out, HA1.out]; rfl
   go_ret
   exact ⟨by rw [HW.out]; try rfl, B.out⟩
  | true =>
   have HA1 := Lib.hid hha1
   clear hha1
   cases hha2 : anaE d C es[2] x with
   | false =>
    have HA2 := Lib.hid hha2
    clear hha2
    have gE_0 := gx XE 0
    have gE_1 := gx XE 1
    have gE_2 := gx XE 2
    have gE_3 := gx XE 3
    have gE_4 := gx XE 4
    have gE_5 := gx XE 5
    have gT_0 := gx XT 0
    have gT_1 := gx XT 1
    have gk0_0 := gk hbl B K0_0
    have gk0_1 := gk hbl B K0_1
    have gk0_2 := gk hbl B K0_2
    have gk0_3 := gk hbl B K0_3
    have gk0_4 := gk hbl B K0_4
    have gk0_5 := gk hbl B K0_5
    have gk1_0 := gk hbl B K1_0
    have gk1_1 := gk hbl B K1_1
    have gk1_2 := gk hbl B K1_2
    have gk1_3 := gk hbl B K1_3
    have gk1_4 := gk hbl B K1_4
    have gk1_5 := gk hbl B K1_5
    have gk2_0 := gk hbl B K2_0
    have gk2_1 := gk hbl B K2_1
    have gk2_2 := gk hbl B K2_2
    have gk2_3 := gk hbl B K2_3
    have gk2_4 := gk hbl B K2_4
    have gk2_5 := gk hbl B K2_5
    have CB : ∀ q : Grown w0.heap.size w0, Calls Tryz.prog 57 #[] q.val fun e w' => e = .returned (.agg #[.int .i64 3, .slice none 0 0]) ∧ Below q.val.heap.size q.val w' := fun q => specBoolType q.val
    have CA0 : ∀ q : Grown w0.heap.size w0, Calls Tryz.prog 45 #[.slice va vn vc1, .agg #[.int .i64 xk, .string xnm, .int .i64 xn, .int .i64 xtk, .slice xta xtn xtc, .slice xsa xsm xsc], .agg #[.int .i64 3, .slice none 0 0]] q.val fun e w' => e = .returned (.bool true) ∧ Below q.val.heap.size q.val w' := fun q => by have h := IHA.out D _ _ _ _ C es[0] tyB q.val ((HV.out.below B.out).below q.old) ((HT0.out.below B.out).below q.old) (leaf_at _ 3 (by omega) (by omega)) (HOK.out.part 0 hq0) (by simp [tyB, Ty.size, Ty.sizes]); rw [HA0.out] at h; exact h
    have CA1 : ∀ q : Grown w0.heap.size w0, Calls Tryz.prog 45 #[.slice va vn vc1, .agg #[.int .i64 yk, .string ynm, .int .i64 yn, .int .i64 ytk, .slice yta ytn ytc, .slice ysa ysm ysc], .agg #[.int .i64 uk, .slice ua un uc]] q.val fun e w' => e = .returned (.bool true) ∧ Below q.val.heap.size q.val w' := fun q => by have h := IHA.out D _ _ _ _ C es[1] x q.val ((HV.out.below B.out).below q.old) ((HT1.out.below B.out).below q.old) ((HU.out.below B.out).below q.old) (HOK.out.part 1 hq1) (hx); rw [HA1.out] at h; exact h
    have CA2 : ∀ q : Grown w0.heap.size w0, Calls Tryz.prog 45 #[.slice va vn vc1, .agg #[.int .i64 zk, .string znm, .int .i64 zn, .int .i64 ztk, .slice zta ztn ztc, .slice zsa zsm zsc], .agg #[.int .i64 uk, .slice ua un uc]] q.val fun e w' => e = .returned (.bool false) ∧ Below q.val.heap.size q.val w' := fun q => by have h := IHA.out D _ _ _ _ C es[2] x q.val ((HV.out.below B.out).below q.old) ((HT2.out.below B.out).below q.old) ((HU.out.below B.out).below q.old) (HOK.out.part 2 hq2) (hx); rw [HA2.out] at h; exact h
    refine wp_region_grown w0.heap.size (by kernel_rfl) (by kernel_rfl) ?_
    repeat (go_big_quiet_step ((first | (go_at_call 57; exact grown_of (Nat.le_refl _) (CB _)) | (go_at_call 45; first | (with_reducible exact grown_of (Nat.le_refl _) (CA0 _)) | (with_reducible exact grown_of (Nat.le_refl _) (CA1 _)) | (with_reducible exact grown_of (Nat.le_refl _) (CA2 _))))))
    refine wpQuiet_nil ?_
    rintro wq1 ⟨⟨wz, hb⟩, hqe⟩
    have hqe2 : wq1 = wz := hqe
    clear hqe
    subst hqe2
    clear gE_0 gE_1 gE_2 gE_3 gE_4 gE_5 gT_0 gT_1 gk0_0 gk0_1 gk0_2 gk0_3 gk0_4 gk0_5 gk1_0 gk1_1 gk1_2 gk1_3 gk1_4 gk1_5 gk2_0 gk2_1 gk2_2 gk2_3 gk2_4 gk2_5 CB CA0 CA1 CA2
    have hz_wq1 := hb.size
    replace B := bb B hb
    replace XE := xb XE hb
    replace FE := fb FE hb
    replace XT := xb XT hb
    replace FT := fb FT hb
    clear hb
    go_wp2_with fail
    have HW : Hid (anaE (d + 1) C (.node 9 nm n ty es) x = false) := by show _ = _; rw [HR.out, HA0.out, HA1.out, HA2.out]; rfl
    go_ret
    exact ⟨by rw [HW.out]; try rfl, B.out⟩
   | true =>
    have HA2 := Lib.hid hha2
    clear hha2
    have gE_0 := gx XE 0
    have gE_1 := gx XE 1
    have gE_2 := gx XE 2
    have gE_3 := gx XE 3
    have gE_4 := gx XE 4
    have gE_5 := gx XE 5
    have gT_0 := gx XT 0
    have gT_1 := gx XT 1
    have gk0_0 := gk hbl B K0_0
    have gk0_1 := gk hbl B K0_1
    have gk0_2 := gk hbl B K0_2
    have gk0_3 := gk hbl B K0_3
    have gk0_4 := gk hbl B K0_4
    have gk0_5 := gk hbl B K0_5
    have gk1_0 := gk hbl B K1_0
    have gk1_1 := gk hbl B K1_1
    have gk1_2 := gk hbl B K1_2
    have gk1_3 := gk hbl B K1_3
    have gk1_4 := gk hbl B K1_4
    have gk1_5 := gk hbl B K1_5
    have gk2_0 := gk hbl B K2_0
    have gk2_1 := gk hbl B K2_1
    have gk2_2 := gk hbl B K2_2
    have gk2_3 := gk hbl B K2_3
    have gk2_4 := gk hbl B K2_4
    have gk2_5 := gk hbl B K2_5
    have CB : ∀ q : Grown w0.heap.size w0, Calls Tryz.prog 57 #[] q.val fun e w' => e = .returned (.agg #[.int .i64 3, .slice none 0 0]) ∧ Below q.val.heap.size q.val w' := fun q => specBoolType q.val
    have CA0 : ∀ q : Grown w0.heap.size w0, Calls Tryz.prog 45 #[.slice va vn vc1, .agg #[.int .i64 xk, .string xnm, .int .i64 xn, .int .i64 xtk, .slice xta xtn xtc, .slice xsa xsm xsc], .agg #[.int .i64 3, .slice none 0 0]] q.val fun e w' => e = .returned (.bool true) ∧ Below q.val.heap.size q.val w' := fun q => by have h := IHA.out D _ _ _ _ C es[0] tyB q.val ((HV.out.below B.out).below q.old) ((HT0.out.below B.out).below q.old) (leaf_at _ 3 (by omega) (by omega)) (HOK.out.part 0 hq0) (by simp [tyB, Ty.size, Ty.sizes]); rw [HA0.out] at h; exact h
    have CA1 : ∀ q : Grown w0.heap.size w0, Calls Tryz.prog 45 #[.slice va vn vc1, .agg #[.int .i64 yk, .string ynm, .int .i64 yn, .int .i64 ytk, .slice yta ytn ytc, .slice ysa ysm ysc], .agg #[.int .i64 uk, .slice ua un uc]] q.val fun e w' => e = .returned (.bool true) ∧ Below q.val.heap.size q.val w' := fun q => by have h := IHA.out D _ _ _ _ C es[1] x q.val ((HV.out.below B.out).below q.old) ((HT1.out.below B.out).below q.old) ((HU.out.below B.out).below q.old) (HOK.out.part 1 hq1) (hx); rw [HA1.out] at h; exact h
    have CA2 : ∀ q : Grown w0.heap.size w0, Calls Tryz.prog 45 #[.slice va vn vc1, .agg #[.int .i64 zk, .string znm, .int .i64 zn, .int .i64 ztk, .slice zta ztn ztc, .slice zsa zsm zsc], .agg #[.int .i64 uk, .slice ua un uc]] q.val fun e w' => e = .returned (.bool true) ∧ Below q.val.heap.size q.val w' := fun q => by have h := IHA.out D _ _ _ _ C es[2] x q.val ((HV.out.below B.out).below q.old) ((HT2.out.below B.out).below q.old) ((HU.out.below B.out).below q.old) (HOK.out.part 2 hq2) (hx); rw [HA2.out] at h; exact h
    refine wp_region_grown w0.heap.size (by kernel_rfl) (by kernel_rfl) ?_
    repeat (go_big_quiet_step ((first | (go_at_call 57; exact grown_of (Nat.le_refl _) (CB _)) | (go_at_call 45; first | (with_reducible exact grown_of (Nat.le_refl _) (CA0 _)) | (with_reducible exact grown_of (Nat.le_refl _) (CA1 _)) | (with_reducible exact grown_of (Nat.le_refl _) (CA2 _))))))
    refine wpQuiet_nil ?_
    rintro wq1 ⟨⟨wz, hb⟩, hqe⟩
    have hqe2 : wq1 = wz := hqe
    clear hqe
    subst hqe2
    clear gE_0 gE_1 gE_2 gE_3 gE_4 gE_5 gT_0 gT_1 gk0_0 gk0_1 gk0_2 gk0_3 gk0_4 gk0_5 gk1_0 gk1_1 gk1_2 gk1_3 gk1_4 gk1_5 gk2_0 gk2_1 gk2_2 gk2_3 gk2_4 gk2_5 CB CA0 CA1 CA2
    have hz_wq1 := hb.size
    replace B := bb B hb
    replace XE := xb XE hb
    replace FE := fb FE hb
    replace XT := xb XT hb
    replace FT := fb FT hb
    clear hb
    go_wp2_with fail
    have HW : Hid (anaE (d + 1) C (.node 9 nm n ty es) x = true) := by show _ = _; rw [HR.out, HA0.out, HA1.out, HA2.out]; rfl
    go_ret
    exact ⟨by rw [HW.out]; try rfl, B.out⟩
set_option maxRecDepth 100000 in
set_option maxHeartbeats 2000000 in
theorem specAna10 (d : Nat) (ihs : SpecSynSaid (d + 1)) (iha : SpecAnaSaid d) (D D2 : Nat) (vc v tv : Value) (C : List Bi) (nm : ByteArray) (n : Int) (ty : Ty) (es : List Ex) (x : Ty) (w : World) (hv : BisAt w D vc C) (he : ExAt w (d + 1) v (.node 10 nm n ty es)) (ht : TyAt w D2 tv x) (hok : TypOk C (.node 10 nm n ty es)) (hx : x.size ≤ 1048577) :
  Calls Tryz.prog 45 #[vc, v, tv] w fun e w' => e = .returned (.bool (anaE (d + 1) C (.node 10 nm n ty es) x)) ∧ Below w.heap.size w w' := by
 have HE := Lib.hid he
 obtain ⟨uk, ua, un, uc, rfl⟩ := agg_parts ht
 have HU := Lib.hid ht
 clear ht
 obtain ⟨c3, c4, sl, hx, hk0, hk1, hn0, hn1, hnm, hty, sa, sc, hsl, hcap, hcap2, hat⟩ := he
 subst hsl
 obtain ⟨tk, ta, tn, tc, rfl, rfl⟩ := at_parts hty
 subst hx
 obtain ⟨va, vn, vc1, rfl⟩ : ∃ a n c, vc = .slice a n c := by obtain ⟨a, cap, hv, _⟩ := hv; exact ⟨_, _, _, hv⟩
 have hlen : es.length = 2 := by have h1 := (form_parts hok.1).1; have h2 : arity 10 = 2 := rfl; omega
 have hq0 : 0 < es.length := by omega
 have hq1 : 1 < es.length := by omega
 obtain ⟨b, off, q0_0, q0_1, q0_2, q0_3, q0_4, q0_5, e0, hbl, z0_0, z0_1, z0_2, z0_3, z0_4, z0_5, ht0⟩ := hat 0 hq0
 subst e0
 obtain ⟨xk, xnm, xn, xtk, xta, xtn, xtc, xsa, xsm, xsc, rfl, rfl, rfl, rfl, rfl, rfl⟩ := ex_cells ht0
 simp only [Nat.zero_mul, Nat.add_zero] at z0_0 z0_1 z0_2 z0_3 z0_4 z0_5
 have K0_0 := Lib.hid z0_0
 have K0_1 := Lib.hid z0_1
 have K0_2 := Lib.hid z0_2
 have K0_3 := Lib.hid z0_3
 have K0_4 := Lib.hid z0_4
 have K0_5 := Lib.hid z0_5
 clear z0_0 z0_1 z0_2 z0_3 z0_4 z0_5
 have HT0 := Lib.hid ht0
 clear ht0
 obtain ⟨b1, off1, q1_0, q1_1, q1_2, q1_3, q1_4, q1_5, e1, hbl1, z1_0, z1_1, z1_2, z1_3, z1_4, z1_5, ht1⟩ := hat 1 hq1
 injection e1 with e1
 injection e1 with ea1 eb1
 subst ea1 eb1
 obtain ⟨yk, ynm, yn, ytk, yta, ytn, ytc, ysa, ysm, ysc, rfl, rfl, rfl, rfl, rfl, rfl⟩ := ex_cells ht1
 simp only [Nat.one_mul] at z1_0 z1_1 z1_2 z1_3 z1_4 z1_5
 have K1_0 := Lib.hid z1_0
 have K1_1 := Lib.hid z1_1
 have K1_2 := Lib.hid z1_2
 have K1_3 := Lib.hid z1_3
 have K1_4 := Lib.hid z1_4
 have K1_5 := Lib.hid z1_5
 clear z1_0 z1_1 z1_2 z1_3 z1_4 z1_5
 have HT1 := Lib.hid ht1
 clear ht1
 have HV := Lib.hid hv
 clear hv
 have HOK := Lib.hid hok
 clear hok hat
 have HTY := Lib.hid hty
 clear hty
 have HNM := Lib.hid hnm
 clear hnm
 have IHS := Lib.hid ihs
 have IHA := Lib.hid iha
 clear ihs iha
 rw [hlen] at HE ⊢
 clear hlen
 have hr : anaE (d + 1) C (.node 10 nm n ty es) x = ((x.parts 5).2.2 && (anaE d C es[0] (x.parts 5).1 && anaE d C es[1] (x.parts 5).2.1)) := by rw [anaE_succ]; simp only [anaStep]; rw [Ex.arg_get hq0, Ex.arg_get hq1]; simp
 have HR := Lib.hid hr
 clear hr
 obtain ⟨w0, hw0, B, hz_w0, XE, FE, XT, FT⟩ := laid2 w #[.int .i64 10, .string nm, .int .i64 n, .int .i64 tk, .slice ta tn tc, .slice (some ⟨b, off, none⟩) 2 sc] 40 #[.int .i64 uk, .slice ua un uc] 33
 replace B := Lib.hid B
 go_enter Tryz.func45, Tryz.ntmps45
 go_wp2_with fail
 rw [← hw0]
 clear hw0
 refine (Calls.mono (specMatchPair _ _ _ _ (HU.out.below B.out) hx) (fun _ _ h => match_b rfl h)).mono ?_
 rintro e w1 ⟨D9, p1k, p1a, p1n, p1c, p2k, p2a, p2n, p2c, mid, rfl, hm, ho1, ho2, hb⟩
 have Op1 := Lib.hid ho1
 clear ho1
 have Op2 := Lib.hid ho2
 clear ho2
 have hz_w1 := hb.size
 replace B := bb B hb
 replace XE := xb XE hb
 replace FE := fb FE hb
 replace XT := xb XT hb
 replace FT := fb FT hb
 clear hb
 go_wp2_with fail
 obtain ⟨wa2, hwa2, hb, hy_wa2, XT10, FT10, XT11, FT11⟩ := laid2 w1 #[.int .i64 p1k, .slice p1a p1n p1c] 33 #[.int .i64 p2k, .slice p2a p2n p2c] 33
 have hz_wa2 := hb.size
 replace B := bb B hb
 replace XE := xb XE hb
 replace FE := fb FE hb
 replace XT := xb XT hb
 replace FT := fb FT hb
 replace Op1 := ob Op1 hb
 replace Op2 := ob Op2 hb
 clear hb
 rw [← hwa2]
 clear hwa2
 cases hhp : (x.parts 5).2.2 with
 | false =>
  have HP := Lib.hid hhp
  clear hhp
  have gE_0 := gx XE 0
  have gE_1 := gx XE 1
  have gE_2 := gx XE 2
  have gE_3 := gx XE 3
  have gE_4 := gx XE 4
  have gE_5 := gx XE 5
  have gT10_0 := gx XT10 0
  have gT10_1 := gx XT10 1
  have gT11_0 := gx XT11 0
  have gT11_1 := gx XT11 1
  have gk0_0 := gk hbl B K0_0
  have gk0_1 := gk hbl B K0_1
  have gk0_2 := gk hbl B K0_2
  have gk0_3 := gk hbl B K0_3
  have gk0_4 := gk hbl B K0_4
  have gk0_5 := gk hbl B K0_5
  have gk1_0 := gk hbl B K1_0
  have gk1_1 := gk hbl B K1_1
  have gk1_2 := gk hbl B K1_2
  have gk1_3 := gk hbl B K1_3
  have gk1_4 := gk hbl B K1_4
  have gk1_5 := gk hbl B K1_5
  refine wp_region_grown wa2.heap.size (by kernel_rfl) (by kernel_rfl) ?_
  repeat (go_big_quiet_step (fail))
  refine wpQuiet_nil ?_
  rintro wq3 ⟨⟨wz, hb⟩, hqe⟩
  have hqe2 : wq3 = wz := hqe
  clear hqe
  subst hqe2
  clear gE_0 gE_1 gE_2 gE_3 gE_4 gE_5 gT10_0 gT10_1 gT11_0 gT11_1 gk0_0 gk0_1 gk0_2 gk0_3 gk0_4 gk0_5 gk1_0 gk1_1 gk1_2 gk1_3 gk1_4 gk1_5
  have hz_wq3 := hb.size
  replace B := bb B hb
  replace XE := xb XE hb
  replace FE := fb FE hb
  replace XT := xb XT hb
  replace FT := fb FT hb
  replace XT10 := xb XT10 hb
  replace FT10 := fb FT10 hb
  replace XT11 := xb XT11 hb
  replace FT11 := fb FT11 hb
  replace Op1 := ob Op1 hb
  replace Op2 := ob Op2 hb
  clear hb
  go_wp2_with fail
  have HW : Hid (anaE (d + 1) C (.node 10 nm n ty es) x = false) := by show _ = _; rw [HR.out, HP.out]; rfl
  go_ret
  exact ⟨by rw [HW.out]; try rfl, B.out⟩
 | true =>
  have HP := Lib.hid hhp
  clear hhp
  cases hha0 : anaE d C es[0] (x.parts 5).1 with
  | false =>
   have HA0 := Lib.hid hha0
   clear hha0
   have gE_0 := gx XE 0
   have gE_1 := gx XE 1
   have gE_2 := gx XE 2
   have gE_3 := gx XE 3
   have gE_4 := gx XE 4
   have gE_5 := gx XE 5
   have gT10_0 := gx XT10 0
   have gT10_1 := gx XT10 1
   have gT11_0 := gx XT11 0
   have gT11_1 := gx XT11 1
   have gk0_0 := gk hbl B K0_0
   have gk0_1 := gk hbl B K0_1
   have gk0_2 := gk hbl B K0_2
   have gk0_3 := gk hbl B K0_3
   have gk0_4 := gk hbl B K0_4
   have gk0_5 := gk hbl B K0_5
   have gk1_0 := gk hbl B K1_0
   have gk1_1 := gk hbl B K1_1
   have gk1_2 := gk hbl B K1_2
   have gk1_3 := gk hbl B K1_3
   have gk1_4 := gk hbl B K1_4
   have gk1_5 := gk hbl B K1_5
   have CA0 : ∀ q : Grown wa2.heap.size wa2, Calls Tryz.prog 45 #[.slice va vn vc1, .agg #[.int .i64 xk, .string xnm, .int .i64 xn, .int .i64 xtk, .slice xta xtn xtc, .slice xsa xsm xsc], .agg #[.int .i64 p1k, .slice p1a p1n p1c]] q.val fun e w' => e = .returned (.bool false) ∧ Below q.val.heap.size q.val w' := fun q => by have h := IHA.out D _ _ _ _ C es[0] (x.parts 5).1 q.val ((HV.out.below B.out).below q.old) ((HT0.out.below B.out).below q.old) (Op1.out.at_.below q.old) (HOK.out.part 0 hq0) (by have := (parts_size 5 x).1; omega); rw [HA0.out] at h; exact h
   refine wp_region_grown wa2.heap.size (by kernel_rfl) (by kernel_rfl) ?_
   repeat (go_big_quiet_step ((go_at_call 45; first | (with_reducible exact grown_of (Nat.le_refl _) (CA0 _)))))
   refine wpQuiet_nil ?_
   rintro wq3 ⟨⟨wz, hb⟩, hqe⟩
   have hqe2 : wq3 = wz := hqe
   clear hqe
   subst hqe2
   clear gE_0 gE_1 gE_2 gE_3 gE_4 gE_5 gT10_0 gT10_1 gT11_0 gT11_1 gk0_0 gk0_1 gk0_2 gk0_3 gk0_4 gk0_5 gk1_0 gk1_1 gk1_2 gk1_3 gk1_4 gk1_5 CA0
   have hz_wq3 := hb.size
   replace B := bb B hb
   replace XE := xb XE hb
   replace FE := fb FE hb
   replace XT := xb XT hb
   replace FT := fb FT hb
   replace XT10 := xb XT10 hb
   replace FT10 := fb FT10 hb
   replace XT11 := xb XT11 hb
   replace FT11 := fb FT11 hb
   replace Op1 := ob Op1 hb
   replace Op2 := ob Op2 hb
   clear hb
   go_wp2_with fail
   have HW : Hid (anaE (d + 1) C (.node 10 nm n ty es) x = false) := by show _ = _; rw [HR.out, HP.out, HA0.out]; rfl
   go_ret
   exact ⟨by rw [HW.out]; try rfl, B.out⟩
  | true =>
   have HA0 := Lib.hid hha0
   clear hha0
   cases hha1 : anaE d C es[1] (x.parts 5).2.1 with
   | false =>
    have HA1 := Lib.hid hha1
    clear hha1
    have gE_0 := gx XE 0
    have gE_1 := gx XE 1
    have gE_2 := gx XE 2
    have gE_3 := gx XE 3
    have gE_4 := gx XE 4
    have gE_5 := gx XE 5
    have gT10_0 := gx XT10 0
    have gT10_1 := gx XT10 1
    have gT11_0 := gx XT11 0
    have gT11_1 := gx XT11 1
    have gk0_0 := gk hbl B K0_0
    have gk0_1 := gk hbl B K0_1
    have gk0_2 := gk hbl B K0_2
    have gk0_3 := gk hbl B K0_3
    have gk0_4 := gk hbl B K0_4
    have gk0_5 := gk hbl B K0_5
    have gk1_0 := gk hbl B K1_0
    have gk1_1 := gk hbl B K1_1
    have gk1_2 := gk hbl B K1_2
    have gk1_3 := gk hbl B K1_3
    have gk1_4 := gk hbl B K1_4
    have gk1_5 := gk hbl B K1_5
    have CA0 : ∀ q : Grown wa2.heap.size wa2, Calls Tryz.prog 45 #[.slice va vn vc1, .agg #[.int .i64 xk, .string xnm, .int .i64 xn, .int .i64 xtk, .slice xta xtn xtc, .slice xsa xsm xsc], .agg #[.int .i64 p1k, .slice p1a p1n p1c]] q.val fun e w' => e = .returned (.bool true) ∧ Below q.val.heap.size q.val w' := fun q => by have h := IHA.out D _ _ _ _ C es[0] (x.parts 5).1 q.val ((HV.out.below B.out).below q.old) ((HT0.out.below B.out).below q.old) (Op1.out.at_.below q.old) (HOK.out.part 0 hq0) (by have := (parts_size 5 x).1; omega); rw [HA0.out] at h; exact h
    have CA1 : ∀ q : Grown wa2.heap.size wa2, Calls Tryz.prog 45 #[.slice va vn vc1, .agg #[.int .i64 yk, .string ynm, .int .i64 yn, .int .i64 ytk, .slice yta ytn ytc, .slice ysa ysm ysc], .agg #[.int .i64 p2k, .slice p2a p2n p2c]] q.val fun e w' => e = .returned (.bool false) ∧ Below q.val.heap.size q.val w' := fun q => by have h := IHA.out D _ _ _ _ C es[1] (x.parts 5).2.1 q.val ((HV.out.below B.out).below q.old) ((HT1.out.below B.out).below q.old) (Op2.out.at_.below q.old) (HOK.out.part 1 hq1) (by have := (parts_size 5 x).2; omega); rw [HA1.out] at h; exact h
    refine wp_region_grown wa2.heap.size (by kernel_rfl) (by kernel_rfl) ?_
    repeat (go_big_quiet_step ((go_at_call 45; first | (with_reducible exact grown_of (Nat.le_refl _) (CA0 _)) | (with_reducible exact grown_of (Nat.le_refl _) (CA1 _)))))
    refine wpQuiet_nil ?_
    rintro wq3 ⟨⟨wz, hb⟩, hqe⟩
    have hqe2 : wq3 = wz := hqe
    clear hqe
    subst hqe2
    clear gE_0 gE_1 gE_2 gE_3 gE_4 gE_5 gT10_0 gT10_1 gT11_0 gT11_1 gk0_0 gk0_1 gk0_2 gk0_3 gk0_4 gk0_5 gk1_0 gk1_1 gk1_2 gk1_3 gk1_4 gk1_5 CA0 CA1
    have hz_wq3 := hb.size
    replace B := bb B hb
    replace XE := xb XE hb
    replace FE := fb FE hb
    replace XT := xb XT hb
    replace FT := fb FT hb
    replace XT10 := xb XT10 hb
    replace FT10 := fb FT10 hb
    replace XT11 := xb XT11 hb
    replace FT11 := fb FT11 hb
    replace Op1 := ob Op1 hb
    replace Op2 := ob Op2 hb
    clear hb
    go_wp2_with fail
    have HW : Hid (anaE (d + 1) C (.node 10 nm n ty es) x = false) := by show _ = _; rw [HR.out, HP.out, HA0.out, HA1.out]; rfl
    go_ret
    exact ⟨by rw [HW.out]; try rfl, B.out⟩
   | true =>
    have HA1 := Lib.hid hha1
    clear hha1
    have gE_0 := gx XE 0
    have gE_1 := gx XE 1
    have gE_2 := gx XE 2
    have gE_3 := gx XE 3
    have gE_4 := gx XE 4
    have gE_5 := gx XE 5
    have gT10_0 := gx XT10 0
    have gT10_1 := gx XT10 1
    have gT11_0 := gx XT11 0
    have gT11_1 := gx XT11 1
    have gk0_0 := gk hbl B K0_0
    have gk0_1 := gk hbl B K0_1
    have gk0_2 := gk hbl B K0_2
    have gk0_3 := gk hbl B K0_3
    have gk0_4 := gk hbl B K0_4
    have gk0_5 := gk hbl B K0_5
    have gk1_0 := gk hbl B K1_0
    have gk1_1 := gk hbl B K1_1
    have gk1_2 := gk hbl B K1_2
    have gk1_3 := gk hbl B K1_3
    have gk1_4 := gk hbl B K1_4
    have gk1_5 := gk hbl B K1_5
    have CA0 : ∀ q : Grown wa2.heap.size wa2, Calls Tryz.prog 45 #[.slice va vn vc1, .agg #[.int .i64 xk, .string xnm, .int .i64 xn, .int .i64 xtk, .slice xta xtn xtc, .slice xsa xsm xsc], .agg #[.int .i64 p1k, .slice p1a p1n p1c]] q.val fun e w' => e = .returned (.bool true) ∧ Below q.val.heap.size q.val w' := fun q => by have h := IHA.out D _ _ _ _ C es[0] (x.parts 5).1 q.val ((HV.out.below B.out).below q.old) ((HT0.out.below B.out).below q.old) (Op1.out.at_.below q.old) (HOK.out.part 0 hq0) (by have := (parts_size 5 x).1; omega); rw [HA0.out] at h; exact h
    have CA1 : ∀ q : Grown wa2.heap.size wa2, Calls Tryz.prog 45 #[.slice va vn vc1, .agg #[.int .i64 yk, .string ynm, .int .i64 yn, .int .i64 ytk, .slice yta ytn ytc, .slice ysa ysm ysc], .agg #[.int .i64 p2k, .slice p2a p2n p2c]] q.val fun e w' => e = .returned (.bool true) ∧ Below q.val.heap.size q.val w' := fun q => by have h := IHA.out D _ _ _ _ C es[1] (x.parts 5).2.1 q.val ((HV.out.below B.out).below q.old) ((HT1.out.below B.out).below q.old) (Op2.out.at_.below q.old) (HOK.out.part 1 hq1) (by have := (parts_size 5 x).2; omega); rw [HA1.out] at h; exact h
    refine wp_region_grown wa2.heap.size (by kernel_rfl) (by kernel_rfl) ?_
    repeat (go_big_quiet_step ((go_at_call 45; first | (with_reducible exact grown_of (Nat.le_refl _) (CA0 _)) | (with_reducible exact grown_of (Nat.le_refl _) (CA1 _)))))
    refine wpQuiet_nil ?_
    rintro wq3 ⟨⟨wz, hb⟩, hqe⟩
    have hqe2 : wq3 = wz := hqe
    clear hqe
    subst hqe2
    clear gE_0 gE_1 gE_2 gE_3 gE_4 gE_5 gT10_0 gT10_1 gT11_0 gT11_1 gk0_0 gk0_1 gk0_2 gk0_3 gk0_4 gk0_5 gk1_0 gk1_1 gk1_2 gk1_3 gk1_4 gk1_5 CA0 CA1
    have hz_wq3 := hb.size
    replace B := bb B hb
    replace XE := xb XE hb
    replace FE := fb FE hb
    replace XT := xb XT hb
    replace FT := fb FT hb
    replace XT10 := xb XT10 hb
    replace FT10 := fb FT10 hb
    replace XT11 := xb XT11 hb
    replace FT11 := fb FT11 hb
    replace Op1 := ob Op1 hb
    replace Op2 := ob Op2 hb
    clear hb
    go_wp2_with fail
    have HW : Hid (anaE (d + 1) C (.node 10 nm n ty es) x = true) := by show _ = _; rw [HR.out, HP.out, HA0.out, HA1.out]; rfl
    go_ret
    exact ⟨by rw [HW.out]; try rfl, B.out⟩
set_option maxRecDepth 100000 in
set_option maxHeartbeats 2000000 in
theorem specAna3 (d : Nat) (ihs : SpecSynSaid (d + 1)) (iha : SpecAnaSaid d) (D D2 : Nat) (vc v tv : Value) (C : List Bi) (nm : ByteArray) (n : Int) (ty : Ty) (es : List Ex) (x : Ty) (w : World) (hv : BisAt w D vc C) (he : ExAt w (d + 1) v (.node 3 nm n ty es)) (ht : TyAt w D2 tv x) (hok : TypOk C (.node 3 nm n ty es)) (hx : x.size ≤ 1048577) :
  Calls Tryz.prog 45 #[vc, v, tv] w fun e w' => e = .returned (.bool (anaE (d + 1) C (.node 3 nm n ty es) x)) ∧ Below w.heap.size w w' := by
 have HE := Lib.hid he
 obtain ⟨uk, ua, un, uc, rfl⟩ := agg_parts ht
 have HU := Lib.hid ht
 clear ht
 obtain ⟨c3, c4, sl, hx, hk0, hk1, hn0, hn1, hnm, hty, sa, sc, hsl, hcap, hcap2, hat⟩ := he
 subst hsl
 obtain ⟨tk, ta, tn, tc, rfl, rfl⟩ := at_parts hty
 subst hx
 obtain ⟨va, vn, vc1, rfl⟩ : ∃ a n c, vc = .slice a n c := by obtain ⟨a, cap, hv, _⟩ := hv; exact ⟨_, _, _, hv⟩
 have hlen : es.length = 1 := by have h1 := (form_parts hok.1).1; have h2 : arity 3 = 1 := rfl; omega
 have hq0 : 0 < es.length := by omega
 obtain ⟨b, off, q0_0, q0_1, q0_2, q0_3, q0_4, q0_5, e0, hbl, z0_0, z0_1, z0_2, z0_3, z0_4, z0_5, ht0⟩ := hat 0 hq0
 subst e0
 obtain ⟨xk, xnm, xn, xtk, xta, xtn, xtc, xsa, xsm, xsc, rfl, rfl, rfl, rfl, rfl, rfl⟩ := ex_cells ht0
 simp only [Nat.zero_mul, Nat.add_zero] at z0_0 z0_1 z0_2 z0_3 z0_4 z0_5
 have K0_0 := Lib.hid z0_0
 have K0_1 := Lib.hid z0_1
 have K0_2 := Lib.hid z0_2
 have K0_3 := Lib.hid z0_3
 have K0_4 := Lib.hid z0_4
 have K0_5 := Lib.hid z0_5
 clear z0_0 z0_1 z0_2 z0_3 z0_4 z0_5
 have HT0 := Lib.hid ht0
 clear ht0
 have HV := Lib.hid hv
 clear hv
 have HOK := Lib.hid hok
 clear hok hat
 have HTY := Lib.hid hty
 clear hty
 have HNM := Lib.hid hnm
 clear hnm
 have IHS := Lib.hid ihs
 have IHA := Lib.hid iha
 clear ihs iha
 rw [hlen] at HE ⊢
 clear hlen
 have hr : anaE (d + 1) C (.node 3 nm n ty es) x = ((x.parts 4).2.2 && (ty.okay (x.parts 4).1 && anaE d (C ++ [⟨nm, ty⟩]) es[0] (x.parts 4).2.1)) := by rw [anaE_succ]; simp only [anaStep]; rw [Ex.arg_get hq0]; simp
 have HR := Lib.hid hr
 clear hr
 have HOU := Lib.hid (HOK.out.under hq0)
 have htz : ty.size ≤ 15 := note_small ((form_parts HOK.out.1).2.2 (Or.inl rfl))
 have hln := HOK.out.len
 have hps := parts_size 4 x
 cases hhp : (x.parts 4).2.2 with
 | false =>
  have HP := Lib.hid hhp
  clear hhp
  obtain ⟨w0, hw0, B, hz_w0, XE, FE, XT, FT⟩ := laid2 w #[.int .i64 3, .string nm, .int .i64 n, .int .i64 tk, .slice ta tn tc, .slice (some ⟨b, off, none⟩) 1 sc] 40 #[.int .i64 uk, .slice ua un uc] 33
  replace B := Lib.hid B
  go_enter Tryz.func45, Tryz.ntmps45
  go_wp2_with fail
  rw [← hw0]
  clear hw0
  refine (Calls.mono (specMatchArrow _ _ _ _ (HU.out.below B.out) hx) (fun _ _ h => match_b HP.out h)).mono ?_
  rintro e w1 ⟨D9, p1k, p1a, p1n, p1c, p2k, p2a, p2n, p2c, mid, rfl, hm, ho1, ho2, hb⟩
  have Op1 := Lib.hid ho1
  clear ho1
  have Op2 := Lib.hid ho2
  clear ho2
  have hz_w1 := hb.size
  replace B := bb B hb
  replace XE := xb XE hb
  replace FE := fb FE hb
  replace XT := xb XT hb
  replace FT := fb FT hb
  clear hb
  go_wp2_with fail
  obtain ⟨wa2, hwa2, hb, hy_wa2, XT7, FT7, XT8, FT8⟩ := laid2 w1 #[.int .i64 p1k, .slice p1a p1n p1c] 33 #[.int .i64 p2k, .slice p2a p2n p2c] 33
  have hz_wa2 := hb.size
  replace B := bb B hb
  replace XE := xb XE hb
  replace FE := fb FE hb
  replace XT := xb XT hb
  replace FT := fb FT hb
  replace Op1 := ob Op1 hb
  replace Op2 := ob Op2 hb
  clear hb
  rw [← hwa2]
  clear hwa2
  have gE_0 := gx XE 0
  have gE_1 := gx XE 1
  have gE_2 := gx XE 2
  have gE_3 := gx XE 3
  have gE_4 := gx XE 4
  have gE_5 := gx XE 5
  have gT7_0 := gx XT7 0
  have gT7_1 := gx XT7 1
  have gT8_0 := gx XT8 0
  have gT8_1 := gx XT8 1
  have gk0_0 := gk hbl B K0_0
  have gk0_1 := gk hbl B K0_1
  have gk0_2 := gk hbl B K0_2
  have gk0_3 := gk hbl B K0_3
  have gk0_4 := gk hbl B K0_4
  have gk0_5 := gk hbl B K0_5
  refine wp_region_grown wa2.heap.size (by kernel_rfl) (by kernel_rfl) ?_
  repeat (go_big_quiet_step (fail))
  refine wpQuiet_nil ?_
  rintro wq3 ⟨⟨wz, hb⟩, hqe⟩
  have hqe2 : wq3 = wz := hqe
  clear hqe
  subst hqe2
  clear gE_0 gE_1 gE_2 gE_3 gE_4 gE_5 gT7_0 gT7_1 gT8_0 gT8_1 gk0_0 gk0_1 gk0_2 gk0_3 gk0_4 gk0_5
  have hz_wq3 := hb.size
  replace B := bb B hb
  replace XE := xb XE hb
  replace FE := fb FE hb
  replace XT := xb XT hb
  replace FT := fb FT hb
  replace XT7 := xb XT7 hb
  replace FT7 := fb FT7 hb
  replace XT8 := xb XT8 hb
  replace FT8 := fb FT8 hb
  replace Op1 := ob Op1 hb
  replace Op2 := ob Op2 hb
  clear hb
  go_wp2_with fail
  have HW : Hid (anaE (d + 1) C (.node 3 nm n ty es) x = false) := by show _ = _; rw [HR.out, HP.out]; rfl
  go_ret
  exact ⟨by rw [HW.out]; try rfl, B.out⟩
 | true =>
  have HP := Lib.hid hhp
  clear hhp
  cases hho : ty.okay (x.parts 4).1 with
  | false =>
   have HO := Lib.hid hho
   clear hho
   obtain ⟨w0, hw0, B, hz_w0, XE, FE, XT, FT⟩ := laid2 w #[.int .i64 3, .string nm, .int .i64 n, .int .i64 tk, .slice ta tn tc, .slice (some ⟨b, off, none⟩) 1 sc] 40 #[.int .i64 uk, .slice ua un uc] 33
   replace B := Lib.hid B
   go_enter Tryz.func45, Tryz.ntmps45
   go_wp2_with fail
   rw [← hw0]
   clear hw0
   refine (Calls.mono (specMatchArrow _ _ _ _ (HU.out.below B.out) hx) (fun _ _ h => match_b HP.out h)).mono ?_
   rintro e w1 ⟨D9, p1k, p1a, p1n, p1c, p2k, p2a, p2n, p2c, mid, rfl, hm, ho1, ho2, hb⟩
   have Op1 := Lib.hid ho1
   clear ho1
   have Op2 := Lib.hid ho2
   clear ho2
   have hz_w1 := hb.size
   replace B := bb B hb
   replace XE := xb XE hb
   replace FE := fb FE hb
   replace XT := xb XT hb
   replace FT := fb FT hb
   clear hb
   go_wp2_with fail
   obtain ⟨wa2, hwa2, hb, hy_wa2, XT7, FT7, XT8, FT8⟩ := laid2 w1 #[.int .i64 p1k, .slice p1a p1n p1c] 33 #[.int .i64 p2k, .slice p2a p2n p2c] 33
   have hz_wa2 := hb.size
   replace B := bb B hb
   replace XE := xb XE hb
   replace FE := fb FE hb
   replace XT := xb XT hb
   replace FT := fb FT hb
   replace Op1 := ob Op1 hb
   replace Op2 := ob Op2 hb
   clear hb
   rw [← hwa2]
   clear hwa2
   have gE_0 := gx XE 0
   have gE_1 := gx XE 1
   have gE_2 := gx XE 2
   have gE_3 := gx XE 3
   have gE_4 := gx XE 4
   have gE_5 := gx XE 5
   have gT7_0 := gx XT7 0
   have gT7_1 := gx XT7 1
   have gT8_0 := gx XT8 0
   have gT8_1 := gx XT8 1
   have gk0_0 := gk hbl B K0_0
   have gk0_1 := gk hbl B K0_1
   have gk0_2 := gk hbl B K0_2
   have gk0_3 := gk hbl B K0_3
   have gk0_4 := gk hbl B K0_4
   have gk0_5 := gk hbl B K0_5
   have CC : ∀ q : Grown wa2.heap.size wa2, Calls Tryz.prog 88 #[.agg #[.int .i64 tk, .slice ta tn tc], .agg #[.int .i64 p1k, .slice p1a p1n p1c]] q.val fun e w' => e = .returned (.bool false) ∧ Below q.val.heap.size q.val w' := fun q => by have h := specConsistent (d + D9) (.agg #[.int .i64 tk, .slice ta tn tc]) (.agg #[.int .i64 p1k, .slice p1a p1n p1c]) ty (x.parts 4).1 q.val (((HTY.out.below B.out).below q.old).mono (by omega)) ((Op1.out.at_.below q.old).mono (by omega)) (by omega) (by omega); have e := HO.out; unfold Ty.okay at e; rw [e] at h; exact h
   refine wp_region_grown wa2.heap.size (by kernel_rfl) (by kernel_rfl) ?_
   repeat (go_big_quiet_step ((go_at_call 88; exact grown_of (Nat.le_refl _) (CC _))))
   refine wpQuiet_nil ?_
   rintro wq3 ⟨⟨wz, hb⟩, hqe⟩
   have hqe2 : wq3 = wz := hqe
   clear hqe
   subst hqe2
   clear gE_0 gE_1 gE_2 gE_3 gE_4 gE_5 gT7_0 gT7_1 gT8_0 gT8_1 gk0_0 gk0_1 gk0_2 gk0_3 gk0_4 gk0_5 CC
   have hz_wq3 := hb.size
   replace B := bb B hb
   replace XE := xb XE hb
   replace FE := fb FE hb
   replace XT := xb XT hb
   replace FT := fb FT hb
   replace XT7 := xb XT7 hb
   replace FT7 := fb FT7 hb
   replace XT8 := xb XT8 hb
   replace FT8 := fb FT8 hb
   replace Op1 := ob Op1 hb
   replace Op2 := ob Op2 hb
   clear hb
   go_wp2_with fail
   have HW : Hid (anaE (d + 1) C (.node 3 nm n ty es) x = false) := by show _ = _; rw [HR.out, HP.out, HO.out]; rfl
   go_ret
   exact ⟨by rw [HW.out]; try rfl, B.out⟩
  | true =>
   have HO := Lib.hid hho
   clear hho
   cases hha : anaE d (C ++ [⟨nm, ty⟩]) es[0] (x.parts 4).2.1 with
   | false =>
    have HA := Lib.hid hha
    clear hha
    obtain ⟨w0, hw0, B, hz_w0, XE, FE, XT, FT⟩ := laid2 w #[.int .i64 3, .string nm, .int .i64 n, .int .i64 tk, .slice ta tn tc, .slice (some ⟨b, off, none⟩) 1 sc] 40 #[.int .i64 uk, .slice ua un uc] 33
    replace B := Lib.hid B
    go_enter Tryz.func45, Tryz.ntmps45
    go_wp2_with fail
    rw [← hw0]
    clear hw0
    refine (Calls.mono (specMatchArrow _ _ _ _ (HU.out.below B.out) hx) (fun _ _ h => match_b HP.out h)).mono ?_
    rintro e w1 ⟨D9, p1k, p1a, p1n, p1c, p2k, p2a, p2n, p2c, mid, rfl, hm, ho1, ho2, hb⟩
    have Op1 := Lib.hid ho1
    clear ho1
    have Op2 := Lib.hid ho2
    clear ho2
    have hz_w1 := hb.size
    replace B := bb B hb
    replace XE := xb XE hb
    replace FE := fb FE hb
    replace XT := xb XT hb
    replace FT := fb FT hb
    clear hb
    go_wp2_with fail
    obtain ⟨wa2, hwa2, hb, hy_wa2, XT7, FT7, XT8, FT8⟩ := laid2 w1 #[.int .i64 p1k, .slice p1a p1n p1c] 33 #[.int .i64 p2k, .slice p2a p2n p2c] 33
    have hz_wa2 := hb.size
    replace B := bb B hb
    replace XE := xb XE hb
    replace FE := fb FE hb
    replace XT := xb XT hb
    replace FT := fb FT hb
    replace Op1 := ob Op1 hb
    replace Op2 := ob Op2 hb
    clear hb
    rw [← hwa2]
    clear hwa2
    obtain ⟨wd3, hwd3⟩ : ∃ W, W = wa2.drew := ⟨_, rfl⟩
    have hb : Below wa2.heap.size wa2 wd3 := by rw [hwd3]; exact below_drew _
    have hz_wd3 := hb.size
    replace B := bb B hb
    replace XE := xb XE hb
    replace FE := fb FE hb
    replace XT := xb XT hb
    replace FT := fb FT hb
    replace XT7 := xb XT7 hb
    replace FT7 := fb FT7 hb
    replace XT8 := xb XT8 hb
    replace FT8 := fb FT8 hb
    replace Op1 := ob Op1 hb
    replace Op2 := ob Op2 hb
    clear hb
    refine wp_region_held_drew (S := fun w' => w'.cell? ⟨w.heap.size, 0, none⟩ = some (.int .i64 3) ∧ w'.cell? ⟨w.heap.size, 1, none⟩ = some (.string nm) ∧ w'.cell? ⟨w.heap.size, 2, none⟩ = some (.int .i64 n) ∧ w'.cell? ⟨w.heap.size, 3, none⟩ = some (.int .i64 tk) ∧ w'.cell? ⟨w.heap.size, 4, none⟩ = some (.slice ta tn tc) ∧ w'.cell? ⟨w.heap.size, 5, none⟩ = some (.slice (some ⟨b, off, none⟩) 1 sc) ∧ w'.cell? ⟨w1.heap.size, 0, none⟩ = some (.int .i64 p1k) ∧ w'.cell? ⟨w1.heap.size, 1, none⟩ = some (.slice p1a p1n p1c) ∧ w'.cell? ⟨w1.heap.size + 1, 0, none⟩ = some (.int .i64 p2k) ∧ w'.cell? ⟨w1.heap.size + 1, 1, none⟩ = some (.slice p2a p2n p2c) ∧ w'.cell? ⟨b, off, none⟩ = some (.int .i64 xk) ∧ w'.cell? ⟨b, off + 1, none⟩ = some (.string xnm) ∧ w'.cell? ⟨b, off + 2, none⟩ = some (.int .i64 xn) ∧ w'.cell? ⟨b, off + 3, none⟩ = some (.int .i64 xtk) ∧ w'.cell? ⟨b, off + 4, none⟩ = some (.slice xta xtn xtc) ∧ w'.cell? ⟨b, off + 5, none⟩ = some (.slice xsa xsm xsc)) (by kernel_rfl) (by rw [← hwd3]; exact ⟨XE.out.2 0, XE.out.2 1, XE.out.2 2, XE.out.2 3, XE.out.2 4, XE.out.2 5, XT7.out.2 0, XT7.out.2 1, XT8.out.2 0, XT8.out.2 1, (B.out.cell (p := ⟨b, off, none⟩) hbl).trans K0_0.out, (B.out.cell (p := ⟨b, off + 1, none⟩) hbl).trans K0_1.out, (B.out.cell (p := ⟨b, off + 2, none⟩) hbl).trans K0_2.out, (B.out.cell (p := ⟨b, off + 3, none⟩) hbl).trans K0_3.out, (B.out.cell (p := ⟨b, off + 4, none⟩) hbl).trans K0_4.out, (B.out.cell (p := ⟨b, off + 5, none⟩) hbl).trans K0_5.out⟩) (fun hHeld => ?_)
    rw [← hwd3] at hHeld ⊢
    clear hwd3
    refine wpAnyH_take (i := 0) (v := ?v16_0) rfl (by kernel_rfl) (by kernel_rfl) (by kernel_rfl) (fun _ _ _ h => h) (Or.inl ⟨by kernel_rfl, ?hy16_0⟩) hHeld ?rest16_0
    case hy16_0 =>
     intro w hSw
     (try dsimp only at hSw)
     go_simp
     all_goals (first | done | with_reducible rfl)
    try simp only [Act.put]
    try simp only [List.setIfInBounds_toArray]
    try simp only [List.set_cons_succ]
    try simp only [List.set_cons_zero]
    refine wpAnyH_take (i := 1) (v := ?v17_1) rfl (by kernel_rfl) (by kernel_rfl) (by kernel_rfl) (fun _ _ _ h => h) (Or.inl ⟨by kernel_rfl, ?hy17_1⟩) hHeld ?rest17_1
    case hy17_1 =>
     intro w hSw
     (try dsimp only at hSw)
     go_simp
     all_goals (first | done | with_reducible rfl)
    try simp only [Act.put]
    try simp only [List.setIfInBounds_toArray]
    try simp only [List.set_cons_succ]
    try simp only [List.set_cons_zero]
    refine wpAnyH_take (i := 2) (v := ?v18_2) rfl (by kernel_rfl) (by kernel_rfl) (by kernel_rfl) (fun _ _ _ h => h) (Or.inl ⟨by kernel_rfl, ?hy18_2⟩) hHeld ?rest18_2
    case hy18_2 =>
     intro w hSw
     (try dsimp only at hSw)
     go_simp
     all_goals (first | done | with_reducible rfl)
    try simp only [Act.put]
    try simp only [List.setIfInBounds_toArray]
    try simp only [List.set_cons_succ]
    try simp only [List.set_cons_zero]
    refine wpAnyH_take (i := 3) (v := ?v19_3) rfl (by kernel_rfl) (by kernel_rfl) (by kernel_rfl) (fun _ _ _ h => h) (Or.inl ⟨by kernel_rfl, ?hy19_3⟩) hHeld ?rest19_3
    case hy19_3 =>
     intro w hSw
     (try dsimp only at hSw)
     go_simp
     all_goals (first | done | with_reducible rfl)
    try simp only [Act.put]
    try simp only [List.setIfInBounds_toArray]
    try simp only [List.set_cons_succ]
    try simp only [List.set_cons_zero]
    refine wpAnyH_take (i := 4) (v := ?v20_4) rfl (by kernel_rfl) (by kernel_rfl) (by kernel_rfl) (fun _ _ _ h => h) (Or.inl ⟨by kernel_rfl, ?hy20_4⟩) hHeld ?rest20_4
    case hy20_4 =>
     intro w hSw
     (try dsimp only at hSw)
     go_simp
     all_goals (first | done | with_reducible rfl)
    try simp only [Act.put]
    try simp only [List.setIfInBounds_toArray]
    try simp only [List.set_cons_succ]
    try simp only [List.set_cons_zero]
    refine wpAnyH_ready (rs := [5]) (by kernel_rfl) (by simp) ?_
    refine AllReadyH.cons rfl (fun K hK => ?_) AllReadyH.nil
    go_simp
    go_at_call 88
    have CC := specConsistent (d + D9) (.agg #[.int .i64 tk, .slice ta tn tc]) (.agg #[.int .i64 p1k, .slice p1a p1n p1c]) ty (x.parts 4).1 wd3 ((HTY.out.below B.out).mono (by omega)) (Op1.out.at_.mono (by omega)) (by omega) (by omega)
    have e0 := HO.out
    unfold Ty.okay at e0
    rw [e0] at CC
    clear e0
    refine CC.mono ?_
    clear CC
    rintro e w4 ⟨rfl, hb⟩
    have hz_w4 := hb.size
    replace B := bb B hb
    replace XE := xb XE hb
    replace FE := fb FE hb
    replace XT := xb XT hb
    replace FT := fb FT hb
    replace XT7 := xb XT7 hb
    replace FT7 := fb FT7 hb
    replace XT8 := xb XT8 hb
    replace FT8 := fb FT8 hb
    replace Op1 := ob Op1 hb
    replace Op2 := ob Op2 hb
    clear hb
    clear hHeld
    try go_wp2_with fail
    refine hK.out _ _ (by exact ⟨XE.out.2 0, XE.out.2 1, XE.out.2 2, XE.out.2 3, XE.out.2 4, XE.out.2 5, XT7.out.2 0, XT7.out.2 1, XT8.out.2 0, XT8.out.2 1, (B.out.cell (p := ⟨b, off, none⟩) hbl).trans K0_0.out, (B.out.cell (p := ⟨b, off + 1, none⟩) hbl).trans K0_1.out, (B.out.cell (p := ⟨b, off + 2, none⟩) hbl).trans K0_2.out, (B.out.cell (p := ⟨b, off + 3, none⟩) hbl).trans K0_3.out, (B.out.cell (p := ⟨b, off + 4, none⟩) hbl).trans K0_4.out, (B.out.cell (p := ⟨b, off + 5, none⟩) hbl).trans K0_5.out⟩) (fun hHeld => ?_)
    clear hK K
    try simp only [Act.put]
    try simp only [List.setIfInBounds_toArray]
    try simp only [List.set_cons_succ]
    try simp only [List.set_cons_zero]
    refine wpAnyH_take (i := 6) (v := ?v21_6) rfl (by kernel_rfl) (by kernel_rfl) (by kernel_rfl) (fun _ _ _ h => h) (Or.inl ⟨by kernel_rfl, ?hy21_6⟩) hHeld ?rest21_6
    case hy21_6 =>
     intro w hSw
     (try dsimp only at hSw)
     go_simp
     all_goals (first | done | with_reducible rfl)
    try simp only [Act.put]
    try simp only [List.setIfInBounds_toArray]
    try simp only [List.set_cons_succ]
    try simp only [List.set_cons_zero]
    refine wpAnyH_take (i := 7) (v := ?v22_7) rfl (by kernel_rfl) (by kernel_rfl) (by kernel_rfl) (fun _ _ _ h => h) (Or.inl ⟨by kernel_rfl, ?hy22_7⟩) hHeld ?rest22_7
    case hy22_7 =>
     intro w hSw
     (try dsimp only at hSw)
     go_simp
     all_goals (first | done | with_reducible rfl)
    try simp only [Act.put]
    try simp only [List.setIfInBounds_toArray]
    try simp only [List.set_cons_succ]
    try simp only [List.set_cons_zero]
    refine wpAnyH_take (i := 8) (v := ?v23_8) rfl (by kernel_rfl) (by kernel_rfl) (by kernel_rfl) (fun _ _ _ h => h) (Or.inl ⟨by kernel_rfl, ?hy23_8⟩) hHeld ?rest23_8
    case hy23_8 =>
     intro w hSw
     (try dsimp only at hSw)
     go_simp
     all_goals (first | done | with_reducible rfl)
    try simp only [Act.put]
    try simp only [List.setIfInBounds_toArray]
    try simp only [List.set_cons_succ]
    try simp only [List.set_cons_zero]
    refine wpAnyH_take (i := 9) (v := ?v24_9) rfl (by kernel_rfl) (by kernel_rfl) (by kernel_rfl) (fun _ _ _ h => h) (Or.inl ⟨by kernel_rfl, ?hy24_9⟩) hHeld ?rest24_9
    case hy24_9 =>
     intro w hSw
     (try dsimp only at hSw)
     go_simp
     all_goals (first | done | with_reducible rfl)
    try simp only [Act.put]
    try simp only [List.setIfInBounds_toArray]
    try simp only [List.set_cons_succ]
    try simp only [List.set_cons_zero]
    refine wpAnyH_take (i := 11) (v := ?v25_11) rfl (by kernel_rfl) (by kernel_rfl) (by kernel_rfl) (fun _ _ _ h => h) (Or.inl ⟨by kernel_rfl, ?hy25_11⟩) hHeld ?rest25_11
    case hy25_11 =>
     intro w hSw
     (try dsimp only at hSw)
     go_simp
     all_goals (first | done | with_reducible rfl)
    try simp only [Act.put]
    try simp only [List.setIfInBounds_toArray]
    try simp only [List.set_cons_succ]
    try simp only [List.set_cons_zero]
    refine wpAnyH_take (i := 12) (v := ?v26_12) rfl (by kernel_rfl) (by kernel_rfl) (by kernel_rfl) (fun _ _ _ h => h) (Or.inl ⟨by kernel_rfl, ?hy26_12⟩) hHeld ?rest26_12
    case hy26_12 =>
     intro w hSw
     (try dsimp only at hSw)
     go_simp
     all_goals (first | done | with_reducible rfl)
    try simp only [Act.put]
    try simp only [List.setIfInBounds_toArray]
    try simp only [List.set_cons_succ]
    try simp only [List.set_cons_zero]
    refine wpAnyH_take (i := 13) (v := ?v27_13) rfl (by kernel_rfl) (by kernel_rfl) (by kernel_rfl) (fun _ _ _ h => h) (Or.inl ⟨by kernel_rfl, ?hy27_13⟩) hHeld ?rest27_13
    case hy27_13 =>
     intro w hSw
     (try dsimp only at hSw)
     go_simp
     all_goals (first | done | with_reducible rfl)
    try simp only [Act.put]
    try simp only [List.setIfInBounds_toArray]
    try simp only [List.set_cons_succ]
    try simp only [List.set_cons_zero]
    refine wpAnyH_take (i := 14) (v := ?v28_14) rfl (by kernel_rfl) (by kernel_rfl) (by kernel_rfl) (fun _ _ _ h => h) (Or.inl ⟨by kernel_rfl, ?hy28_14⟩) hHeld ?rest28_14
    case hy28_14 =>
     intro w hSw
     (try dsimp only at hSw)
     go_simp
     all_goals (first | done | with_reducible rfl)
    try simp only [Act.put]
    try simp only [List.setIfInBounds_toArray]
    try simp only [List.set_cons_succ]
    try simp only [List.set_cons_zero]
    refine wpAnyH_take (i := 15) (v := ?v29_15) rfl (by kernel_rfl) (by kernel_rfl) (by kernel_rfl) (fun _ _ _ h => h) (Or.inl ⟨by kernel_rfl, ?hy29_15⟩) hHeld ?rest29_15
    case hy29_15 =>
     intro w hSw
     (try dsimp only at hSw)
     go_simp
     all_goals (first | done | with_reducible rfl)
    try simp only [Act.put]
    try simp only [List.setIfInBounds_toArray]
    try simp only [List.set_cons_succ]
    try simp only [List.set_cons_zero]
    refine wpAnyH_ready (rs := [10]) (by kernel_rfl) (by simp) ?_
    refine AllReadyH.cons rfl (fun K hK => ?_) AllReadyH.nil
    go_simp
    go_at_call 89
    refine (specCtx9 D (d + 1) _ _ C 3 nm n ty es _ (HV.out.below B.out) (HE.out.below B.out) hln).mono ?_
    rintro e w5 ⟨DC, ca, cn, cc, rfl, hcb, hb⟩
    have HCB := Lib.hid hcb
    clear hcb
    have hz_w5 := hb.size
    replace B := bb B hb
    replace XE := xb XE hb
    replace FE := fb FE hb
    replace XT := xb XT hb
    replace FT := fb FT hb
    replace XT7 := xb XT7 hb
    replace FT7 := fb FT7 hb
    replace XT8 := xb XT8 hb
    replace FT8 := fb FT8 hb
    replace Op1 := ob Op1 hb
    replace Op2 := ob Op2 hb
    clear hb
    clear hHeld
    try go_wp2_with fail
    refine hK.out _ _ (by exact ⟨XE.out.2 0, XE.out.2 1, XE.out.2 2, XE.out.2 3, XE.out.2 4, XE.out.2 5, XT7.out.2 0, XT7.out.2 1, XT8.out.2 0, XT8.out.2 1, (B.out.cell (p := ⟨b, off, none⟩) hbl).trans K0_0.out, (B.out.cell (p := ⟨b, off + 1, none⟩) hbl).trans K0_1.out, (B.out.cell (p := ⟨b, off + 2, none⟩) hbl).trans K0_2.out, (B.out.cell (p := ⟨b, off + 3, none⟩) hbl).trans K0_3.out, (B.out.cell (p := ⟨b, off + 4, none⟩) hbl).trans K0_4.out, (B.out.cell (p := ⟨b, off + 5, none⟩) hbl).trans K0_5.out⟩) (fun hHeld => ?_)
    clear hK K
    try simp only [Act.put]
    try simp only [List.setIfInBounds_toArray]
    try simp only [List.set_cons_succ]
    try simp only [List.set_cons_zero]
    refine wpAnyH_ready (rs := [16]) (by kernel_rfl) (by simp) ?_
    refine AllReadyH.cons rfl (fun K hK => ?_) AllReadyH.nil
    go_simp
    go_at_call 45
    have CA := IHA.out DC D9 _ _ _ (C ++ [⟨nm, ty⟩]) es[0] (x.parts 4).2.1 w5 HCB.out (HT0.out.below B.out) Op2.out.at_ HOU.out (by omega)
    rw [HA.out] at CA
    refine CA.mono ?_
    clear CA
    rintro e w6 ⟨rfl, hb⟩
    clear HCB
    have hz_w6 := hb.size
    replace B := bb B hb
    replace XE := xb XE hb
    replace FE := fb FE hb
    replace XT := xb XT hb
    replace FT := fb FT hb
    replace XT7 := xb XT7 hb
    replace FT7 := fb FT7 hb
    replace XT8 := xb XT8 hb
    replace FT8 := fb FT8 hb
    replace Op1 := ob Op1 hb
    replace Op2 := ob Op2 hb
    clear hb
    clear hHeld
    try go_wp2_with fail
    refine hK.out _ _ (by exact ⟨XE.out.2 0, XE.out.2 1, XE.out.2 2, XE.out.2 3, XE.out.2 4, XE.out.2 5, XT7.out.2 0, XT7.out.2 1, XT8.out.2 0, XT8.out.2 1, (B.out.cell (p := ⟨b, off, none⟩) hbl).trans K0_0.out, (B.out.cell (p := ⟨b, off + 1, none⟩) hbl).trans K0_1.out, (B.out.cell (p := ⟨b, off + 2, none⟩) hbl).trans K0_2.out, (B.out.cell (p := ⟨b, off + 3, none⟩) hbl).trans K0_3.out, (B.out.cell (p := ⟨b, off + 4, none⟩) hbl).trans K0_4.out, (B.out.cell (p := ⟨b, off + 5, none⟩) hbl).trans K0_5.out⟩) (fun hHeld => ?_)
    clear hK K
    try simp only [Act.put]
    try simp only [List.setIfInBounds_toArray]
    try simp only [List.set_cons_succ]
    try simp only [List.set_cons_zero]
    refine wpAnyH_take (i := 17) (v := ?v30_17) rfl (by kernel_rfl) (by kernel_rfl) (by kernel_rfl) (fun _ _ _ h => h) (Or.inl ⟨by kernel_rfl, ?hy30_17⟩) hHeld ?rest30_17
    case hy30_17 =>
     intro w hSw
     (try dsimp only at hSw)
     go_simp
     all_goals (first | done | with_reducible rfl)
    try simp only [Act.put]
    try simp only [List.setIfInBounds_toArray]
    try simp only [List.set_cons_succ]
    try simp only [List.set_cons_zero]
    refine wpAnyH_ready (rs := [18]) (by kernel_rfl) (by simp) ?_
    refine AllReadyH.cons rfl (fun K hK => ?_) AllReadyH.nil
    go_simp
    refine hK.out _ _ hHeld (fun hHeld => ?_)
    clear hK K
    try simp only [Act.put]
    try simp only [List.setIfInBounds_toArray]
    try simp only [List.set_cons_succ]
    try simp only [List.set_cons_zero]
    refine wpAnyH_done (by kernel_rfl) ?_ _
    try simp only [List.getElem_toArray]
    try simp only [List.getElem_cons_succ]
    try simp only [List.getElem_cons_zero]
    try simp only [Act.put]
    try simp only [List.setIfInBounds_toArray]
    try simp only [List.set_cons_succ]
    try simp only [List.set_cons_zero]
    go_wp2_with fail
    have HW : Hid (anaE (d + 1) C (.node 3 nm n ty es) x = false) := by show _ = _; rw [HR.out, HP.out, HO.out, HA.out]; rfl
    go_ret
    exact ⟨by rw [HW.out]; try rfl, B.out⟩
   | true =>
    have HA := Lib.hid hha
    clear hha
    obtain ⟨w0, hw0, B, hz_w0, XE, FE, XT, FT⟩ := laid2 w #[.int .i64 3, .string nm, .int .i64 n, .int .i64 tk, .slice ta tn tc, .slice (some ⟨b, off, none⟩) 1 sc] 40 #[.int .i64 uk, .slice ua un uc] 33
    replace B := Lib.hid B
    go_enter Tryz.func45, Tryz.ntmps45
    go_wp2_with fail
    rw [← hw0]
    clear hw0
    refine (Calls.mono (specMatchArrow _ _ _ _ (HU.out.below B.out) hx) (fun _ _ h => match_b HP.out h)).mono ?_
    rintro e w1 ⟨D9, p1k, p1a, p1n, p1c, p2k, p2a, p2n, p2c, mid, rfl, hm, ho1, ho2, hb⟩
    have Op1 := Lib.hid ho1
    clear ho1
    have Op2 := Lib.hid ho2
    clear ho2
    have hz_w1 := hb.size
    replace B := bb B hb
    replace XE := xb XE hb
    replace FE := fb FE hb
    replace XT := xb XT hb
    replace FT := fb FT hb
    clear hb
    go_wp2_with fail
    obtain ⟨wa2, hwa2, hb, hy_wa2, XT7, FT7, XT8, FT8⟩ := laid2 w1 #[.int .i64 p1k, .slice p1a p1n p1c] 33 #[.int .i64 p2k, .slice p2a p2n p2c] 33
    have hz_wa2 := hb.size
    replace B := bb B hb
    replace XE := xb XE hb
    replace FE := fb FE hb
    replace XT := xb XT hb
    replace FT := fb FT hb
    replace Op1 := ob Op1 hb
    replace Op2 := ob Op2 hb
    clear hb
    rw [← hwa2]
    clear hwa2
    obtain ⟨wd3, hwd3⟩ : ∃ W, W = wa2.drew := ⟨_, rfl⟩
    have hb : Below wa2.heap.size wa2 wd3 := by rw [hwd3]; exact below_drew _
    have hz_wd3 := hb.size
    replace B := bb B hb
    replace XE := xb XE hb
    replace FE := fb FE hb
    replace XT := xb XT hb
    replace FT := fb FT hb
    replace XT7 := xb XT7 hb
    replace FT7 := fb FT7 hb
    replace XT8 := xb XT8 hb
    replace FT8 := fb FT8 hb
    replace Op1 := ob Op1 hb
    replace Op2 := ob Op2 hb
    clear hb
    refine wp_region_held_drew (S := fun w' => w'.cell? ⟨w.heap.size, 0, none⟩ = some (.int .i64 3) ∧ w'.cell? ⟨w.heap.size, 1, none⟩ = some (.string nm) ∧ w'.cell? ⟨w.heap.size, 2, none⟩ = some (.int .i64 n) ∧ w'.cell? ⟨w.heap.size, 3, none⟩ = some (.int .i64 tk) ∧ w'.cell? ⟨w.heap.size, 4, none⟩ = some (.slice ta tn tc) ∧ w'.cell? ⟨w.heap.size, 5, none⟩ = some (.slice (some ⟨b, off, none⟩) 1 sc) ∧ w'.cell? ⟨w1.heap.size, 0, none⟩ = some (.int .i64 p1k) ∧ w'.cell? ⟨w1.heap.size, 1, none⟩ = some (.slice p1a p1n p1c) ∧ w'.cell? ⟨w1.heap.size + 1, 0, none⟩ = some (.int .i64 p2k) ∧ w'.cell? ⟨w1.heap.size + 1, 1, none⟩ = some (.slice p2a p2n p2c) ∧ w'.cell? ⟨b, off, none⟩ = some (.int .i64 xk) ∧ w'.cell? ⟨b, off + 1, none⟩ = some (.string xnm) ∧ w'.cell? ⟨b, off + 2, none⟩ = some (.int .i64 xn) ∧ w'.cell? ⟨b, off + 3, none⟩ = some (.int .i64 xtk) ∧ w'.cell? ⟨b, off + 4, none⟩ = some (.slice xta xtn xtc) ∧ w'.cell? ⟨b, off + 5, none⟩ = some (.slice xsa xsm xsc)) (by kernel_rfl) (by rw [← hwd3]; exact ⟨XE.out.2 0, XE.out.2 1, XE.out.2 2, XE.out.2 3, XE.out.2 4, XE.out.2 5, XT7.out.2 0, XT7.out.2 1, XT8.out.2 0, XT8.out.2 1, (B.out.cell (p := ⟨b, off, none⟩) hbl).trans K0_0.out, (B.out.cell (p := ⟨b, off + 1, none⟩) hbl).trans K0_1.out, (B.out.cell (p := ⟨b, off + 2, none⟩) hbl).trans K0_2.out, (B.out.cell (p := ⟨b, off + 3, none⟩) hbl).trans K0_3.out, (B.out.cell (p := ⟨b, off + 4, none⟩) hbl).trans K0_4.out, (B.out.cell (p := ⟨b, off + 5, none⟩) hbl).trans K0_5.out⟩) (fun hHeld => ?_)
    rw [← hwd3] at hHeld ⊢
    clear hwd3
    refine wpAnyH_take (i := 0) (v := ?v31_0) rfl (by kernel_rfl) (by kernel_rfl) (by kernel_rfl) (fun _ _ _ h => h) (Or.inl ⟨by kernel_rfl, ?hy31_0⟩) hHeld ?rest31_0
    case hy31_0 =>
     intro w hSw
     (try dsimp only at hSw)
     go_simp
     all_goals (first | done | with_reducible rfl)
    try simp only [Act.put]
    try simp only [List.setIfInBounds_toArray]
    try simp only [List.set_cons_succ]
    try simp only [List.set_cons_zero]
    refine wpAnyH_take (i := 1) (v := ?v32_1) rfl (by kernel_rfl) (by kernel_rfl) (by kernel_rfl) (fun _ _ _ h => h) (Or.inl ⟨by kernel_rfl, ?hy32_1⟩) hHeld ?rest32_1
    case hy32_1 =>
     intro w hSw
     (try dsimp only at hSw)
     go_simp
     all_goals (first | done | with_reducible rfl)
    try simp only [Act.put]
    try simp only [List.setIfInBounds_toArray]
    try simp only [List.set_cons_succ]
    try simp only [List.set_cons_zero]
    refine wpAnyH_take (i := 2) (v := ?v33_2) rfl (by kernel_rfl) (by kernel_rfl) (by kernel_rfl) (fun _ _ _ h => h) (Or.inl ⟨by kernel_rfl, ?hy33_2⟩) hHeld ?rest33_2
    case hy33_2 =>
     intro w hSw
     (try dsimp only at hSw)
     go_simp
     all_goals (first | done | with_reducible rfl)
    try simp only [Act.put]
    try simp only [List.setIfInBounds_toArray]
    try simp only [List.set_cons_succ]
    try simp only [List.set_cons_zero]
    refine wpAnyH_take (i := 3) (v := ?v34_3) rfl (by kernel_rfl) (by kernel_rfl) (by kernel_rfl) (fun _ _ _ h => h) (Or.inl ⟨by kernel_rfl, ?hy34_3⟩) hHeld ?rest34_3
    case hy34_3 =>
     intro w hSw
     (try dsimp only at hSw)
     go_simp
     all_goals (first | done | with_reducible rfl)
    try simp only [Act.put]
    try simp only [List.setIfInBounds_toArray]
    try simp only [List.set_cons_succ]
    try simp only [List.set_cons_zero]
    refine wpAnyH_take (i := 4) (v := ?v35_4) rfl (by kernel_rfl) (by kernel_rfl) (by kernel_rfl) (fun _ _ _ h => h) (Or.inl ⟨by kernel_rfl, ?hy35_4⟩) hHeld ?rest35_4
    case hy35_4 =>
     intro w hSw
     (try dsimp only at hSw)
     go_simp
     all_goals (first | done | with_reducible rfl)
    try simp only [Act.put]
    try simp only [List.setIfInBounds_toArray]
    try simp only [List.set_cons_succ]
    try simp only [List.set_cons_zero]
    refine wpAnyH_ready (rs := [5]) (by kernel_rfl) (by simp) ?_
    refine AllReadyH.cons rfl (fun K hK => ?_) AllReadyH.nil
    go_simp
    go_at_call 88
    have CC := specConsistent (d + D9) (.agg #[.int .i64 tk, .slice ta tn tc]) (.agg #[.int .i64 p1k, .slice p1a p1n p1c]) ty (x.parts 4).1 wd3 ((HTY.out.below B.out).mono (by omega)) (Op1.out.at_.mono (by omega)) (by omega) (by omega)
    have e0 := HO.out
    unfold Ty.okay at e0
    rw [e0] at CC
    clear e0
    refine CC.mono ?_
    clear CC
    rintro e w4 ⟨rfl, hb⟩
    have hz_w4 := hb.size
    replace B := bb B hb
    replace XE := xb XE hb
    replace FE := fb FE hb
    replace XT := xb XT hb
    replace FT := fb FT hb
    replace XT7 := xb XT7 hb
    replace FT7 := fb FT7 hb
    replace XT8 := xb XT8 hb
    replace FT8 := fb FT8 hb
    replace Op1 := ob Op1 hb
    replace Op2 := ob Op2 hb
    clear hb
    clear hHeld
    try go_wp2_with fail
    refine hK.out _ _ (by exact ⟨XE.out.2 0, XE.out.2 1, XE.out.2 2, XE.out.2 3, XE.out.2 4, XE.out.2 5, XT7.out.2 0, XT7.out.2 1, XT8.out.2 0, XT8.out.2 1, (B.out.cell (p := ⟨b, off, none⟩) hbl).trans K0_0.out, (B.out.cell (p := ⟨b, off + 1, none⟩) hbl).trans K0_1.out, (B.out.cell (p := ⟨b, off + 2, none⟩) hbl).trans K0_2.out, (B.out.cell (p := ⟨b, off + 3, none⟩) hbl).trans K0_3.out, (B.out.cell (p := ⟨b, off + 4, none⟩) hbl).trans K0_4.out, (B.out.cell (p := ⟨b, off + 5, none⟩) hbl).trans K0_5.out⟩) (fun hHeld => ?_)
    clear hK K
    try simp only [Act.put]
    try simp only [List.setIfInBounds_toArray]
    try simp only [List.set_cons_succ]
    try simp only [List.set_cons_zero]
    refine wpAnyH_take (i := 6) (v := ?v36_6) rfl (by kernel_rfl) (by kernel_rfl) (by kernel_rfl) (fun _ _ _ h => h) (Or.inl ⟨by kernel_rfl, ?hy36_6⟩) hHeld ?rest36_6
    case hy36_6 =>
     intro w hSw
     (try dsimp only at hSw)
     go_simp
     all_goals (first | done | with_reducible rfl)
    try simp only [Act.put]
    try simp only [List.setIfInBounds_toArray]
    try simp only [List.set_cons_succ]
    try simp only [List.set_cons_zero]
    refine wpAnyH_take (i := 7) (v := ?v37_7) rfl (by kernel_rfl) (by kernel_rfl) (by kernel_rfl) (fun _ _ _ h => h) (Or.inl ⟨by kernel_rfl, ?hy37_7⟩) hHeld ?rest37_7
    case hy37_7 =>
     intro w hSw
     (try dsimp only at hSw)
     go_simp
     all_goals (first | done | with_reducible rfl)
    try simp only [Act.put]
    try simp only [List.setIfInBounds_toArray]
    try simp only [List.set_cons_succ]
    try simp only [List.set_cons_zero]
    refine wpAnyH_take (i := 8) (v := ?v38_8) rfl (by kernel_rfl) (by kernel_rfl) (by kernel_rfl) (fun _ _ _ h => h) (Or.inl ⟨by kernel_rfl, ?hy38_8⟩) hHeld ?rest38_8
    case hy38_8 =>
     intro w hSw
     (try dsimp only at hSw)
     go_simp
     all_goals (first | done | with_reducible rfl)
    try simp only [Act.put]
    try simp only [List.setIfInBounds_toArray]
    try simp only [List.set_cons_succ]
    try simp only [List.set_cons_zero]
    refine wpAnyH_take (i := 9) (v := ?v39_9) rfl (by kernel_rfl) (by kernel_rfl) (by kernel_rfl) (fun _ _ _ h => h) (Or.inl ⟨by kernel_rfl, ?hy39_9⟩) hHeld ?rest39_9
    case hy39_9 =>
     intro w hSw
     (try dsimp only at hSw)
     go_simp
     all_goals (first | done | with_reducible rfl)
    try simp only [Act.put]
    try simp only [List.setIfInBounds_toArray]
    try simp only [List.set_cons_succ]
    try simp only [List.set_cons_zero]
    refine wpAnyH_take (i := 11) (v := ?v40_11) rfl (by kernel_rfl) (by kernel_rfl) (by kernel_rfl) (fun _ _ _ h => h) (Or.inl ⟨by kernel_rfl, ?hy40_11⟩) hHeld ?rest40_11
    case hy40_11 =>
     intro w hSw
     (try dsimp only at hSw)
     go_simp
     all_goals (first | done | with_reducible rfl)
    try simp only [Act.put]
    try simp only [List.setIfInBounds_toArray]
    try simp only [List.set_cons_succ]
    try simp only [List.set_cons_zero]
    refine wpAnyH_take (i := 12) (v := ?v41_12) rfl (by kernel_rfl) (by kernel_rfl) (by kernel_rfl) (fun _ _ _ h => h) (Or.inl ⟨by kernel_rfl, ?hy41_12⟩) hHeld ?rest41_12
    case hy41_12 =>
     intro w hSw
     (try dsimp only at hSw)
     go_simp
     all_goals (first | done | with_reducible rfl)
    try simp only [Act.put]
    try simp only [List.setIfInBounds_toArray]
    try simp only [List.set_cons_succ]
    try simp only [List.set_cons_zero]
    refine wpAnyH_take (i := 13) (v := ?v42_13) rfl (by kernel_rfl) (by kernel_rfl) (by kernel_rfl) (fun _ _ _ h => h) (Or.inl ⟨by kernel_rfl, ?hy42_13⟩) hHeld ?rest42_13
    case hy42_13 =>
     intro w hSw
     (try dsimp only at hSw)
     go_simp
     all_goals (first | done | with_reducible rfl)
    try simp only [Act.put]
    try simp only [List.setIfInBounds_toArray]
    try simp only [List.set_cons_succ]
    try simp only [List.set_cons_zero]
    refine wpAnyH_take (i := 14) (v := ?v43_14) rfl (by kernel_rfl) (by kernel_rfl) (by kernel_rfl) (fun _ _ _ h => h) (Or.inl ⟨by kernel_rfl, ?hy43_14⟩) hHeld ?rest43_14
    case hy43_14 =>
     intro w hSw
     (try dsimp only at hSw)
     go_simp
     all_goals (first | done | with_reducible rfl)
    try simp only [Act.put]
    try simp only [List.setIfInBounds_toArray]
    try simp only [List.set_cons_succ]
    try simp only [List.set_cons_zero]
    refine wpAnyH_take (i := 15) (v := ?v44_15) rfl (by kernel_rfl) (by kernel_rfl) (by kernel_rfl) (fun _ _ _ h => h) (Or.inl ⟨by kernel_rfl, ?hy44_15⟩) hHeld ?rest44_15
    case hy44_15 =>
     intro w hSw
     (try dsimp only at hSw)
     go_simp
     all_goals (first | done | with_reducible rfl)
    try simp only [Act.put]
    try simp only [List.setIfInBounds_toArray]
    try simp only [List.set_cons_succ]
    try simp only [List.set_cons_zero]
    refine wpAnyH_ready (rs := [10]) (by kernel_rfl) (by simp) ?_
    refine AllReadyH.cons rfl (fun K hK => ?_) AllReadyH.nil
    go_simp
    go_at_call 89
    refine (specCtx9 D (d + 1) _ _ C 3 nm n ty es _ (HV.out.below B.out) (HE.out.below B.out) hln).mono ?_
    rintro e w5 ⟨DC, ca, cn, cc, rfl, hcb, hb⟩
    have HCB := Lib.hid hcb
    clear hcb
    have hz_w5 := hb.size
    replace B := bb B hb
    replace XE := xb XE hb
    replace FE := fb FE hb
    replace XT := xb XT hb
    replace FT := fb FT hb
    replace XT7 := xb XT7 hb
    replace FT7 := fb FT7 hb
    replace XT8 := xb XT8 hb
    replace FT8 := fb FT8 hb
    replace Op1 := ob Op1 hb
    replace Op2 := ob Op2 hb
    clear hb
    clear hHeld
    try go_wp2_with fail
    refine hK.out _ _ (by exact ⟨XE.out.2 0, XE.out.2 1, XE.out.2 2, XE.out.2 3, XE.out.2 4, XE.out.2 5, XT7.out.2 0, XT7.out.2 1, XT8.out.2 0, XT8.out.2 1, (B.out.cell (p := ⟨b, off, none⟩) hbl).trans K0_0.out, (B.out.cell (p := ⟨b, off + 1, none⟩) hbl).trans K0_1.out, (B.out.cell (p := ⟨b, off + 2, none⟩) hbl).trans K0_2.out, (B.out.cell (p := ⟨b, off + 3, none⟩) hbl).trans K0_3.out, (B.out.cell (p := ⟨b, off + 4, none⟩) hbl).trans K0_4.out, (B.out.cell (p := ⟨b, off + 5, none⟩) hbl).trans K0_5.out⟩) (fun hHeld => ?_)
    clear hK K
    try simp only [Act.put]
    try simp only [List.setIfInBounds_toArray]
    try simp only [List.set_cons_succ]
    try simp only [List.set_cons_zero]
    refine wpAnyH_ready (rs := [16]) (by kernel_rfl) (by simp) ?_
    refine AllReadyH.cons rfl (fun K hK => ?_) AllReadyH.nil
    go_simp
    go_at_call 45
    have CA := IHA.out DC D9 _ _ _ (C ++ [⟨nm, ty⟩]) es[0] (x.parts 4).2.1 w5 HCB.out (HT0.out.below B.out) Op2.out.at_ HOU.out (by omega)
    rw [HA.out] at CA
    refine CA.mono ?_
    clear CA
    rintro e w6 ⟨rfl, hb⟩
    clear HCB
    have hz_w6 := hb.size
    replace B := bb B hb
    replace XE := xb XE hb
    replace FE := fb FE hb
    replace XT := xb XT hb
    replace FT := fb FT hb
    replace XT7 := xb XT7 hb
    replace FT7 := fb FT7 hb
    replace XT8 := xb XT8 hb
    replace FT8 := fb FT8 hb
    replace Op1 := ob Op1 hb
    replace Op2 := ob Op2 hb
    clear hb
    clear hHeld
    try go_wp2_with fail
    refine hK.out _ _ (by exact ⟨XE.out.2 0, XE.out.2 1, XE.out.2 2, XE.out.2 3, XE.out.2 4, XE.out.2 5, XT7.out.2 0, XT7.out.2 1, XT8.out.2 0, XT8.out.2 1, (B.out.cell (p := ⟨b, off, none⟩) hbl).trans K0_0.out, (B.out.cell (p := ⟨b, off + 1, none⟩) hbl).trans K0_1.out, (B.out.cell (p := ⟨b, off + 2, none⟩) hbl).trans K0_2.out, (B.out.cell (p := ⟨b, off + 3, none⟩) hbl).trans K0_3.out, (B.out.cell (p := ⟨b, off + 4, none⟩) hbl).trans K0_4.out, (B.out.cell (p := ⟨b, off + 5, none⟩) hbl).trans K0_5.out⟩) (fun hHeld => ?_)
    clear hK K
    try simp only [Act.put]
    try simp only [List.setIfInBounds_toArray]
    try simp only [List.set_cons_succ]
    try simp only [List.set_cons_zero]
    refine wpAnyH_take (i := 17) (v := ?v45_17) rfl (by kernel_rfl) (by kernel_rfl) (by kernel_rfl) (fun _ _ _ h => h) (Or.inl ⟨by kernel_rfl, ?hy45_17⟩) hHeld ?rest45_17
    case hy45_17 =>
     intro w hSw
     (try dsimp only at hSw)
     go_simp
     all_goals (first | done | with_reducible rfl)
    try simp only [Act.put]
    try simp only [List.setIfInBounds_toArray]
    try simp only [List.set_cons_succ]
    try simp only [List.set_cons_zero]
    refine wpAnyH_ready (rs := [18]) (by kernel_rfl) (by simp) ?_
    refine AllReadyH.cons rfl (fun K hK => ?_) AllReadyH.nil
    go_simp
    refine hK.out _ _ hHeld (fun hHeld => ?_)
    clear hK K
    try simp only [Act.put]
    try simp only [List.setIfInBounds_toArray]
    try simp only [List.set_cons_succ]
    try simp only [List.set_cons_zero]
    refine wpAnyH_done (by kernel_rfl) ?_ _
    try simp only [List.getElem_toArray]
    try simp only [List.getElem_cons_succ]
    try simp only [List.getElem_cons_zero]
    try simp only [Act.put]
    try simp only [List.setIfInBounds_toArray]
    try simp only [List.set_cons_succ]
    try simp only [List.set_cons_zero]
    go_wp2_with fail
    have HW : Hid (anaE (d + 1) C (.node 3 nm n ty es) x = true) := by show _ = _; rw [HR.out, HP.out, HO.out, HA.out]; rfl
    go_ret
    exact ⟨by rw [HW.out]; try rfl, B.out⟩
set_option maxRecDepth 100000 in
set_option maxHeartbeats 2000000 in
theorem specAnaElse (d : Nat) (ihs : SpecSynSaid (d + 1)) (kd : Int) (h3 : kd ≠ 3) (h9 : kd ≠ 9) (h10 : kd ≠ 10) (D D2 : Nat) (vc v tv : Value) (C : List Bi) (nm : ByteArray) (n : Int) (ty : Ty) (es : List Ex) (x : Ty) (w : World) (hv : BisAt w D vc C) (he : ExAt w (d + 1) v (.node kd nm n ty es)) (ht : TyAt w D2 tv x) (hok : TypOk C (.node kd nm n ty es)) (hx : x.size ≤ 1048577) :
  Calls Tryz.prog 45 #[vc, v, tv] w fun e w' => e = .returned (.bool (anaE (d + 1) C (.node kd nm n ty es) x)) ∧ Below w.heap.size w w' := by
 have hr : anaE (d + 1) C (.node kd nm n ty es) x = (match synE (d + 1) C (.node kd nm n ty es) with | some t => t.okay x | none => false) := by rw [anaE_succ]; simp only [anaStep]; rw [if_neg h3, if_neg h9, if_neg h10]; cases synE (d + 1) C (.node kd nm n ty es) <;> rfl
 have HR := Lib.hid hr
 clear hr
 have q3 : (kd == 3) = false := by simp [h3]
 have q9 : (kd == 9) = false := by simp [h9]
 have q10 : (kd == 10) = false := by simp [h10]
 clear h3 h9 h10
 have HE := Lib.hid he
 obtain ⟨uk, ua, un, uc, rfl⟩ := agg_parts ht
 have HU := Lib.hid ht
 clear ht
 obtain ⟨kd', nm', n', tk, ta, tn, tc, sa, sm, sc, hv2⟩ := ex_parts he
 obtain ⟨va, vn, vc1, rfl⟩ : ∃ a n c, vc = .slice a n c := by obtain ⟨a, cap, hv, _⟩ := hv; exact ⟨_, _, _, hv⟩
 subst hv2
 obtain ⟨hke, hne⟩ := ex_root he
 have hke2 : kd' = kd := hke.symm
 subst hke2
 clear hke hne he
 have HV := Lib.hid hv
 have HOK := Lib.hid hok
 have IHS := Lib.hid ihs
 clear hv hok ihs
 cases hs : synE (d + 1) C (.node kd' nm n ty es) with
 | none =>
  have HS := Lib.hid hs
  clear hs
  obtain ⟨w0, hw0, B, hz_w0, XE, FE, XT, FT⟩ := laid2 w #[.int .i64 kd', .string nm', .int .i64 n', .int .i64 tk, .slice ta tn tc, .slice sa sm sc] 40 #[.int .i64 uk, .slice ua un uc] 33
  replace B := Lib.hid B
  go_enter Tryz.func45, Tryz.ntmps45
  go_wp2_with fail
  rw [← hw0]
  clear hw0
  have CS : Calls Tryz.prog 29 #[.slice va vn vc1, .agg #[.int .i64 kd', .string nm', .int .i64 n', .int .i64 tk, .slice ta tn tc, .slice sa sm sc]] w0 (SynNo w0) := by have h := IHS.out D _ _ C _ _ (HV.out.below B.out) (HE.out.below B.out) HOK.out; rw [HS.out] at h; exact h
  refine (CS).mono ?_
  rintro e w1 ⟨DL, lk, la, ln, lc, rfl, ho, hb⟩
  have Ol := Lib.hid ho
  clear ho
  have hz_w1 := hb.size
  replace B := bb B hb
  replace XE := xb XE hb
  replace FE := fb FE hb
  replace XT := xb XT hb
  replace FT := fb FT hb
  clear hb
  have hn3 : ¬ (w.heap.size + 1 = w1.heap.size) := by omega
  obtain ⟨wa2, hwa2, hb, hy_wa2, XT13, FT13⟩ := laid1 w1 #[.int .i64 lk, .slice la ln lc] 33
  have hz_wa2 := hb.size
  replace B := bb B hb
  replace XE := xb XE hb
  replace FE := fb FE hb
  replace XT := xb XT hb
  replace FT := fb FT hb
  replace Ol := ob Ol hb
  clear hb
  have cT_0 := XT.out.2 0
  have cT_1 := XT.out.2 1
  have cT13_0 := XT13.out.2 0
  have cT13_1 := XT13.out.2 1
  rw [hwa2] at cT_0
  rw [hwa2] at cT_1
  rw [hwa2] at cT13_0
  rw [hwa2] at cT13_1
  go_wp2_with fail
  clear cT_0 cT_1 cT13_0 cT13_1
  rw [← hwa2]
  clear hwa2
  have HW : Hid (anaE (d + 1) C (.node kd' nm n ty es) x = false) := by show _ = _; rw [HR.out, HS.out]
  go_ret
  exact ⟨by rw [HW.out]; try rfl, B.out⟩
 | some tx =>
  have HS := Lib.hid hs
  clear hs
  have hsz0 : tx.size ≤ 641 := by have h1 := syn_few (d := d + 1) HOK.out; rw [HS.out] at h1; exact h1
  cases hho : tx.okay x with
  | false =>
   have HO := Lib.hid hho
   clear hho
   obtain ⟨w0, hw0, B, hz_w0, XE, FE, XT, FT⟩ := laid2 w #[.int .i64 kd', .string nm', .int .i64 n', .int .i64 tk, .slice ta tn tc, .slice sa sm sc] 40 #[.int .i64 uk, .slice ua un uc] 33
   replace B := Lib.hid B
   go_enter Tryz.func45, Tryz.ntmps45
   go_wp2_with fail
   rw [← hw0]
   clear hw0
   have CS : Calls Tryz.prog 29 #[.slice va vn vc1, .agg #[.int .i64 kd', .string nm', .int .i64 n', .int .i64 tk, .slice ta tn tc, .slice sa sm sc]] w0 (SynYes tx w0) := by have h := IHS.out D _ _ C _ _ (HV.out.below B.out) (HE.out.below B.out) HOK.out; rw [HS.out] at h; exact h
   refine (CS).mono ?_
   rintro e w1 ⟨DL, lk, la, ln, lc, rfl, ho, hb⟩
   have Ol := Lib.hid ho
   clear ho
   have hz_w1 := hb.size
   replace B := bb B hb
   replace XE := xb XE hb
   replace FE := fb FE hb
   replace XT := xb XT hb
   replace FT := fb FT hb
   clear hb
   have hn3 : ¬ (w.heap.size + 1 = w1.heap.size) := by omega
   obtain ⟨wa2, hwa2, hb, hy_wa2, XT13, FT13⟩ := laid1 w1 #[.int .i64 lk, .slice la ln lc] 33
   have hz_wa2 := hb.size
   replace B := bb B hb
   replace XE := xb XE hb
   replace FE := fb FE hb
   replace XT := xb XT hb
   replace FT := fb FT hb
   replace Ol := ob Ol hb
   clear hb
   have cT_0 := XT.out.2 0
   have cT_1 := XT.out.2 1
   have cT13_0 := XT13.out.2 0
   have cT13_1 := XT13.out.2 1
   rw [hwa2] at cT_0
   rw [hwa2] at cT_1
   rw [hwa2] at cT13_0
   rw [hwa2] at cT13_1
   go_wp2_with fail
   clear cT_0 cT_1 cT13_0 cT13_1
   rw [← hwa2]
   clear hwa2
   have CC := specConsistent (DL + D2) (.agg #[.int .i64 lk, .slice la ln lc]) (.agg #[.int .i64 uk, .slice ua un uc]) tx x wa2 (Ol.out.at_.mono (by omega)) ((HU.out.below B.out).mono (by omega)) (by omega) hx
   have e0 := HO.out
   unfold Ty.okay at e0
   rw [e0] at CC
   clear e0
   refine (CC).mono ?_
   rintro e w3 ⟨rfl, hb⟩
   have hz_w3 := hb.size
   replace B := bb B hb
   replace XE := xb XE hb
   replace FE := fb FE hb
   replace XT := xb XT hb
   replace FT := fb FT hb
   replace XT13 := xb XT13 hb
   replace FT13 := fb FT13 hb
   replace Ol := ob Ol hb
   clear hb
   go_wp2_with fail
   have HW : Hid (anaE (d + 1) C (.node kd' nm n ty es) x = false) := by show _ = _; rw [HR.out, HS.out]; exact HO.out
   go_ret
   exact ⟨by rw [HW.out]; try rfl, B.out⟩
  | true =>
   have HO := Lib.hid hho
   clear hho
   obtain ⟨w0, hw0, B, hz_w0, XE, FE, XT, FT⟩ := laid2 w #[.int .i64 kd', .string nm', .int .i64 n', .int .i64 tk, .slice ta tn tc, .slice sa sm sc] 40 #[.int .i64 uk, .slice ua un uc] 33
   replace B := Lib.hid B
   go_enter Tryz.func45, Tryz.ntmps45
   go_wp2_with fail
   rw [← hw0]
   clear hw0
   have CS : Calls Tryz.prog 29 #[.slice va vn vc1, .agg #[.int .i64 kd', .string nm', .int .i64 n', .int .i64 tk, .slice ta tn tc, .slice sa sm sc]] w0 (SynYes tx w0) := by have h := IHS.out D _ _ C _ _ (HV.out.below B.out) (HE.out.below B.out) HOK.out; rw [HS.out] at h; exact h
   refine (CS).mono ?_
   rintro e w1 ⟨DL, lk, la, ln, lc, rfl, ho, hb⟩
   have Ol := Lib.hid ho
   clear ho
   have hz_w1 := hb.size
   replace B := bb B hb
   replace XE := xb XE hb
   replace FE := fb FE hb
   replace XT := xb XT hb
   replace FT := fb FT hb
   clear hb
   have hn3 : ¬ (w.heap.size + 1 = w1.heap.size) := by omega
   obtain ⟨wa2, hwa2, hb, hy_wa2, XT13, FT13⟩ := laid1 w1 #[.int .i64 lk, .slice la ln lc] 33
   have hz_wa2 := hb.size
   replace B := bb B hb
   replace XE := xb XE hb
   replace FE := fb FE hb
   replace XT := xb XT hb
   replace FT := fb FT hb
   replace Ol := ob Ol hb
   clear hb
   have cT_0 := XT.out.2 0
   have cT_1 := XT.out.2 1
   have cT13_0 := XT13.out.2 0
   have cT13_1 := XT13.out.2 1
   rw [hwa2] at cT_0
   rw [hwa2] at cT_1
   rw [hwa2] at cT13_0
   rw [hwa2] at cT13_1
   go_wp2_with fail
   clear cT_0 cT_1 cT13_0 cT13_1
   rw [← hwa2]
   clear hwa2
   have CC := specConsistent (DL + D2) (.agg #[.int .i64 lk, .slice la ln lc]) (.agg #[.int .i64 uk, .slice ua un uc]) tx x wa2 (Ol.out.at_.mono (by omega)) ((HU.out.below B.out).mono (by omega)) (by omega) hx
   have e0 := HO.out
   unfold Ty.okay at e0
   rw [e0] at CC
   clear e0
   refine (CC).mono ?_
   rintro e w3 ⟨rfl, hb⟩
   have hz_w3 := hb.size
   replace B := bb B hb
   replace XE := xb XE hb
   replace FE := fb FE hb
   replace XT := xb XT hb
   replace FT := fb FT hb
   replace XT13 := xb XT13 hb
   replace FT13 := fb FT13 hb
   replace Ol := ob Ol hb
   clear hb
   go_wp2_with fail
   have HW : Hid (anaE (d + 1) C (.node kd' nm n ty es) x = true) := by show _ = _; rw [HR.out, HS.out]; exact HO.out
   go_ret
   exact ⟨by rw [HW.out]; try rfl, B.out⟩
theorem specAna_step (d : Nat) (ihs : SpecSynSaid (d + 1)) (iha : SpecAnaSaid d) : SpecAnaSaid (d + 1) := by
 intro D D2 vc v tv C t x w hv he ht hok hx
 cases t with
 | node k nm n ty es =>
  by_cases h3 : k = 3
  ·subst h3; exact specAna3 d ihs iha D D2 vc v tv C nm n ty es x w hv he ht hok hx
  by_cases h9 : k = 9
  ·subst h9; exact specAna9 d ihs iha D D2 vc v tv C nm n ty es x w hv he ht hok hx
  by_cases h10 : k = 10
  ·subst h10; exact specAna10 d ihs iha D D2 vc v tv C nm n ty es x w hv he ht hok hx
  exact specAnaElse d ihs k h3 h9 h10 D D2 vc v tv C nm n ty es x w hv he ht hok hx
theorem specTyp_all : ∀ d, SpecSynSaid d ∧ SpecAnaSaid d
 | 0 => ⟨fun _ _ _ _ _ _ _ h _ => h.elim, fun _ _ _ _ _ _ _ _ _ _ h _ _ _ => h.elim⟩
 | d + 1 => by
  obtain ⟨h1, h2⟩ := specTyp_all d
  have h3 := specSyn_step d h1 h2
  exact ⟨h3, specAna_step d h3 h2⟩
end Go.Proofs.YteffjeejbdjjpaaGreatDoor
