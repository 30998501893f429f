/-
  Proved: impl.synthChoice: what a choice synthesizes.
-/
import Derived.Test.YteffjeejbdjjpaaGreatDoorWellG38
import Derived.Test.YteffjeejbdjjpaaGreatDoorWellG19
import Derived.Test.YteffjeejbdjjpaaGreatDoorWellG3
import Derived.Test.YteffjeejbdjjpaaGreatDoorWellG20
namespace Go.Proofs.YteffjeejbdjjpaaGreatDoor
open Go.RowKit

theorem syn_ifI (d : Nat) (C : List Bi) (nm : ByteArray) (n : Int) (ty : Ty) (es : List Ex) (h0 : 0 < es.length) (h1 : 1 < es.length) (h2 : 2 < es.length) : synE (d + 1) C (.node 9 nm n ty es) = ifOf (synE d C es[1]) (synE d C es[2]) (anaE d C es[0] tyB) := by
 rw [synE_succ]; simp only [synStep]; rw [Ex.arg_get h0, Ex.arg_get h1, Ex.arg_get h2]; simp
theorem both_no {pe : Addr} {r0 r1 : Option Ty} {N0 N1 : Nat} {w w' : World} {e : Ending} (hr : (r0.isSome && r1.isSome) = false) (h : BothEnd pe r0 r1 N0 N1 w e w') : ∃ k1 a1 n1 c1 k2 a2 n2 c2 D t1 t2 mid, e = .returned (.tuple #[.agg #[.int .i64 k1, .slice a1 n1 c1], .agg #[.int .i64 k2, .slice a2 n2 c2], .iface 141 (.pointer (some pe))]) ∧ w.heap.size ≤ mid ∧ OwnIn w' D (.agg #[.int .i64 k1, .slice a1 n1 c1]) t1 w.heap.size mid ∧ OwnIn w' D (.agg #[.int .i64 k2, .slice a2 n2 c2]) t2 mid w'.heap.size ∧ t1.size ≤ N0 ∧ t2.size ≤ N1 ∧ Below w.heap.size w w' := by
 obtain ⟨D, k1, a1, n1, c1, k2, a2, n2, c2, t1, t2, mid, he, hm, h1, h2, s1, s2, _, hb⟩ := h
 rw [hr] at he
 exact ⟨k1, a1, n1, c1, k2, a2, n2, c2, D, t1, t2, mid, he, hm, h1, h2, s1, s2, hb⟩
theorem both_yes {pe : Addr} {x y : Ty} {r0 r1 : Option Ty} {N0 N1 : Nat} {w w' : World} {e : Ending} (hx : r0 = some x) (hy : r1 = some y) (h : BothEnd pe r0 r1 N0 N1 w e w') : ∃ k1 a1 n1 c1 k2 a2 n2 c2 D mid, e = .returned (.tuple #[.agg #[.int .i64 k1, .slice a1 n1 c1], .agg #[.int .i64 k2, .slice a2 n2 c2], .nilIface]) ∧ w.heap.size ≤ mid ∧ OwnIn w' D (.agg #[.int .i64 k1, .slice a1 n1 c1]) x w.heap.size mid ∧ OwnIn w' D (.agg #[.int .i64 k2, .slice a2 n2 c2]) y mid w'.heap.size ∧ Below w.heap.size w w' := by
 obtain ⟨D, k1, a1, n1, c1, k2, a2, n2, c2, t1, t2, mid, he, hm, h1, h2, _, _, hi, hb⟩ := h
 subst hx hy
 obtain ⟨e1, e2⟩ := hi rfl
 injection e1 with e1
 injection e2 with e2
 subst e1 e2
 exact ⟨k1, a1, n1, c1, k2, a2, n2, c2, D, mid, he, hm, h1, h2, hb⟩
set_option maxRecDepth 100000 in
set_option maxHeartbeats 2000000 in
theorem implChoice (d : Nat) (ihs : ImplSynSaid d) (iha : ImplAnaSaid d) (D : Nat) (pe : Addr) (vc v : Value) (C : List Bi) (nm : ByteArray) (n : Int) (ty : Ty) (es : List Ex) (w : World) (hv : BisAt w D vc C) (he : ExAt w (d + 1) v (.node 9 nm n ty es)) (hok : TypOk C (.node 9 nm n ty es)) (herr : ErrAt w pe) (hmt : MeetTab w) :
  Calls Tryz.prog 76 #[vc, v] w (ISynEnd pe (synE (d + 1) C (.node 9 nm n ty es)) (16 * (Ex.node 9 nm n ty es).count + 1) w) := by
 obtain ⟨c3, c4, sl, hx, hk0, hk1, hn0, hn1, hnm, hty, sa, sc, hsl, hcap, hcap2, hat⟩ := he
 subst hsl
 obtain ⟨tk, ta, tn, tc, rfl, rfl⟩ := at_parts hty
 subst hx
 obtain ⟨va, vn, vc1, rfl⟩ : ∃ a n c, vc = .slice a n c := by obtain ⟨a, cap, hv, _⟩ := hv; exact ⟨_, _, _, hv⟩
 have hlen : es.length = 3 := by have h1 := (form_parts hok.1).1; have h2 : arity 9 = 3 := rfl; omega
 have hq0 : 0 < es.length := by omega
 have hq1 : 1 < es.length := by omega
 have hq2 : 2 < es.length := by omega
 obtain ⟨b, off, q0_0, q0_1, q0_2, q0_3, q0_4, q0_5, e0, hbl, z0_0, z0_1, z0_2, z0_3, z0_4, z0_5, ht0⟩ := hat 0 hq0
 subst e0
 obtain ⟨xk, xnm, xn, xtk, xta, xtn, xtc, xsa, xsm, xsc, rfl, rfl, rfl, rfl, rfl, rfl⟩ := ex_cells ht0
 simp only [Nat.zero_mul, Nat.add_zero] at z0_0 z0_1 z0_2 z0_3 z0_4 z0_5
 have K0_0 := Lib.hid z0_0
 have K0_1 := Lib.hid z0_1
 have K0_2 := Lib.hid z0_2
 have K0_3 := Lib.hid z0_3
 have K0_4 := Lib.hid z0_4
 have K0_5 := Lib.hid z0_5
 clear z0_0 z0_1 z0_2 z0_3 z0_4 z0_5
 have HT0 := Lib.hid ht0
 clear ht0
 obtain ⟨b1, off1, q1_0, q1_1, q1_2, q1_3, q1_4, q1_5, e1, hbl1, z1_0, z1_1, z1_2, z1_3, z1_4, z1_5, ht1⟩ := hat 1 hq1
 injection e1 with e1
 injection e1 with ea1 eb1
 subst ea1 eb1
 obtain ⟨yk, ynm, yn, ytk, yta, ytn, ytc, ysa, ysm, ysc, rfl, rfl, rfl, rfl, rfl, rfl⟩ := ex_cells ht1
 simp only [Nat.one_mul] at z1_0 z1_1 z1_2 z1_3 z1_4 z1_5
 have K1_0 := Lib.hid z1_0
 have K1_1 := Lib.hid z1_1
 have K1_2 := Lib.hid z1_2
 have K1_3 := Lib.hid z1_3
 have K1_4 := Lib.hid z1_4
 have K1_5 := Lib.hid z1_5
 clear z1_0 z1_1 z1_2 z1_3 z1_4 z1_5
 have HT1 := Lib.hid ht1
 clear ht1
 obtain ⟨b2, off2, q2_0, q2_1, q2_2, q2_3, q2_4, q2_5, e2, hbl2, z2_0, z2_1, z2_2, z2_3, z2_4, z2_5, ht2⟩ := hat 2 hq2
 injection e2 with e2
 injection e2 with ea2 eb2
 subst ea2 eb2
 obtain ⟨zk, znm, zn, ztk, zta, ztn, ztc, zsa, zsm, zsc, rfl, rfl, rfl, rfl, rfl, rfl⟩ := ex_cells ht2
 simp only [Nat.reduceMul] at z2_0 z2_1 z2_2 z2_3 z2_4 z2_5
 have K2_0 := Lib.hid z2_0
 have K2_1 := Lib.hid z2_1
 have K2_2 := Lib.hid z2_2
 have K2_3 := Lib.hid z2_3
 have K2_4 := Lib.hid z2_4
 have K2_5 := Lib.hid z2_5
 clear z2_0 z2_1 z2_2 z2_3 z2_4 z2_5
 have HT2 := Lib.hid ht2
 clear ht2
 have HV := Lib.hid hv
 clear hv
 have HOK := Lib.hid hok
 clear hok hat
 have HTY := Lib.hid hty
 clear hty
 have HNM := Lib.hid hnm
 clear hnm
 have HERR := Lib.hid herr
 have HMT := Lib.hid hmt
 clear herr hmt
 have IHS := Lib.hid ihs
 clear ihs
 have IHA := Lib.hid iha
 clear iha
 have hcn : (Ex.node 9 nm n ty es).count = 1 + Ex.counts es := count_node (by omega)
 have hcp0 := count_part es 0 hq0
 have hcp1 := count_part es 1 hq1
 have hcp2 := count_part es 2 hq2
 have hct := counts_two (i := 1) (j := 2) (by omega) hq2
 have hcm := HOK.out.2.2.2
 rw [hcn] at hcm
 obtain ⟨N, hN⟩ : ∃ N, N = (Ex.node 9 nm n ty es).count := ⟨_, rfl⟩
 rw [← hN] at hcn
 rw [← hN]
 have hsz9 : ∀ x, synE (d + 1) C (.node 9 nm n ty es) = some x → x.size ≤ 16 * N + 1 := fun x hx => by have h := syn_size (d + 1) C _ x HOK.out.2.1 HOK.out.1 hx; rw [hN]; exact h
 have HSZ9 := Lib.hid hsz9
 clear hsz9 hN
 rw [hlen]
 clear hlen
 have HR := Lib.hid (syn_ifI d C nm n ty es hq0 hq1 hq2)
 cases hha : anaE d C es[0] tyB with
 | false =>
  have HA := Lib.hid hha
  clear hha
  obtain ⟨w0, hw0, B, hz_w0, XE, FE, XR, FR⟩ := laid2 w #[.int .i64 9, .string nm, .int .i64 n, .int .i64 tk, .slice ta tn tc, .slice (some ⟨b, off, none⟩) 3 sc] 40 #[.int .i64 0, .slice none 0 0] 33
  replace B := Lib.hid B
  go_enter Tryz.func76, Tryz.ntmps76
  go_wp2_with fail
  rw [← hw0]
  clear hw0
  have gE_0 := gx XE 0
  have gE_1 := gx XE 1
  have gE_2 := gx XE 2
  have gE_3 := gx XE 3
  have gE_4 := gx XE 4
  have gE_5 := gx XE 5
  have gk0_0 := gk hbl B K0_0
  have gk0_1 := gk hbl B K0_1
  have gk0_2 := gk hbl B K0_2
  have gk0_3 := gk hbl B K0_3
  have gk0_4 := gk hbl B K0_4
  have gk0_5 := gk hbl B K0_5
  have CB : ∀ q : Grown w0.heap.size w0, Calls Tryz.prog 74 #[] q.val fun e w' => e = .returned (.agg #[.int .i64 3, .slice none 0 0]) ∧ Below q.val.heap.size q.val w' := fun q => implBoolType q.val
  have CA : ∀ q : Grown w0.heap.size w0, Calls Tryz.prog 48 #[.slice va vn vc1, .agg #[.int .i64 xk, .string xnm, .int .i64 xn, .int .i64 xtk, .slice xta xtn xtc, .slice xsa xsm xsc], .agg #[.int .i64 3, .slice none 0 0]] q.val fun e w' => e = .returned (.iface 141 (.pointer (some pe))) ∧ Below q.val.heap.size q.val w' := fun q => by have h := IHA.out D 1 pe _ _ (.agg #[.int .i64 3, .slice none 0 0]) C es[0] tyB q.val ((HV.out.below B.out).below q.old) ((HT0.out.below B.out).below q.old) (leaf_at _ 3 (by omega) (by omega)) (HOK.out.part 0 hq0) (by simp [tyB, Ty.size, Ty.sizes]) ((HERR.out.below B.out).below q.old) ((HMT.out.below B.out).below q.old); rw [HA.out] at h; exact h
  refine wp_region_grown w0.heap.size (by kernel_rfl) (by kernel_rfl) ?_
  repeat (go_big_quiet_step ((first | (go_at_call 74; exact grown_of (Nat.le_refl _) (CB _)) | (go_at_call 48; exact grown_of (Nat.le_refl _) (CA _)))))
  refine wpQuiet_nil ?_
  rintro wq1 ⟨⟨wz, hb⟩, hqe⟩
  have hqe2 : wq1 = wz := hqe
  clear hqe
  subst hqe2
  clear gE_0 gE_1 gE_2 gE_3 gE_4 gE_5 gk0_0 gk0_1 gk0_2 gk0_3 gk0_4 gk0_5 CA CB
  have hz_wq1 := hb.size
  replace B := bb B hb
  replace XE := xb XE hb
  replace FE := fb FE hb
  replace XR := xb XR hb
  replace FR := fb FR hb
  clear hb
  have cR_0 := XR.out.2 0
  have cR_1 := XR.out.2 1
  have fR_0 := FR.out.2 0
  have fR_1 := FR.out.2 1
  go_wp2_with fail
  clear cR_0 cR_1 fR_0 fR_1
  have XZ := put2_box (u := .int .i64 0) (v := .slice none 0 0) XR.out
  have h0 := XZ.2 0
  have h1 := XZ.2 1
  unfold put2 at h0 h1
  have hwz0 := B.out.size
  have HW : Hid (synE (d + 1) C (.node 9 nm n ty es) = none) := by show _ = _; rw [HR.out, HA.out]; cases synE d C es[1] <;> cases synE d C es[2] <;> simp [ifOf, onlyIf]
  refine bodyPost_ret (v := .tuple #[.agg #[.int .i64 0, .slice none 0 0], .iface 141 (.pointer (some pe))]) (by simp [results, Tryz.results76, go_sem, h0, h1]) rfl ?_
  exact isyn_ret_no (lo := w.heap.size) (hi := w.heap.size) HW.out (leaf_in _ 0 _ _ (by omega) (by omega) (by first | omega | (simp; omega) | simp)) (Nat.le_refl _) (by first | omega | (simp; omega) | simp) (by simp [Ty.size, Ty.sizes]) (put2_below B.out (by omega))
 | true =>
  have HA := Lib.hid hha
  clear hha
  obtain ⟨w0, hw0, B, hz_w0, XE, FE, XR, FR⟩ := laid2 w #[.int .i64 9, .string nm, .int .i64 n, .int .i64 tk, .slice ta tn tc, .slice (some ⟨b, off, none⟩) 3 sc] 40 #[.int .i64 0, .slice none 0 0] 33
  replace B := Lib.hid B
  go_enter Tryz.func76, Tryz.ntmps76
  go_wp2_with fail
  rw [← hw0]
  clear hw0
  have gE_0 := gx XE 0
  have gE_1 := gx XE 1
  have gE_2 := gx XE 2
  have gE_3 := gx XE 3
  have gE_4 := gx XE 4
  have gE_5 := gx XE 5
  have gk0_0 := gk hbl B K0_0
  have gk0_1 := gk hbl B K0_1
  have gk0_2 := gk hbl B K0_2
  have gk0_3 := gk hbl B K0_3
  have gk0_4 := gk hbl B K0_4
  have gk0_5 := gk hbl B K0_5
  have CB : ∀ q : Grown w0.heap.size w0, Calls Tryz.prog 74 #[] q.val fun e w' => e = .returned (.agg #[.int .i64 3, .slice none 0 0]) ∧ Below q.val.heap.size q.val w' := fun q => implBoolType q.val
  have CA : ∀ q : Grown w0.heap.size w0, Calls Tryz.prog 48 #[.slice va vn vc1, .agg #[.int .i64 xk, .string xnm, .int .i64 xn, .int .i64 xtk, .slice xta xtn xtc, .slice xsa xsm xsc], .agg #[.int .i64 3, .slice none 0 0]] q.val fun e w' => e = .returned (.nilIface) ∧ Below q.val.heap.size q.val w' := fun q => by have h := IHA.out D 1 pe _ _ (.agg #[.int .i64 3, .slice none 0 0]) C es[0] tyB q.val ((HV.out.below B.out).below q.old) ((HT0.out.below B.out).below q.old) (leaf_at _ 3 (by omega) (by omega)) (HOK.out.part 0 hq0) (by simp [tyB, Ty.size, Ty.sizes]) ((HERR.out.below B.out).below q.old) ((HMT.out.below B.out).below q.old); rw [HA.out] at h; exact h
  refine wp_region_grown w0.heap.size (by kernel_rfl) (by kernel_rfl) ?_
  repeat (go_big_quiet_step ((first | (go_at_call 74; exact grown_of (Nat.le_refl _) (CB _)) | (go_at_call 48; exact grown_of (Nat.le_refl _) (CA _)))))
  refine wpQuiet_nil ?_
  rintro wq1 ⟨⟨wz, hb⟩, hqe⟩
  have hqe2 : wq1 = wz := hqe
  clear hqe
  subst hqe2
  clear gE_0 gE_1 gE_2 gE_3 gE_4 gE_5 gk0_0 gk0_1 gk0_2 gk0_3 gk0_4 gk0_5 CA CB
  have hz_wq1 := hb.size
  replace B := bb B hb
  replace XE := xb XE hb
  replace FE := fb FE hb
  replace XR := xb XR hb
  replace FR := fb FR hb
  clear hb
  have cE_0 := XE.out.2 0
  have cE_1 := XE.out.2 1
  have cE_2 := XE.out.2 2
  have cE_3 := XE.out.2 3
  have cE_4 := XE.out.2 4
  have cE_5 := XE.out.2 5
  go_wp2_with fail
  clear cE_0 cE_1 cE_2 cE_3 cE_4 cE_5
  have hcap9 : 3 ≤ sc := by omega
  have CB := implBoth d IHS.out D pe _ C es[1] es[2] b (off + 6) (sc - 1) yk ynm yn ytk yta ytn ytc ysa ysm ysc zk znm zn ztk zta ztn ztc zsa zsm zsc w wq1 B.out hbl K1_0.out K1_1.out K1_2.out K1_3.out K1_4.out K1_5.out K2_0.out K2_1.out K2_2.out K2_3.out K2_4.out K2_5.out HV.out HT1.out HT2.out (HOK.out.part 1 hq1) (HOK.out.part 2 hq2) HERR.out HMT.out
  cases hs1 : synE d C es[1] with
  | none =>
   have HS1 := Lib.hid hs1
   clear hs1
   cases hs2 : synE d C es[2] with
   | none =>
    have HS2 := Lib.hid hs2
    clear hs2
    refine (CB.mono (fun _ _ h => both_no (by rw [HS1.out, HS2.out]; rfl) h)).mono ?_
    rintro e w2 ⟨p1k, p1a, p1n, p1c, p2k, p2a, p2n, p2c, D9, g1, g2, mid, rfl, hm, ho1, ho2, hg1, hg2, hb⟩
    have Op1 := Lib.hid ho1
    clear ho1
    have Op2 := Lib.hid ho2
    clear ho2
    have hz_w2 := hb.size
    replace B := bb B hb
    replace XE := xb XE hb
    replace FE := fb FE hb
    replace XR := xb XR hb
    replace FR := fb FR hb
    clear hb
    obtain ⟨wa3, hwa3, hb, hy_wa3, XT7, FT7, XT8, FT8⟩ := laid2 w2 #[.int .i64 p1k, .slice p1a p1n p1c] 33 #[.int .i64 p2k, .slice p2a p2n p2c] 33
    have hz_wa3 := hb.size
    replace B := bb B hb
    replace XE := xb XE hb
    replace FE := fb FE hb
    replace XR := xb XR hb
    replace FR := fb FR hb
    replace Op1 := ob Op1 hb
    replace Op2 := ob Op2 hb
    clear hb
    have cR_0 := XR.out.2 0
    have cR_1 := XR.out.2 1
    have fR_0 := FR.out.2 0
    have fR_1 := FR.out.2 1
    rw [hwa3] at cR_0
    rw [hwa3] at cR_1
    rw [hwa3] at fR_0
    rw [hwa3] at fR_1
    go_wp2_with fail
    clear cR_0 cR_1 fR_0 fR_1
    rw [← hwa3]
    clear hwa3
    have XZ := put2_box (u := .int .i64 0) (v := .slice none 0 0) XR.out
    have h0 := XZ.2 0
    have h1 := XZ.2 1
    unfold put2 at h0 h1
    have hwz0 := B.out.size
    have HW : Hid (synE (d + 1) C (.node 9 nm n ty es) = none) := by show _ = _; rw [HR.out, HS1.out, HS2.out]; rfl
    refine bodyPost_ret (v := .tuple #[.agg #[.int .i64 0, .slice none 0 0], .iface 141 (.pointer (some pe))]) (by simp [results, Tryz.results76, go_sem, h0, h1]) rfl ?_
    exact isyn_ret_no (lo := w.heap.size) (hi := w.heap.size) HW.out (leaf_in _ 0 _ _ (by omega) (by omega) (by first | omega | (simp; omega) | simp)) (Nat.le_refl _) (by first | omega | (simp; omega) | simp) (by simp [Ty.size, Ty.sizes]) (put2_below B.out (by omega))
   | some t2 =>
    have hsz2 := syn_size d C es[2] t2 HOK.out.2.1 (HOK.out.part 2 hq2).1 hs2
    have HS2 := Lib.hid hs2
    clear hs2
    refine (CB.mono (fun _ _ h => both_no (by rw [HS1.out, HS2.out]; rfl) h)).mono ?_
    rintro e w2 ⟨p1k, p1a, p1n, p1c, p2k, p2a, p2n, p2c, D9, g1, g2, mid, rfl, hm, ho1, ho2, hg1, hg2, hb⟩
    have Op1 := Lib.hid ho1
    clear ho1
    have Op2 := Lib.hid ho2
    clear ho2
    have hz_w2 := hb.size
    replace B := bb B hb
    replace XE := xb XE hb
    replace FE := fb FE hb
    replace XR := xb XR hb
    replace FR := fb FR hb
    clear hb
    obtain ⟨wa3, hwa3, hb, hy_wa3, XT7, FT7, XT8, FT8⟩ := laid2 w2 #[.int .i64 p1k, .slice p1a p1n p1c] 33 #[.int .i64 p2k, .slice p2a p2n p2c] 33
    have hz_wa3 := hb.size
    replace B := bb B hb
    replace XE := xb XE hb
    replace FE := fb FE hb
    replace XR := xb XR hb
    replace FR := fb FR hb
    replace Op1 := ob Op1 hb
    replace Op2 := ob Op2 hb
    clear hb
    have cR_0 := XR.out.2 0
    have cR_1 := XR.out.2 1
    have fR_0 := FR.out.2 0
    have fR_1 := FR.out.2 1
    rw [hwa3] at cR_0
    rw [hwa3] at cR_1
    rw [hwa3] at fR_0
    rw [hwa3] at fR_1
    go_wp2_with fail
    clear cR_0 cR_1 fR_0 fR_1
    rw [← hwa3]
    clear hwa3
    have XZ := put2_box (u := .int .i64 0) (v := .slice none 0 0) XR.out
    have h0 := XZ.2 0
    have h1 := XZ.2 1
    unfold put2 at h0 h1
    have hwz0 := B.out.size
    have HW : Hid (synE (d + 1) C (.node 9 nm n ty es) = none) := by show _ = _; rw [HR.out, HS1.out, HS2.out]; rfl
    refine bodyPost_ret (v := .tuple #[.agg #[.int .i64 0, .slice none 0 0], .iface 141 (.pointer (some pe))]) (by simp [results, Tryz.results76, go_sem, h0, h1]) rfl ?_
    exact isyn_ret_no (lo := w.heap.size) (hi := w.heap.size) HW.out (leaf_in _ 0 _ _ (by omega) (by omega) (by first | omega | (simp; omega) | simp)) (Nat.le_refl _) (by first | omega | (simp; omega) | simp) (by simp [Ty.size, Ty.sizes]) (put2_below B.out (by omega))
  | some t1 =>
   have hsz1 := syn_size d C es[1] t1 HOK.out.2.1 (HOK.out.part 1 hq1).1 hs1
   have HS1 := Lib.hid hs1
   clear hs1
   cases hs2 : synE d C es[2] with
   | none =>
    have HS2 := Lib.hid hs2
    clear hs2
    refine (CB.mono (fun _ _ h => both_no (by rw [HS1.out, HS2.out]; rfl) h)).mono ?_
    rintro e w2 ⟨p1k, p1a, p1n, p1c, p2k, p2a, p2n, p2c, D9, g1, g2, mid, rfl, hm, ho1, ho2, hg1, hg2, hb⟩
    have Op1 := Lib.hid ho1
    clear ho1
    have Op2 := Lib.hid ho2
    clear ho2
    have hz_w2 := hb.size
    replace B := bb B hb
    replace XE := xb XE hb
    replace FE := fb FE hb
    replace XR := xb XR hb
    replace FR := fb FR hb
    clear hb
    obtain ⟨wa3, hwa3, hb, hy_wa3, XT7, FT7, XT8, FT8⟩ := laid2 w2 #[.int .i64 p1k, .slice p1a p1n p1c] 33 #[.int .i64 p2k, .slice p2a p2n p2c] 33
    have hz_wa3 := hb.size
    replace B := bb B hb
    replace XE := xb XE hb
    replace FE := fb FE hb
    replace XR := xb XR hb
    replace FR := fb FR hb
    replace Op1 := ob Op1 hb
    replace Op2 := ob Op2 hb
    clear hb
    have cR_0 := XR.out.2 0
    have cR_1 := XR.out.2 1
    have fR_0 := FR.out.2 0
    have fR_1 := FR.out.2 1
    rw [hwa3] at cR_0
    rw [hwa3] at cR_1
    rw [hwa3] at fR_0
    rw [hwa3] at fR_1
    go_wp2_with fail
    clear cR_0 cR_1 fR_0 fR_1
    rw [← hwa3]
    clear hwa3
    have XZ := put2_box (u := .int .i64 0) (v := .slice none 0 0) XR.out
    have h0 := XZ.2 0
    have h1 := XZ.2 1
    unfold put2 at h0 h1
    have hwz0 := B.out.size
    have HW : Hid (synE (d + 1) C (.node 9 nm n ty es) = none) := by show _ = _; rw [HR.out, HS1.out, HS2.out]; rfl
    refine bodyPost_ret (v := .tuple #[.agg #[.int .i64 0, .slice none 0 0], .iface 141 (.pointer (some pe))]) (by simp [results, Tryz.results76, go_sem, h0, h1]) rfl ?_
    exact isyn_ret_no (lo := w.heap.size) (hi := w.heap.size) HW.out (leaf_in _ 0 _ _ (by omega) (by omega) (by first | omega | (simp; omega) | simp)) (Nat.le_refl _) (by first | omega | (simp; omega) | simp) (by simp [Ty.size, Ty.sizes]) (put2_below B.out (by omega))
   | some t2 =>
    have hsz2 := syn_size d C es[2] t2 HOK.out.2.1 (HOK.out.part 2 hq2).1 hs2
    have HS2 := Lib.hid hs2
    clear hs2
    refine (CB.mono (fun _ _ h => both_yes HS1.out HS2.out h)).mono ?_
    rintro e w2 ⟨p1k, p1a, p1n, p1c, p2k, p2a, p2n, p2c, D9, mid, rfl, hm, ho1, ho2, hb⟩
    have Op1 := Lib.hid ho1
    clear ho1
    have Op2 := Lib.hid ho2
    clear ho2
    have hz_w2 := hb.size
    replace B := bb B hb
    replace XE := xb XE hb
    replace FE := fb FE hb
    replace XR := xb XR hb
    replace FR := fb FR hb
    clear hb
    obtain ⟨wa3, hwa3, hb, hy_wa3, XT7, FT7, XT8, FT8⟩ := laid2 w2 #[.int .i64 p1k, .slice p1a p1n p1c] 33 #[.int .i64 p2k, .slice p2a p2n p2c] 33
    have hz_wa3 := hb.size
    replace B := bb B hb
    replace XE := xb XE hb
    replace FE := fb FE hb
    replace XR := xb XR hb
    replace FR := fb FR hb
    replace Op1 := ob Op1 hb
    replace Op2 := ob Op2 hb
    clear hb
    have cR_0 := XR.out.2 0
    have cR_1 := XR.out.2 1
    have cT7_0 := XT7.out.2 0
    have cT7_1 := XT7.out.2 1
    have cT8_0 := XT8.out.2 0
    have cT8_1 := XT8.out.2 1
    rw [hwa3] at cR_0
    rw [hwa3] at cR_1
    rw [hwa3] at cT7_0
    rw [hwa3] at cT7_1
    rw [hwa3] at cT8_0
    rw [hwa3] at cT8_1
    go_wp2_with fail
    clear cR_0 cR_1 cT7_0 cT7_1 cT8_0 cT8_1
    rw [← hwa3]
    clear hwa3
    cases hho : t1.okay t2 with
    | false =>
     have HO := Lib.hid hho
     clear hho
     refine (Calls.mono (implMeetL D9 _ _ t1 t2 _ (by omega) (by omega) Op1.out.at_ Op2.out.at_ (HMT.out.below B.out)) (fun _ _ h => by have h2 := meet_b h; rw [HO.out] at h2; exact h2)).mono ?_
     rintro e w4 ⟨D8, mk, ma, mn, mc, rfl, ho3, hb⟩
     have Om := Lib.hid ho3
     clear ho3
     have hz_w4 := hb.size
     replace B := bb B hb
     replace XE := xb XE hb
     replace FE := fb FE hb
     replace XR := xb XR hb
     replace FR := fb FR hb
     replace XT7 := xb XT7 hb
     replace FT7 := fb FT7 hb
     replace XT8 := xb XT8 hb
     replace FT8 := fb FT8 hb
     replace Op1 := ob Op1 hb
     replace Op2 := ob Op2 hb
     clear hb
     go_wp2_with fail
     obtain ⟨wa5, hwa5, hb, hy_wa5, XT10, FT10⟩ := laid1 w4 #[.int .i64 mk, .slice ma mn mc] 33
     have hz_wa5 := hb.size
     replace B := bb B hb
     replace XE := xb XE hb
     replace FE := fb FE hb
     replace XR := xb XR hb
     replace FR := fb FR hb
     replace XT7 := xb XT7 hb
     replace FT7 := fb FT7 hb
     replace XT8 := xb XT8 hb
     replace FT8 := fb FT8 hb
     replace Op1 := ob Op1 hb
     replace Op2 := ob Op2 hb
     replace Om := ob Om hb
     clear hb
     rw [← hwa5]
     clear hwa5
     obtain ⟨wd6, hwd6⟩ : ∃ W, W = wa5.drew := ⟨_, rfl⟩
     have hb : Below wa5.heap.size wa5 wd6 := by rw [hwd6]; exact below_drew _
     have hz_wd6 := hb.size
     replace B := bb B hb
     replace XE := xb XE hb
     replace FE := fb FE hb
     replace XR := xb XR hb
     replace FR := fb FR hb
     replace XT7 := xb XT7 hb
     replace FT7 := fb FT7 hb
     replace XT8 := xb XT8 hb
     replace FT8 := fb FT8 hb
     replace XT10 := xb XT10 hb
     replace FT10 := fb FT10 hb
     replace Op1 := ob Op1 hb
     replace Op2 := ob Op2 hb
     replace Om := ob Om hb
     clear hb
     refine wp_region_held_drew (S := fun w' => w'.cell? ⟨w4.heap.size, 0, none⟩ = some (.int .i64 mk) ∧ w'.cell? ⟨w4.heap.size, 1, none⟩ = some (.slice ma mn mc)) (by kernel_rfl) (by rw [← hwd6]; exact ⟨XT10.out.2 0, XT10.out.2 1⟩) (fun hHeld => ?_)
     rw [← hwd6] at hHeld ⊢
     clear hwd6
     refine wpAnyH_take (i := 0) (v := ?v20_0) rfl (by kernel_rfl) (by kernel_rfl) (by kernel_rfl) (fun _ _ _ h => h) (Or.inl ⟨by kernel_rfl, ?hy20_0⟩) hHeld ?rest20_0
     case hy20_0 =>
      intro w hSw
      (try dsimp only at hSw)
      go_simp
      all_goals (first | done | with_reducible rfl)
     try simp only [Act.put]
     try simp only [List.setIfInBounds_toArray]
     try simp only [List.set_cons_succ]
     try simp only [List.set_cons_zero]
     refine wpAnyH_take (i := 1) (v := ?v21_1) rfl (by kernel_rfl) (by kernel_rfl) (by kernel_rfl) (fun _ _ _ h => h) (Or.inl ⟨by kernel_rfl, ?hy21_1⟩) hHeld ?rest21_1
     case hy21_1 =>
      intro w hSw
      (try dsimp only at hSw)
      go_simp
      all_goals (first | done | with_reducible rfl)
     try simp only [Act.put]
     try simp only [List.setIfInBounds_toArray]
     try simp only [List.set_cons_succ]
     try simp only [List.set_cons_zero]
     refine wpAnyH_ready (rs := [2]) (by kernel_rfl) (by simp) ?_
     refine AllReadyH.cons rfl (fun K hK => ?_) AllReadyH.nil
     go_simp
     go_at_call 69
     refine (unlessNo _ pe (HERR.out.below B.out)).mono ?_
     rintro e w7 ⟨rfl, hb⟩
     have hz_w7 := hb.size
     replace B := bb B hb
     replace XE := xb XE hb
     replace FE := fb FE hb
     replace XR := xb XR hb
     replace FR := fb FR hb
     replace XT7 := xb XT7 hb
     replace FT7 := fb FT7 hb
     replace XT8 := xb XT8 hb
     replace FT8 := fb FT8 hb
     replace XT10 := xb XT10 hb
     replace FT10 := fb FT10 hb
     replace Op1 := ob Op1 hb
     replace Op2 := ob Op2 hb
     replace Om := ob Om hb
     clear hb
     clear hHeld
     try go_wp2_with fail
     refine hK.out _ _ (by exact ⟨XT10.out.2 0, XT10.out.2 1⟩) (fun hHeld => ?_)
     clear hK K
     try simp only [Act.put]
     try simp only [List.setIfInBounds_toArray]
     try simp only [List.set_cons_succ]
     try simp only [List.set_cons_zero]
     have cR_0 := XR.out.2 0
     have cR_1 := XR.out.2 1
     have fR_0 := FR.out.2 0
     have fR_1 := FR.out.2 1
     refine wpAnyH_ready (rs := [3]) (by kernel_rfl) (by simp) ?_
     refine AllReadyH.cons rfl (fun K hK => ?_) AllReadyH.nil
     go_simp
     clear cR_0 cR_1 fR_0 fR_1
     clear hHeld
     try go_wp2_with fail
     obtain ⟨ws8, hws8⟩ : ∃ W, W = put2 w7 (w.heap.size + 1) (.int .i64 mk) (.slice ma mn mc) := ⟨_, rfl⟩
     have hy_ws8 : ws8.heap.size = w7.heap.size := by rw [hws8]; exact put2_size
     replace XE := xo hws8 XE (by omega)
     replace FE := fo hws8 FE
     replace XR := xs hws8 XR
     replace FR := fo hws8 FR
     replace XT7 := xo hws8 XT7 (by omega)
     replace FT7 := fo hws8 FT7
     replace XT8 := xo hws8 XT8 (by omega)
     replace FT8 := fo hws8 FT8
     replace XT10 := xo hws8 XT10 (by omega)
     replace FT10 := fo hws8 FT10
     replace Op1 := oo hws8 Op1 (by omega)
     replace Op2 := oo hws8 Op2 (by omega)
     replace Om := oo hws8 Om (by omega)
     replace B := bo hws8 B (by omega)
     unfold put2 at hws8
     rw [← hws8]
     clear hws8
     refine hK.out _ _ (by exact ⟨XT10.out.2 0, XT10.out.2 1⟩) (fun hHeld => ?_)
     clear hK K
     try simp only [Act.put]
     try simp only [List.setIfInBounds_toArray]
     try simp only [List.set_cons_succ]
     try simp only [List.set_cons_zero]
     refine wpAnyH_ready (rs := [4]) (by kernel_rfl) (by simp) ?_
     refine AllReadyH.cons rfl (fun K hK => ?_) AllReadyH.nil
     go_simp
     refine hK.out _ _ hHeld (fun hHeld => ?_)
     clear hK K
     try simp only [Act.put]
     try simp only [List.setIfInBounds_toArray]
     try simp only [List.set_cons_succ]
     try simp only [List.set_cons_zero]
     refine wpAnyH_done (by kernel_rfl) ?_ _
     try simp only [List.getElem_toArray]
     try simp only [List.getElem_cons_succ]
     try simp only [List.getElem_cons_zero]
     try simp only [Act.put]
     try simp only [List.setIfInBounds_toArray]
     try simp only [List.set_cons_succ]
     try simp only [List.set_cons_zero]
     go_wp2_with fail
     have hbo9 : t1.both t2 = .node 0 [] := by unfold Ty.both; rw [HO.out]; rfl
     rw [hbo9] at Om
     have h0 := XR.out.2 0
     have h1 := XR.out.2 1
     have htop := own_top Om.out
     have HW : Hid (synE (d + 1) C (.node 9 nm n ty es) = none) := by show _ = _; rw [HR.out, HS1.out, HS2.out, HA.out]; simp [ifOf, onlyIf, HO.out]
     refine bodyPost_ret (v := .tuple #[.agg #[.int .i64 mk, .slice ma mn mc], .iface 141 (.pointer (some pe))]) (by simp [results, Tryz.results76, go_sem, h0, h1]) rfl ?_
     exact isyn_ret_no HW.out Om.out (by omega) (by first | (simp; omega) | simp | omega) (by simp [Ty.size, Ty.sizes]) B.out
    | true =>
     have HO := Lib.hid hho
     clear hho
     refine (Calls.mono (implMeetL D9 _ _ t1 t2 _ (by omega) (by omega) Op1.out.at_ Op2.out.at_ (HMT.out.below B.out)) (fun _ _ h => by have h2 := meet_b h; rw [HO.out] at h2; exact h2)).mono ?_
     rintro e w4 ⟨D8, mk, ma, mn, mc, rfl, ho3, hb⟩
     have Om := Lib.hid ho3
     clear ho3
     have hz_w4 := hb.size
     replace B := bb B hb
     replace XE := xb XE hb
     replace FE := fb FE hb
     replace XR := xb XR hb
     replace FR := fb FR hb
     replace XT7 := xb XT7 hb
     replace FT7 := fb FT7 hb
     replace XT8 := xb XT8 hb
     replace FT8 := fb FT8 hb
     replace Op1 := ob Op1 hb
     replace Op2 := ob Op2 hb
     clear hb
     go_wp2_with fail
     obtain ⟨wa5, hwa5, hb, hy_wa5, XT10, FT10⟩ := laid1 w4 #[.int .i64 mk, .slice ma mn mc] 33
     have hz_wa5 := hb.size
     replace B := bb B hb
     replace XE := xb XE hb
     replace FE := fb FE hb
     replace XR := xb XR hb
     replace FR := fb FR hb
     replace XT7 := xb XT7 hb
     replace FT7 := fb FT7 hb
     replace XT8 := xb XT8 hb
     replace FT8 := fb FT8 hb
     replace Op1 := ob Op1 hb
     replace Op2 := ob Op2 hb
     replace Om := ob Om hb
     clear hb
     rw [← hwa5]
     clear hwa5
     obtain ⟨wd6, hwd6⟩ : ∃ W, W = wa5.drew := ⟨_, rfl⟩
     have hb : Below wa5.heap.size wa5 wd6 := by rw [hwd6]; exact below_drew _
     have hz_wd6 := hb.size
     replace B := bb B hb
     replace XE := xb XE hb
     replace FE := fb FE hb
     replace XR := xb XR hb
     replace FR := fb FR hb
     replace XT7 := xb XT7 hb
     replace FT7 := fb FT7 hb
     replace XT8 := xb XT8 hb
     replace FT8 := fb FT8 hb
     replace XT10 := xb XT10 hb
     replace FT10 := fb FT10 hb
     replace Op1 := ob Op1 hb
     replace Op2 := ob Op2 hb
     replace Om := ob Om hb
     clear hb
     refine wp_region_held_drew (S := fun w' => w'.cell? ⟨w4.heap.size, 0, none⟩ = some (.int .i64 mk) ∧ w'.cell? ⟨w4.heap.size, 1, none⟩ = some (.slice ma mn mc)) (by kernel_rfl) (by rw [← hwd6]; exact ⟨XT10.out.2 0, XT10.out.2 1⟩) (fun hHeld => ?_)
     rw [← hwd6] at hHeld ⊢
     clear hwd6
     refine wpAnyH_take (i := 0) (v := ?v22_0) rfl (by kernel_rfl) (by kernel_rfl) (by kernel_rfl) (fun _ _ _ h => h) (Or.inl ⟨by kernel_rfl, ?hy22_0⟩) hHeld ?rest22_0
     case hy22_0 =>
      intro w hSw
      (try dsimp only at hSw)
      go_simp
      all_goals (first | done | with_reducible rfl)
     try simp only [Act.put]
     try simp only [List.setIfInBounds_toArray]
     try simp only [List.set_cons_succ]
     try simp only [List.set_cons_zero]
     refine wpAnyH_take (i := 1) (v := ?v23_1) rfl (by kernel_rfl) (by kernel_rfl) (by kernel_rfl) (fun _ _ _ h => h) (Or.inl ⟨by kernel_rfl, ?hy23_1⟩) hHeld ?rest23_1
     case hy23_1 =>
      intro w hSw
      (try dsimp only at hSw)
      go_simp
      all_goals (first | done | with_reducible rfl)
     try simp only [Act.put]
     try simp only [List.setIfInBounds_toArray]
     try simp only [List.set_cons_succ]
     try simp only [List.set_cons_zero]
     refine wpAnyH_ready (rs := [2]) (by kernel_rfl) (by simp) ?_
     refine AllReadyH.cons rfl (fun K hK => ?_) AllReadyH.nil
     go_simp
     go_at_call 69
     refine (unlessYes _).mono ?_
     rintro e w7 ⟨rfl, hb⟩
     have hz_w7 := hb.size
     replace B := bb B hb
     replace XE := xb XE hb
     replace FE := fb FE hb
     replace XR := xb XR hb
     replace FR := fb FR hb
     replace XT7 := xb XT7 hb
     replace FT7 := fb FT7 hb
     replace XT8 := xb XT8 hb
     replace FT8 := fb FT8 hb
     replace XT10 := xb XT10 hb
     replace FT10 := fb FT10 hb
     replace Op1 := ob Op1 hb
     replace Op2 := ob Op2 hb
     replace Om := ob Om hb
     clear hb
     clear hHeld
     try go_wp2_with fail
     refine hK.out _ _ (by exact ⟨XT10.out.2 0, XT10.out.2 1⟩) (fun hHeld => ?_)
     clear hK K
     try simp only [Act.put]
     try simp only [List.setIfInBounds_toArray]
     try simp only [List.set_cons_succ]
     try simp only [List.set_cons_zero]
     have cR_0 := XR.out.2 0
     have cR_1 := XR.out.2 1
     have fR_0 := FR.out.2 0
     have fR_1 := FR.out.2 1
     refine wpAnyH_ready (rs := [3]) (by kernel_rfl) (by simp) ?_
     refine AllReadyH.cons rfl (fun K hK => ?_) AllReadyH.nil
     go_simp
     clear cR_0 cR_1 fR_0 fR_1
     clear hHeld
     try go_wp2_with fail
     obtain ⟨ws8, hws8⟩ : ∃ W, W = put2 w7 (w.heap.size + 1) (.int .i64 mk) (.slice ma mn mc) := ⟨_, rfl⟩
     have hy_ws8 : ws8.heap.size = w7.heap.size := by rw [hws8]; exact put2_size
     replace XE := xo hws8 XE (by omega)
     replace FE := fo hws8 FE
     replace XR := xs hws8 XR
     replace FR := fo hws8 FR
     replace XT7 := xo hws8 XT7 (by omega)
     replace FT7 := fo hws8 FT7
     replace XT8 := xo hws8 XT8 (by omega)
     replace FT8 := fo hws8 FT8
     replace XT10 := xo hws8 XT10 (by omega)
     replace FT10 := fo hws8 FT10
     replace Op1 := oo hws8 Op1 (by omega)
     replace Op2 := oo hws8 Op2 (by omega)
     replace Om := oo hws8 Om (by omega)
     replace B := bo hws8 B (by omega)
     unfold put2 at hws8
     rw [← hws8]
     clear hws8
     refine hK.out _ _ (by exact ⟨XT10.out.2 0, XT10.out.2 1⟩) (fun hHeld => ?_)
     clear hK K
     try simp only [Act.put]
     try simp only [List.setIfInBounds_toArray]
     try simp only [List.set_cons_succ]
     try simp only [List.set_cons_zero]
     refine wpAnyH_ready (rs := [4]) (by kernel_rfl) (by simp) ?_
     refine AllReadyH.cons rfl (fun K hK => ?_) AllReadyH.nil
     go_simp
     refine hK.out _ _ hHeld (fun hHeld => ?_)
     clear hK K
     try simp only [Act.put]
     try simp only [List.setIfInBounds_toArray]
     try simp only [List.set_cons_succ]
     try simp only [List.set_cons_zero]
     refine wpAnyH_done (by kernel_rfl) ?_ _
     try simp only [List.getElem_toArray]
     try simp only [List.getElem_cons_succ]
     try simp only [List.getElem_cons_zero]
     try simp only [Act.put]
     try simp only [List.setIfInBounds_toArray]
     try simp only [List.set_cons_succ]
     try simp only [List.set_cons_zero]
     go_wp2_with fail
     have hbo9 : t1.both t2 = t1.meet t2 := by unfold Ty.both; rw [HO.out]; rfl
     rw [hbo9] at Om
     have h0 := XR.out.2 0
     have h1 := XR.out.2 1
     have htop := own_top Om.out
     have HW : Hid (synE (d + 1) C (.node 9 nm n ty es) = some (t1.meet t2)) := by show _ = _; rw [HR.out, HS1.out, HS2.out, HA.out]; simp [ifOf, onlyIf, HO.out]
     refine bodyPost_ret (v := .tuple #[.agg #[.int .i64 mk, .slice ma mn mc], .nilIface]) (by simp [results, Tryz.results76, go_sem, h0, h1]) rfl ?_
     exact isyn_ret_yes HW.out Om.out (by omega) (by first | (simp; omega) | simp | omega) (HSZ9.out _ HW.out) B.out
end Go.Proofs.YteffjeejbdjjpaaGreatDoor
