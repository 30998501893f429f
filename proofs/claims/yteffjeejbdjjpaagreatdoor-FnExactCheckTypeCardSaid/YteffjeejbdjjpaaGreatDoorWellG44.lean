/-
  Proved: impl.synth: pairs and functions.
-/
import Derived.Test.YteffjeejbdjjpaaGreatDoorWellG38
import Derived.Test.YteffjeejbdjjpaaGreatDoorWellG15
import Derived.Test.YteffjeejbdjjpaaGreatDoorWellG42
import Derived.Deep.DeepCutAuto
import Derived.Test.YteffjeejbdjjpaaGreatDoorWellG20
namespace Go.Proofs.YteffjeejbdjjpaaGreatDoor
open Go.RowKit

theorem syn_pairI (d : Nat) (C : List Bi) (nm : ByteArray) (n : Int) (ty : Ty) (es : List Ex) (h0 : 0 < es.length) (h1 : 1 < es.length) : synE (d + 1) C (.node 10 nm n ty es) = pairOf (synE d C es[0]) (synE d C es[1]) := by
 rw [synE_succ]; simp only [synStep]; rw [Ex.arg_get h0, Ex.arg_get h1]; simp
theorem syn_lamI (d : Nat) (C : List Bi) (nm : ByteArray) (n : Int) (ty : Ty) (es : List Ex) (h0 : 0 < es.length) : synE (d + 1) C (.node 3 nm n ty es) = arrowOf ty (synE d (C ++ [⟨nm, ty⟩]) es[0]) := by
 rw [synE_succ]; simp only [synStep]; rw [Ex.arg_get h0]; simp
theorem pairOf_some (a b : Option Ty) : (pairOf a b).isSome = (a.isSome && b.isSome) := by cases a <;> cases b <;> rfl
theorem pairOf_is {a b : Option Ty} {x y z : Ty} (hi : (a.isSome && b.isSome) = true → a = some x ∧ b = some y) (h : pairOf a b = some z) : .node 5 [x, y] = z := by
 cases a with
 | none => cases h
 | some p =>
  cases b with
  | none => cases h
  | some q =>
   obtain ⟨h1, h2⟩ := hi rfl
   injection h1 with h1
   injection h2 with h2
   injection h with h
   rw [← h, h1, h2]
theorem arrowOf_is {t x z : Ty} {r : Option Ty} (hi : ∀ y, r = some y → x = y) (h : arrowOf t r = some z) : .node 4 [t, x] = z := by
 cases r with
 | none => cases h
 | some q =>
  have h1 := hi q rfl
  injection h with h
  rw [← h, h1]
set_option maxRecDepth 100000 in
set_option maxHeartbeats 2000000 in
theorem implSyn10 (d : Nat) (ihs : ImplSynSaid d) (D : Nat) (pe : Addr) (vc v : Value) (C : List Bi) (nm : ByteArray) (n : Int) (ty : Ty) (es : List Ex) (w : World) (hv : BisAt w D vc C) (he : ExAt w (d + 1) v (.node 10 nm n ty es)) (hok : TypOk C (.node 10 nm n ty es)) (herr : ErrAt w pe) (hmt : MeetTab w) :
  Calls Tryz.prog 34 #[vc, v] w (ISynEnd pe (synE (d + 1) C (.node 10 nm n ty es)) (16 * (Ex.node 10 nm n ty es).count + 1) w) := by
 obtain ⟨c3, c4, sl, hx, hk0, hk1, hn0, hn1, hnm, hty, sa, sc, hsl, hcap, hcap2, hat⟩ := he
 subst hsl
 obtain ⟨tk, ta, tn, tc, rfl, rfl⟩ := at_parts hty
 subst hx
 obtain ⟨va, vn, vc1, rfl⟩ : ∃ a n c, vc = .slice a n c := by obtain ⟨a, cap, hv, _⟩ := hv; exact ⟨_, _, _, hv⟩
 have hlen : es.length = 2 := by have h1 := (form_parts hok.1).1; have h2 : arity 10 = 2 := rfl; omega
 have hq0 : 0 < es.length := by omega
 have hq1 : 1 < es.length := by omega
 obtain ⟨b, off, q0_0, q0_1, q0_2, q0_3, q0_4, q0_5, e0, hbl, z0_0, z0_1, z0_2, z0_3, z0_4, z0_5, ht0⟩ := hat 0 hq0
 subst e0
 obtain ⟨xk, xnm, xn, xtk, xta, xtn, xtc, xsa, xsm, xsc, rfl, rfl, rfl, rfl, rfl, rfl⟩ := ex_cells ht0
 simp only [Nat.zero_mul, Nat.add_zero] at z0_0 z0_1 z0_2 z0_3 z0_4 z0_5
 have K0_0 := Lib.hid z0_0
 have K0_1 := Lib.hid z0_1
 have K0_2 := Lib.hid z0_2
 have K0_3 := Lib.hid z0_3
 have K0_4 := Lib.hid z0_4
 have K0_5 := Lib.hid z0_5
 clear z0_0 z0_1 z0_2 z0_3 z0_4 z0_5
 have HT0 := Lib.hid ht0
 clear ht0
 obtain ⟨b1, off1, q1_0, q1_1, q1_2, q1_3, q1_4, q1_5, e1, hbl1, z1_0, z1_1, z1_2, z1_3, z1_4, z1_5, ht1⟩ := hat 1 hq1
 injection e1 with e1
 injection e1 with ea1 eb1
 subst ea1 eb1
 obtain ⟨yk, ynm, yn, ytk, yta, ytn, ytc, ysa, ysm, ysc, rfl, rfl, rfl, rfl, rfl, rfl⟩ := ex_cells ht1
 simp only [Nat.one_mul] at z1_0 z1_1 z1_2 z1_3 z1_4 z1_5
 have K1_0 := Lib.hid z1_0
 have K1_1 := Lib.hid z1_1
 have K1_2 := Lib.hid z1_2
 have K1_3 := Lib.hid z1_3
 have K1_4 := Lib.hid z1_4
 have K1_5 := Lib.hid z1_5
 clear z1_0 z1_1 z1_2 z1_3 z1_4 z1_5
 have HT1 := Lib.hid ht1
 clear ht1
 have HV := Lib.hid hv
 clear hv
 have HOK := Lib.hid hok
 clear hok hat
 have HTY := Lib.hid hty
 clear hty
 have HNM := Lib.hid hnm
 clear hnm
 have HERR := Lib.hid herr
 have HMT := Lib.hid hmt
 clear herr hmt
 have IHS := Lib.hid ihs
 clear ihs
 have hcn : (Ex.node 10 nm n ty es).count = 1 + Ex.counts es := count_node (by omega)
 have hcp0 := count_part es 0 hq0
 have hcp1 := count_part es 1 hq1
 have hct := counts_two (i := 0) (j := 1) (by omega) hq1
 have hcm := HOK.out.2.2.2
 rw [hcn] at hcm
 obtain ⟨N, hN⟩ : ∃ N, N = (Ex.node 10 nm n ty es).count := ⟨_, rfl⟩
 rw [← hN] at hcn
 rw [← hN]
 have hsz9 : ∀ x, synE (d + 1) C (.node 10 nm n ty es) = some x → x.size ≤ 16 * N + 1 := fun x hx => by have h := syn_size (d + 1) C _ x HOK.out.2.1 HOK.out.1 hx; rw [hN]; exact h
 have HSZ9 := Lib.hid hsz9
 clear hsz9 hN
 rw [hlen]
 clear hlen
 have HR := Lib.hid (syn_pairI d C nm n ty es hq0 hq1)
 obtain ⟨w0, hw0, B, hz_w0, XE, FE, XR, FR⟩ := laid2 w #[.int .i64 10, .string nm, .int .i64 n, .int .i64 tk, .slice ta tn tc, .slice (some ⟨b, off, none⟩) 2 sc] 40 #[.int .i64 0, .slice none 0 0] 33
 replace B := Lib.hid B
 go_enter Tryz.func34, Tryz.ntmps34
 go_wp2_with fail
 rw [← hw0]
 clear hw0
 refine (implBoth d IHS.out D pe _ C es[0] es[1] b off sc xk xnm xn xtk xta xtn xtc xsa xsm xsc yk ynm yn ytk yta ytn ytc ysa ysm ysc w w0 B.out hbl K0_0.out K0_1.out K0_2.out K0_3.out K0_4.out K0_5.out K1_0.out K1_1.out K1_2.out K1_3.out K1_4.out K1_5.out HV.out HT0.out HT1.out (HOK.out.part 0 hq0) (HOK.out.part 1 hq1) HERR.out HMT.out).mono ?_
 rintro e w1 ⟨D9, p1k, p1a, p1n, p1c, p2k, p2a, p2n, p2c, tx, tz, mid, rfl, hm, ho1, ho2, hg1, hg2, hgi, hb⟩
 have Op1 := Lib.hid ho1
 clear ho1
 have Op2 := Lib.hid ho2
 clear ho2
 have hz_w1 := hb.size
 replace B := bb B hb
 replace XE := xb XE hb
 replace FE := fb FE hb
 replace XR := xb XR hb
 replace FR := fb FR hb
 clear hb
 have HGI := Lib.hid hgi
 clear hgi
 obtain ⟨wa2, hwa2, hb, hy_wa2, XT10, FT10, XT11, FT11⟩ := laid2 w1 #[.int .i64 p1k, .slice p1a p1n p1c] 33 #[.int .i64 p2k, .slice p2a p2n p2c] 33
 have hz_wa2 := hb.size
 replace B := bb B hb
 replace XE := xb XE hb
 replace FE := fb FE hb
 replace XR := xb XR hb
 replace FR := fb FR hb
 replace Op1 := ob Op1 hb
 replace Op2 := ob Op2 hb
 clear hb
 have cT10_0 := XT10.out.2 0
 have cT10_1 := XT10.out.2 1
 have cT11_0 := XT11.out.2 0
 have cT11_1 := XT11.out.2 1
 rw [hwa2] at cT10_0
 rw [hwa2] at cT10_1
 rw [hwa2] at cT11_0
 rw [hwa2] at cT11_1
 go_wp2_with fail
 clear cT10_0 cT10_1 cT11_0 cT11_1
 rw [← hwa2]
 clear hwa2
 refine (Calls.mono (implPairType D9 _ _ tx tz _ (by omega) (by omega) Op1.out.at_ Op2.out.at_) (fun _ _ h => type_e h)).mono ?_
 rintro e w3 ⟨D8, mk, ma, mn, mc, rfl, ho3, hb⟩
 have Om := Lib.hid ho3
 clear ho3
 have hz_w3 := hb.size
 replace B := bb B hb
 replace XE := xb XE hb
 replace FE := fb FE hb
 replace XR := xb XR hb
 replace FR := fb FR hb
 replace XT10 := xb XT10 hb
 replace FT10 := fb FT10 hb
 replace XT11 := xb XT11 hb
 replace FT11 := fb FT11 hb
 replace Op1 := ob Op1 hb
 replace Op2 := ob Op2 hb
 clear hb
 have cR_0 := XR.out.2 0
 have cR_1 := XR.out.2 1
 have fR_0 := FR.out.2 0
 have fR_1 := FR.out.2 1
 go_wp2_with fail
 clear cR_0 cR_1 fR_0 fR_1
 have XZ := put2_box (u := .int .i64 mk) (v := .slice ma mn mc) XR.out
 have h0 := XZ.2 0
 have h1 := XZ.2 1
 unfold put2 at h0 h1
 have htop := own_top Om.out
 have HW : Hid ((synE (d + 1) C (.node 10 nm n ty es)).isSome = ((synE d C es[0]).isSome && (synE d C es[1]).isSome)) := by show _ = _; rw [HR.out, pairOf_some]
 refine bodyPost_ret (v := .tuple #[.agg #[.int .i64 mk, .slice ma mn mc], errOf pe ((synE d C es[0]).isSome && (synE d C es[1]).isSome)]) (by simp [results, Tryz.results34, go_sem, h0, h1]) rfl ?_
 exact ⟨_, _, _, _, _, .node 5 [tx, tz], by rw [HW.out], (put2_own Om.out (by omega)).widen (by omega) (by first | (simp; omega) | simp | omega) (Nat.le_refl _), (by simp [Ty.size, Ty.sizes]; omega), (fun x h => by rw [HR.out] at h; exact pairOf_is HGI.out h), (put2_below B.out (by omega))⟩
set_option maxRecDepth 100000 in
set_option maxHeartbeats 2000000 in
theorem implSyn3 (d : Nat) (ihs : ImplSynSaid d) (D : Nat) (pe : Addr) (vc v : Value) (C : List Bi) (nm : ByteArray) (n : Int) (ty : Ty) (es : List Ex) (w : World) (hv : BisAt w D vc C) (he : ExAt w (d + 1) v (.node 3 nm n ty es)) (hok : TypOk C (.node 3 nm n ty es)) (herr : ErrAt w pe) (hmt : MeetTab w) :
  Calls Tryz.prog 34 #[vc, v] w (ISynEnd pe (synE (d + 1) C (.node 3 nm n ty es)) (16 * (Ex.node 3 nm n ty es).count + 1) w) := by
 obtain ⟨c3, c4, sl, hx, hk0, hk1, hn0, hn1, hnm, hty, sa, sc, hsl, hcap, hcap2, hat⟩ := he
 subst hsl
 obtain ⟨tk, ta, tn, tc, rfl, rfl⟩ := at_parts hty
 subst hx
 obtain ⟨va, vn, vc1, rfl⟩ : ∃ a n c, vc = .slice a n c := by obtain ⟨a, cap, hv, _⟩ := hv; exact ⟨_, _, _, hv⟩
 have hlen : es.length = 1 := by have h1 := (form_parts hok.1).1; have h2 : arity 3 = 1 := rfl; omega
 have hq0 : 0 < es.length := by omega
 obtain ⟨b, off, q0_0, q0_1, q0_2, q0_3, q0_4, q0_5, e0, hbl, z0_0, z0_1, z0_2, z0_3, z0_4, z0_5, ht0⟩ := hat 0 hq0
 subst e0
 obtain ⟨xk, xnm, xn, xtk, xta, xtn, xtc, xsa, xsm, xsc, rfl, rfl, rfl, rfl, rfl, rfl⟩ := ex_cells ht0
 simp only [Nat.zero_mul, Nat.add_zero] at z0_0 z0_1 z0_2 z0_3 z0_4 z0_5
 have K0_0 := Lib.hid z0_0
 have K0_1 := Lib.hid z0_1
 have K0_2 := Lib.hid z0_2
 have K0_3 := Lib.hid z0_3
 have K0_4 := Lib.hid z0_4
 have K0_5 := Lib.hid z0_5
 clear z0_0 z0_1 z0_2 z0_3 z0_4 z0_5
 have HT0 := Lib.hid ht0
 clear ht0
 have HV := Lib.hid hv
 clear hv
 have HOK := Lib.hid hok
 clear hok hat
 have HTY := Lib.hid hty
 clear hty
 have HNM := Lib.hid hnm
 clear hnm
 have HERR := Lib.hid herr
 have HMT := Lib.hid hmt
 clear herr hmt
 have IHS := Lib.hid ihs
 clear ihs
 have hcn : (Ex.node 3 nm n ty es).count = 1 + Ex.counts es := count_node (by omega)
 have hcp0 := count_part es 0 hq0
 have hcm := HOK.out.2.2.2
 rw [hcn] at hcm
 obtain ⟨N, hN⟩ : ∃ N, N = (Ex.node 3 nm n ty es).count := ⟨_, rfl⟩
 rw [← hN] at hcn
 rw [← hN]
 have hsz9 : ∀ x, synE (d + 1) C (.node 3 nm n ty es) = some x → x.size ≤ 16 * N + 1 := fun x hx => by have h := syn_size (d + 1) C _ x HOK.out.2.1 HOK.out.1 hx; rw [hN]; exact h
 have HSZ9 := Lib.hid hsz9
 clear hsz9 hN
 rw [hlen]
 clear hlen
 have HR := Lib.hid (syn_lamI d C nm n ty es hq0)
 have HOU := Lib.hid (HOK.out.under hq0)
 have htz : ty.size ≤ 15 := note_small ((form_parts HOK.out.1).2.2 (Or.inl rfl))
 have hln := HOK.out.len
 obtain ⟨r, hr⟩ : ∃ r, r = synE d (C ++ [⟨nm, ty⟩]) es[0] := ⟨_, rfl⟩
 have HRR := Lib.hid hr
 clear hr
 obtain ⟨w0, hw0, B, hz_w0, XE, FE, XR, FR⟩ := laid2 w #[.int .i64 3, .string nm, .int .i64 n, .int .i64 tk, .slice ta tn tc, .slice (some ⟨b, off, none⟩) 1 sc] 40 #[.int .i64 0, .slice none 0 0] 33
 replace B := Lib.hid B
 go_enter Tryz.func34, Tryz.ntmps34
 go_upto_region 8 with fail
 rw [← hw0]
 clear hw0
 go_cut [8, 9] (fun p ok wx => ∃ D1 k a n1 c lo q t, p = .pointer (some ⟨q, 0, none⟩) ∧ ok = errOf pe r.isSome ∧ BoxAt wx q #[.int .i64 k, .slice a n1 c] ∧ OwnIn wx D1 (.agg #[.int .i64 k, .slice a n1 c]) t lo wx.heap.size ∧ w0.heap.size ≤ lo ∧ t.size ≤ 16 * es[0].count + 1 ∧ (∀ x, r = some x → t = x) ∧ Below w0.heap.size w0 wx)
 case first =>
  have G : Hid (Below w0.heap.size w0 w0) := Below.refl _ _
  obtain ⟨wd1, hwd1⟩ : ∃ W, W = w0.drew := ⟨_, rfl⟩
  have hb : Below w0.heap.size w0 wd1 := by rw [hwd1]; exact below_drew _
  have hz_wd1 := hb.size
  replace B := bb B hb
  replace XE := xb XE hb
  replace FE := fb FE hb
  replace XR := xb XR hb
  replace FR := fb FR hb
  replace G := bb G hb
  clear hb
  refine wp_region_held_drew (S := fun w' => w'.cell? ⟨w.heap.size, 0, none⟩ = some (.int .i64 3) ∧ w'.cell? ⟨w.heap.size, 1, none⟩ = some (.string nm) ∧ w'.cell? ⟨w.heap.size, 2, none⟩ = some (.int .i64 n) ∧ w'.cell? ⟨w.heap.size, 3, none⟩ = some (.int .i64 tk) ∧ w'.cell? ⟨w.heap.size, 4, none⟩ = some (.slice ta tn tc) ∧ w'.cell? ⟨w.heap.size, 5, none⟩ = some (.slice (some ⟨b, off, none⟩) 1 sc) ∧ w'.cell? ⟨b, off, none⟩ = some (.int .i64 xk) ∧ w'.cell? ⟨b, off + 1, none⟩ = some (.string xnm) ∧ w'.cell? ⟨b, off + 2, none⟩ = some (.int .i64 xn) ∧ w'.cell? ⟨b, off + 3, none⟩ = some (.int .i64 xtk) ∧ w'.cell? ⟨b, off + 4, none⟩ = some (.slice xta xtn xtc) ∧ w'.cell? ⟨b, off + 5, none⟩ = some (.slice xsa xsm xsc)) (by kernel_rfl) (by rw [← hwd1]; exact ⟨XE.out.2 0, XE.out.2 1, XE.out.2 2, XE.out.2 3, XE.out.2 4, XE.out.2 5, (B.out.cell (p := ⟨b, off, none⟩) hbl).trans K0_0.out, (B.out.cell (p := ⟨b, off + 1, none⟩) hbl).trans K0_1.out, (B.out.cell (p := ⟨b, off + 2, none⟩) hbl).trans K0_2.out, (B.out.cell (p := ⟨b, off + 3, none⟩) hbl).trans K0_3.out, (B.out.cell (p := ⟨b, off + 4, none⟩) hbl).trans K0_4.out, (B.out.cell (p := ⟨b, off + 5, none⟩) hbl).trans K0_5.out⟩) (fun hHeld => ?_)
  rw [← hwd1] at hHeld ⊢
  clear hwd1
  refine wpAnyH_take (i := 0) (v := ?v43_0) rfl (by kernel_rfl) (by kernel_rfl) (by kernel_rfl) (fun _ _ _ h => h) (Or.inl ⟨by kernel_rfl, ?hy43_0⟩) hHeld ?rest43_0
  case hy43_0 =>
   intro w hSw
   (try dsimp only at hSw)
   go_simp
   all_goals (first | done | with_reducible rfl)
  try simp only [Act.put]
  try simp only [List.setIfInBounds_toArray]
  try simp only [List.set_cons_succ]
  try simp only [List.set_cons_zero]
  refine wpAnyH_take (i := 1) (v := ?v44_1) rfl (by kernel_rfl) (by kernel_rfl) (by kernel_rfl) (fun _ _ _ h => h) (Or.inl ⟨by kernel_rfl, ?hy44_1⟩) hHeld ?rest44_1
  case hy44_1 =>
   intro w hSw
   (try dsimp only at hSw)
   go_simp
   all_goals (first | done | with_reducible rfl)
  try simp only [Act.put]
  try simp only [List.setIfInBounds_toArray]
  try simp only [List.set_cons_succ]
  try simp only [List.set_cons_zero]
  refine wpAnyH_take (i := 2) (v := ?v45_2) rfl (by kernel_rfl) (by kernel_rfl) (by kernel_rfl) (fun _ _ _ h => h) (Or.inl ⟨by kernel_rfl, ?hy45_2⟩) hHeld ?rest45_2
  case hy45_2 =>
   intro w hSw
   (try dsimp only at hSw)
   go_simp
   all_goals (first | done | with_reducible rfl)
  try simp only [Act.put]
  try simp only [List.setIfInBounds_toArray]
  try simp only [List.set_cons_succ]
  try simp only [List.set_cons_zero]
  refine wpAnyH_take (i := 3) (v := ?v46_3) rfl (by kernel_rfl) (by kernel_rfl) (by kernel_rfl) (fun _ _ _ h => h) (Or.inl ⟨by kernel_rfl, ?hy46_3⟩) hHeld ?rest46_3
  case hy46_3 =>
   intro w hSw
   (try dsimp only at hSw)
   go_simp
   all_goals (first | done | with_reducible rfl)
  try simp only [Act.put]
  try simp only [List.setIfInBounds_toArray]
  try simp only [List.set_cons_succ]
  try simp only [List.set_cons_zero]
  refine wpAnyH_take (i := 4) (v := ?v47_4) rfl (by kernel_rfl) (by kernel_rfl) (by kernel_rfl) (fun _ _ _ h => h) (Or.inl ⟨by kernel_rfl, ?hy47_4⟩) hHeld ?rest47_4
  case hy47_4 =>
   intro w hSw
   (try dsimp only at hSw)
   go_simp
   all_goals (first | done | with_reducible rfl)
  try simp only [Act.put]
  try simp only [List.setIfInBounds_toArray]
  try simp only [List.set_cons_succ]
  try simp only [List.set_cons_zero]
  refine wpAnyH_take (i := 6) (v := ?v48_6) rfl (by kernel_rfl) (by kernel_rfl) (by kernel_rfl) (fun _ _ _ h => h) (Or.inl ⟨by kernel_rfl, ?hy48_6⟩) hHeld ?rest48_6
  case hy48_6 =>
   intro w hSw
   (try dsimp only at hSw)
   go_simp
   all_goals (first | done | with_reducible rfl)
  try simp only [Act.put]
  try simp only [List.setIfInBounds_toArray]
  try simp only [List.set_cons_succ]
  try simp only [List.set_cons_zero]
  refine wpAnyH_take (i := 7) (v := ?v49_7) rfl (by kernel_rfl) (by kernel_rfl) (by kernel_rfl) (fun _ _ _ h => h) (Or.inl ⟨by kernel_rfl, ?hy49_7⟩) hHeld ?rest49_7
  case hy49_7 =>
   intro w hSw
   (try dsimp only at hSw)
   go_simp
   all_goals (first | done | with_reducible rfl)
  try simp only [Act.put]
  try simp only [List.setIfInBounds_toArray]
  try simp only [List.set_cons_succ]
  try simp only [List.set_cons_zero]
  refine wpAnyH_take (i := 8) (v := ?v50_8) rfl (by kernel_rfl) (by kernel_rfl) (by kernel_rfl) (fun _ _ _ h => h) (Or.inl ⟨by kernel_rfl, ?hy50_8⟩) hHeld ?rest50_8
  case hy50_8 =>
   intro w hSw
   (try dsimp only at hSw)
   go_simp
   all_goals (first | done | with_reducible rfl)
  try simp only [Act.put]
  try simp only [List.setIfInBounds_toArray]
  try simp only [List.set_cons_succ]
  try simp only [List.set_cons_zero]
  refine wpAnyH_take (i := 9) (v := ?v51_9) rfl (by kernel_rfl) (by kernel_rfl) (by kernel_rfl) (fun _ _ _ h => h) (Or.inl ⟨by kernel_rfl, ?hy51_9⟩) hHeld ?rest51_9
  case hy51_9 =>
   intro w hSw
   (try dsimp only at hSw)
   go_simp
   all_goals (first | done | with_reducible rfl)
  try simp only [Act.put]
  try simp only [List.setIfInBounds_toArray]
  try simp only [List.set_cons_succ]
  try simp only [List.set_cons_zero]
  refine wpAnyH_ready (rs := [5, 14]) (by kernel_rfl) (by simp) ?_
  refine AllReadyH.cons rfl (fun K hK => ?_) (AllReadyH.cons rfl (fun K hK => ?_) AllReadyH.nil)
  ·go_simp
   go_at_call 70
   refine (implWith8 D d _ _ C nm ty _ (HV.out.below B.out) (HTY.out.below B.out) HNM.out hln).mono ?_
   rintro e w2 ⟨DC, ca, cn, cc, rfl, hcb, hb⟩
   have HCB := Lib.hid hcb
   clear hcb
   have hz_w2 := hb.size
   replace B := bb B hb
   replace XE := xb XE hb
   replace FE := fb FE hb
   replace XR := xb XR hb
   replace FR := fb FR hb
   replace G := bb G hb
   clear hb
   clear hHeld
   try go_wp2_with fail
   refine hK.out _ _ (by exact ⟨XE.out.2 0, XE.out.2 1, XE.out.2 2, XE.out.2 3, XE.out.2 4, XE.out.2 5, (B.out.cell (p := ⟨b, off, none⟩) hbl).trans K0_0.out, (B.out.cell (p := ⟨b, off + 1, none⟩) hbl).trans K0_1.out, (B.out.cell (p := ⟨b, off + 2, none⟩) hbl).trans K0_2.out, (B.out.cell (p := ⟨b, off + 3, none⟩) hbl).trans K0_3.out, (B.out.cell (p := ⟨b, off + 4, none⟩) hbl).trans K0_4.out, (B.out.cell (p := ⟨b, off + 5, none⟩) hbl).trans K0_5.out⟩) (fun hHeld => ?_)
   clear hK K
   try simp only [Act.put]
   try simp only [List.setIfInBounds_toArray]
   try simp only [List.set_cons_succ]
   try simp only [List.set_cons_zero]
   refine wpAnyH_ready (rs := [10, 14]) (by kernel_rfl) (by simp) ?_
   refine AllReadyH.cons rfl (fun K hK => ?_) (AllReadyH.cons rfl (fun K hK => ?_) AllReadyH.nil)
   ·go_simp
    go_at_call 34
    have CS := IHS.out DC pe _ _ (C ++ [⟨nm, ty⟩]) es[0] w2 HCB.out (HT0.out.below B.out) HOU.out (HERR.out.below B.out) (HMT.out.below B.out)
    rw [← HRR.out] at CS
    refine CS.mono ?_
    clear CS
    rintro e w3 ⟨D1, r1k, r1a, r1n, r1c, t1, rfl, ho, hgz, hgx, hb⟩
    have Os1 := Lib.hid ho
    clear ho
    have HGX := Lib.hid hgx
    clear hgx
    have hlo : w0.heap.size ≤ w2.heap.size := G.out.size
    clear HCB
    have hz_w3 := hb.size
    replace B := bb B hb
    replace XE := xb XE hb
    replace FE := fb FE hb
    replace XR := xb XR hb
    replace FR := fb FR hb
    replace G := bb G hb
    clear hb
    clear hHeld
    try go_wp2_with fail
    refine hK.out _ _ (by exact ⟨XE.out.2 0, XE.out.2 1, XE.out.2 2, XE.out.2 3, XE.out.2 4, XE.out.2 5, (B.out.cell (p := ⟨b, off, none⟩) hbl).trans K0_0.out, (B.out.cell (p := ⟨b, off + 1, none⟩) hbl).trans K0_1.out, (B.out.cell (p := ⟨b, off + 2, none⟩) hbl).trans K0_2.out, (B.out.cell (p := ⟨b, off + 3, none⟩) hbl).trans K0_3.out, (B.out.cell (p := ⟨b, off + 4, none⟩) hbl).trans K0_4.out, (B.out.cell (p := ⟨b, off + 5, none⟩) hbl).trans K0_5.out⟩) (fun hHeld => ?_)
    clear hK K
    try simp only [Act.put]
    try simp only [List.setIfInBounds_toArray]
    try simp only [List.set_cons_succ]
    try simp only [List.set_cons_zero]
    refine wpAnyH_take (i := 11) (v := ?v52_11) rfl (by kernel_rfl) (by kernel_rfl) (by kernel_rfl) (fun _ _ _ h => h) (Or.inl ⟨by kernel_rfl, ?hy52_11⟩) hHeld ?rest52_11
    case hy52_11 =>
     intro w hSw
     (try dsimp only at hSw)
     go_simp
     all_goals (first | done | with_reducible rfl)
    try simp only [Act.put]
    try simp only [List.setIfInBounds_toArray]
    try simp only [List.set_cons_succ]
    try simp only [List.set_cons_zero]
    refine wpAnyH_take (i := 12) (v := ?v53_12) rfl (by kernel_rfl) (by kernel_rfl) (by kernel_rfl) (fun _ _ _ h => h) (Or.inl ⟨by kernel_rfl, ?hy53_12⟩) hHeld ?rest53_12
    case hy53_12 =>
     intro w hSw
     (try dsimp only at hSw)
     go_simp
     all_goals (first | done | with_reducible rfl)
    try simp only [Act.put]
    try simp only [List.setIfInBounds_toArray]
    try simp only [List.set_cons_succ]
    try simp only [List.set_cons_zero]
    refine wpAnyH_take (i := 13) (v := ?v54_13) rfl (by kernel_rfl) (by kernel_rfl) (by kernel_rfl) (fun _ _ _ h => h) (Or.inl ⟨by kernel_rfl, ?hy54_13⟩) hHeld ?rest54_13
    case hy54_13 =>
     intro w hSw
     (try dsimp only at hSw)
     go_simp
     all_goals (first | done | with_reducible rfl)
    try simp only [Act.put]
    try simp only [List.setIfInBounds_toArray]
    try simp only [List.set_cons_succ]
    try simp only [List.set_cons_zero]
    refine wpAnyH_ready (rs := [14]) (by kernel_rfl) (by simp) ?_
    refine AllReadyH.cons rfl (fun K hK => ?_) AllReadyH.nil
    go_simp
    obtain ⟨wa4, hwa4, hb, hy_wa4, XT8, FT8⟩ := laid1 w3 #[.int .i64 0, .slice none 0 0] 33
    have hz_wa4 := hb.size
    replace B := bb B hb
    replace XE := xb XE hb
    replace FE := fb FE hb
    replace XR := xb XR hb
    replace FR := fb FR hb
    replace Os1 := ob Os1 hb
    replace G := bb G hb
    clear hb
    clear hHeld
    try go_wp2_with fail
    rw [← hwa4]
    clear hwa4
    refine hK.out _ _ (by exact ⟨XE.out.2 0, XE.out.2 1, XE.out.2 2, XE.out.2 3, XE.out.2 4, XE.out.2 5, (B.out.cell (p := ⟨b, off, none⟩) hbl).trans K0_0.out, (B.out.cell (p := ⟨b, off + 1, none⟩) hbl).trans K0_1.out, (B.out.cell (p := ⟨b, off + 2, none⟩) hbl).trans K0_2.out, (B.out.cell (p := ⟨b, off + 3, none⟩) hbl).trans K0_3.out, (B.out.cell (p := ⟨b, off + 4, none⟩) hbl).trans K0_4.out, (B.out.cell (p := ⟨b, off + 5, none⟩) hbl).trans K0_5.out⟩) (fun hHeld => ?_)
    clear hK K
    try simp only [Act.put]
    try simp only [List.setIfInBounds_toArray]
    try simp only [List.set_cons_succ]
    try simp only [List.set_cons_zero]
    have cT8_0 := XT8.out.2 0
    have cT8_1 := XT8.out.2 1
    have fT8_0 := FT8.out.2 0
    have fT8_1 := FT8.out.2 1
    refine wpAnyH_ready (rs := [15]) (by kernel_rfl) (by simp) ?_
    refine AllReadyH.cons rfl (fun K hK => ?_) AllReadyH.nil
    go_simp
    clear cT8_0 cT8_1 fT8_0 fT8_1
    clear hHeld
    try go_wp2_with fail
    obtain ⟨ws5, hws5⟩ : ∃ W, W = put2 wa4 (w3.heap.size) (.int .i64 r1k) (.slice r1a r1n r1c) := ⟨_, rfl⟩
    have hy_ws5 : ws5.heap.size = wa4.heap.size := by rw [hws5]; exact put2_size
    replace XE := xo hws5 XE (by omega)
    replace FE := fo hws5 FE
    replace XR := xo hws5 XR (by omega)
    replace FR := fo hws5 FR
    replace XT8 := xs hws5 XT8
    replace FT8 := fo hws5 FT8
    replace Os1 := oo hws5 Os1 (by omega)
    replace B := bo hws5 B (by omega)
    replace G := bo hws5 G (by omega)
    unfold put2 at hws5
    rw [← hws5]
    clear hws5
    refine hK.out _ _ (by exact ⟨XE.out.2 0, XE.out.2 1, XE.out.2 2, XE.out.2 3, XE.out.2 4, XE.out.2 5, (B.out.cell (p := ⟨b, off, none⟩) hbl).trans K0_0.out, (B.out.cell (p := ⟨b, off + 1, none⟩) hbl).trans K0_1.out, (B.out.cell (p := ⟨b, off + 2, none⟩) hbl).trans K0_2.out, (B.out.cell (p := ⟨b, off + 3, none⟩) hbl).trans K0_3.out, (B.out.cell (p := ⟨b, off + 4, none⟩) hbl).trans K0_4.out, (B.out.cell (p := ⟨b, off + 5, none⟩) hbl).trans K0_5.out⟩) (fun hHeld => ?_)
    clear hK K
    try simp only [Act.put]
    try simp only [List.setIfInBounds_toArray]
    try simp only [List.set_cons_succ]
    try simp only [List.set_cons_zero]
    refine wpAnyH_ready (rs := [16]) (by kernel_rfl) (by simp) ?_
    refine AllReadyH.cons rfl (fun K hK => ?_) AllReadyH.nil
    go_simp
    refine hK.out _ _ hHeld (fun hHeld => ?_)
    clear hK K
    try simp only [Act.put]
    try simp only [List.setIfInBounds_toArray]
    try simp only [List.set_cons_succ]
    try simp only [List.set_cons_zero]
    refine wpAnyH_done (by kernel_rfl) ?_ _
    try simp only [List.getElem_toArray]
    try simp only [List.getElem_cons_succ]
    try simp only [List.getElem_cons_zero]
    try simp only [Act.put]
    try simp only [List.setIfInBounds_toArray]
    try simp only [List.set_cons_succ]
    try simp only [List.set_cons_zero]
    go_wp2_with fail
    go_meet
    exact ⟨D1, r1k, r1a, r1n, r1c, w2.heap.size, _, t1, rfl, rfl, XT8.out, (Os1.out.widen (Nat.le_refl _) (own_top Os1.out |> fun _ => by omega) (Nat.le_refl _)), hlo, hgz, HGX.out, G.out⟩
   ·go_simp
    obtain ⟨wa3, hwa3, hb, hy_wa3, XT8, FT8⟩ := laid1 w2 #[.int .i64 0, .slice none 0 0] 33
    have hz_wa3 := hb.size
    replace B := bb B hb
    replace XE := xb XE hb
    replace FE := fb FE hb
    replace XR := xb XR hb
    replace FR := fb FR hb
    replace HCB := Lib.hid (HCB.out.below hb)
    replace G := bb G hb
    clear hb
    clear hHeld
    try go_wp2_with fail
    rw [← hwa3]
    clear hwa3
    refine hK.out _ _ (by exact ⟨XE.out.2 0, XE.out.2 1, XE.out.2 2, XE.out.2 3, XE.out.2 4, XE.out.2 5, (B.out.cell (p := ⟨b, off, none⟩) hbl).trans K0_0.out, (B.out.cell (p := ⟨b, off + 1, none⟩) hbl).trans K0_1.out, (B.out.cell (p := ⟨b, off + 2, none⟩) hbl).trans K0_2.out, (B.out.cell (p := ⟨b, off + 3, none⟩) hbl).trans K0_3.out, (B.out.cell (p := ⟨b, off + 4, none⟩) hbl).trans K0_4.out, (B.out.cell (p := ⟨b, off + 5, none⟩) hbl).trans K0_5.out⟩) (fun hHeld => ?_)
    clear hK K
    try simp only [Act.put]
    try simp only [List.setIfInBounds_toArray]
    try simp only [List.set_cons_succ]
    try simp only [List.set_cons_zero]
    refine wpAnyH_ready (rs := [10]) (by kernel_rfl) (by simp) ?_
    refine AllReadyH.cons rfl (fun K hK => ?_) AllReadyH.nil
    go_simp
    go_at_call 34
    have CS := IHS.out DC pe _ _ (C ++ [⟨nm, ty⟩]) es[0] wa3 HCB.out (HT0.out.below B.out) HOU.out (HERR.out.below B.out) (HMT.out.below B.out)
    rw [← HRR.out] at CS
    refine CS.mono ?_
    clear CS
    rintro e w4 ⟨D1, r1k, r1a, r1n, r1c, t1, rfl, ho, hgz, hgx, hb⟩
    have Os1 := Lib.hid ho
    clear ho
    have HGX := Lib.hid hgx
    clear hgx
    have hlo : w0.heap.size ≤ wa3.heap.size := G.out.size
    clear HCB
    have hz_w4 := hb.size
    replace B := bb B hb
    replace XE := xb XE hb
    replace FE := fb FE hb
    replace XR := xb XR hb
    replace FR := fb FR hb
    replace XT8 := xb XT8 hb
    replace FT8 := fb FT8 hb
    replace G := bb G hb
    clear hb
    clear hHeld
    try go_wp2_with fail
    refine hK.out _ _ (by exact ⟨XE.out.2 0, XE.out.2 1, XE.out.2 2, XE.out.2 3, XE.out.2 4, XE.out.2 5, (B.out.cell (p := ⟨b, off, none⟩) hbl).trans K0_0.out, (B.out.cell (p := ⟨b, off + 1, none⟩) hbl).trans K0_1.out, (B.out.cell (p := ⟨b, off + 2, none⟩) hbl).trans K0_2.out, (B.out.cell (p := ⟨b, off + 3, none⟩) hbl).trans K0_3.out, (B.out.cell (p := ⟨b, off + 4, none⟩) hbl).trans K0_4.out, (B.out.cell (p := ⟨b, off + 5, none⟩) hbl).trans K0_5.out⟩) (fun hHeld => ?_)
    clear hK K
    try simp only [Act.put]
    try simp only [List.setIfInBounds_toArray]
    try simp only [List.set_cons_succ]
    try simp only [List.set_cons_zero]
    refine wpAnyH_take (i := 11) (v := ?v55_11) rfl (by kernel_rfl) (by kernel_rfl) (by kernel_rfl) (fun _ _ _ h => h) (Or.inl ⟨by kernel_rfl, ?hy55_11⟩) hHeld ?rest55_11
    case hy55_11 =>
     intro w hSw
     (try dsimp only at hSw)
     go_simp
     all_goals (first | done | with_reducible rfl)
    try simp only [Act.put]
    try simp only [List.setIfInBounds_toArray]
    try simp only [List.set_cons_succ]
    try simp only [List.set_cons_zero]
    refine wpAnyH_take (i := 12) (v := ?v56_12) rfl (by kernel_rfl) (by kernel_rfl) (by kernel_rfl) (fun _ _ _ h => h) (Or.inl ⟨by kernel_rfl, ?hy56_12⟩) hHeld ?rest56_12
    case hy56_12 =>
     intro w hSw
     (try dsimp only at hSw)
     go_simp
     all_goals (first | done | with_reducible rfl)
    try simp only [Act.put]
    try simp only [List.setIfInBounds_toArray]
    try simp only [List.set_cons_succ]
    try simp only [List.set_cons_zero]
    refine wpAnyH_take (i := 13) (v := ?v57_13) rfl (by kernel_rfl) (by kernel_rfl) (by kernel_rfl) (fun _ _ _ h => h) (Or.inl ⟨by kernel_rfl, ?hy57_13⟩) hHeld ?rest57_13
    case hy57_13 =>
     intro w hSw
     (try dsimp only at hSw)
     go_simp
     all_goals (first | done | with_reducible rfl)
    try simp only [Act.put]
    try simp only [List.setIfInBounds_toArray]
    try simp only [List.set_cons_succ]
    try simp only [List.set_cons_zero]
    have cT8_0 := XT8.out.2 0
    have cT8_1 := XT8.out.2 1
    have fT8_0 := FT8.out.2 0
    have fT8_1 := FT8.out.2 1
    refine wpAnyH_ready (rs := [15]) (by kernel_rfl) (by simp) ?_
    refine AllReadyH.cons rfl (fun K hK => ?_) AllReadyH.nil
    go_simp
    clear cT8_0 cT8_1 fT8_0 fT8_1
    clear hHeld
    try go_wp2_with fail
    obtain ⟨ws5, hws5⟩ : ∃ W, W = put2 w4 (w2.heap.size) (.int .i64 r1k) (.slice r1a r1n r1c) := ⟨_, rfl⟩
    have hy_ws5 : ws5.heap.size = w4.heap.size := by rw [hws5]; exact put2_size
    replace XE := xo hws5 XE (by omega)
    replace FE := fo hws5 FE
    replace XR := xo hws5 XR (by omega)
    replace FR := fo hws5 FR
    replace XT8 := xs hws5 XT8
    replace FT8 := fo hws5 FT8
    replace Os1 := oo hws5 Os1 (by omega)
    replace B := bo hws5 B (by omega)
    replace G := bo hws5 G (by omega)
    unfold put2 at hws5
    rw [← hws5]
    clear hws5
    refine hK.out _ _ (by exact ⟨XE.out.2 0, XE.out.2 1, XE.out.2 2, XE.out.2 3, XE.out.2 4, XE.out.2 5, (B.out.cell (p := ⟨b, off, none⟩) hbl).trans K0_0.out, (B.out.cell (p := ⟨b, off + 1, none⟩) hbl).trans K0_1.out, (B.out.cell (p := ⟨b, off + 2, none⟩) hbl).trans K0_2.out, (B.out.cell (p := ⟨b, off + 3, none⟩) hbl).trans K0_3.out, (B.out.cell (p := ⟨b, off + 4, none⟩) hbl).trans K0_4.out, (B.out.cell (p := ⟨b, off + 5, none⟩) hbl).trans K0_5.out⟩) (fun hHeld => ?_)
    clear hK K
    try simp only [Act.put]
    try simp only [List.setIfInBounds_toArray]
    try simp only [List.set_cons_succ]
    try simp only [List.set_cons_zero]
    refine wpAnyH_ready (rs := [16]) (by kernel_rfl) (by simp) ?_
    refine AllReadyH.cons rfl (fun K hK => ?_) AllReadyH.nil
    go_simp
    refine hK.out _ _ hHeld (fun hHeld => ?_)
    clear hK K
    try simp only [Act.put]
    try simp only [List.setIfInBounds_toArray]
    try simp only [List.set_cons_succ]
    try simp only [List.set_cons_zero]
    refine wpAnyH_done (by kernel_rfl) ?_ _
    try simp only [List.getElem_toArray]
    try simp only [List.getElem_cons_succ]
    try simp only [List.getElem_cons_zero]
    try simp only [Act.put]
    try simp only [List.setIfInBounds_toArray]
    try simp only [List.set_cons_succ]
    try simp only [List.set_cons_zero]
    go_wp2_with fail
    go_meet
    exact ⟨D1, r1k, r1a, r1n, r1c, wa3.heap.size, _, t1, rfl, rfl, XT8.out, (Os1.out.widen (Nat.le_refl _) (own_top Os1.out |> fun _ => by omega) (Nat.le_refl _)), hlo, hgz, HGX.out, G.out⟩
  ·go_simp
   obtain ⟨wa2, hwa2, hb, hy_wa2, XT8, FT8⟩ := laid1 wd1 #[.int .i64 0, .slice none 0 0] 33
   have hz_wa2 := hb.size
   replace B := bb B hb
   replace XE := xb XE hb
   replace FE := fb FE hb
   replace XR := xb XR hb
   replace FR := fb FR hb
   replace G := bb G hb
   clear hb
   clear hHeld
   try go_wp2_with fail
   rw [← hwa2]
   clear hwa2
   refine hK.out _ _ (by exact ⟨XE.out.2 0, XE.out.2 1, XE.out.2 2, XE.out.2 3, XE.out.2 4, XE.out.2 5, (B.out.cell (p := ⟨b, off, none⟩) hbl).trans K0_0.out, (B.out.cell (p := ⟨b, off + 1, none⟩) hbl).trans K0_1.out, (B.out.cell (p := ⟨b, off + 2, none⟩) hbl).trans K0_2.out, (B.out.cell (p := ⟨b, off + 3, none⟩) hbl).trans K0_3.out, (B.out.cell (p := ⟨b, off + 4, none⟩) hbl).trans K0_4.out, (B.out.cell (p := ⟨b, off + 5, none⟩) hbl).trans K0_5.out⟩) (fun hHeld => ?_)
   clear hK K
   try simp only [Act.put]
   try simp only [List.setIfInBounds_toArray]
   try simp only [List.set_cons_succ]
   try simp only [List.set_cons_zero]
   refine wpAnyH_ready (rs := [5]) (by kernel_rfl) (by simp) ?_
   refine AllReadyH.cons rfl (fun K hK => ?_) AllReadyH.nil
   go_simp
   go_at_call 70
   refine (implWith8 D d _ _ C nm ty _ (HV.out.below B.out) (HTY.out.below B.out) HNM.out hln).mono ?_
   rintro e w3 ⟨DC, ca, cn, cc, rfl, hcb, hb⟩
   have HCB := Lib.hid hcb
   clear hcb
   have hz_w3 := hb.size
   replace B := bb B hb
   replace XE := xb XE hb
   replace FE := fb FE hb
   replace XR := xb XR hb
   replace FR := fb FR hb
   replace XT8 := xb XT8 hb
   replace FT8 := fb FT8 hb
   replace G := bb G hb
   clear hb
   clear hHeld
   try go_wp2_with fail
   refine hK.out _ _ (by exact ⟨XE.out.2 0, XE.out.2 1, XE.out.2 2, XE.out.2 3, XE.out.2 4, XE.out.2 5, (B.out.cell (p := ⟨b, off, none⟩) hbl).trans K0_0.out, (B.out.cell (p := ⟨b, off + 1, none⟩) hbl).trans K0_1.out, (B.out.cell (p := ⟨b, off + 2, none⟩) hbl).trans K0_2.out, (B.out.cell (p := ⟨b, off + 3, none⟩) hbl).trans K0_3.out, (B.out.cell (p := ⟨b, off + 4, none⟩) hbl).trans K0_4.out, (B.out.cell (p := ⟨b, off + 5, none⟩) hbl).trans K0_5.out⟩) (fun hHeld => ?_)
   clear hK K
   try simp only [Act.put]
   try simp only [List.setIfInBounds_toArray]
   try simp only [List.set_cons_succ]
   try simp only [List.set_cons_zero]
   refine wpAnyH_ready (rs := [10]) (by kernel_rfl) (by simp) ?_
   refine AllReadyH.cons rfl (fun K hK => ?_) AllReadyH.nil
   go_simp
   go_at_call 34
   have CS := IHS.out DC pe _ _ (C ++ [⟨nm, ty⟩]) es[0] w3 HCB.out (HT0.out.below B.out) HOU.out (HERR.out.below B.out) (HMT.out.below B.out)
   rw [← HRR.out] at CS
   refine CS.mono ?_
   clear CS
   rintro e w4 ⟨D1, r1k, r1a, r1n, r1c, t1, rfl, ho, hgz, hgx, hb⟩
   have Os1 := Lib.hid ho
   clear ho
   have HGX := Lib.hid hgx
   clear hgx
   have hlo : w0.heap.size ≤ w3.heap.size := G.out.size
   clear HCB
   have hz_w4 := hb.size
   replace B := bb B hb
   replace XE := xb XE hb
   replace FE := fb FE hb
   replace XR := xb XR hb
   replace FR := fb FR hb
   replace XT8 := xb XT8 hb
   replace FT8 := fb FT8 hb
   replace G := bb G hb
   clear hb
   clear hHeld
   try go_wp2_with fail
   refine hK.out _ _ (by exact ⟨XE.out.2 0, XE.out.2 1, XE.out.2 2, XE.out.2 3, XE.out.2 4, XE.out.2 5, (B.out.cell (p := ⟨b, off, none⟩) hbl).trans K0_0.out, (B.out.cell (p := ⟨b, off + 1, none⟩) hbl).trans K0_1.out, (B.out.cell (p := ⟨b, off + 2, none⟩) hbl).trans K0_2.out, (B.out.cell (p := ⟨b, off + 3, none⟩) hbl).trans K0_3.out, (B.out.cell (p := ⟨b, off + 4, none⟩) hbl).trans K0_4.out, (B.out.cell (p := ⟨b, off + 5, none⟩) hbl).trans K0_5.out⟩) (fun hHeld => ?_)
   clear hK K
   try simp only [Act.put]
   try simp only [List.setIfInBounds_toArray]
   try simp only [List.set_cons_succ]
   try simp only [List.set_cons_zero]
   refine wpAnyH_take (i := 11) (v := ?v58_11) rfl (by kernel_rfl) (by kernel_rfl) (by kernel_rfl) (fun _ _ _ h => h) (Or.inl ⟨by kernel_rfl, ?hy58_11⟩) hHeld ?rest58_11
   case hy58_11 =>
    intro w hSw
    (try dsimp only at hSw)
    go_simp
    all_goals (first | done | with_reducible rfl)
   try simp only [Act.put]
   try simp only [List.setIfInBounds_toArray]
   try simp only [List.set_cons_succ]
   try simp only [List.set_cons_zero]
   refine wpAnyH_take (i := 12) (v := ?v59_12) rfl (by kernel_rfl) (by kernel_rfl) (by kernel_rfl) (fun _ _ _ h => h) (Or.inl ⟨by kernel_rfl, ?hy59_12⟩) hHeld ?rest59_12
   case hy59_12 =>
    intro w hSw
    (try dsimp only at hSw)
    go_simp
    all_goals (first | done | with_reducible rfl)
   try simp only [Act.put]
   try simp only [List.setIfInBounds_toArray]
   try simp only [List.set_cons_succ]
   try simp only [List.set_cons_zero]
   refine wpAnyH_take (i := 13) (v := ?v60_13) rfl (by kernel_rfl) (by kernel_rfl) (by kernel_rfl) (fun _ _ _ h => h) (Or.inl ⟨by kernel_rfl, ?hy60_13⟩) hHeld ?rest60_13
   case hy60_13 =>
    intro w hSw
    (try dsimp only at hSw)
    go_simp
    all_goals (first | done | with_reducible rfl)
   try simp only [Act.put]
   try simp only [List.setIfInBounds_toArray]
   try simp only [List.set_cons_succ]
   try simp only [List.set_cons_zero]
   have cT8_0 := XT8.out.2 0
   have cT8_1 := XT8.out.2 1
   have fT8_0 := FT8.out.2 0
   have fT8_1 := FT8.out.2 1
   refine wpAnyH_ready (rs := [15]) (by kernel_rfl) (by simp) ?_
   refine AllReadyH.cons rfl (fun K hK => ?_) AllReadyH.nil
   go_simp
   clear cT8_0 cT8_1 fT8_0 fT8_1
   clear hHeld
   try go_wp2_with fail
   obtain ⟨ws5, hws5⟩ : ∃ W, W = put2 w4 (wd1.heap.size) (.int .i64 r1k) (.slice r1a r1n r1c) := ⟨_, rfl⟩
   have hy_ws5 : ws5.heap.size = w4.heap.size := by rw [hws5]; exact put2_size
   replace XE := xo hws5 XE (by omega)
   replace FE := fo hws5 FE
   replace XR := xo hws5 XR (by omega)
   replace FR := fo hws5 FR
   replace XT8 := xs hws5 XT8
   replace FT8 := fo hws5 FT8
   replace Os1 := oo hws5 Os1 (by omega)
   replace B := bo hws5 B (by omega)
   replace G := bo hws5 G (by omega)
   unfold put2 at hws5
   rw [← hws5]
   clear hws5
   refine hK.out _ _ (by exact ⟨XE.out.2 0, XE.out.2 1, XE.out.2 2, XE.out.2 3, XE.out.2 4, XE.out.2 5, (B.out.cell (p := ⟨b, off, none⟩) hbl).trans K0_0.out, (B.out.cell (p := ⟨b, off + 1, none⟩) hbl).trans K0_1.out, (B.out.cell (p := ⟨b, off + 2, none⟩) hbl).trans K0_2.out, (B.out.cell (p := ⟨b, off + 3, none⟩) hbl).trans K0_3.out, (B.out.cell (p := ⟨b, off + 4, none⟩) hbl).trans K0_4.out, (B.out.cell (p := ⟨b, off + 5, none⟩) hbl).trans K0_5.out⟩) (fun hHeld => ?_)
   clear hK K
   try simp only [Act.put]
   try simp only [List.setIfInBounds_toArray]
   try simp only [List.set_cons_succ]
   try simp only [List.set_cons_zero]
   refine wpAnyH_ready (rs := [16]) (by kernel_rfl) (by simp) ?_
   refine AllReadyH.cons rfl (fun K hK => ?_) AllReadyH.nil
   go_simp
   refine hK.out _ _ hHeld (fun hHeld => ?_)
   clear hK K
   try simp only [Act.put]
   try simp only [List.setIfInBounds_toArray]
   try simp only [List.set_cons_succ]
   try simp only [List.set_cons_zero]
   refine wpAnyH_done (by kernel_rfl) ?_ _
   try simp only [List.getElem_toArray]
   try simp only [List.getElem_cons_succ]
   try simp only [List.getElem_cons_zero]
   try simp only [Act.put]
   try simp only [List.setIfInBounds_toArray]
   try simp only [List.set_cons_succ]
   try simp only [List.set_cons_zero]
   go_wp2_with fail
   go_meet
   exact ⟨D1, r1k, r1a, r1n, r1c, w3.heap.size, _, t1, rfl, rfl, XT8.out, (Os1.out.widen (Nat.le_refl _) (own_top Os1.out |> fun _ => by omega) (Nat.le_refl _)), hlo, hgz, HGX.out, G.out⟩
 case rest =>
  obtain ⟨D1, r1k, r1a, r1n, r1c, lo, q, t1, rfl, rfl, hX6, hO1, hlo, hgz, hgx, hb⟩ := hcut
  have XT8 := Lib.hid hX6
  clear hX6
  have Os1 := Lib.hid hO1
  clear hO1
  have HGX := Lib.hid hgx
  clear hgx
  have hz_wc := hb.size
  replace B := bb B hb
  replace XE := xb XE hb
  replace FE := fb FE hb
  replace XR := xb XR hb
  replace FR := fb FR hb
  clear hb
  have cE_0 := XE.out.2 0
  have cE_1 := XE.out.2 1
  have cE_2 := XE.out.2 2
  have cE_3 := XE.out.2 3
  have cE_4 := XE.out.2 4
  have cE_5 := XE.out.2 5
  have cT8_0 := XT8.out.2 0
  have cT8_1 := XT8.out.2 1
  go_wp2_with fail
  clear cE_0 cE_1 cE_2 cE_3 cE_4 cE_5 cT8_0 cT8_1
  refine (Calls.mono (implArrowType (d + D1) _ _ ty t1 _ (by omega) (by omega) ((HTY.out.below B.out).mono (by omega)) (Os1.out.at_.mono (by omega))) (fun _ _ h => type_e h)).mono ?_
  rintro e w1 ⟨D9, mk, ma, mn, mc, rfl, ho1, hb⟩
  have Om := Lib.hid ho1
  clear ho1
  have hz_w1 := hb.size
  replace B := bb B hb
  replace XE := xb XE hb
  replace FE := fb FE hb
  replace XR := xb XR hb
  replace FR := fb FR hb
  replace XT8 := xb XT8 hb
  replace Os1 := ob Os1 hb
  clear hb
  have cR_0 := XR.out.2 0
  have cR_1 := XR.out.2 1
  have fR_0 := FR.out.2 0
  have fR_1 := FR.out.2 1
  go_wp2_with fail
  clear cR_0 cR_1 fR_0 fR_1
  have XZ := put2_box (u := .int .i64 mk) (v := .slice ma mn mc) XR.out
  have h0 := XZ.2 0
  have h1 := XZ.2 1
  unfold put2 at h0 h1
  have htop := own_top Om.out
  have HW : Hid ((synE (d + 1) C (.node 3 nm n ty es)).isSome = (r.isSome)) := by show _ = _; rw [HR.out, ← HRR.out]; cases r <;> rfl
  refine bodyPost_ret (v := .tuple #[.agg #[.int .i64 mk, .slice ma mn mc], errOf pe (r.isSome)]) (by simp [results, Tryz.results34, go_sem, h0, h1]) rfl ?_
  exact ⟨_, _, _, _, _, .node 4 [ty, t1], by rw [HW.out], (put2_own Om.out (by omega)).widen (by omega) (by first | (simp; omega) | simp | omega) (Nat.le_refl _), (by simp [Ty.size, Ty.sizes]; omega), (fun x h => by rw [HR.out, ← HRR.out] at h; exact arrowOf_is HGX.out h), (put2_below B.out (by omega))⟩
end Go.Proofs.YteffjeejbdjjpaaGreatDoor
