/-
  Proved: impl.synthBoth: what two expressions synthesize.
-/
import Derived.Test.YteffjeejbdjjpaaGreatDoorWellG37
import Derived.Test.YteffjeejbdjjpaaGreatDoorWellG11
import Derived.Test.YteffjeejbdjjpaaGreatDoorWellG20
namespace Go.Proofs.YteffjeejbdjjpaaGreatDoor
open Go.RowKit

/-- Two types in memory of the call's own, and no error or the sentinel. -/
def BothEnd (pe : Addr) (r0 r1 : Option Ty) (N0 N1 : Nat) (w : World) (e : Ending) (w' : World) : Prop :=
 ∃ D k1 a1 n1 c1 k2 a2 n2 c2 t1 t2 mid, e = .returned (.tuple #[.agg #[.int .i64 k1, .slice a1 n1 c1], .agg #[.int .i64 k2, .slice a2 n2 c2], errOf pe (r0.isSome && r1.isSome)]) ∧ w.heap.size ≤ mid ∧ OwnIn w' D (.agg #[.int .i64 k1, .slice a1 n1 c1]) t1 w.heap.size mid ∧ OwnIn w' D (.agg #[.int .i64 k2, .slice a2 n2 c2]) t2 mid w'.heap.size ∧ t1.size ≤ N0 ∧ t2.size ≤ N1 ∧ ((r0.isSome && r1.isSome) = true → r0 = some t1 ∧ r1 = some t2) ∧ Below w.heap.size w w'
theorem TyOwn.succD {w : World} : ∀ {d : Nat} {v : Value} {t : Ty} {fp : List Nat}, TyOwn w d v t fp → TyOwn w (d + 1) v t fp
 | 0, _, _, _, h => h.elim
 | d + 1, v, .node k ts, fp, h => by
  obtain ⟨sl, hv, h0, h1, h⟩ := h
  exact ⟨sl, hv, h0, h1, RowOwn.imp (Nat.le_refl _) (fun _ _ => rfl) (fun v t f _ h => TyOwn.succD h) h⟩
theorem TyOwn.deeper {w : World} {d d' : Nat} {v : Value} {t : Ty} {fp : List Nat} (h : TyOwn w d v t fp) (hd : d ≤ d') : TyOwn w d' v t fp := by
 induction hd with
 | refl => exact h
 | step _ ih => exact ih.succD
theorem own_deep {w : World} {d d' : Nat} {v : Value} {t : Ty} {lo hi : Nat} (h : OwnIn w d v t lo hi) (hd : d ≤ d') : OwnIn w d' v t lo hi := by
 obtain ⟨fp, h, hf, hz⟩ := h
 exact ⟨fp, h.deeper hd, hf, hz⟩
set_option maxRecDepth 100000 in
set_option maxHeartbeats 2000000 in
theorem implBoth (d : Nat) (ihs : ImplSynSaid d) (D : Nat) (pe : Addr) (vc : Value) (C : List Bi) (e0 e1 : Ex) (b off sc : Nat) (xk : Int) (xnm : ByteArray) (xn : Int) (xtk : Int) (xta : Option Addr) (xtn : Nat) (xtc : Nat) (xsa : Option Addr) (xsm : Nat) (xsc : Nat) (yk : Int) (ynm : ByteArray) (yn : Int) (ytk : Int) (yta : Option Addr) (ytn : Nat) (ytc : Nat) (ysa : Option Addr) (ysm : Nat) (ysc : Nat) (wo w : World) (hbo : Below wo.heap.size wo w) (hbl : b < wo.heap.size) (z0_0 : wo.cell? ⟨b, off, none⟩ = some (.int .i64 xk)) (z0_1 : wo.cell? ⟨b, off + 1, none⟩ = some (.string xnm)) (z0_2 : wo.cell? ⟨b, off + 2, none⟩ = some (.int .i64 xn)) (z0_3 : wo.cell? ⟨b, off + 3, none⟩ = some (.int .i64 xtk)) (z0_4 : wo.cell? ⟨b, off + 4, none⟩ = some (.slice xta xtn xtc)) (z0_5 : wo.cell? ⟨b, off + 5, none⟩ = some (.slice xsa xsm xsc)) (z1_0 : wo.cell? ⟨b, off + 6, none⟩ = some (.int .i64 yk)) (z1_1 : wo.cell? ⟨b, off + 6 + 1, none⟩ = some (.string ynm)) (z1_2 : wo.cell? ⟨b, off + 6 + 2, none⟩ = some (.int .i64 yn)) (z1_3 : wo.cell? ⟨b, off + 6 + 3, none⟩ = some (.int .i64 ytk)) (z1_4 : wo.cell? ⟨b, off + 6 + 4, none⟩ = some (.slice yta ytn ytc)) (z1_5 : wo.cell? ⟨b, off + 6 + 5, none⟩ = some (.slice ysa ysm ysc)) (hv : BisAt wo D vc C) (ht0 : ExAt wo d (.agg #[.int .i64 xk, .string xnm, .int .i64 xn, .int .i64 xtk, .slice xta xtn xtc, .slice xsa xsm xsc]) e0) (ht1 : ExAt wo d (.agg #[.int .i64 yk, .string ynm, .int .i64 yn, .int .i64 ytk, .slice yta ytn ytc, .slice ysa ysm ysc]) e1) (hok0 : TypOk C e0) (hok1 : TypOk C e1) (herr : ErrAt wo pe) (hmt : MeetTab wo) :
  Calls Tryz.prog 77 #[vc, .slice (some ⟨b, off, none⟩) 2 sc] w (BothEnd pe (synE d C e0) (synE d C e1) (16 * e0.count + 1) (16 * e1.count + 1) w) := by
 have K0_0 := Lib.hid z0_0
 have K0_1 := Lib.hid z0_1
 have K0_2 := Lib.hid z0_2
 have K0_3 := Lib.hid z0_3
 have K0_4 := Lib.hid z0_4
 have K0_5 := Lib.hid z0_5
 have K1_0 := Lib.hid z1_0
 have K1_1 := Lib.hid z1_1
 have K1_2 := Lib.hid z1_2
 have K1_3 := Lib.hid z1_3
 have K1_4 := Lib.hid z1_4
 have K1_5 := Lib.hid z1_5
 clear z0_0 z0_1 z0_2 z0_3 z0_4 z0_5 z1_0 z1_1 z1_2 z1_3 z1_4 z1_5
 obtain ⟨va, vn, vc1, rfl⟩ : ∃ a n c, vc = .slice a n c := by obtain ⟨a, cap, hv, _⟩ := hv; exact ⟨_, _, _, hv⟩
 have HV := Lib.hid hv
 clear hv
 have HT0 := Lib.hid ht0
 clear ht0
 have HT1 := Lib.hid ht1
 clear ht1
 have HOK0 := Lib.hid hok0
 clear hok0
 have HOK1 := Lib.hid hok1
 clear hok1
 have HERR := Lib.hid herr
 clear herr
 have HMT := Lib.hid hmt
 clear hmt
 have HBO := Lib.hid hbo
 clear hbo
 have IHS := Lib.hid ihs
 clear ihs
 have hwo : wo.heap.size ≤ w.heap.size := HBO.out.size
 cases hs0 : synE d C e0 with
 | none =>
  have HS0 := Lib.hid hs0
  clear hs0
  obtain ⟨w0, hw0, B, hz_w0, XR1, FR1, XR2, FR2⟩ := laid2 w #[.int .i64 0, .slice none 0 0] 33 #[.int .i64 0, .slice none 0 0] 33
  replace B := Lib.hid B
  go_enter Tryz.func77, Tryz.ntmps77
  have G := B
  clear B
  have B : Hid (Below wo.heap.size wo w0) := Lib.hid (below_thru HBO.out (Nat.le_refl _) G.out)
  have k0_0 := (HBO.out.cell (p := ⟨b, off, none⟩) hbl).trans K0_0.out
  have k0_1 := (HBO.out.cell (p := ⟨b, off + 1, none⟩) hbl).trans K0_1.out
  have k0_2 := (HBO.out.cell (p := ⟨b, off + 2, none⟩) hbl).trans K0_2.out
  have k0_3 := (HBO.out.cell (p := ⟨b, off + 3, none⟩) hbl).trans K0_3.out
  have k0_4 := (HBO.out.cell (p := ⟨b, off + 4, none⟩) hbl).trans K0_4.out
  have k0_5 := (HBO.out.cell (p := ⟨b, off + 5, none⟩) hbl).trans K0_5.out
  have hbw : b < w.heap.size := Nat.lt_of_lt_of_le hbl hwo
  go_wp2_with fail
  clear k0_0 k0_1 k0_2 k0_3 k0_4 k0_5
  rw [← hw0]
  clear hw0
  have CS : Calls Tryz.prog 34 #[.slice va vn vc1, .agg #[.int .i64 xk, .string xnm, .int .i64 xn, .int .i64 xtk, .slice xta xtn xtc, .slice xsa xsm xsc]] w0 (ISynNo pe (16 * e0.count + 1) w0) := (IHS.out D pe _ _ C e0 w0 (HV.out.below B.out) (HT0.out.below B.out) HOK0.out (HERR.out.below B.out) (HMT.out.below B.out)).mono fun e w' h => isyn_no HS0.out h
  refine (CS).mono ?_
  rintro e w1 ⟨D1, r1k, r1a, r1n, r1c, g1, rfl, ho, hgz1, hb⟩
  have Os1 := Lib.hid ho
  clear ho
  have hz_w1 := hb.size
  replace B := bb B hb
  replace XR1 := xb XR1 hb
  replace FR1 := fb FR1 hb
  replace XR2 := xb XR2 hb
  replace FR2 := fb FR2 hb
  replace G := bb G hb
  clear hb
  obtain ⟨wa2, hwa2, hb, hy_wa2, XT7, FT7⟩ := laid1 w1 #[.int .i64 r1k, .slice r1a r1n r1c] 33
  have hz_wa2 := hb.size
  replace B := bb B hb
  replace XR1 := xb XR1 hb
  replace FR1 := fb FR1 hb
  replace XR2 := xb XR2 hb
  replace FR2 := fb FR2 hb
  replace Os1 := ob Os1 hb
  replace G := bb G hb
  clear hb
  have cR1_0 := XR1.out.2 0
  have cR1_1 := XR1.out.2 1
  have cR2_0 := XR2.out.2 0
  have cR2_1 := XR2.out.2 1
  have cT7_0 := XT7.out.2 0
  have cT7_1 := XT7.out.2 1
  have fR1_0 := FR1.out.2 0
  have fR1_1 := FR1.out.2 1
  have fR2_0 := FR2.out.2 0
  have fR2_1 := FR2.out.2 1
  rw [hwa2] at cR1_0
  rw [hwa2] at cR1_1
  rw [hwa2] at cR2_0
  rw [hwa2] at cR2_1
  rw [hwa2] at cT7_0
  rw [hwa2] at cT7_1
  rw [hwa2] at fR1_0
  rw [hwa2] at fR1_1
  rw [hwa2] at fR2_0
  rw [hwa2] at fR2_1
  go_wp2_with fail
  clear cR1_0 cR1_1 cR2_0 cR2_1 cT7_0 cT7_1 fR1_0 fR1_1 fR2_0 fR2_1
  rw [← hwa2]
  clear hwa2
  obtain ⟨ws3, hws3⟩ : ∃ W, W = put2 wa2 (w.heap.size) (.int .i64 0) (.slice none 0 0) := ⟨_, rfl⟩
  have hy_ws3 : ws3.heap.size = wa2.heap.size := by rw [hws3]; exact put2_size
  replace XR1 := xs hws3 XR1
  replace FR1 := fo hws3 FR1
  replace XR2 := xo hws3 XR2 (by omega)
  replace FR2 := fo hws3 FR2
  replace XT7 := xo hws3 XT7 (by omega)
  replace FT7 := fo hws3 FT7
  replace Os1 := oo hws3 Os1 (by omega)
  replace B := bo hws3 B (by omega)
  replace G := bo hws3 G (by omega)
  unfold put2 at hws3
  rw [← hws3]
  clear hws3
  obtain ⟨ws4, hws4⟩ : ∃ W, W = put2 ws3 (w.heap.size + 1) (.int .i64 0) (.slice none 0 0) := ⟨_, rfl⟩
  have hy_ws4 : ws4.heap.size = ws3.heap.size := by rw [hws4]; exact put2_size
  replace XR1 := xo hws4 XR1 (by omega)
  replace FR1 := fo hws4 FR1
  replace XR2 := xs hws4 XR2
  replace FR2 := fo hws4 FR2
  replace XT7 := xo hws4 XT7 (by omega)
  replace FT7 := fo hws4 FT7
  replace Os1 := oo hws4 Os1 (by omega)
  replace B := bo hws4 B (by omega)
  replace G := bo hws4 G (by omega)
  unfold put2 at hws4
  rw [← hws4]
  clear hws4
  have hwz := G.out.size
  have h0 := XR1.out.2 0
  have h1 := XR1.out.2 1
  have h2 := XR2.out.2 0
  have h3 := XR2.out.2 1
  refine bodyPost_ret (v := .tuple #[.agg #[.int .i64 0, .slice none 0 0], .agg #[.int .i64 0, .slice none 0 0], .iface 141 (.pointer (some pe))]) (by simp [results, Tryz.results77, go_sem, h0, h1, h2, h3]) rfl ?_
  exact ⟨1, _, _, _, _, _, _, _, _, _, _, ws4.heap.size, rfl, G.out.size, leaf_in _ 0 _ _ (by omega) (by omega) (Nat.le_refl _), leaf_in _ 0 _ _ (by omega) (by omega) (Nat.le_refl _), (by simp [Ty.size, Ty.sizes]), (by simp [Ty.size, Ty.sizes]), (fun h => by simp at h), G.out⟩
 | some t0 =>
  have hsz0 := syn_size d C e0 t0 HOK0.out.2.1 HOK0.out.1 hs0
  have HS0 := Lib.hid hs0
  clear hs0
  cases hs1 : synE d C e1 with
  | none =>
   have HS1 := Lib.hid hs1
   clear hs1
   obtain ⟨w0, hw0, B, hz_w0, XR1, FR1, XR2, FR2⟩ := laid2 w #[.int .i64 0, .slice none 0 0] 33 #[.int .i64 0, .slice none 0 0] 33
   replace B := Lib.hid B
   go_enter Tryz.func77, Tryz.ntmps77
   have G := B
   clear B
   have B : Hid (Below wo.heap.size wo w0) := Lib.hid (below_thru HBO.out (Nat.le_refl _) G.out)
   have k0_0 := (HBO.out.cell (p := ⟨b, off, none⟩) hbl).trans K0_0.out
   have k0_1 := (HBO.out.cell (p := ⟨b, off + 1, none⟩) hbl).trans K0_1.out
   have k0_2 := (HBO.out.cell (p := ⟨b, off + 2, none⟩) hbl).trans K0_2.out
   have k0_3 := (HBO.out.cell (p := ⟨b, off + 3, none⟩) hbl).trans K0_3.out
   have k0_4 := (HBO.out.cell (p := ⟨b, off + 4, none⟩) hbl).trans K0_4.out
   have k0_5 := (HBO.out.cell (p := ⟨b, off + 5, none⟩) hbl).trans K0_5.out
   have hbw : b < w.heap.size := Nat.lt_of_lt_of_le hbl hwo
   go_wp2_with fail
   clear k0_0 k0_1 k0_2 k0_3 k0_4 k0_5
   rw [← hw0]
   clear hw0
   have CS : Calls Tryz.prog 34 #[.slice va vn vc1, .agg #[.int .i64 xk, .string xnm, .int .i64 xn, .int .i64 xtk, .slice xta xtn xtc, .slice xsa xsm xsc]] w0 (ISynYes t0 w0) := (IHS.out D pe _ _ C e0 w0 (HV.out.below B.out) (HT0.out.below B.out) HOK0.out (HERR.out.below B.out) (HMT.out.below B.out)).mono fun e w' h => isyn_yes HS0.out h
   refine (CS).mono ?_
   rintro e w1 ⟨D1, r1k, r1a, r1n, r1c, rfl, ho, hb⟩
   have Os1 := Lib.hid ho
   clear ho
   have hz_w1 := hb.size
   replace B := bb B hb
   replace XR1 := xb XR1 hb
   replace FR1 := fb FR1 hb
   replace XR2 := xb XR2 hb
   replace FR2 := fb FR2 hb
   replace G := bb G hb
   clear hb
   obtain ⟨wa2, hwa2, hb, hy_wa2, XT7, FT7⟩ := laid1 w1 #[.int .i64 r1k, .slice r1a r1n r1c] 33
   have hz_wa2 := hb.size
   replace B := bb B hb
   replace XR1 := xb XR1 hb
   replace FR1 := fb FR1 hb
   replace XR2 := xb XR2 hb
   replace FR2 := fb FR2 hb
   replace Os1 := ob Os1 hb
   replace G := bb G hb
   clear hb
   have cR1_0 := XR1.out.2 0
   have cR1_1 := XR1.out.2 1
   have cR2_0 := XR2.out.2 0
   have cR2_1 := XR2.out.2 1
   have cT7_0 := XT7.out.2 0
   have cT7_1 := XT7.out.2 1
   have k1_0 := kc hbl B K1_0
   have k1_1 := kc hbl B K1_1
   have k1_2 := kc hbl B K1_2
   have k1_3 := kc hbl B K1_3
   have k1_4 := kc hbl B K1_4
   have k1_5 := kc hbl B K1_5
   rw [hwa2] at cR1_0
   rw [hwa2] at cR1_1
   rw [hwa2] at cR2_0
   rw [hwa2] at cR2_1
   rw [hwa2] at cT7_0
   rw [hwa2] at cT7_1
   rw [hwa2] at k1_0
   rw [hwa2] at k1_1
   rw [hwa2] at k1_2
   rw [hwa2] at k1_3
   rw [hwa2] at k1_4
   rw [hwa2] at k1_5
   go_wp2_with fail
   clear cR1_0 cR1_1 cR2_0 cR2_1 cT7_0 cT7_1 k1_0 k1_1 k1_2 k1_3 k1_4 k1_5
   rw [← hwa2]
   clear hwa2
   have CS : Calls Tryz.prog 34 #[.slice va vn vc1, .agg #[.int .i64 yk, .string ynm, .int .i64 yn, .int .i64 ytk, .slice yta ytn ytc, .slice ysa ysm ysc]] wa2 (ISynNo pe (16 * e1.count + 1) wa2) := (IHS.out D pe _ _ C e1 wa2 (HV.out.below B.out) (HT1.out.below B.out) HOK1.out (HERR.out.below B.out) (HMT.out.below B.out)).mono fun e w' h => isyn_no HS1.out h
   refine (CS).mono ?_
   rintro e w3 ⟨D3, r3k, r3a, r3n, r3c, g3, rfl, ho, hgz3, hb⟩
   have Os3 := Lib.hid ho
   clear ho
   have hz_w3 := hb.size
   replace B := bb B hb
   replace XR1 := xb XR1 hb
   replace FR1 := fb FR1 hb
   replace XR2 := xb XR2 hb
   replace FR2 := fb FR2 hb
   replace XT7 := xb XT7 hb
   replace FT7 := fb FT7 hb
   replace Os1 := ob Os1 hb
   replace G := bb G hb
   clear hb
   go_wp2_with fail
   obtain ⟨wa4, hwa4, hb, hy_wa4, XT9, FT9⟩ := laid1 w3 #[.int .i64 r3k, .slice r3a r3n r3c] 33
   have hz_wa4 := hb.size
   replace B := bb B hb
   replace XR1 := xb XR1 hb
   replace FR1 := fb FR1 hb
   replace XR2 := xb XR2 hb
   replace FR2 := fb FR2 hb
   replace XT7 := xb XT7 hb
   replace FT7 := fb FT7 hb
   replace Os1 := ob Os1 hb
   replace Os3 := ob Os3 hb
   replace G := bb G hb
   clear hb
   rw [← hwa4]
   clear hwa4
   obtain ⟨wd5, hwd5⟩ : ∃ W, W = wa4.drew := ⟨_, rfl⟩
   have hb : Below wa4.heap.size wa4 wd5 := by rw [hwd5]; exact below_drew _
   have hz_wd5 := hb.size
   replace B := bb B hb
   replace XR1 := xb XR1 hb
   replace FR1 := fb FR1 hb
   replace XR2 := xb XR2 hb
   replace FR2 := fb FR2 hb
   replace XT7 := xb XT7 hb
   replace FT7 := fb FT7 hb
   replace XT9 := xb XT9 hb
   replace FT9 := fb FT9 hb
   replace Os1 := ob Os1 hb
   replace Os3 := ob Os3 hb
   replace G := bb G hb
   clear hb
   refine wp_region_held_drew (S := fun w' => w'.cell? ⟨w1.heap.size, 0, none⟩ = some (.int .i64 r1k) ∧ w'.cell? ⟨w1.heap.size, 1, none⟩ = some (.slice r1a r1n r1c) ∧ w'.cell? ⟨w3.heap.size, 0, none⟩ = some (.int .i64 r3k) ∧ w'.cell? ⟨w3.heap.size, 1, none⟩ = some (.slice r3a r3n r3c)) (by kernel_rfl) (by rw [← hwd5]; exact ⟨XT7.out.2 0, XT7.out.2 1, XT9.out.2 0, XT9.out.2 1⟩) (fun hHeld => ?_)
   rw [← hwd5] at hHeld ⊢
   clear hwd5
   refine wpAnyH_take (i := 0) (v := ?v14_0) rfl (by kernel_rfl) (by kernel_rfl) (by kernel_rfl) (fun _ _ _ h => h) (Or.inl ⟨by kernel_rfl, ?hy14_0⟩) hHeld ?rest14_0
   case hy14_0 =>
    intro w hSw
    (try dsimp only at hSw)
    go_simp
    all_goals (first | done | with_reducible rfl)
   try simp only [Act.put]
   try simp only [List.setIfInBounds_toArray]
   try simp only [List.set_cons_succ]
   try simp only [List.set_cons_zero]
   refine wpAnyH_take (i := 1) (v := ?v15_1) rfl (by kernel_rfl) (by kernel_rfl) (by kernel_rfl) (fun _ _ _ h => h) (Or.inl ⟨by kernel_rfl, ?hy15_1⟩) hHeld ?rest15_1
   case hy15_1 =>
    intro w hSw
    (try dsimp only at hSw)
    go_simp
    all_goals (first | done | with_reducible rfl)
   try simp only [Act.put]
   try simp only [List.setIfInBounds_toArray]
   try simp only [List.set_cons_succ]
   try simp only [List.set_cons_zero]
   refine wpAnyH_take (i := 2) (v := ?v16_2) rfl (by kernel_rfl) (by kernel_rfl) (by kernel_rfl) (fun _ _ _ h => h) (Or.inl ⟨by kernel_rfl, ?hy16_2⟩) hHeld ?rest16_2
   case hy16_2 =>
    intro w hSw
    (try dsimp only at hSw)
    go_simp
    all_goals (first | done | with_reducible rfl)
   try simp only [Act.put]
   try simp only [List.setIfInBounds_toArray]
   try simp only [List.set_cons_succ]
   try simp only [List.set_cons_zero]
   have cR1_0 := XR1.out.2 0
   have cR1_1 := XR1.out.2 1
   have fR1_0 := FR1.out.2 0
   have fR1_1 := FR1.out.2 1
   refine wpAnyH_ready (rs := [3]) (by kernel_rfl) (by simp) ?_
   refine AllReadyH.cons rfl (fun K hK => ?_) AllReadyH.nil
   go_simp
   clear cR1_0 cR1_1 fR1_0 fR1_1
   clear hHeld
   try go_wp2_with fail
   obtain ⟨ws6, hws6⟩ : ∃ W, W = put2 wd5 (w.heap.size) (.int .i64 r1k) (.slice r1a r1n r1c) := ⟨_, rfl⟩
   have hy_ws6 : ws6.heap.size = wd5.heap.size := by rw [hws6]; exact put2_size
   replace XR1 := xs hws6 XR1
   replace FR1 := fo hws6 FR1
   replace XR2 := xo hws6 XR2 (by omega)
   replace FR2 := fo hws6 FR2
   replace XT7 := xo hws6 XT7 (by omega)
   replace FT7 := fo hws6 FT7
   replace XT9 := xo hws6 XT9 (by omega)
   replace FT9 := fo hws6 FT9
   replace Os1 := oo hws6 Os1 (by omega)
   replace Os3 := oo hws6 Os3 (by omega)
   replace B := bo hws6 B (by omega)
   replace G := bo hws6 G (by omega)
   unfold put2 at hws6
   rw [← hws6]
   clear hws6
   refine hK.out _ _ (by exact ⟨XT7.out.2 0, XT7.out.2 1, XT9.out.2 0, XT9.out.2 1⟩) (fun hHeld => ?_)
   clear hK K
   try simp only [Act.put]
   try simp only [List.setIfInBounds_toArray]
   try simp only [List.set_cons_succ]
   try simp only [List.set_cons_zero]
   have cR2_0 := XR2.out.2 0
   have cR2_1 := XR2.out.2 1
   have fR2_0 := FR2.out.2 0
   have fR2_1 := FR2.out.2 1
   refine wpAnyH_ready (rs := [4]) (by kernel_rfl) (by simp) ?_
   refine AllReadyH.cons rfl (fun K hK => ?_) AllReadyH.nil
   go_simp
   clear cR2_0 cR2_1 fR2_0 fR2_1
   clear hHeld
   try go_wp2_with fail
   obtain ⟨ws7, hws7⟩ : ∃ W, W = put2 ws6 (w.heap.size + 1) (.int .i64 r3k) (.slice r3a r3n r3c) := ⟨_, rfl⟩
   have hy_ws7 : ws7.heap.size = ws6.heap.size := by rw [hws7]; exact put2_size
   replace XR1 := xo hws7 XR1 (by omega)
   replace FR1 := fo hws7 FR1
   replace XR2 := xs hws7 XR2
   replace FR2 := fo hws7 FR2
   replace XT7 := xo hws7 XT7 (by omega)
   replace FT7 := fo hws7 FT7
   replace XT9 := xo hws7 XT9 (by omega)
   replace FT9 := fo hws7 FT9
   replace Os1 := oo hws7 Os1 (by omega)
   replace Os3 := oo hws7 Os3 (by omega)
   replace B := bo hws7 B (by omega)
   replace G := bo hws7 G (by omega)
   unfold put2 at hws7
   rw [← hws7]
   clear hws7
   refine hK.out _ _ (by exact ⟨XT7.out.2 0, XT7.out.2 1, XT9.out.2 0, XT9.out.2 1⟩) (fun hHeld => ?_)
   clear hK K
   try simp only [Act.put]
   try simp only [List.setIfInBounds_toArray]
   try simp only [List.set_cons_succ]
   try simp only [List.set_cons_zero]
   refine wpAnyH_ready (rs := [5]) (by kernel_rfl) (by simp) ?_
   refine AllReadyH.cons rfl (fun K hK => ?_) AllReadyH.nil
   go_simp
   refine hK.out _ _ hHeld (fun hHeld => ?_)
   clear hK K
   try simp only [Act.put]
   try simp only [List.setIfInBounds_toArray]
   try simp only [List.set_cons_succ]
   try simp only [List.set_cons_zero]
   refine wpAnyH_done (by kernel_rfl) ?_ _
   try simp only [List.getElem_toArray]
   try simp only [List.getElem_cons_succ]
   try simp only [List.getElem_cons_zero]
   try simp only [Act.put]
   try simp only [List.setIfInBounds_toArray]
   try simp only [List.set_cons_succ]
   try simp only [List.set_cons_zero]
   go_wp2_with fail
   have htop0 := own_top Os1.out
   have htop1 := own_top Os3.out
   have h0 := XR1.out.2 0
   have h1 := XR1.out.2 1
   have h2 := XR2.out.2 0
   have h3 := XR2.out.2 1
   refine bodyPost_ret (v := .tuple #[.agg #[.int .i64 r1k, .slice r1a r1n r1c], .agg #[.int .i64 r3k, .slice r3a r3n r3c], .iface 141 (.pointer (some pe))]) (by simp [results, Tryz.results77, go_sem, h0, h1, h2, h3]) rfl ?_
   exact ⟨D1 + D3, _, _, _, _, _, _, _, _, _, _, w1.heap.size, rfl, (by omega), own_deep (Os1.out.widen (by omega) (Nat.le_refl _) htop0) (by omega), own_deep (Os3.out.widen (by omega) (by omega) (Nat.le_refl _)) (by omega), hsz0, hgz3, (fun h => by simp at h), G.out⟩
  | some t1 =>
   have hsz1 := syn_size d C e1 t1 HOK1.out.2.1 HOK1.out.1 hs1
   have HS1 := Lib.hid hs1
   clear hs1
   obtain ⟨w0, hw0, B, hz_w0, XR1, FR1, XR2, FR2⟩ := laid2 w #[.int .i64 0, .slice none 0 0] 33 #[.int .i64 0, .slice none 0 0] 33
   replace B := Lib.hid B
   go_enter Tryz.func77, Tryz.ntmps77
   have G := B
   clear B
   have B : Hid (Below wo.heap.size wo w0) := Lib.hid (below_thru HBO.out (Nat.le_refl _) G.out)
   have k0_0 := (HBO.out.cell (p := ⟨b, off, none⟩) hbl).trans K0_0.out
   have k0_1 := (HBO.out.cell (p := ⟨b, off + 1, none⟩) hbl).trans K0_1.out
   have k0_2 := (HBO.out.cell (p := ⟨b, off + 2, none⟩) hbl).trans K0_2.out
   have k0_3 := (HBO.out.cell (p := ⟨b, off + 3, none⟩) hbl).trans K0_3.out
   have k0_4 := (HBO.out.cell (p := ⟨b, off + 4, none⟩) hbl).trans K0_4.out
   have k0_5 := (HBO.out.cell (p := ⟨b, off + 5, none⟩) hbl).trans K0_5.out
   have hbw : b < w.heap.size := Nat.lt_of_lt_of_le hbl hwo
   go_wp2_with fail
   clear k0_0 k0_1 k0_2 k0_3 k0_4 k0_5
   rw [← hw0]
   clear hw0
   have CS : Calls Tryz.prog 34 #[.slice va vn vc1, .agg #[.int .i64 xk, .string xnm, .int .i64 xn, .int .i64 xtk, .slice xta xtn xtc, .slice xsa xsm xsc]] w0 (ISynYes t0 w0) := (IHS.out D pe _ _ C e0 w0 (HV.out.below B.out) (HT0.out.below B.out) HOK0.out (HERR.out.below B.out) (HMT.out.below B.out)).mono fun e w' h => isyn_yes HS0.out h
   refine (CS).mono ?_
   rintro e w1 ⟨D1, r1k, r1a, r1n, r1c, rfl, ho, hb⟩
   have Os1 := Lib.hid ho
   clear ho
   have hz_w1 := hb.size
   replace B := bb B hb
   replace XR1 := xb XR1 hb
   replace FR1 := fb FR1 hb
   replace XR2 := xb XR2 hb
   replace FR2 := fb FR2 hb
   replace G := bb G hb
   clear hb
   obtain ⟨wa2, hwa2, hb, hy_wa2, XT7, FT7⟩ := laid1 w1 #[.int .i64 r1k, .slice r1a r1n r1c] 33
   have hz_wa2 := hb.size
   replace B := bb B hb
   replace XR1 := xb XR1 hb
   replace FR1 := fb FR1 hb
   replace XR2 := xb XR2 hb
   replace FR2 := fb FR2 hb
   replace Os1 := ob Os1 hb
   replace G := bb G hb
   clear hb
   have cR1_0 := XR1.out.2 0
   have cR1_1 := XR1.out.2 1
   have cR2_0 := XR2.out.2 0
   have cR2_1 := XR2.out.2 1
   have cT7_0 := XT7.out.2 0
   have cT7_1 := XT7.out.2 1
   have k1_0 := kc hbl B K1_0
   have k1_1 := kc hbl B K1_1
   have k1_2 := kc hbl B K1_2
   have k1_3 := kc hbl B K1_3
   have k1_4 := kc hbl B K1_4
   have k1_5 := kc hbl B K1_5
   rw [hwa2] at cR1_0
   rw [hwa2] at cR1_1
   rw [hwa2] at cR2_0
   rw [hwa2] at cR2_1
   rw [hwa2] at cT7_0
   rw [hwa2] at cT7_1
   rw [hwa2] at k1_0
   rw [hwa2] at k1_1
   rw [hwa2] at k1_2
   rw [hwa2] at k1_3
   rw [hwa2] at k1_4
   rw [hwa2] at k1_5
   go_wp2_with fail
   clear cR1_0 cR1_1 cR2_0 cR2_1 cT7_0 cT7_1 k1_0 k1_1 k1_2 k1_3 k1_4 k1_5
   rw [← hwa2]
   clear hwa2
   have CS : Calls Tryz.prog 34 #[.slice va vn vc1, .agg #[.int .i64 yk, .string ynm, .int .i64 yn, .int .i64 ytk, .slice yta ytn ytc, .slice ysa ysm ysc]] wa2 (ISynYes t1 wa2) := (IHS.out D pe _ _ C e1 wa2 (HV.out.below B.out) (HT1.out.below B.out) HOK1.out (HERR.out.below B.out) (HMT.out.below B.out)).mono fun e w' h => isyn_yes HS1.out h
   refine (CS).mono ?_
   rintro e w3 ⟨D3, r3k, r3a, r3n, r3c, rfl, ho, hb⟩
   have Os3 := Lib.hid ho
   clear ho
   have hz_w3 := hb.size
   replace B := bb B hb
   replace XR1 := xb XR1 hb
   replace FR1 := fb FR1 hb
   replace XR2 := xb XR2 hb
   replace FR2 := fb FR2 hb
   replace XT7 := xb XT7 hb
   replace FT7 := fb FT7 hb
   replace Os1 := ob Os1 hb
   replace G := bb G hb
   clear hb
   go_wp2_with fail
   obtain ⟨wa4, hwa4, hb, hy_wa4, XT9, FT9⟩ := laid1 w3 #[.int .i64 r3k, .slice r3a r3n r3c] 33
   have hz_wa4 := hb.size
   replace B := bb B hb
   replace XR1 := xb XR1 hb
   replace FR1 := fb FR1 hb
   replace XR2 := xb XR2 hb
   replace FR2 := fb FR2 hb
   replace XT7 := xb XT7 hb
   replace FT7 := fb FT7 hb
   replace Os1 := ob Os1 hb
   replace Os3 := ob Os3 hb
   replace G := bb G hb
   clear hb
   rw [← hwa4]
   clear hwa4
   obtain ⟨wd5, hwd5⟩ : ∃ W, W = wa4.drew := ⟨_, rfl⟩
   have hb : Below wa4.heap.size wa4 wd5 := by rw [hwd5]; exact below_drew _
   have hz_wd5 := hb.size
   replace B := bb B hb
   replace XR1 := xb XR1 hb
   replace FR1 := fb FR1 hb
   replace XR2 := xb XR2 hb
   replace FR2 := fb FR2 hb
   replace XT7 := xb XT7 hb
   replace FT7 := fb FT7 hb
   replace XT9 := xb XT9 hb
   replace FT9 := fb FT9 hb
   replace Os1 := ob Os1 hb
   replace Os3 := ob Os3 hb
   replace G := bb G hb
   clear hb
   refine wp_region_held_drew (S := fun w' => w'.cell? ⟨w1.heap.size, 0, none⟩ = some (.int .i64 r1k) ∧ w'.cell? ⟨w1.heap.size, 1, none⟩ = some (.slice r1a r1n r1c) ∧ w'.cell? ⟨w3.heap.size, 0, none⟩ = some (.int .i64 r3k) ∧ w'.cell? ⟨w3.heap.size, 1, none⟩ = some (.slice r3a r3n r3c)) (by kernel_rfl) (by rw [← hwd5]; exact ⟨XT7.out.2 0, XT7.out.2 1, XT9.out.2 0, XT9.out.2 1⟩) (fun hHeld => ?_)
   rw [← hwd5] at hHeld ⊢
   clear hwd5
   refine wpAnyH_take (i := 0) (v := ?v17_0) rfl (by kernel_rfl) (by kernel_rfl) (by kernel_rfl) (fun _ _ _ h => h) (Or.inl ⟨by kernel_rfl, ?hy17_0⟩) hHeld ?rest17_0
   case hy17_0 =>
    intro w hSw
    (try dsimp only at hSw)
    go_simp
    all_goals (first | done | with_reducible rfl)
   try simp only [Act.put]
   try simp only [List.setIfInBounds_toArray]
   try simp only [List.set_cons_succ]
   try simp only [List.set_cons_zero]
   refine wpAnyH_take (i := 1) (v := ?v18_1) rfl (by kernel_rfl) (by kernel_rfl) (by kernel_rfl) (fun _ _ _ h => h) (Or.inl ⟨by kernel_rfl, ?hy18_1⟩) hHeld ?rest18_1
   case hy18_1 =>
    intro w hSw
    (try dsimp only at hSw)
    go_simp
    all_goals (first | done | with_reducible rfl)
   try simp only [Act.put]
   try simp only [List.setIfInBounds_toArray]
   try simp only [List.set_cons_succ]
   try simp only [List.set_cons_zero]
   refine wpAnyH_take (i := 2) (v := ?v19_2) rfl (by kernel_rfl) (by kernel_rfl) (by kernel_rfl) (fun _ _ _ h => h) (Or.inl ⟨by kernel_rfl, ?hy19_2⟩) hHeld ?rest19_2
   case hy19_2 =>
    intro w hSw
    (try dsimp only at hSw)
    go_simp
    all_goals (first | done | with_reducible rfl)
   try simp only [Act.put]
   try simp only [List.setIfInBounds_toArray]
   try simp only [List.set_cons_succ]
   try simp only [List.set_cons_zero]
   have cR1_0 := XR1.out.2 0
   have cR1_1 := XR1.out.2 1
   have fR1_0 := FR1.out.2 0
   have fR1_1 := FR1.out.2 1
   refine wpAnyH_ready (rs := [3]) (by kernel_rfl) (by simp) ?_
   refine AllReadyH.cons rfl (fun K hK => ?_) AllReadyH.nil
   go_simp
   clear cR1_0 cR1_1 fR1_0 fR1_1
   clear hHeld
   try go_wp2_with fail
   obtain ⟨ws6, hws6⟩ : ∃ W, W = put2 wd5 (w.heap.size) (.int .i64 r1k) (.slice r1a r1n r1c) := ⟨_, rfl⟩
   have hy_ws6 : ws6.heap.size = wd5.heap.size := by rw [hws6]; exact put2_size
   replace XR1 := xs hws6 XR1
   replace FR1 := fo hws6 FR1
   replace XR2 := xo hws6 XR2 (by omega)
   replace FR2 := fo hws6 FR2
   replace XT7 := xo hws6 XT7 (by omega)
   replace FT7 := fo hws6 FT7
   replace XT9 := xo hws6 XT9 (by omega)
   replace FT9 := fo hws6 FT9
   replace Os1 := oo hws6 Os1 (by omega)
   replace Os3 := oo hws6 Os3 (by omega)
   replace B := bo hws6 B (by omega)
   replace G := bo hws6 G (by omega)
   unfold put2 at hws6
   rw [← hws6]
   clear hws6
   refine hK.out _ _ (by exact ⟨XT7.out.2 0, XT7.out.2 1, XT9.out.2 0, XT9.out.2 1⟩) (fun hHeld => ?_)
   clear hK K
   try simp only [Act.put]
   try simp only [List.setIfInBounds_toArray]
   try simp only [List.set_cons_succ]
   try simp only [List.set_cons_zero]
   have cR2_0 := XR2.out.2 0
   have cR2_1 := XR2.out.2 1
   have fR2_0 := FR2.out.2 0
   have fR2_1 := FR2.out.2 1
   refine wpAnyH_ready (rs := [4]) (by kernel_rfl) (by simp) ?_
   refine AllReadyH.cons rfl (fun K hK => ?_) AllReadyH.nil
   go_simp
   clear cR2_0 cR2_1 fR2_0 fR2_1
   clear hHeld
   try go_wp2_with fail
   obtain ⟨ws7, hws7⟩ : ∃ W, W = put2 ws6 (w.heap.size + 1) (.int .i64 r3k) (.slice r3a r3n r3c) := ⟨_, rfl⟩
   have hy_ws7 : ws7.heap.size = ws6.heap.size := by rw [hws7]; exact put2_size
   replace XR1 := xo hws7 XR1 (by omega)
   replace FR1 := fo hws7 FR1
   replace XR2 := xs hws7 XR2
   replace FR2 := fo hws7 FR2
   replace XT7 := xo hws7 XT7 (by omega)
   replace FT7 := fo hws7 FT7
   replace XT9 := xo hws7 XT9 (by omega)
   replace FT9 := fo hws7 FT9
   replace Os1 := oo hws7 Os1 (by omega)
   replace Os3 := oo hws7 Os3 (by omega)
   replace B := bo hws7 B (by omega)
   replace G := bo hws7 G (by omega)
   unfold put2 at hws7
   rw [← hws7]
   clear hws7
   refine hK.out _ _ (by exact ⟨XT7.out.2 0, XT7.out.2 1, XT9.out.2 0, XT9.out.2 1⟩) (fun hHeld => ?_)
   clear hK K
   try simp only [Act.put]
   try simp only [List.setIfInBounds_toArray]
   try simp only [List.set_cons_succ]
   try simp only [List.set_cons_zero]
   refine wpAnyH_ready (rs := [5]) (by kernel_rfl) (by simp) ?_
   refine AllReadyH.cons rfl (fun K hK => ?_) AllReadyH.nil
   go_simp
   refine hK.out _ _ hHeld (fun hHeld => ?_)
   clear hK K
   try simp only [Act.put]
   try simp only [List.setIfInBounds_toArray]
   try simp only [List.set_cons_succ]
   try simp only [List.set_cons_zero]
   refine wpAnyH_done (by kernel_rfl) ?_ _
   try simp only [List.getElem_toArray]
   try simp only [List.getElem_cons_succ]
   try simp only [List.getElem_cons_zero]
   try simp only [Act.put]
   try simp only [List.setIfInBounds_toArray]
   try simp only [List.set_cons_succ]
   try simp only [List.set_cons_zero]
   go_wp2_with fail
   have htop0 := own_top Os1.out
   have htop1 := own_top Os3.out
   have h0 := XR1.out.2 0
   have h1 := XR1.out.2 1
   have h2 := XR2.out.2 0
   have h3 := XR2.out.2 1
   refine bodyPost_ret (v := .tuple #[.agg #[.int .i64 r1k, .slice r1a r1n r1c], .agg #[.int .i64 r3k, .slice r3a r3n r3c], .nilIface]) (by simp [results, Tryz.results77, go_sem, h0, h1, h2, h3]) rfl ?_
   exact ⟨D1 + D3, _, _, _, _, _, _, _, _, _, _, w1.heap.size, rfl, (by omega), own_deep (Os1.out.widen (by omega) (Nat.le_refl _) htop0) (by omega), own_deep (Os3.out.widen (by omega) (by omega) (Nat.le_refl _)) (by omega), hsz0, hsz1, (fun _ => ⟨rfl, rfl⟩), G.out⟩
end Go.Proofs.YteffjeejbdjjpaaGreatDoor
