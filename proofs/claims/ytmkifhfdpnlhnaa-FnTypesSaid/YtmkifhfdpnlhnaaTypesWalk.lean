/-
  Proved: the walk of the law FnTypes: it returns true and changes no memory that was there.
-/
import Derived.Test.YtmkifhfdpnlhnaaCodeArgT
import Derived.Test.YtmkifhfdpnlhnaaDrawTypes
import Derived.Test.YtmkifhfdpnlhnaaImplSize
import Derived.Test.YtmkifhfdpnlhnaaImplDepth
import Derived.Test.YtmkifhfdpnlhnaaImplValid
import Derived.Test.YtmkifhfdpnlhnaaSpecValid
import Derived.Test.YtmkifhfdpnlhnaaImplNote
import Derived.Test.YtmkifhfdpnlhnaaSpecNote
import Derived.Test.YtmkifhfdpnlhnaaImplEqual
import Derived.Test.YtmkifhfdpnlhnaaSpecEqual
import Derived.Test.YtmkifhfdpnlhnaaImplArrow
import Derived.Test.YtmkifhfdpnlhnaaImplPair
import Derived.Test.YtmkifhfdpnlhnaaTypeLeaves
import Derived.Deep.RegionHeld3
namespace Go.Proofs.Ytmkifhfdpnlhnaa
open Go.RowKit

theorem TyAt.up {w : World} : ∀ {d : Nat} {v : Value} {t : Ty}, TyAt w d v t → TyAt w (d + 1) v t
  | 0, _, _, h => h.elim
  | d + 1, v, .node k ts, h => by
    obtain ⟨sl, rfl, h0, h1, a, cap, rfl, h2, h3, h4⟩ := h
    refine ⟨_, rfl, h0, h1, a, cap, rfl, h2, h3, fun j hj => ?_⟩
    obtain ⟨b, off, c0, c1, e0, e1, e2, e3, e4⟩ := h4 j hj
    exact ⟨b, off, c0, c1, e0, e1, e2, e3, e4.up⟩
theorem TyAt.upto {w : World} {d : Nat} {v : Value} {t : Ty} (h : TyAt w d v t) : ∀ n, TyAt w (d + n) v t
  | 0 => h
  | n + 1 => (h.upto n).up
theorem TyAt.max1 {w : World} {d e : Nat} {v : Value} {t : Ty} (h : TyAt w d v t) : TyAt w (d + e) v t := h.upto e
theorem TyAt.max2 {w : World} {d e : Nat} {v : Value} {t : Ty} (h : TyAt w e v t) : TyAt w (d + e) v t := by rw [Nat.add_comm]; exact h.upto d
theorem Ty.depths_small : ∀ ts : List Ty, Ty.depths ts ≤ Ty.sizes ts := Ty.depths_le
set_option maxRecDepth 100000 in
set_option maxHeartbeats 8000000 in
theorem typesWalk (v : Value) (m : Nat) (w : World) (hc : CodeArg w v m) :
    Calls Try.prog 3 #[v] w fun e w' => e = .returned (.bool true) ∧ Below w.heap.size w w' := by
  obtain ⟨a, cap, rfl, hm, _⟩ := id hc
  have HC := Lib.hid hc; clear hc
  by_cases hs : 1048576 < m
  · go_enter Try.func3, Try.ntmps3
    go_wp2
    go_ret
    exact ⟨rfl, Below.refl _ _⟩
  · have hs2 : m ≤ 1048576 := by omega
    go_enter Try.func3, Try.ntmps3
    go_wp2_with (go_at_call 4; go_in)
    refine (drawIsValidType _ m _ (HC.out.code hs2 (Below.refl _ _))).mono ?_
    rintro e w1 ⟨d, v1, t, rfl, hn1, ht, hb1⟩
    obtain ⟨ak, aa, an, ac, rfl⟩ := agg_parts ht
    cases d with
    | zero => exact ht.elim
    | succ d =>
    cases t with
    | node kd ts =>
    have HT := Lib.hid (ht.below (below_alloc w1 (.cells #[.int .i64 ak, .slice aa an ac] 26)))
    obtain ⟨sl, he, hk0, hk1, a1, cap1, hsl, hcap1, hcap2, hat⟩ := ht
    obtain ⟨rfl, rfl, rfl, rfl⟩ : ak = kd ∧ aa = a1 ∧ an = ts.length ∧ ac = cap1 := by
      subst hsl
      injection he with he
      have e1 := (Array.ext_iff.1 he).2 0 (by simp) (by simp)
      have e2 := (Array.ext_iff.1 he).2 1 (by simp) (by simp)
      simp at e1 e2
      exact ⟨e1, e2.1, e2.2.1, e2.2.2⟩
    clear he hsl
    have HAT := Lib.hid hat; clear hat
    have HSZ : Hid (1 + Ty.sizes ts ≤ 65536) := hn1
    have hlen : ts.length ≤ 65536 := by have h1 := HSZ.out; have := Ty.length_le ts; omega
    clear hn1
    have hz1 := hb1.size
    have XA : Hid (BoxAt (w1.alloc (.cells #[.int .i64 ak, .slice aa ts.length ac] 26)) w1.heap.size #[.int .i64 ak, .slice aa ts.length ac]) := BoxAt.new _ _ _
    have B := Lib.hid (below_thru hb1 (Nat.le_refl _) (below_alloc w1 (.cells #[.int .i64 ak, .slice aa ts.length ac] 26)))
    have HW := Lib.hid (below_alloc w1 (.cells #[.int .i64 ak, .slice aa ts.length ac] 26))
    clear hb1
    go_wp2_with fail
    go_loopw [4, 5, 6] (fun s dp i wr => ∃ k : Nat, k ≤ ts.length ∧ s = .int .i64 ((1 + Ty.sizes (ts.take k) : Nat) : Int) ∧ dp = .int .i64 ((Ty.depths (ts.take k) : Nat) : Int) ∧ i = .int .i64 k ∧ Below (w1.heap.size + 1) (w1.alloc (.cells #[.int .i64 ak, .slice aa ts.length ac] 26)) wr) (fun _ _ i _ => ts.length - (intOf i).toNat)
    case atStart => exact ⟨0, by omega, by simp [Ty.sizes], by simp [Ty.depths], rfl, Below.refl _ _⟩
    case round =>
      obtain ⟨k, hk, rfl, rfl, rfl, hb⟩ := hrel
      have hb : Below (w1.alloc (.cells #[.int .i64 ak, .slice aa ts.length ac] 26)).heap.size (w1.alloc (.cells #[.int .i64 ak, .slice aa ts.length ac] 26)) wr := by simpa using hb
      have hzr := hb.size
      simp only [World.size_alloc] at hzr
      have HB := Lib.hid hb
      have HB1 := Lib.hid (below_thru HW.out (Nat.le_refl _) hb)
      have t1x := (XA.out.below hb).2 1
      clear hb
      have hsk := Ty.sizes_le ts k
      have hdk := Ty.depths_le (ts.take k)
      by_cases hlt : k < ts.length
      · have hg := Ty.size_get ts k hlt
        have hst := Ty.sizes_take ts k hlt
        have hdt := Ty.depths_take ts k hlt
        have hdl := Ty.depth_le ts[k]
        obtain ⟨b, off, x0, x1, rfl, hbl, hc0, hc1, htk⟩ := HAT.out k hlt
        have e0 : wr.cell? ⟨b, off + k * 2, none⟩ = some x0 := by rw [HB1.out.cell (p := ⟨b, off + k * 2, none⟩) hbl]; exact hc0
        have e1 : wr.cell? ⟨b, off + k * 2 + 1, none⟩ = some x1 := by rw [HB1.out.cell (p := ⟨b, off + k * 2 + 1, none⟩) hbl]; exact hc1
        have HTK := Lib.hid (htk.below HB1.out)
        clear hc0 hc1 htk
        have hh := HSZ.out
        have HST := Lib.hid hst
        have HDT := Lib.hid hdt
        clear hst hdt
        obtain ⟨S, hS⟩ : ∃ S, S = Ty.sizes (ts.take k) := ⟨_, rfl⟩
        obtain ⟨D, hD⟩ : ∃ D, D = Ty.depths (ts.take k) := ⟨_, rfl⟩
        obtain ⟨q, hq⟩ : ∃ q, q = ts[k] := ⟨_, rfl⟩
        rw [← hS] at HST hsk hdk
        rw [← hD] at HDT hdk
        rw [← hq] at HST HDT HTK hg hdl
        simp only [← hS, ← hD]
        clear hS hD hq
        go_wp2_with fail
        refine (implSize _ _ q _ HTK.out (by omega)).mono ?_
        rintro e w2 ⟨rfl, hb2⟩
        have hz2 := hb2.size
        have c1 := (hb2.cell (p := ⟨w1.heap.size, 1, none⟩) (show w1.heap.size < _ by omega)).trans t1x
        have f0 := (hb2.cell (p := ⟨b, off + k * 2, none⟩) (show b < _ by omega)).trans e0
        have f1 := (hb2.cell (p := ⟨b, off + k * 2 + 1, none⟩) (show b < _ by omega)).trans e1
        replace HTK := Lib.hid (HTK.out.below hb2)
        have B2 := Lib.hid (HB.out.trans (hb2.mono HB.out.size))
        clear hb2 t1x e0 e1 HB HB1
        go_wp2_with fail
        refine (implDepth _ _ q _ HTK.out (by omega)).mono ?_
        rintro e w3 ⟨rfl, hb3⟩
        have hz3 := hb3.size
        have t1x := (hb3.cell (p := ⟨w1.heap.size, 1, none⟩) (show w1.heap.size < _ by omega)).trans c1
        have e0 := (hb3.cell (p := ⟨b, off + k * 2, none⟩) (show b < _ by omega)).trans f0
        have e1 := (hb3.cell (p := ⟨b, off + k * 2 + 1, none⟩) (show b < _ by omega)).trans f1
        replace HTK := Lib.hid (HTK.out.below hb3)
        have B3 := Lib.hid (B2.out.trans (hb3.mono B2.out.size))
        clear hb3 c1 f0 f1 B2
        by_cases hgt : (D : Int) < (q.depth : Int)
        · go_wp2_with fail
          refine (implDepth _ _ q _ HTK.out (by omega)).mono ?_
          rintro e w4 ⟨rfl, hb4⟩
          have B4 := Lib.hid (B3.out.trans (hb4.mono B3.out.size))
          clear hb4 B3 t1x e0 e1 HTK
          go_wp2_with fail
          exact ⟨⟨k + 1, by omega, by have := HST.out; rw [this]; go_num, by have := HDT.out; rw [this, Nat.max_eq_right (by omega)], by go_num, by have := B4.out; simpa using this⟩, by simp [intOf]; omega⟩
        · go_wp2_with fail
          exact ⟨⟨k + 1, by omega, by have := HST.out; rw [this]; go_num, by have := HDT.out; rw [this, Nat.max_eq_left (by omega)], by go_num, by have := B3.out; simpa using this⟩, by simp [intOf]; omega⟩
      · obtain rfl : k = ts.length := by omega
        have hh := HSZ.out
        have hts : (Ty.node ak ts).size = 1 + Ty.sizes ts := rfl
        have htd : (Ty.node ak ts).depth = 1 + Ty.depths ts := rfl
        have hdd := Ty.depths_le ts
        simp only [List.take_length] at hsk hdk ⊢
        replace HT := Lib.hid (HT.out.below HB.out)
        replace XA := Lib.hid (XA.out.below HB.out)
        replace B := Lib.hid (below_thru B.out (by first | omega | (simp; done) | (simp; omega)) HB.out)
        clear HB HB1 HAT HW t1x hsk hdk
        have HTS := Lib.hid hts
        have HTD := Lib.hid htd
        clear hts htd
        obtain ⟨S, hS⟩ : ∃ S, S = Ty.sizes ts := ⟨_, rfl⟩
        obtain ⟨D, hD⟩ : ∃ D, D = Ty.depths ts := ⟨_, rfl⟩
        rw [← hS] at HTS HSZ hdd hh
        rw [← hD] at HTD hdd
        simp only [← hS, ← hD]
        clear hS hD
        obtain ⟨N, hN⟩ : ∃ N : Int, N = ((1 + S : Nat) : Int) := ⟨_, rfl⟩
        obtain ⟨M, hM⟩ : ∃ M : Int, M = (D : Int) := ⟨_, rfl⟩
        have hM0 : 0 ≤ M := by omega
        have hM1 : M ≤ 65536 := by omega
        obtain ⟨t, hte⟩ : ∃ t, t = Ty.node ak ts := ⟨_, rfl⟩
        rw [← hte] at HT HTS HTD
        clear hte
        have HN : Hid ((t.size : Int) = N) := by have := HTS.out; show _ = _; omega
        have HM : Hid ((t.depth : Int) = M + 1) := by have := HTD.out; show _ = _; omega
        have hst : t.size ≤ 65536 := by have := HTS.out; omega
        rw [← hN, ← hM]
        clear hN hM HTS HTD hdd hh HSZ
        clear hlt hlen hcap1 hk
        have t1x := XA.out.2 1
        go_wp2_with fail
        clear t1x
        refine (drawArrowType _ m _ (HC.out.code hs2 B.out)).mono ?_
        rintro e w5 ⟨db, vx, tb, dc, vy, tc, rfl, hnb, hnc, hx, hy, hb⟩
        obtain ⟨bk, ba, bn, bc, rfl⟩ := agg_parts hx
        obtain ⟨ck, ca, cn, cc, rfl⟩ := agg_parts hy
        have hzw5 := hb.size
        have HA := below_thru (below_alloc w5 (.cells #[.int .i64 bk, .slice ba bn bc] 26)) (Nat.le_refl _) (below_alloc (w5.alloc (.cells #[.int .i64 bk, .slice ba bn bc] 26)) (.cells #[.int .i64 ck, .slice ca cn cc] 26))
        have Xb : Hid (BoxAt ((w5.alloc (.cells #[.int .i64 bk, .slice ba bn bc] 26)).alloc (.cells #[.int .i64 ck, .slice ca cn cc] 26)) w5.heap.size #[.int .i64 bk, .slice ba bn bc]) := (BoxAt.new _ _ _).below (below_alloc _ _)
        have Xc : Hid (BoxAt ((w5.alloc (.cells #[.int .i64 bk, .slice ba bn bc] 26)).alloc (.cells #[.int .i64 ck, .slice ca cn cc] 26)) (w5.heap.size + 1) #[.int .i64 ck, .slice ca cn cc]) := box_at (BoxAt.new _ _ _) (by simp)
        have HXb := Lib.hid (hx.below HA)
        have HXc := Lib.hid (hy.below HA)
        replace B := Lib.hid (below_thru (below_thru B.out (Nat.le_refl _) hb) (Nat.le_refl _) HA)
        replace HT := Lib.hid ((HT.out.below hb).below HA)
        replace XA := Lib.hid ((XA.out.below hb).below HA)
        clear hx hy hb HA
        go_wp2_with fail
        refine (drawEqualType _ m _ (HC.out.code hs2 B.out)).mono ?_
        rintro e w7 ⟨dd, vx, td, de, vy, te, rfl, hnd, hne, hx, hy, hb⟩
        obtain ⟨dk, da, dn, dc, rfl⟩ := agg_parts hx
        obtain ⟨ek, ea, en, ec, rfl⟩ := agg_parts hy
        have hzw7 := hb.size
        have HA := below_thru (below_alloc w7 (.cells #[.int .i64 dk, .slice da dn dc] 26)) (Nat.le_refl _) (below_alloc (w7.alloc (.cells #[.int .i64 dk, .slice da dn dc] 26)) (.cells #[.int .i64 ek, .slice ea en ec] 26))
        have Xd : Hid (BoxAt ((w7.alloc (.cells #[.int .i64 dk, .slice da dn dc] 26)).alloc (.cells #[.int .i64 ek, .slice ea en ec] 26)) w7.heap.size #[.int .i64 dk, .slice da dn dc]) := (BoxAt.new _ _ _).below (below_alloc _ _)
        have Xe : Hid (BoxAt ((w7.alloc (.cells #[.int .i64 dk, .slice da dn dc] 26)).alloc (.cells #[.int .i64 ek, .slice ea en ec] 26)) (w7.heap.size + 1) #[.int .i64 ek, .slice ea en ec]) := box_at (BoxAt.new _ _ _) (by simp)
        have HXd := Lib.hid (hx.below HA)
        have HXe := Lib.hid (hy.below HA)
        replace B := Lib.hid (below_thru (below_thru B.out (Nat.le_refl _) hb) (Nat.le_refl _) HA)
        replace HT := Lib.hid ((HT.out.below hb).below HA)
        replace XA := Lib.hid ((XA.out.below hb).below HA)
        replace Xb := Lib.hid ((Xb.out.below hb).below HA)
        replace Xc := Lib.hid ((Xc.out.below hb).below HA)
        replace HXb := Lib.hid ((HXb.out.below hb).below HA)
        replace HXc := Lib.hid ((HXc.out.below hb).below HA)
        clear hx hy hb HA
        have HV : Hid (∃ bv, bv = t.valid) := ⟨_, rfl⟩
        obtain ⟨bv, hv⟩ := HV.out
        obtain ⟨bo, ho⟩ : ∃ bo, bo = t.note := ⟨_, rfl⟩
        obtain ⟨be, hbe⟩ : ∃ be, be = td.beq te := ⟨_, rfl⟩
        clear HV
        have HV := Lib.hid hv
        have HO := Lib.hid ho
        have HE := Lib.hid hbe
        clear hv ho hbe
        have hwr : IntKind.i64.wrap (M + 1) = M + 1 := IntWalk.i64_in _ (by omega)
        have m0 : (M + 1 != M + 1) = false := by simp
        have n1 : (bv == bv) = true := by cases bv <;> rfl
        have n2 : (bo == bo) = true := by cases bo <;> rfl
        have n3 : (be == be) = true := by cases be <;> rfl
        have m1 : (bv != bv) = false := by cases bv <;> rfl
        have m2 : (bo != bo) = false := by cases bo <;> rfl
        have m3 : (be != be) = false := by cases be <;> rfl
        go_wp2_with fail
        have hb := below_drew ((w7.alloc (.cells #[.int .i64 dk, .slice da dn dc] 26)).alloc (.cells #[.int .i64 ek, .slice ea en ec] 26))
        replace B := Lib.hid (below_thru B.out (Nat.le_refl _) hb)
        replace HT := Lib.hid (HT.out.below hb)
        replace XA := Lib.hid (XA.out.below hb)
        replace Xd := Lib.hid (Xd.out.below hb)
        replace Xe := Lib.hid (Xe.out.below hb)
        replace Xb := Lib.hid (Xb.out.below hb)
        replace Xc := Lib.hid (Xc.out.below hb)
        replace HXb := Lib.hid (HXb.out.below hb)
        replace HXc := Lib.hid (HXc.out.below hb)
        replace HXd := Lib.hid (HXd.out.below hb)
        replace HXe := Lib.hid (HXe.out.below hb)
        clear hb
        have XB := Xb
        have XC := Xc
        have XD := Xd
        have XE := Xe
        clear Xb Xc Xd Xe
        go_region_held3 (fun w' => w'.cell? ⟨w1.heap.size, 0, none⟩ = some (.int .i64 ak) ∧ w'.cell? ⟨w1.heap.size, 1, none⟩ = some (.slice aa ts.length ac) ∧ w'.cell? ⟨w7.heap.size, 0, none⟩ = some (.int .i64 dk) ∧ w'.cell? ⟨w7.heap.size, 1, none⟩ = some (.slice da dn dc) ∧ w'.cell? ⟨w7.heap.size + 1, 0, none⟩ = some (.int .i64 ek) ∧ w'.cell? ⟨w7.heap.size + 1, 1, none⟩ = some (.slice ea en ec))
          (exact ⟨XA.out.2 0, XA.out.2 1, XD.out.2 0, XD.out.2 1, XE.out.2 0, XE.out.2 1⟩)
          (first
           | (go_at_call 6
              refine (implSize _ _ t _ HT.out (by omega)).mono ?_
              rintro e y ⟨rfl, hb⟩
              rw [HN.out]
              replace B := Lib.hid (below_thru B.out (Nat.le_refl _) hb)
              replace HT := Lib.hid (HT.out.below hb)
              replace XA := Lib.hid (XA.out.below hb)
              replace XD := Lib.hid (XD.out.below hb)
              replace XE := Lib.hid (XE.out.below hb)
              replace XB := Lib.hid (XB.out.below hb)
              replace XC := Lib.hid (XC.out.below hb)
              replace HXb := Lib.hid (HXb.out.below hb)
              replace HXc := Lib.hid (HXc.out.below hb)
              replace HXd := Lib.hid (HXd.out.below hb)
              replace HXe := Lib.hid (HXe.out.below hb)
              clear hb)
           | (go_at_call 7
              refine (implDepth _ _ t _ HT.out (by omega)).mono ?_
              rintro e y ⟨rfl, hb⟩
              rw [HM.out]
              replace B := Lib.hid (below_thru B.out (Nat.le_refl _) hb)
              replace HT := Lib.hid (HT.out.below hb)
              replace XA := Lib.hid (XA.out.below hb)
              replace XD := Lib.hid (XD.out.below hb)
              replace XE := Lib.hid (XE.out.below hb)
              replace XB := Lib.hid (XB.out.below hb)
              replace XC := Lib.hid (XC.out.below hb)
              replace HXb := Lib.hid (HXb.out.below hb)
              replace HXc := Lib.hid (HXc.out.below hb)
              replace HXd := Lib.hid (HXd.out.below hb)
              replace HXe := Lib.hid (HXe.out.below hb)
              clear hb)
           | (go_at_call 10
              refine (implValid _ _ t _ HT.out (by omega)).mono ?_
              rintro e y ⟨rfl, hb⟩
              rw [← HV.out]
              replace B := Lib.hid (below_thru B.out (Nat.le_refl _) hb)
              replace HT := Lib.hid (HT.out.below hb)
              replace XA := Lib.hid (XA.out.below hb)
              replace XD := Lib.hid (XD.out.below hb)
              replace XE := Lib.hid (XE.out.below hb)
              replace XB := Lib.hid (XB.out.below hb)
              replace XC := Lib.hid (XC.out.below hb)
              replace HXb := Lib.hid (HXb.out.below hb)
              replace HXc := Lib.hid (HXc.out.below hb)
              replace HXd := Lib.hid (HXd.out.below hb)
              replace HXe := Lib.hid (HXe.out.below hb)
              clear hb)
           | (go_at_call 11
              refine (specValid _ _ t _ HT.out (by omega)).mono ?_
              rintro e y ⟨rfl, hb⟩
              rw [← HV.out]
              replace B := Lib.hid (below_thru B.out (Nat.le_refl _) hb)
              replace HT := Lib.hid (HT.out.below hb)
              replace XA := Lib.hid (XA.out.below hb)
              replace XD := Lib.hid (XD.out.below hb)
              replace XE := Lib.hid (XE.out.below hb)
              replace XB := Lib.hid (XB.out.below hb)
              replace XC := Lib.hid (XC.out.below hb)
              replace HXb := Lib.hid (HXb.out.below hb)
              replace HXc := Lib.hid (HXc.out.below hb)
              replace HXd := Lib.hid (HXd.out.below hb)
              replace HXe := Lib.hid (HXe.out.below hb)
              clear hb)
           | (go_at_call 12
              refine (implNote _ _ t _ HT.out (by omega)).mono ?_
              rintro e y ⟨rfl, hb⟩
              rw [← HO.out]
              replace B := Lib.hid (below_thru B.out (Nat.le_refl _) hb)
              replace HT := Lib.hid (HT.out.below hb)
              replace XA := Lib.hid (XA.out.below hb)
              replace XD := Lib.hid (XD.out.below hb)
              replace XE := Lib.hid (XE.out.below hb)
              replace XB := Lib.hid (XB.out.below hb)
              replace XC := Lib.hid (XC.out.below hb)
              replace HXb := Lib.hid (HXb.out.below hb)
              replace HXc := Lib.hid (HXc.out.below hb)
              replace HXd := Lib.hid (HXd.out.below hb)
              replace HXe := Lib.hid (HXe.out.below hb)
              clear hb)
           | (go_at_call 13
              refine (specNote _ _ t _ HT.out (by omega)).mono ?_
              rintro e y ⟨rfl, hb⟩
              rw [← HO.out]
              replace B := Lib.hid (below_thru B.out (Nat.le_refl _) hb)
              replace HT := Lib.hid (HT.out.below hb)
              replace XA := Lib.hid (XA.out.below hb)
              replace XD := Lib.hid (XD.out.below hb)
              replace XE := Lib.hid (XE.out.below hb)
              replace XB := Lib.hid (XB.out.below hb)
              replace XC := Lib.hid (XC.out.below hb)
              replace HXb := Lib.hid (HXb.out.below hb)
              replace HXc := Lib.hid (HXc.out.below hb)
              replace HXd := Lib.hid (HXd.out.below hb)
              replace HXe := Lib.hid (HXe.out.below hb)
              clear hb)
           | (go_at_call 14
              refine (implEqual _ _ _ td te _ HXd.out.max1 HXe.out.max2).mono ?_
              rintro e y ⟨rfl, hb⟩
              rw [← HE.out]
              replace B := Lib.hid (below_thru B.out (Nat.le_refl _) hb)
              replace HT := Lib.hid (HT.out.below hb)
              replace XA := Lib.hid (XA.out.below hb)
              replace XD := Lib.hid (XD.out.below hb)
              replace XE := Lib.hid (XE.out.below hb)
              replace XB := Lib.hid (XB.out.below hb)
              replace XC := Lib.hid (XC.out.below hb)
              replace HXb := Lib.hid (HXb.out.below hb)
              replace HXc := Lib.hid (HXc.out.below hb)
              replace HXd := Lib.hid (HXd.out.below hb)
              replace HXe := Lib.hid (HXe.out.below hb)
              clear hb)
           | (go_at_call 15
              refine (specEqual _ _ _ td te _ HXd.out.max1 HXe.out.max2).mono ?_
              rintro e y ⟨rfl, hb⟩
              rw [← HE.out]
              replace B := Lib.hid (below_thru B.out (Nat.le_refl _) hb)
              replace HT := Lib.hid (HT.out.below hb)
              replace XA := Lib.hid (XA.out.below hb)
              replace XD := Lib.hid (XD.out.below hb)
              replace XE := Lib.hid (XE.out.below hb)
              replace XB := Lib.hid (XB.out.below hb)
              replace XC := Lib.hid (XC.out.below hb)
              replace HXb := Lib.hid (HXb.out.below hb)
              replace HXc := Lib.hid (HXc.out.below hb)
              replace HXd := Lib.hid (HXd.out.below hb)
              replace HXe := Lib.hid (HXe.out.below hb)
              clear hb))
        clear HT XA XD XE HXd HXe HV HO HE n1 n2 n3 m0 m1 m2 m3 hwr HN HM
        go_wp2_with fail
        have hb := below_drew y
        replace B := Lib.hid (below_thru B.out (Nat.le_refl _) hb)
        replace XB := Lib.hid (XB.out.below hb)
        replace XC := Lib.hid (XC.out.below hb)
        replace HXb := Lib.hid (HXb.out.below hb)
        replace HXc := Lib.hid (HXc.out.below hb)
        clear hb
        go_region_held3 (fun w' => w'.cell? ⟨w5.heap.size, 0, none⟩ = some (.int .i64 bk) ∧ w'.cell? ⟨w5.heap.size, 1, none⟩ = some (.slice ba bn bc) ∧ w'.cell? ⟨w5.heap.size + 1, 0, none⟩ = some (.int .i64 ck) ∧ w'.cell? ⟨w5.heap.size + 1, 1, none⟩ = some (.slice ca cn cc))
          (exact ⟨XB.out.2 0, XB.out.2 1, XC.out.2 0, XC.out.2 1⟩)
          (first
           | (go_at_call 14
              refine (implEqual _ _ _ _ _ _ HP.out HQ.out).mono ?_
              rintro e y ⟨rfl, hb⟩
              rw [Ty.beq_refl]
              clear HP HQ
              replace B := Lib.hid (below_thru B.out (Nat.le_refl _) hb)
              replace XB := Lib.hid (XB.out.below hb)
              replace XC := Lib.hid (XC.out.below hb)
              replace HXb := Lib.hid (HXb.out.below hb)
              replace HXc := Lib.hid (HXc.out.below hb)
              clear hb)
           | (go_at_call 16
              refine (implArrowType _ _ _ tb tc _ (by omega) (by omega) HXb.out.max1 HXc.out.max2).mono ?_
              rintro e y ⟨vz, fp, rfl, ht, hf, hb⟩
              have HP := Lib.hid ht.at_
              clear ht hf
              replace B := Lib.hid (below_thru B.out (Nat.le_refl _) hb)
              replace XB := Lib.hid (XB.out.below hb)
              replace XC := Lib.hid (XC.out.below hb)
              replace HXb := Lib.hid (HXb.out.below hb)
              replace HXc := Lib.hid (HXc.out.below hb)
              clear hb)
           | (go_at_call 17
              refine (specArrowType _ _ _ tb tc _ (by omega) (by omega) HXb.out.max1 HXc.out.max2).mono ?_
              rintro e y ⟨vz, fp, rfl, ht, hf, hb⟩
              have HQ := Lib.hid ht.at_
              clear ht hf
              replace HP := Lib.hid (HP.out.below hb)
              replace B := Lib.hid (below_thru B.out (Nat.le_refl _) hb)
              replace XB := Lib.hid (XB.out.below hb)
              replace XC := Lib.hid (XC.out.below hb)
              replace HXb := Lib.hid (HXb.out.below hb)
              replace HXc := Lib.hid (HXc.out.below hb)
              clear hb)
           | (go_at_call 18
              refine (implPairType _ _ _ tb tc _ (by omega) (by omega) HXb.out.max1 HXc.out.max2).mono ?_
              rintro e y ⟨vz, fp, rfl, ht, hf, hb⟩
              have HP := Lib.hid ht.at_
              clear ht hf
              replace B := Lib.hid (below_thru B.out (Nat.le_refl _) hb)
              replace XB := Lib.hid (XB.out.below hb)
              replace XC := Lib.hid (XC.out.below hb)
              replace HXb := Lib.hid (HXb.out.below hb)
              replace HXc := Lib.hid (HXc.out.below hb)
              clear hb)
           | (go_at_call 19
              refine (specPairType _ _ _ tb tc _ (by omega) (by omega) HXb.out.max1 HXc.out.max2).mono ?_
              rintro e y ⟨vz, fp, rfl, ht, hf, hb⟩
              have HQ := Lib.hid ht.at_
              clear ht hf
              replace HP := Lib.hid (HP.out.below hb)
              replace B := Lib.hid (below_thru B.out (Nat.le_refl _) hb)
              replace XB := Lib.hid (XB.out.below hb)
              replace XC := Lib.hid (XC.out.below hb)
              replace HXb := Lib.hid (HXb.out.below hb)
              replace HXc := Lib.hid (HXc.out.below hb)
              clear hb)
           | (go_at_call 20
              refine (implNumType _).mono ?_
              rintro e y ⟨rfl, hb⟩
              have HP := Lib.hid (leaf_at y 2 (by omega) (by omega))
              replace B := Lib.hid (below_thru B.out (Nat.le_refl _) hb)
              replace XB := Lib.hid (XB.out.below hb)
              replace XC := Lib.hid (XC.out.below hb)
              replace HXb := Lib.hid (HXb.out.below hb)
              replace HXc := Lib.hid (HXc.out.below hb)
              clear hb)
           | (go_at_call 21
              refine (specNumType _).mono ?_
              rintro e y ⟨rfl, hb⟩
              have HQ := Lib.hid (leaf_at y 2 (by omega) (by omega))
              replace HP := Lib.hid (HP.out.below hb)
              replace B := Lib.hid (below_thru B.out (Nat.le_refl _) hb)
              replace XB := Lib.hid (XB.out.below hb)
              replace XC := Lib.hid (XC.out.below hb)
              replace HXb := Lib.hid (HXb.out.below hb)
              replace HXc := Lib.hid (HXc.out.below hb)
              clear hb)
           | (go_at_call 22
              refine (implBoolType _).mono ?_
              rintro e y ⟨rfl, hb⟩
              have HP := Lib.hid (leaf_at y 3 (by omega) (by omega))
              replace B := Lib.hid (below_thru B.out (Nat.le_refl _) hb)
              replace XB := Lib.hid (XB.out.below hb)
              replace XC := Lib.hid (XC.out.below hb)
              replace HXb := Lib.hid (HXb.out.below hb)
              replace HXc := Lib.hid (HXc.out.below hb)
              clear hb)
           | (go_at_call 23
              refine (specBoolType _).mono ?_
              rintro e y ⟨rfl, hb⟩
              have HQ := Lib.hid (leaf_at y 3 (by omega) (by omega))
              replace HP := Lib.hid (HP.out.below hb)
              replace B := Lib.hid (below_thru B.out (Nat.le_refl _) hb)
              replace XB := Lib.hid (XB.out.below hb)
              replace XC := Lib.hid (XC.out.below hb)
              replace HXb := Lib.hid (HXb.out.below hb)
              replace HXc := Lib.hid (HXc.out.below hb)
              clear hb)
           | (go_at_call 24
              refine (implUnknownType _).mono ?_
              rintro e y ⟨rfl, hb⟩
              have HP := Lib.hid (leaf_at y 1 (by omega) (by omega))
              replace B := Lib.hid (below_thru B.out (Nat.le_refl _) hb)
              replace XB := Lib.hid (XB.out.below hb)
              replace XC := Lib.hid (XC.out.below hb)
              replace HXb := Lib.hid (HXb.out.below hb)
              replace HXc := Lib.hid (HXc.out.below hb)
              clear hb)
           | (go_at_call 25
              refine (specUnknownType _).mono ?_
              rintro e y ⟨rfl, hb⟩
              have HQ := Lib.hid (leaf_at y 1 (by omega) (by omega))
              replace HP := Lib.hid (HP.out.below hb)
              replace B := Lib.hid (below_thru B.out (Nat.le_refl _) hb)
              replace XB := Lib.hid (XB.out.below hb)
              replace XC := Lib.hid (XC.out.below hb)
              replace HXb := Lib.hid (HXb.out.below hb)
              replace HXc := Lib.hid (HXc.out.below hb)
              clear hb))
        go_wp2_with fail
        go_ret
        exact ⟨by simp, B.out⟩
end Go.Proofs.Ytmkifhfdpnlhnaa
