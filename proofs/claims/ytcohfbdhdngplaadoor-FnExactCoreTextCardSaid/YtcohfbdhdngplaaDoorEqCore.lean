/-
  Proved: laws.eqCore, eqCoreS, eqCoreBind and eqCoreBindS answer true for two readings of the same core expression, and change no memory that was there.
-/
import Derived.Test.YtcohfbdhdngplaaDoorCoTree
import Derived.Test.YtcohfbdhdngplaaDoorEqType
import Derived.Test.YtcohfbdhdngplaaDoorTyEq
import Derived.StillTailTactics
namespace Go.Proofs.YtcohfbdhdngplaaDoor
open Go.RowKit

def EqCoSaid (d : Nat) : Prop := ∀ (v1 v2 : Value) (t : Co) (w : World), CoAt w d v1 t → CoAt w d v2 t →
  Calls Tryd.prog 30 #[v1, v2] w (EqTrueEnd w)
def EqCosSaid (d : Nat) : Prop := ∀ (v1 v2 : Value) (ts : List Co) (w : World), CosAt w d v1 ts → CosAt w d v2 ts →
  Calls Tryd.prog 65 #[v1, v2] w (EqTrueEnd w)
def EqCbSaid (d : Nat) : Prop := ∀ (v1 v2 : Value) (nm : ByteArray) (t : Co) (w : World), CbAt w d v1 nm t → CbAt w d v2 nm t →
  Calls Tryd.prog 102 #[v1, v2] w (EqTrueEnd w)
def EqCbsSaid (d : Nat) : Prop := ∀ (v1 v2 : Value) (ns : List ByteArray) (ts : List Co) (w : World), CbsAt w d v1 ns ts → CbsAt w d v2 ns ts →
  Calls Tryd.prog 66 #[v1, v2] w (EqTrueEnd w)

set_option maxRecDepth 100000 in
set_option maxHeartbeats 2000000 in
theorem eqCos_step (d : Nat) (ih : EqCoSaid d) : EqCosSaid d := by
  intro v1 v2 ts w h1 h2
  have IH := Lib.hid ih; clear ih
  obtain ⟨a1, cap1, rfl, hcap1, hm1, hat1⟩ := h1
  obtain ⟨a2, cap2, rfl, hcap2, hm2, hat2⟩ := h2
  have HA1 := Lib.hid hat1; clear hat1
  have HA2 := Lib.hid hat2; clear hat2
  go_enter Tryd.func65, Tryd.ntmps65
  go_wp2_with fail
  go_loopw [5] (fun i wr => ∃ k : Nat, k ≤ ts.length ∧ i = .int .i64 k ∧ Below w.heap.size w wr) (fun i _ => ts.length - (intOf i).toNat)
  case atStart => exact ⟨0, by omega, rfl, Below.refl _ _⟩
  case round =>
    obtain ⟨k, hk, rfl, hb⟩ := hrel
    have HB := Lib.hid hb; clear hb
    by_cases hlt : k < ts.length
    · obtain ⟨b1, off1, x0, x1, x2, x3, x4, x5, x6, x7, x8, rfl, hbl1, hc10, hc11, hc12, hc13, hc14, hc15, hc16, hc17, hc18, ht1⟩ := HA1.out k hlt
      obtain ⟨b2, off2, y0, y1, y2, y3, y4, y5, y6, y7, y8, rfl, hbl2, hc20, hc21, hc22, hc23, hc24, hc25, hc26, hc27, hc28, ht2⟩ := HA2.out k hlt
      have c10 : wr.cell? ⟨b1, off1 + k * 9, none⟩ = some x0 := by rw [HB.out.cell (p := ⟨b1, off1 + k * 9, none⟩) hbl1]; exact hc10
      have c11 : wr.cell? ⟨b1, off1 + k * 9 + 1, none⟩ = some x1 := by rw [HB.out.cell (p := ⟨b1, off1 + k * 9 + 1, none⟩) hbl1]; exact hc11
      have c12 : wr.cell? ⟨b1, off1 + k * 9 + 2, none⟩ = some x2 := by rw [HB.out.cell (p := ⟨b1, off1 + k * 9 + 2, none⟩) hbl1]; exact hc12
      have c13 : wr.cell? ⟨b1, off1 + k * 9 + 3, none⟩ = some x3 := by rw [HB.out.cell (p := ⟨b1, off1 + k * 9 + 3, none⟩) hbl1]; exact hc13
      have c14 : wr.cell? ⟨b1, off1 + k * 9 + 4, none⟩ = some x4 := by rw [HB.out.cell (p := ⟨b1, off1 + k * 9 + 4, none⟩) hbl1]; exact hc14
      have c15 : wr.cell? ⟨b1, off1 + k * 9 + 5, none⟩ = some x5 := by rw [HB.out.cell (p := ⟨b1, off1 + k * 9 + 5, none⟩) hbl1]; exact hc15
      have c16 : wr.cell? ⟨b1, off1 + k * 9 + 6, none⟩ = some x6 := by rw [HB.out.cell (p := ⟨b1, off1 + k * 9 + 6, none⟩) hbl1]; exact hc16
      have c17 : wr.cell? ⟨b1, off1 + k * 9 + 7, none⟩ = some x7 := by rw [HB.out.cell (p := ⟨b1, off1 + k * 9 + 7, none⟩) hbl1]; exact hc17
      have c18 : wr.cell? ⟨b1, off1 + k * 9 + 8, none⟩ = some x8 := by rw [HB.out.cell (p := ⟨b1, off1 + k * 9 + 8, none⟩) hbl1]; exact hc18
      have c20 : wr.cell? ⟨b2, off2 + k * 9, none⟩ = some y0 := by rw [HB.out.cell (p := ⟨b2, off2 + k * 9, none⟩) hbl2]; exact hc20
      have c21 : wr.cell? ⟨b2, off2 + k * 9 + 1, none⟩ = some y1 := by rw [HB.out.cell (p := ⟨b2, off2 + k * 9 + 1, none⟩) hbl2]; exact hc21
      have c22 : wr.cell? ⟨b2, off2 + k * 9 + 2, none⟩ = some y2 := by rw [HB.out.cell (p := ⟨b2, off2 + k * 9 + 2, none⟩) hbl2]; exact hc22
      have c23 : wr.cell? ⟨b2, off2 + k * 9 + 3, none⟩ = some y3 := by rw [HB.out.cell (p := ⟨b2, off2 + k * 9 + 3, none⟩) hbl2]; exact hc23
      have c24 : wr.cell? ⟨b2, off2 + k * 9 + 4, none⟩ = some y4 := by rw [HB.out.cell (p := ⟨b2, off2 + k * 9 + 4, none⟩) hbl2]; exact hc24
      have c25 : wr.cell? ⟨b2, off2 + k * 9 + 5, none⟩ = some y5 := by rw [HB.out.cell (p := ⟨b2, off2 + k * 9 + 5, none⟩) hbl2]; exact hc25
      have c26 : wr.cell? ⟨b2, off2 + k * 9 + 6, none⟩ = some y6 := by rw [HB.out.cell (p := ⟨b2, off2 + k * 9 + 6, none⟩) hbl2]; exact hc26
      have c27 : wr.cell? ⟨b2, off2 + k * 9 + 7, none⟩ = some y7 := by rw [HB.out.cell (p := ⟨b2, off2 + k * 9 + 7, none⟩) hbl2]; exact hc27
      have c28 : wr.cell? ⟨b2, off2 + k * 9 + 8, none⟩ = some y8 := by rw [HB.out.cell (p := ⟨b2, off2 + k * 9 + 8, none⟩) hbl2]; exact hc28
      have HT1 := Lib.hid (ht1.below HB.out.drew)
      have HT2 := Lib.hid (ht2.below HB.out.drew)
      clear ht1 ht2 hc10 hc11 hc12 hc13 hc14 hc15 hc16 hc17 hc18 hc20 hc21 hc22 hc23 hc24 hc25 hc26 hc27 hc28
      go_wp2_with fail
      go_still_tail 8, (by kernel_rfl)
      change wpList _ _ _ _ _ wr.drew
      go_wp2_with fail
      refine (IH.out _ _ _ wr.drew HT1.out HT2.out).mono ?_
      rintro e w' ⟨rfl, hb1⟩
      have HB2 := Lib.hid (HB.out.drew.trans (hb1.mono HB.out.drew.size)); clear hb1
      go_wp2_with fail
      exact ⟨⟨k + 1, by omega, by go_num, HB2.out⟩, by simp [intOf]; omega⟩
    · go_wp2_with fail
      go_ret
      exact ⟨rfl, HB.out⟩

set_option maxRecDepth 100000 in
set_option maxHeartbeats 2000000 in
theorem eqCbs_step (d : Nat) (ih : EqCbSaid d) : EqCbsSaid d := by
  intro v1 v2 ns ts w h1 h2
  have IH := Lib.hid ih; clear ih
  obtain ⟨hln1, a1, cap1, rfl, hcap1, hm1, hat1⟩ := h1
  obtain ⟨hln2, a2, cap2, rfl, hcap2, hm2, hat2⟩ := h2
  have HA1 := Lib.hid hat1; clear hat1
  have HA2 := Lib.hid hat2; clear hat2
  go_enter Tryd.func66, Tryd.ntmps66
  go_wp2_with fail
  go_loopw [5] (fun i wr => ∃ k : Nat, k ≤ ts.length ∧ i = .int .i64 k ∧ Below w.heap.size w wr) (fun i _ => ts.length - (intOf i).toNat)
  case atStart => exact ⟨0, by omega, rfl, Below.refl _ _⟩
  case round =>
    obtain ⟨k, hk, rfl, hb⟩ := hrel
    have HB := Lib.hid hb; clear hb
    by_cases hlt : k < ts.length
    · have hlt2 : k < ns.length := by omega
      obtain ⟨b1, off1, x0, x1, x2, x3, x4, x5, x6, x7, x8, rfl, hbl1, hnz1, hcn1, hc10, hc11, hc12, hc13, hc14, hc15, hc16, hc17, hc18, ht1⟩ := HA1.out k hlt hlt2
      obtain ⟨b2, off2, y0, y1, y2, y3, y4, y5, y6, y7, y8, rfl, hbl2, hnz2, hcn2, hc20, hc21, hc22, hc23, hc24, hc25, hc26, hc27, hc28, ht2⟩ := HA2.out k hlt hlt2
      have c10 : wr.cell? ⟨b1, off1 + k * 10, none⟩ = some (.string ns[k]) := by rw [HB.out.cell (p := ⟨b1, off1 + k * 10, none⟩) hbl1]; exact hcn1
      have c11 : wr.cell? ⟨b1, off1 + k * 10 + 1, none⟩ = some x0 := by rw [HB.out.cell (p := ⟨b1, off1 + k * 10 + 1, none⟩) hbl1]; exact hc10
      have c12 : wr.cell? ⟨b1, off1 + k * 10 + 2, none⟩ = some x1 := by rw [HB.out.cell (p := ⟨b1, off1 + k * 10 + 2, none⟩) hbl1]; exact hc11
      have c13 : wr.cell? ⟨b1, off1 + k * 10 + 3, none⟩ = some x2 := by rw [HB.out.cell (p := ⟨b1, off1 + k * 10 + 3, none⟩) hbl1]; exact hc12
      have c14 : wr.cell? ⟨b1, off1 + k * 10 + 4, none⟩ = some x3 := by rw [HB.out.cell (p := ⟨b1, off1 + k * 10 + 4, none⟩) hbl1]; exact hc13
      have c15 : wr.cell? ⟨b1, off1 + k * 10 + 5, none⟩ = some x4 := by rw [HB.out.cell (p := ⟨b1, off1 + k * 10 + 5, none⟩) hbl1]; exact hc14
      have c16 : wr.cell? ⟨b1, off1 + k * 10 + 6, none⟩ = some x5 := by rw [HB.out.cell (p := ⟨b1, off1 + k * 10 + 6, none⟩) hbl1]; exact hc15
      have c17 : wr.cell? ⟨b1, off1 + k * 10 + 7, none⟩ = some x6 := by rw [HB.out.cell (p := ⟨b1, off1 + k * 10 + 7, none⟩) hbl1]; exact hc16
      have c18 : wr.cell? ⟨b1, off1 + k * 10 + 8, none⟩ = some x7 := by rw [HB.out.cell (p := ⟨b1, off1 + k * 10 + 8, none⟩) hbl1]; exact hc17
      have c19 : wr.cell? ⟨b1, off1 + k * 10 + 9, none⟩ = some x8 := by rw [HB.out.cell (p := ⟨b1, off1 + k * 10 + 9, none⟩) hbl1]; exact hc18
      have c20 : wr.cell? ⟨b2, off2 + k * 10, none⟩ = some (.string ns[k]) := by rw [HB.out.cell (p := ⟨b2, off2 + k * 10, none⟩) hbl2]; exact hcn2
      have c21 : wr.cell? ⟨b2, off2 + k * 10 + 1, none⟩ = some y0 := by rw [HB.out.cell (p := ⟨b2, off2 + k * 10 + 1, none⟩) hbl2]; exact hc20
      have c22 : wr.cell? ⟨b2, off2 + k * 10 + 2, none⟩ = some y1 := by rw [HB.out.cell (p := ⟨b2, off2 + k * 10 + 2, none⟩) hbl2]; exact hc21
      have c23 : wr.cell? ⟨b2, off2 + k * 10 + 3, none⟩ = some y2 := by rw [HB.out.cell (p := ⟨b2, off2 + k * 10 + 3, none⟩) hbl2]; exact hc22
      have c24 : wr.cell? ⟨b2, off2 + k * 10 + 4, none⟩ = some y3 := by rw [HB.out.cell (p := ⟨b2, off2 + k * 10 + 4, none⟩) hbl2]; exact hc23
      have c25 : wr.cell? ⟨b2, off2 + k * 10 + 5, none⟩ = some y4 := by rw [HB.out.cell (p := ⟨b2, off2 + k * 10 + 5, none⟩) hbl2]; exact hc24
      have c26 : wr.cell? ⟨b2, off2 + k * 10 + 6, none⟩ = some y5 := by rw [HB.out.cell (p := ⟨b2, off2 + k * 10 + 6, none⟩) hbl2]; exact hc25
      have c27 : wr.cell? ⟨b2, off2 + k * 10 + 7, none⟩ = some y6 := by rw [HB.out.cell (p := ⟨b2, off2 + k * 10 + 7, none⟩) hbl2]; exact hc26
      have c28 : wr.cell? ⟨b2, off2 + k * 10 + 8, none⟩ = some y7 := by rw [HB.out.cell (p := ⟨b2, off2 + k * 10 + 8, none⟩) hbl2]; exact hc27
      have c29 : wr.cell? ⟨b2, off2 + k * 10 + 9, none⟩ = some y8 := by rw [HB.out.cell (p := ⟨b2, off2 + k * 10 + 9, none⟩) hbl2]; exact hc28
      have HT1 := Lib.hid (ht1.below HB.out.drew)
      have HT2 := Lib.hid (ht2.below HB.out.drew)
      clear ht1 ht2 hcn1 hcn2 hc10 hc11 hc12 hc13 hc14 hc15 hc16 hc17 hc18 hc20 hc21 hc22 hc23 hc24 hc25 hc26 hc27 hc28
      go_wp2_with fail
      go_still_tail 8, (by kernel_rfl)
      change wpList _ _ _ _ _ wr.drew
      go_wp2_with fail
      refine (IH.out _ _ ns[k] _ wr.drew ⟨hnz1, _, _, _, _, _, _, _, _, _, rfl, HT1.out⟩ ⟨hnz1, _, _, _, _, _, _, _, _, _, rfl, HT2.out⟩).mono ?_
      rintro e w' ⟨rfl, hb1⟩
      have HB2 := Lib.hid (HB.out.drew.trans (hb1.mono HB.out.drew.size)); clear hb1
      go_wp2_with fail
      exact ⟨⟨k + 1, by omega, by go_num, HB2.out⟩, by simp [intOf]; omega⟩
    · go_wp2_with fail
      go_ret
      exact ⟨rfl, HB.out⟩

set_option maxRecDepth 100000 in
set_option maxHeartbeats 2000000 in
theorem eqCo_step (d : Nat) (ih : EqCosSaid d) (ih2 : EqCbsSaid d) : EqCoSaid (d + 1) := by
  intro v1 v2 t w h1 h2
  have IH := Lib.hid ih; clear ih
  have IH2 := Lib.hid ih2; clear ih2
  have HV1 := co_parts h1
  have HV2 := co_parts h2
  cases t with
  | node kd nm0 n0 fr ty ts ns vs =>
    obtain ⟨c3, c4, c5, c6, sl, el, rfl, hk0, hk1, hn0, hn1, hnm, hfr1, hty1, g1, e1⟩ := h1
    obtain ⟨d3, d4, d5, d6, sl2, el2, rfl, _, _, _, _, _, hfr2, hty2, g2, e2⟩ := h2
    obtain ⟨ak, anm, an, afk, afa, afn, afc, atk, ata, atn, atc, asa, asn, asc, aea, aen, aec, hv⟩ := HV1
    injection hv with hv
    injection hv with hv
    simp at hv
    obtain ⟨rfl, rfl, rfl, rfl, rfl, rfl, rfl, rfl, rfl⟩ := hv
    obtain ⟨bk, bnm, bn, bfk, bfa, bfn, bfc, btk, bta, btn, btc, bsa, bsn, bsc, bea, ben, bec, hv⟩ := HV2
    injection hv with hv
    injection hv with hv
    simp at hv
    obtain ⟨rfl, rfl, rfl, rfl, rfl, rfl, rfl, rfl, rfl⟩ := hv
    have hb2 : Below w.heap.size w ((w.alloc (.cells #[.int .i64 kd, .string nm0, .int .i64 n0, .int .i64 afk, .slice afa afn afc, .int .i64 atk, .slice ata atn atc, .slice asa asn asc, .slice aea aen aec] 67)).alloc (.cells #[.int .i64 kd, .string nm0, .int .i64 n0, .int .i64 bfk, .slice bfa bfn bfc, .int .i64 btk, .slice bta btn btc, .slice bsa bsn bsc, .slice bea ben bec] 67)) := ((Below.refl _ _).alloc (Nat.le_refl _) _).alloc (by simp) _
    have HF1 := Lib.hid (hfr1.below hb2)
    have HF2 := Lib.hid (hfr2.below hb2)
    have HY1 := Lib.hid (hty1.below hb2)
    have HY2 := Lib.hid (hty2.below hb2)
    have HT1 : Hid (CosAt ((w.alloc (.cells #[.int .i64 kd, .string nm0, .int .i64 n0, .int .i64 afk, .slice afa afn afc, .int .i64 atk, .slice ata atn atc, .slice asa asn asc, .slice aea aen aec] 67)).alloc (.cells #[.int .i64 kd, .string nm0, .int .i64 n0, .int .i64 bfk, .slice bfa bfn bfc, .int .i64 btk, .slice bta btn btc, .slice bsa bsn bsc, .slice bea ben bec] 67)) d (.slice asa asn asc) ts) := CosAt.below g1 hb2
    have HT2 : Hid (CosAt ((w.alloc (.cells #[.int .i64 kd, .string nm0, .int .i64 n0, .int .i64 afk, .slice afa afn afc, .int .i64 atk, .slice ata atn atc, .slice asa asn asc, .slice aea aen aec] 67)).alloc (.cells #[.int .i64 kd, .string nm0, .int .i64 n0, .int .i64 bfk, .slice bfa bfn bfc, .int .i64 btk, .slice bta btn btc, .slice bsa bsn bsc, .slice bea ben bec] 67)) d (.slice bsa bsn bsc) ts) := CosAt.below g2 hb2
    have HE1 : Hid (CbsAt ((w.alloc (.cells #[.int .i64 kd, .string nm0, .int .i64 n0, .int .i64 afk, .slice afa afn afc, .int .i64 atk, .slice ata atn atc, .slice asa asn asc, .slice aea aen aec] 67)).alloc (.cells #[.int .i64 kd, .string nm0, .int .i64 n0, .int .i64 bfk, .slice bfa bfn bfc, .int .i64 btk, .slice bta btn btc, .slice bsa bsn bsc, .slice bea ben bec] 67)) d (.slice aea aen aec) ns vs) := CbsAt.below e1 hb2
    have HE2 : Hid (CbsAt ((w.alloc (.cells #[.int .i64 kd, .string nm0, .int .i64 n0, .int .i64 afk, .slice afa afn afc, .int .i64 atk, .slice ata atn atc, .slice asa asn asc, .slice aea aen aec] 67)).alloc (.cells #[.int .i64 kd, .string nm0, .int .i64 n0, .int .i64 bfk, .slice bfa bfn bfc, .int .i64 btk, .slice bta btn btc, .slice bsa bsn bsc, .slice bea ben bec] 67)) d (.slice bea ben bec) ns vs) := CbsAt.below e2 hb2
    clear hb2 hfr1 hfr2 hty1 hty2 g1 g2 e1 e2
    go_enter Tryd.func30, Tryd.ntmps30
    go_wp2_with fail
    refine (eqTy_all d _ _ fr _ HF1.out HF2.out).mono ?_
    rintro e w1 ⟨rfl, hb1⟩
    have HB := Lib.hid (two_on (Below.refl _ _) hb1)
    replace HY1 := Lib.hid (HY1.out.below hb1)
    replace HY2 := Lib.hid (HY2.out.below hb1)
    replace HT1 := Lib.hid (HT1.out.below hb1)
    replace HT2 := Lib.hid (HT2.out.below hb1)
    replace HE1 := Lib.hid (HE1.out.below hb1)
    replace HE2 := Lib.hid (HE2.out.below hb1)
    clear hb1 HF1 HF2
    have p5 := two_first HB.out 5
    have q5 := two_next HB.out 5
    have p6 := two_first HB.out 6
    have q6 := two_next HB.out 6
    go_wp2_with fail
    clear p5 q5 p6 q6
    refine (eqTy_all d _ _ ty _ HY1.out HY2.out).mono ?_
    rintro e w2 ⟨rfl, hb1⟩
    replace HB := Lib.hid (two_on HB.out hb1)
    replace HT1 := Lib.hid (HT1.out.below hb1)
    replace HT2 := Lib.hid (HT2.out.below hb1)
    replace HE1 := Lib.hid (HE1.out.below hb1)
    replace HE2 := Lib.hid (HE2.out.below hb1)
    clear hb1 HY1 HY2
    have p7 := two_first HB.out 7
    have q7 := two_next HB.out 7
    go_wp2_with fail
    clear p7 q7
    refine (IH.out _ _ ts _ HT1.out HT2.out).mono ?_
    rintro e w3 ⟨rfl, hb1⟩
    replace HB := Lib.hid (two_on HB.out hb1)
    replace HE1 := Lib.hid (HE1.out.below hb1)
    replace HE2 := Lib.hid (HE2.out.below hb1)
    clear hb1 HT1 HT2
    have p8 := two_first HB.out 8
    have q8 := two_next HB.out 8
    go_wp2_with fail
    clear p8 q8
    refine (IH2.out _ _ ns vs _ HE1.out HE2.out).mono ?_
    rintro e w4 ⟨rfl, hb1⟩
    replace HB := Lib.hid (two_on HB.out hb1)
    clear hb1 HE1 HE2
    go_wp2_with fail
    go_ret
    exact ⟨rfl, two_below HB.out⟩

set_option maxRecDepth 100000 in
set_option maxHeartbeats 2000000 in
theorem eqCb_step (d : Nat) (ih : EqCoSaid d) : EqCbSaid d := by
  intro v1 v2 nm0 t w h1 h2
  have IH := Lib.hid ih; clear ih
  obtain ⟨ak, anm, an, afk, afa, afn, afc, atk, ata, atn, atc, asa, asn, asc, aea, aen, aec, rfl⟩ := cb_parts h1
  obtain ⟨hnz1, c0, c1, c2, c3, c4, c5, c6, c7, c8, hv, h1⟩ := h1
  have hv2 : .int .i64 ak = c0 ∧ .string anm = c1 ∧ .int .i64 an = c2 ∧ .int .i64 afk = c3 ∧ .slice afa afn afc = c4 ∧ .int .i64 atk = c5 ∧ .slice ata atn atc = c6 ∧ .slice asa asn asc = c7 ∧ .slice aea aen aec = c8 := by injection hv with hv; injection hv with hv; simpa using hv
  obtain ⟨rfl, rfl, rfl, rfl, rfl, rfl, rfl, rfl, rfl⟩ := hv2
  clear hv
  obtain ⟨bk, bnm, bn, bfk, bfa, bfn, bfc, btk, bta, btn, btc, bsa, bsn, bsc, bea, ben, bec, rfl⟩ := cb_parts h2
  obtain ⟨hnz2, c0, c1, c2, c3, c4, c5, c6, c7, c8, hv, h2⟩ := h2
  have hv2 : .int .i64 bk = c0 ∧ .string bnm = c1 ∧ .int .i64 bn = c2 ∧ .int .i64 bfk = c3 ∧ .slice bfa bfn bfc = c4 ∧ .int .i64 btk = c5 ∧ .slice bta btn btc = c6 ∧ .slice bsa bsn bsc = c7 ∧ .slice bea ben bec = c8 := by injection hv with hv; injection hv with hv; simpa using hv
  obtain ⟨rfl, rfl, rfl, rfl, rfl, rfl, rfl, rfl, rfl⟩ := hv2
  clear hv
  have hb2 : Below w.heap.size w ((w.alloc (.cells #[.string nm0, .int .i64 ak, .string anm, .int .i64 an, .int .i64 afk, .slice afa afn afc, .int .i64 atk, .slice ata atn atc, .slice asa asn asc, .slice aea aen aec] 127)).alloc (.cells #[.string nm0, .int .i64 bk, .string bnm, .int .i64 bn, .int .i64 bfk, .slice bfa bfn bfc, .int .i64 btk, .slice bta btn btc, .slice bsa bsn bsc, .slice bea ben bec] 127)) := ((Below.refl _ _).alloc (Nat.le_refl _) _).alloc (by simp) _
  have HT1 := Lib.hid (h1.below hb2)
  have HT2 := Lib.hid (h2.below hb2)
  clear hb2 h1 h2
  go_enter Tryd.func102, Tryd.ntmps102
  go_wp2_with fail
  refine (IH.out _ _ t _ HT1.out HT2.out).mono ?_
  rintro e w1 ⟨rfl, hb1⟩
  have HB := Lib.hid (two_on (Below.refl _ _) hb1)
  clear hb1 HT1 HT2
  go_wp2_with fail
  go_ret
  exact ⟨rfl, two_below HB.out⟩
theorem eqCo_all : ∀ d, EqCoSaid d
  | 0 => fun _ _ _ _ h => h.elim
  | d + 1 => eqCo_step d (eqCos_step d (eqCo_all d)) (eqCbs_step d (eqCb_step d (eqCo_all d)))
theorem eqCbs_all (d : Nat) : EqCbsSaid d := eqCbs_step d (eqCb_step d (eqCo_all d))
end Go.Proofs.YtcohfbdhdngplaaDoor
