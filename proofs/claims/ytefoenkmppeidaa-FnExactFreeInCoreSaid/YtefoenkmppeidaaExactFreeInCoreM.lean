/-
  Proved: the law FnExactFreeInCore: for every core expression, impl.FreeInCore returns the same as the reference, in memory of its own, and changes no argument. Nothing is asked of the input.
-/
import Derived.Test.YtefoenkmppeidaaCoTree
import Derived.Test.YtefoenkmppeidaaEqType
import Derived.Test.YtefoenkmppeidaaTyEq
import Derived.StillTailTactics
import Derived.Test.YtefoenkmppeidaaMarkCoTree
import Derived.Test.YtefoenkmppeidaaOwnIn
import Derived.Test.YtefoenkmppeidaaStrs
import Derived.BigQuiet
import Derived.Deep.QuietTactic
import Derived.Test.YtefoenkmppeidaaCoFree
import Derived.Test.YtefoenkmppeidaaSpecUniteS
import Derived.Test.YtefoenkmppeidaaSzCore
import Derived.Test.YtefoenkmppeidaaImplSeek
import Derived.Test.YtefoenkmppeidaaTwo
import Derived.Test.YtefoenkmppeidaaToType
import Derived.Test.YtefoenkmppeidaaPut
import Derived.Test.YtefoenkmppeidaaHold
import Derived.Test.YtefoenkmppeidaaStrsIn
import Derived.Deep.RegionHeld3
import Derived.Test.YtefoenkmppeidaaRows
import Derived.Test.YtefoenkmppeidaaLaw
import Derived.Deep.DeepHandedRow
import Derived.Lib.LaidTab
import Derived.LaidMore
import Derived.Test.YtefoenkmppeidaaCoreArg
/-
  Proved: laws.eqCore, eqCoreS, eqCoreBind and eqCoreBindS answer true for two readings of the same core expression, and change no memory that was there.
-/
namespace Go.Proofs.Ytefoenkmppeidaa
open Go.RowKit

def EqCoSaid (d : Nat) : Prop := ∀ (v1 v2 : Value) (t : Co) (w : World), CoAt w d v1 t → CoAt w d v2 t →
  Calls Try.prog 29 #[v1, v2] w (EqTrueEnd w)
def EqCosSaid (d : Nat) : Prop := ∀ (v1 v2 : Value) (ts : List Co) (w : World), CosAt w d v1 ts → CosAt w d v2 ts →
  Calls Try.prog 76 #[v1, v2] w (EqTrueEnd w)
def EqCbSaid (d : Nat) : Prop := ∀ (v1 v2 : Value) (nm : ByteArray) (t : Co) (w : World), CbAt w d v1 nm t → CbAt w d v2 nm t →
  Calls Try.prog 109 #[v1, v2] w (EqTrueEnd w)
def EqCbsSaid (d : Nat) : Prop := ∀ (v1 v2 : Value) (ns : List ByteArray) (ts : List Co) (w : World), CbsAt w d v1 ns ts → CbsAt w d v2 ns ts →
  Calls Try.prog 77 #[v1, v2] w (EqTrueEnd w)

set_option maxRecDepth 100000 in
set_option maxHeartbeats 2000000 in
theorem eqCos_step (d : Nat) (ih : EqCoSaid d) : EqCosSaid d := by
  intro v1 v2 ts w h1 h2
  have IH := Lib.hid ih; clear ih
  obtain ⟨a1, cap1, rfl, hcap1, hm1, hat1⟩ := h1
  obtain ⟨a2, cap2, rfl, hcap2, hm2, hat2⟩ := h2
  have HA1 := Lib.hid hat1; clear hat1
  have HA2 := Lib.hid hat2; clear hat2
  go_enter Try.func76, Try.ntmps76
  go_wp2_with fail
  go_loopw [5] (fun i wr => ∃ k : Nat, k ≤ ts.length ∧ i = .int .i64 k ∧ Below w.heap.size w wr) (fun i _ => ts.length - (intOf i).toNat)
  case atStart => exact ⟨0, by omega, rfl, Below.refl _ _⟩
  case round =>
    obtain ⟨k, hk, rfl, hb⟩ := hrel
    have HB := Lib.hid hb; clear hb
    by_cases hlt : k < ts.length
    · obtain ⟨b1, off1, x0, x1, x2, x3, x4, x5, x6, x7, x8, rfl, hbl1, hc10, hc11, hc12, hc13, hc14, hc15, hc16, hc17, hc18, ht1⟩ := HA1.out k hlt
      obtain ⟨b2, off2, y0, y1, y2, y3, y4, y5, y6, y7, y8, rfl, hbl2, hc20, hc21, hc22, hc23, hc24, hc25, hc26, hc27, hc28, ht2⟩ := HA2.out k hlt
      have c10 : wr.cell? ⟨b1, off1 + k * 9, none⟩ = some x0 := by rw [HB.out.cell (p := ⟨b1, off1 + k * 9, none⟩) hbl1]; exact hc10
      have c11 : wr.cell? ⟨b1, off1 + k * 9 + 1, none⟩ = some x1 := by rw [HB.out.cell (p := ⟨b1, off1 + k * 9 + 1, none⟩) hbl1]; exact hc11
      have c12 : wr.cell? ⟨b1, off1 + k * 9 + 2, none⟩ = some x2 := by rw [HB.out.cell (p := ⟨b1, off1 + k * 9 + 2, none⟩) hbl1]; exact hc12
      have c13 : wr.cell? ⟨b1, off1 + k * 9 + 3, none⟩ = some x3 := by rw [HB.out.cell (p := ⟨b1, off1 + k * 9 + 3, none⟩) hbl1]; exact hc13
      have c14 : wr.cell? ⟨b1, off1 + k * 9 + 4, none⟩ = some x4 := by rw [HB.out.cell (p := ⟨b1, off1 + k * 9 + 4, none⟩) hbl1]; exact hc14
      have c15 : wr.cell? ⟨b1, off1 + k * 9 + 5, none⟩ = some x5 := by rw [HB.out.cell (p := ⟨b1, off1 + k * 9 + 5, none⟩) hbl1]; exact hc15
      have c16 : wr.cell? ⟨b1, off1 + k * 9 + 6, none⟩ = some x6 := by rw [HB.out.cell (p := ⟨b1, off1 + k * 9 + 6, none⟩) hbl1]; exact hc16
      have c17 : wr.cell? ⟨b1, off1 + k * 9 + 7, none⟩ = some x7 := by rw [HB.out.cell (p := ⟨b1, off1 + k * 9 + 7, none⟩) hbl1]; exact hc17
      have c18 : wr.cell? ⟨b1, off1 + k * 9 + 8, none⟩ = some x8 := by rw [HB.out.cell (p := ⟨b1, off1 + k * 9 + 8, none⟩) hbl1]; exact hc18
      have c20 : wr.cell? ⟨b2, off2 + k * 9, none⟩ = some y0 := by rw [HB.out.cell (p := ⟨b2, off2 + k * 9, none⟩) hbl2]; exact hc20
      have c21 : wr.cell? ⟨b2, off2 + k * 9 + 1, none⟩ = some y1 := by rw [HB.out.cell (p := ⟨b2, off2 + k * 9 + 1, none⟩) hbl2]; exact hc21
      have c22 : wr.cell? ⟨b2, off2 + k * 9 + 2, none⟩ = some y2 := by rw [HB.out.cell (p := ⟨b2, off2 + k * 9 + 2, none⟩) hbl2]; exact hc22
      have c23 : wr.cell? ⟨b2, off2 + k * 9 + 3, none⟩ = some y3 := by rw [HB.out.cell (p := ⟨b2, off2 + k * 9 + 3, none⟩) hbl2]; exact hc23
      have c24 : wr.cell? ⟨b2, off2 + k * 9 + 4, none⟩ = some y4 := by rw [HB.out.cell (p := ⟨b2, off2 + k * 9 + 4, none⟩) hbl2]; exact hc24
      have c25 : wr.cell? ⟨b2, off2 + k * 9 + 5, none⟩ = some y5 := by rw [HB.out.cell (p := ⟨b2, off2 + k * 9 + 5, none⟩) hbl2]; exact hc25
      have c26 : wr.cell? ⟨b2, off2 + k * 9 + 6, none⟩ = some y6 := by rw [HB.out.cell (p := ⟨b2, off2 + k * 9 + 6, none⟩) hbl2]; exact hc26
      have c27 : wr.cell? ⟨b2, off2 + k * 9 + 7, none⟩ = some y7 := by rw [HB.out.cell (p := ⟨b2, off2 + k * 9 + 7, none⟩) hbl2]; exact hc27
      have c28 : wr.cell? ⟨b2, off2 + k * 9 + 8, none⟩ = some y8 := by rw [HB.out.cell (p := ⟨b2, off2 + k * 9 + 8, none⟩) hbl2]; exact hc28
      have HT1 := Lib.hid (ht1.below HB.out.drew)
      have HT2 := Lib.hid (ht2.below HB.out.drew)
      clear ht1 ht2 hc10 hc11 hc12 hc13 hc14 hc15 hc16 hc17 hc18 hc20 hc21 hc22 hc23 hc24 hc25 hc26 hc27 hc28
      go_wp2_with fail
      go_still_tail 8, (by kernel_rfl)
      change wpList _ _ _ _ _ wr.drew
      go_wp2_with fail
      refine (IH.out _ _ _ wr.drew HT1.out HT2.out).mono ?_
      rintro e w' ⟨rfl, hb1⟩
      have HB2 := Lib.hid (HB.out.drew.trans (hb1.mono HB.out.drew.size)); clear hb1
      go_wp2_with fail
      exact ⟨⟨k + 1, by omega, by go_num, HB2.out⟩, by simp [intOf]; omega⟩
    · go_wp2_with fail
      go_ret
      exact ⟨rfl, HB.out⟩

set_option maxRecDepth 100000 in
set_option maxHeartbeats 2000000 in
theorem eqCbs_step (d : Nat) (ih : EqCbSaid d) : EqCbsSaid d := by
  intro v1 v2 ns ts w h1 h2
  have IH := Lib.hid ih; clear ih
  obtain ⟨hln1, a1, cap1, rfl, hcap1, hm1, hat1⟩ := h1
  obtain ⟨hln2, a2, cap2, rfl, hcap2, hm2, hat2⟩ := h2
  have HA1 := Lib.hid hat1; clear hat1
  have HA2 := Lib.hid hat2; clear hat2
  go_enter Try.func77, Try.ntmps77
  go_wp2_with fail
  go_loopw [5] (fun i wr => ∃ k : Nat, k ≤ ts.length ∧ i = .int .i64 k ∧ Below w.heap.size w wr) (fun i _ => ts.length - (intOf i).toNat)
  case atStart => exact ⟨0, by omega, rfl, Below.refl _ _⟩
  case round =>
    obtain ⟨k, hk, rfl, hb⟩ := hrel
    have HB := Lib.hid hb; clear hb
    by_cases hlt : k < ts.length
    · have hlt2 : k < ns.length := by omega
      obtain ⟨b1, off1, x0, x1, x2, x3, x4, x5, x6, x7, x8, rfl, hbl1, hnz1, hcn1, hc10, hc11, hc12, hc13, hc14, hc15, hc16, hc17, hc18, ht1⟩ := HA1.out k hlt hlt2
      obtain ⟨b2, off2, y0, y1, y2, y3, y4, y5, y6, y7, y8, rfl, hbl2, hnz2, hcn2, hc20, hc21, hc22, hc23, hc24, hc25, hc26, hc27, hc28, ht2⟩ := HA2.out k hlt hlt2
      have c10 : wr.cell? ⟨b1, off1 + k * 10, none⟩ = some (.string ns[k]) := by rw [HB.out.cell (p := ⟨b1, off1 + k * 10, none⟩) hbl1]; exact hcn1
      have c11 : wr.cell? ⟨b1, off1 + k * 10 + 1, none⟩ = some x0 := by rw [HB.out.cell (p := ⟨b1, off1 + k * 10 + 1, none⟩) hbl1]; exact hc10
      have c12 : wr.cell? ⟨b1, off1 + k * 10 + 2, none⟩ = some x1 := by rw [HB.out.cell (p := ⟨b1, off1 + k * 10 + 2, none⟩) hbl1]; exact hc11
      have c13 : wr.cell? ⟨b1, off1 + k * 10 + 3, none⟩ = some x2 := by rw [HB.out.cell (p := ⟨b1, off1 + k * 10 + 3, none⟩) hbl1]; exact hc12
      have c14 : wr.cell? ⟨b1, off1 + k * 10 + 4, none⟩ = some x3 := by rw [HB.out.cell (p := ⟨b1, off1 + k * 10 + 4, none⟩) hbl1]; exact hc13
      have c15 : wr.cell? ⟨b1, off1 + k * 10 + 5, none⟩ = some x4 := by rw [HB.out.cell (p := ⟨b1, off1 + k * 10 + 5, none⟩) hbl1]; exact hc14
      have c16 : wr.cell? ⟨b1, off1 + k * 10 + 6, none⟩ = some x5 := by rw [HB.out.cell (p := ⟨b1, off1 + k * 10 + 6, none⟩) hbl1]; exact hc15
      have c17 : wr.cell? ⟨b1, off1 + k * 10 + 7, none⟩ = some x6 := by rw [HB.out.cell (p := ⟨b1, off1 + k * 10 + 7, none⟩) hbl1]; exact hc16
      have c18 : wr.cell? ⟨b1, off1 + k * 10 + 8, none⟩ = some x7 := by rw [HB.out.cell (p := ⟨b1, off1 + k * 10 + 8, none⟩) hbl1]; exact hc17
      have c19 : wr.cell? ⟨b1, off1 + k * 10 + 9, none⟩ = some x8 := by rw [HB.out.cell (p := ⟨b1, off1 + k * 10 + 9, none⟩) hbl1]; exact hc18
      have c20 : wr.cell? ⟨b2, off2 + k * 10, none⟩ = some (.string ns[k]) := by rw [HB.out.cell (p := ⟨b2, off2 + k * 10, none⟩) hbl2]; exact hcn2
      have c21 : wr.cell? ⟨b2, off2 + k * 10 + 1, none⟩ = some y0 := by rw [HB.out.cell (p := ⟨b2, off2 + k * 10 + 1, none⟩) hbl2]; exact hc20
      have c22 : wr.cell? ⟨b2, off2 + k * 10 + 2, none⟩ = some y1 := by rw [HB.out.cell (p := ⟨b2, off2 + k * 10 + 2, none⟩) hbl2]; exact hc21
      have c23 : wr.cell? ⟨b2, off2 + k * 10 + 3, none⟩ = some y2 := by rw [HB.out.cell (p := ⟨b2, off2 + k * 10 + 3, none⟩) hbl2]; exact hc22
      have c24 : wr.cell? ⟨b2, off2 + k * 10 + 4, none⟩ = some y3 := by rw [HB.out.cell (p := ⟨b2, off2 + k * 10 + 4, none⟩) hbl2]; exact hc23
      have c25 : wr.cell? ⟨b2, off2 + k * 10 + 5, none⟩ = some y4 := by rw [HB.out.cell (p := ⟨b2, off2 + k * 10 + 5, none⟩) hbl2]; exact hc24
      have c26 : wr.cell? ⟨b2, off2 + k * 10 + 6, none⟩ = some y5 := by rw [HB.out.cell (p := ⟨b2, off2 + k * 10 + 6, none⟩) hbl2]; exact hc25
      have c27 : wr.cell? ⟨b2, off2 + k * 10 + 7, none⟩ = some y6 := by rw [HB.out.cell (p := ⟨b2, off2 + k * 10 + 7, none⟩) hbl2]; exact hc26
      have c28 : wr.cell? ⟨b2, off2 + k * 10 + 8, none⟩ = some y7 := by rw [HB.out.cell (p := ⟨b2, off2 + k * 10 + 8, none⟩) hbl2]; exact hc27
      have c29 : wr.cell? ⟨b2, off2 + k * 10 + 9, none⟩ = some y8 := by rw [HB.out.cell (p := ⟨b2, off2 + k * 10 + 9, none⟩) hbl2]; exact hc28
      have HT1 := Lib.hid (ht1.below HB.out.drew)
      have HT2 := Lib.hid (ht2.below HB.out.drew)
      clear ht1 ht2 hcn1 hcn2 hc10 hc11 hc12 hc13 hc14 hc15 hc16 hc17 hc18 hc20 hc21 hc22 hc23 hc24 hc25 hc26 hc27 hc28
      go_wp2_with fail
      go_still_tail 8, (by kernel_rfl)
      change wpList _ _ _ _ _ wr.drew
      go_wp2_with fail
      refine (IH.out _ _ ns[k] _ wr.drew ⟨hnz1, _, _, _, _, _, _, _, _, _, rfl, HT1.out⟩ ⟨hnz1, _, _, _, _, _, _, _, _, _, rfl, HT2.out⟩).mono ?_
      rintro e w' ⟨rfl, hb1⟩
      have HB2 := Lib.hid (HB.out.drew.trans (hb1.mono HB.out.drew.size)); clear hb1
      go_wp2_with fail
      exact ⟨⟨k + 1, by omega, by go_num, HB2.out⟩, by simp [intOf]; omega⟩
    · go_wp2_with fail
      go_ret
      exact ⟨rfl, HB.out⟩

set_option maxRecDepth 100000 in
set_option maxHeartbeats 2000000 in
theorem eqCo_step (d : Nat) (ih : EqCosSaid d) (ih2 : EqCbsSaid d) : EqCoSaid (d + 1) := by
  intro v1 v2 t w h1 h2
  have IH := Lib.hid ih; clear ih
  have IH2 := Lib.hid ih2; clear ih2
  have HV1 := co_parts h1
  have HV2 := co_parts h2
  cases t with
  | node kd nm0 n0 fr ty ts ns vs =>
    obtain ⟨c3, c4, c5, c6, sl, el, rfl, hk0, hk1, hn0, hn1, hnm, hfr1, hty1, g1, e1⟩ := h1
    obtain ⟨d3, d4, d5, d6, sl2, el2, rfl, _, _, _, _, _, hfr2, hty2, g2, e2⟩ := h2
    obtain ⟨ak, anm, an, afk, afa, afn, afc, atk, ata, atn, atc, asa, asn, asc, aea, aen, aec, hv⟩ := HV1
    injection hv with hv
    injection hv with hv
    simp at hv
    obtain ⟨rfl, rfl, rfl, rfl, rfl, rfl, rfl, rfl, rfl⟩ := hv
    obtain ⟨bk, bnm, bn, bfk, bfa, bfn, bfc, btk, bta, btn, btc, bsa, bsn, bsc, bea, ben, bec, hv⟩ := HV2
    injection hv with hv
    injection hv with hv
    simp at hv
    obtain ⟨rfl, rfl, rfl, rfl, rfl, rfl, rfl, rfl, rfl⟩ := hv
    have hb2 : Below w.heap.size w ((w.alloc (.cells #[.int .i64 kd, .string nm0, .int .i64 n0, .int .i64 afk, .slice afa afn afc, .int .i64 atk, .slice ata atn atc, .slice asa asn asc, .slice aea aen aec] 68)).alloc (.cells #[.int .i64 kd, .string nm0, .int .i64 n0, .int .i64 bfk, .slice bfa bfn bfc, .int .i64 btk, .slice bta btn btc, .slice bsa bsn bsc, .slice bea ben bec] 68)) := ((Below.refl _ _).alloc (Nat.le_refl _) _).alloc (by simp) _
    have HF1 := Lib.hid (hfr1.below hb2)
    have HF2 := Lib.hid (hfr2.below hb2)
    have HY1 := Lib.hid (hty1.below hb2)
    have HY2 := Lib.hid (hty2.below hb2)
    have HT1 : Hid (CosAt ((w.alloc (.cells #[.int .i64 kd, .string nm0, .int .i64 n0, .int .i64 afk, .slice afa afn afc, .int .i64 atk, .slice ata atn atc, .slice asa asn asc, .slice aea aen aec] 68)).alloc (.cells #[.int .i64 kd, .string nm0, .int .i64 n0, .int .i64 bfk, .slice bfa bfn bfc, .int .i64 btk, .slice bta btn btc, .slice bsa bsn bsc, .slice bea ben bec] 68)) d (.slice asa asn asc) ts) := CosAt.below g1 hb2
    have HT2 : Hid (CosAt ((w.alloc (.cells #[.int .i64 kd, .string nm0, .int .i64 n0, .int .i64 afk, .slice afa afn afc, .int .i64 atk, .slice ata atn atc, .slice asa asn asc, .slice aea aen aec] 68)).alloc (.cells #[.int .i64 kd, .string nm0, .int .i64 n0, .int .i64 bfk, .slice bfa bfn bfc, .int .i64 btk, .slice bta btn btc, .slice bsa bsn bsc, .slice bea ben bec] 68)) d (.slice bsa bsn bsc) ts) := CosAt.below g2 hb2
    have HE1 : Hid (CbsAt ((w.alloc (.cells #[.int .i64 kd, .string nm0, .int .i64 n0, .int .i64 afk, .slice afa afn afc, .int .i64 atk, .slice ata atn atc, .slice asa asn asc, .slice aea aen aec] 68)).alloc (.cells #[.int .i64 kd, .string nm0, .int .i64 n0, .int .i64 bfk, .slice bfa bfn bfc, .int .i64 btk, .slice bta btn btc, .slice bsa bsn bsc, .slice bea ben bec] 68)) d (.slice aea aen aec) ns vs) := CbsAt.below e1 hb2
    have HE2 : Hid (CbsAt ((w.alloc (.cells #[.int .i64 kd, .string nm0, .int .i64 n0, .int .i64 afk, .slice afa afn afc, .int .i64 atk, .slice ata atn atc, .slice asa asn asc, .slice aea aen aec] 68)).alloc (.cells #[.int .i64 kd, .string nm0, .int .i64 n0, .int .i64 bfk, .slice bfa bfn bfc, .int .i64 btk, .slice bta btn btc, .slice bsa bsn bsc, .slice bea ben bec] 68)) d (.slice bea ben bec) ns vs) := CbsAt.below e2 hb2
    clear hb2 hfr1 hfr2 hty1 hty2 g1 g2 e1 e2
    go_enter Try.func29, Try.ntmps29
    go_wp2_with fail
    refine (eqTy_all d _ _ fr _ HF1.out HF2.out).mono ?_
    rintro e w1 ⟨rfl, hb1⟩
    have HB := Lib.hid (two_on (Below.refl _ _) hb1)
    replace HY1 := Lib.hid (HY1.out.below hb1)
    replace HY2 := Lib.hid (HY2.out.below hb1)
    replace HT1 := Lib.hid (HT1.out.below hb1)
    replace HT2 := Lib.hid (HT2.out.below hb1)
    replace HE1 := Lib.hid (HE1.out.below hb1)
    replace HE2 := Lib.hid (HE2.out.below hb1)
    clear hb1 HF1 HF2
    have p5 := two_first HB.out 5
    have q5 := two_next HB.out 5
    have p6 := two_first HB.out 6
    have q6 := two_next HB.out 6
    go_wp2_with fail
    clear p5 q5 p6 q6
    refine (eqTy_all d _ _ ty _ HY1.out HY2.out).mono ?_
    rintro e w2 ⟨rfl, hb1⟩
    replace HB := Lib.hid (two_on HB.out hb1)
    replace HT1 := Lib.hid (HT1.out.below hb1)
    replace HT2 := Lib.hid (HT2.out.below hb1)
    replace HE1 := Lib.hid (HE1.out.below hb1)
    replace HE2 := Lib.hid (HE2.out.below hb1)
    clear hb1 HY1 HY2
    have p7 := two_first HB.out 7
    have q7 := two_next HB.out 7
    go_wp2_with fail
    clear p7 q7
    refine (IH.out _ _ ts _ HT1.out HT2.out).mono ?_
    rintro e w3 ⟨rfl, hb1⟩
    replace HB := Lib.hid (two_on HB.out hb1)
    replace HE1 := Lib.hid (HE1.out.below hb1)
    replace HE2 := Lib.hid (HE2.out.below hb1)
    clear hb1 HT1 HT2
    have p8 := two_first HB.out 8
    have q8 := two_next HB.out 8
    go_wp2_with fail
    clear p8 q8
    refine (IH2.out _ _ ns vs _ HE1.out HE2.out).mono ?_
    rintro e w4 ⟨rfl, hb1⟩
    replace HB := Lib.hid (two_on HB.out hb1)
    clear hb1 HE1 HE2
    go_wp2_with fail
    go_ret
    exact ⟨rfl, two_below HB.out⟩

set_option maxRecDepth 100000 in
set_option maxHeartbeats 2000000 in
theorem eqCb_step (d : Nat) (ih : EqCoSaid d) : EqCbSaid d := by
  intro v1 v2 nm0 t w h1 h2
  have IH := Lib.hid ih; clear ih
  obtain ⟨ak, anm, an, afk, afa, afn, afc, atk, ata, atn, atc, asa, asn, asc, aea, aen, aec, rfl⟩ := cb_parts h1
  obtain ⟨hnz1, c0, c1, c2, c3, c4, c5, c6, c7, c8, hv, h1⟩ := h1
  have hv2 : .int .i64 ak = c0 ∧ .string anm = c1 ∧ .int .i64 an = c2 ∧ .int .i64 afk = c3 ∧ .slice afa afn afc = c4 ∧ .int .i64 atk = c5 ∧ .slice ata atn atc = c6 ∧ .slice asa asn asc = c7 ∧ .slice aea aen aec = c8 := by injection hv with hv; injection hv with hv; simpa using hv
  obtain ⟨rfl, rfl, rfl, rfl, rfl, rfl, rfl, rfl, rfl⟩ := hv2
  clear hv
  obtain ⟨bk, bnm, bn, bfk, bfa, bfn, bfc, btk, bta, btn, btc, bsa, bsn, bsc, bea, ben, bec, rfl⟩ := cb_parts h2
  obtain ⟨hnz2, c0, c1, c2, c3, c4, c5, c6, c7, c8, hv, h2⟩ := h2
  have hv2 : .int .i64 bk = c0 ∧ .string bnm = c1 ∧ .int .i64 bn = c2 ∧ .int .i64 bfk = c3 ∧ .slice bfa bfn bfc = c4 ∧ .int .i64 btk = c5 ∧ .slice bta btn btc = c6 ∧ .slice bsa bsn bsc = c7 ∧ .slice bea ben bec = c8 := by injection hv with hv; injection hv with hv; simpa using hv
  obtain ⟨rfl, rfl, rfl, rfl, rfl, rfl, rfl, rfl, rfl⟩ := hv2
  clear hv
  have hb2 : Below w.heap.size w ((w.alloc (.cells #[.string nm0, .int .i64 ak, .string anm, .int .i64 an, .int .i64 afk, .slice afa afn afc, .int .i64 atk, .slice ata atn atc, .slice asa asn asc, .slice aea aen aec] 115)).alloc (.cells #[.string nm0, .int .i64 bk, .string bnm, .int .i64 bn, .int .i64 bfk, .slice bfa bfn bfc, .int .i64 btk, .slice bta btn btc, .slice bsa bsn bsc, .slice bea ben bec] 115)) := ((Below.refl _ _).alloc (Nat.le_refl _) _).alloc (by simp) _
  have HT1 := Lib.hid (h1.below hb2)
  have HT2 := Lib.hid (h2.below hb2)
  clear hb2 h1 h2
  go_enter Try.func109, Try.ntmps109
  go_wp2_with fail
  refine (IH.out _ _ t _ HT1.out HT2.out).mono ?_
  rintro e w1 ⟨rfl, hb1⟩
  have HB := Lib.hid (two_on (Below.refl _ _) hb1)
  clear hb1 HT1 HT2
  go_wp2_with fail
  go_ret
  exact ⟨rfl, two_below HB.out⟩
theorem eqCo_all : ∀ d, EqCoSaid d
  | 0 => fun _ _ _ _ h => h.elim
  | d + 1 => eqCo_step d (eqCos_step d (eqCo_all d)) (eqCbs_step d (eqCb_step d (eqCo_all d)))
theorem eqCbs_all (d : Nat) : EqCbsSaid d := eqCbs_step d (eqCb_step d (eqCo_all d))
end Go.Proofs.Ytefoenkmppeidaa
/-
  Proved: laws.markCoreS numbers the nodes of a row of core expressions in its own memory and touches nothing else, if it does so less deep.
-/
namespace Go.Proofs.Ytefoenkmppeidaa
open Go.RowKit

def MarkCosEnd (B d : Nat) (v : Value) (es : List Co) (fp : List Nat) (k : Int) (w : World) (e : Ending) (w' : World) : Prop :=
  e = .returned (.int .i64 (k + Co.wts es)) ∧ CosOwn w' d v (Co.marks es k) fp ∧ Below B w w' ∧ (∀ b, b < w.heap.size → b ∉ fp → w'.heap[b]? = w.heap[b]?)
def MarkCosSaid (d : Nat) : Prop := ∀ (B : Nat) (v : Value) (es : List Co) (fp : List Nat) (k : Int) (w : World), B ≤ w.heap.size → (∀ b, b ∈ fp → B ≤ b) → fp.Nodup → 0 ≤ k → k + Co.wts es ≤ 1099511627776 → CosOwn w d v es fp →
  Calls Try.prog 78 #[v, .int .i64 k] w (MarkCosEnd B d v es fp k w)
def MarkCbsEnd (B d : Nat) (v : Value) (es : List Co) (fp : List Nat) (k : Int) (w : World) (e : Ending) (w' : World) : Prop :=
  e = .returned (.int .i64 (k + Co.wtb es)) ∧ CbsOwn w' d v (bnames es k) (Co.bmarks es k) fp ∧ Below B w w' ∧ (∀ b, b < w.heap.size → b ∉ fp → w'.heap[b]? = w.heap[b]?)
def MarkCbsSaid (d : Nat) : Prop := ∀ (B : Nat) (v : Value) (ns : List ByteArray) (es : List Co) (fp : List Nat) (k : Int) (w : World), B ≤ w.heap.size → (∀ b, b ∈ fp → B ≤ b) → fp.Nodup → 0 < k → k + Co.wtb es ≤ 1099511627776 → CbsOwn w d v ns es fp →
  Calls Try.prog 79 #[v, .int .i64 k] w (MarkCbsEnd B d v es fp k w)
set_option maxRecDepth 100000 in
set_option maxHeartbeats 8000000 in
theorem markCos_step (d : Nat) (ih : MarkCosSaid d) (ihb : MarkCbsSaid d) : MarkCosSaid (d + 1) := by
  intro B v es fp k w hB hfB hnd hk0 hk1 h
  have IH := Lib.hid ih; clear ih
  have IHB := Lib.hid ihb; clear ihb
  have HFB := Lib.hid hfB; clear hfB
  have HND := Lib.hid hnd; clear hnd
  obtain ⟨a, cap, hd, fps, rfl, hcap, hcap2, hl, hf, hhd, hat⟩ := h
  have HHD := Lib.hid hhd; clear hhd
  have HAT : Hid (∀ t (h : t < es.length), ∃ g off c0 c1 c2 c3 c4 c5 c6 c7 c8 f, a = some ⟨g, off, none⟩ ∧ hd = [g] ∧ g < w.heap.size ∧ w.cell? ⟨g, off + t * 9, none⟩ = some c0 ∧ w.cell? ⟨g, off + t * 9 + 1, none⟩ = some c1 ∧ w.cell? ⟨g, off + t * 9 + 2, none⟩ = some c2 ∧ w.cell? ⟨g, off + t * 9 + 3, none⟩ = some c3 ∧ w.cell? ⟨g, off + t * 9 + 4, none⟩ = some c4 ∧ w.cell? ⟨g, off + t * 9 + 5, none⟩ = some c5 ∧ w.cell? ⟨g, off + t * 9 + 6, none⟩ = some c6 ∧ w.cell? ⟨g, off + t * 9 + 7, none⟩ = some c7 ∧ w.cell? ⟨g, off + t * 9 + 8, none⟩ = some c8 ∧ (∀ o, w.frozen? ⟨g, o, none⟩ = false) ∧ fps[t]? = some f ∧ CoOwn w (d + 1) (.agg #[c0, c1, c2, c3, c4, c5, c6, c7, c8]) (if t < 0 then es[t].mark (k + Co.wts (es.take t)) else es[t]) f) := by
    intro t h
    rw [if_neg (Nat.not_lt_zero t)]
    exact hat t h
  clear hat
  go_enter Try.func78, Try.ntmps78
  go_wp2_with fail
  go_loopw [1, 5] (fun m i wr => ∃ (j : Nat), j ≤ es.length ∧ i = .int .i64 j ∧ m = .int .i64 (k + Co.wts (es.take j)) ∧
      (∀ t (h : t < es.length), ∃ g off c0 c1 c2 c3 c4 c5 c6 c7 c8 f, a = some ⟨g, off, none⟩ ∧ hd = [g] ∧ g < wr.heap.size ∧ wr.cell? ⟨g, off + t * 9, none⟩ = some c0 ∧ wr.cell? ⟨g, off + t * 9 + 1, none⟩ = some c1 ∧ wr.cell? ⟨g, off + t * 9 + 2, none⟩ = some c2 ∧ wr.cell? ⟨g, off + t * 9 + 3, none⟩ = some c3 ∧ wr.cell? ⟨g, off + t * 9 + 4, none⟩ = some c4 ∧ wr.cell? ⟨g, off + t * 9 + 5, none⟩ = some c5 ∧ wr.cell? ⟨g, off + t * 9 + 6, none⟩ = some c6 ∧ wr.cell? ⟨g, off + t * 9 + 7, none⟩ = some c7 ∧ wr.cell? ⟨g, off + t * 9 + 8, none⟩ = some c8 ∧ (∀ o, wr.frozen? ⟨g, o, none⟩ = false) ∧ fps[t]? = some f ∧ CoOwn wr (d + 1) (.agg #[c0, c1, c2, c3, c4, c5, c6, c7, c8]) (if t < j then es[t].mark (k + Co.wts (es.take t)) else es[t]) f) ∧
      Below B w wr ∧ (∀ b, b < w.heap.size → b ∉ fp → wr.heap[b]? = w.heap[b]?)) (fun _ i _ => es.length - (intOf i).toNat)
  case atStart => exact ⟨0, by omega, rfl, by simp [Co.wts], HAT.out, Below.refl _ _, fun _ _ _ => rfl⟩
  case round =>
    obtain ⟨j, hj, rfl, rfl, hrow, hb, hout⟩ := hrel
    have HR := Lib.hid hrow; clear hrow
    have HB := Lib.hid hb; clear hb
    have HO := Lib.hid hout; clear hout
    by_cases hlt : j < es.length
    · obtain ⟨g, off, c0, c1, c2, c3, c4, c5, c6, c7, c8, f, rfl, rfl, hg, e0, e1, e2, e3, e4, e5, e6, e7, e8, hfr0, hfj, hex⟩ := HR.out j hlt
      rw [if_neg (Nat.lt_irrefl j)] at hex
      have HS := Lib.hid (Co.wts_take es j hlt)
      have hle := Co.wts_le es (j + 1)
      cases hej : es[j] with
      | node kd nm n fr ty us ns1 vs =>
      rw [hej] at hex
      obtain ⟨z3, z4, z5, z6, sl, el, f1, f2, f3, f4, hv, h0, h1, h2, h3, h4, hff, hfr, hty, hus, hvs⟩ := hex
      have hc : c0 = .int .i64 kd ∧ c1 = .string nm ∧ c2 = .int .i64 n ∧ c3 = z3 ∧ c4 = z4 ∧ c5 = z5 ∧ c6 = z6 ∧ c7 = sl ∧ c8 = el := by injection hv with hv; injection hv with hv; simpa using hv
      obtain ⟨rfl, rfl, rfl, rfl, rfl, rfl, rfl, rfl, rfl⟩ := hc
      have hwt : es[j].wt = (fr.size - 1) + (ty.size - 1) + Co.wts us + Co.wtb vs := by rw [hej]; rfl
      cases d with
      | zero => exact hfr.elim
      | succ d =>
      cases hfe : fr with
      | node fk fts =>
      cases hte : ty with
      | node tk ts =>
      rw [hfe] at hfr hwt
      rw [hte] at hty hwt
      have hts : (Ty.node tk ts).size - 1 = Ty.sizes ts := by show 1 + Ty.sizes ts - 1 = _; omega
      have hfs : (Ty.node fk fts).size - 1 = Ty.sizes fts := by show 1 + Ty.sizes fts - 1 = _; omega
      obtain ⟨sl1, hv1, q0, q1, hfts⟩ := hfr
      have hc1 : c3 = .int .i64 fk ∧ c4 = sl1 := by injection hv1 with hv1; injection hv1 with hv1; simpa using hv1
      obtain ⟨rfl, rfl⟩ := hc1
      obtain ⟨sl2, hv2, t0, t1, hts2⟩ := hty
      have hc2 : c5 = .int .i64 tk ∧ c6 = sl2 := by injection hv2 with hv2; injection hv2 with hv2; simpa using hv2
      obtain ⟨rfl, rfl⟩ := hc2
      have HX1 : Hid (TysOwn wr d c4 fts f1) := hfts
      obtain ⟨a1, cap1, hd1, fps1, rfl, _⟩ := hfts
      have HX2 : Hid (TysOwn wr d c6 ts f2) := hts2
      obtain ⟨a2, cap2, hd2, fps2, rfl, _⟩ := hts2
      have HX3 : Hid (CosOwn wr (d + 1) c7 us f3) := hus
      obtain ⟨a3, cap3, hd3, fps3, rfl, _⟩ := hus
      have HX4 : Hid (CbsOwn wr (d + 1) c8 ns1 vs f4) := hvs
      obtain ⟨_, a4, cap4, hd4, fps4, rfl, _⟩ := hvs
      have HEJ := Lib.hid hej; clear hej
      have HTE := Lib.hid hte; clear hte
      have HFE := Lib.hid hfe; clear hfe
      subst hf
      have hnd := List.nodup_append.1 HND.out
      have HN2 := Lib.hid hnd.2.1
      have HG : Hid (∀ (t : Nat) (f' : List Nat) (b : Nat), fps[t]? = some f' → b ∈ f' → b ≠ g) := fun t f' b hf' hb e => hnd.2.2 g (by simp) b (flat_sub hf' hb) e.symm
      clear hnd hv hv1 hv2
      subst hff
      have HFJ := Lib.hid hfj; clear hfj
      have HG1 : Hid (∀ b, b ∈ f1 → b ≠ g) := fun b hb => HG.out j _ b HFJ.out (List.mem_append_left _ hb)
      have HFB1 : Hid (∀ b, b ∈ f1 → B ≤ b) := fun b hb => HFB.out b (List.mem_append_right _ (flat_sub HFJ.out (List.mem_append_left _ hb)))
      have HGN1 : Hid (g ∉ f1) := fun e => HG1.out g e rfl
      have HG2 : Hid (∀ b, b ∈ f2 → b ≠ g) := fun b hb => HG.out j _ b HFJ.out (List.mem_append_right _ (List.mem_append_left _ hb))
      have HFB2 : Hid (∀ b, b ∈ f2 → B ≤ b) := fun b hb => HFB.out b (List.mem_append_right _ (flat_sub HFJ.out (List.mem_append_right _ (List.mem_append_left _ hb))))
      have HGN2 : Hid (g ∉ f2) := fun e => HG2.out g e rfl
      have HG3 : Hid (∀ b, b ∈ f3 → b ≠ g) := fun b hb => HG.out j _ b HFJ.out (List.mem_append_right _ (List.mem_append_right _ (List.mem_append_left _ hb)))
      have HFB3 : Hid (∀ b, b ∈ f3 → B ≤ b) := fun b hb => HFB.out b (List.mem_append_right _ (flat_sub HFJ.out (List.mem_append_right _ (List.mem_append_right _ (List.mem_append_left _ hb)))))
      have HGN3 : Hid (g ∉ f3) := fun e => HG3.out g e rfl
      have HG4 : Hid (∀ b, b ∈ f4 → b ≠ g) := fun b hb => HG.out j _ b HFJ.out (List.mem_append_right _ (List.mem_append_right _ (List.mem_append_right _ hb)))
      have HFB4 : Hid (∀ b, b ∈ f4 → B ≤ b) := fun b hb => HFB.out b (List.mem_append_right _ (flat_sub HFJ.out (List.mem_append_right _ (List.mem_append_right _ (List.mem_append_right _ hb)))))
      have HGN4 : Hid (g ∉ f4) := fun e => HG4.out g e rfl
      have hn1 := List.nodup_append.1 (flat_nodup HN2.out HFJ.out)
      have hn2 := List.nodup_append.1 hn1.2.1
      have hn3 := List.nodup_append.1 hn2.2.1
      have N1 := Lib.hid hn1.1
      have N2 := Lib.hid hn2.1
      have N3 := Lib.hid hn3.1
      have N4 := Lib.hid hn3.2.1
      have D12 : Hid (∀ b, b ∈ f1 → b ∉ f2) := fun b h1 h2 => hn1.2.2 b h1 b (List.mem_append_left _ h2) rfl
      have D13 : Hid (∀ b, b ∈ f1 → b ∉ f3) := fun b h1 h2 => hn1.2.2 b h1 b (List.mem_append_right _ (List.mem_append_left _ h2)) rfl
      have D14 : Hid (∀ b, b ∈ f1 → b ∉ f4) := fun b h1 h2 => hn1.2.2 b h1 b (List.mem_append_right _ (List.mem_append_right _ h2)) rfl
      have D23 : Hid (∀ b, b ∈ f2 → b ∉ f3) := fun b h1 h2 => hn2.2.2 b h1 b (List.mem_append_left _ h2) rfl
      have D24 : Hid (∀ b, b ∈ f2 → b ∉ f4) := fun b h1 h2 => hn2.2.2 b h1 b (List.mem_append_right _ h2) rfl
      have D34 : Hid (∀ b, b ∈ f3 → b ∉ f4) := fun b h1 h2 => hn3.2.2 b h1 b h2 rfl
      clear hn1 hn2 hn3
      have hBg : B ≤ g := HFB.out g (by simp)
      have HFR := Lib.hid hfr0; clear hfr0
      have HWT := Lib.hid hwt
      have T0 : Trk wr wr B g (off + j * 9) 9 [] (fun | 0 => .int .i64 kd | 1 => .string nm | 2 => .int .i64 n | 3 => .int .i64 fk | 4 => .slice a1 fts.length cap1 | 5 => .int .i64 tk | 6 => .slice a2 ts.length cap2 | 7 => .slice a3 us.length cap3 | _ => .slice a4 vs.length cap4) := Trk.start (fun i hi => match i, hi with | 0, _ => e0 | 1, _ => e1 | 2, _ => e2 | 3, _ => e3 | 4, _ => e4 | 5, _ => e5 | 6, _ => e6 | 7, _ => e7 | 8, _ => e8 | i + 9, hi => absurd hi (by omega)) hg hBg
      have HT0 := Lib.hid T0; clear T0
      obtain ⟨m0, hm⟩ : ∃ m : Int, m = k + Co.wts (es.take j) := ⟨_, rfl⟩
      have hmw : m0 + (5 + Ty.sizes fts + Ty.sizes ts + Co.wts us + Co.wtb vs) ≤ 1099511627776 := by have := HS.out; rw [hts, hfs] at hwt; omega
      have hm0 : 0 ≤ m0 := by omega
      rw [← hm]
      have HM := Lib.hid hm; clear hm hwt
      obtain ⟨m, hmm⟩ : ∃ m : Int, m = m0 := ⟨_, rfl⟩
      subst hmm
      clear e0 e1 e2 e3 e4 e5 e6 e7 e8
      have q0 : ∃ u, wr.cell? ⟨g, off + j * 9, none⟩ = some u := ⟨_, HT0.out.cell 0 (by omega)⟩
      obtain ⟨u0, q0⟩ := q0
      have p0 : wr.frozen? ⟨g, off + j * 9, none⟩ = false := (HT0.out.froz _).trans (HFR.out _)
      go_wp2_with fail
      refine (markText (m + 1) (by omega) (by omega) _).mono ?_
      rintro e w2 ⟨rfl, hb2⟩
      have HT1 := Lib.hid (Trk.quiet (HT0.out.store 0 (by omega) (.int .i64 m)) hb2); clear hb2
      clear q0 p0
      have q1 : ∃ u, w2.cell? ⟨g, off + j * 9 + 1, none⟩ = some u := ⟨_, HT1.out.cell 1 (by omega)⟩
      obtain ⟨u1, q1⟩ := q1
      have p1 : w2.frozen? ⟨g, off + j * 9 + 1, none⟩ = false := (HT1.out.froz _).trans (HFR.out _)
      have q2 : ∃ u, w2.cell? ⟨g, off + j * 9 + 2, none⟩ = some u := ⟨_, HT1.out.cell 2 (by omega)⟩
      obtain ⟨u2, q2⟩ := q2
      have p2 : w2.frozen? ⟨g, off + j * 9 + 2, none⟩ = false := (HT1.out.froz _).trans (HFR.out _)
      have q3 : ∃ u, w2.cell? ⟨g, off + j * 9 + 3, none⟩ = some u := ⟨_, HT1.out.cell 3 (by omega)⟩
      obtain ⟨u3, q3⟩ := q3
      have p3 : w2.frozen? ⟨g, off + j * 9 + 3, none⟩ = false := (HT1.out.froz _).trans (HFR.out _)
      have q4 : w2.cell? ⟨g, off + j * 9 + 4, none⟩ = some (.slice a1 fts.length cap1) := HT1.out.cell 4 (by omega)
      obtain ⟨W2, hW2⟩ : ∃ W, W = (((w2.setCell ⟨g, off + j * 9 + 1, none⟩ (.string (mt (m + 1).natAbs))).setCell ⟨g, off + j * 9 + 2, none⟩ (.int .i64 (m + 1 + 1))).setCell ⟨g, off + j * 9 + 3, none⟩ (.int .i64 (m + 1 + 1 + 1))) := ⟨_, rfl⟩
      have HT2 := Lib.hid ((((HT1.out.store 1 (by omega) (.string (mt (m + 1).natAbs))).store 2 (by omega) (.int .i64 (m + 1 + 1))).store 3 (by omega) (.int .i64 (m + 1 + 1 + 1))))
      rw [← hW2] at HT2
      have HY1 : Hid (TysOwn W2 d (.slice a1 fts.length cap1) fts f1) := TysOwn.kept HX1.out HT2.out.size (fun b hb => HT2.out.away b (HG1.out b hb) (by simp) (coTys_lt HX1.out b hb))
      have hBW : B ≤ W2.heap.size := Nat.le_trans hB (Nat.le_trans HB.out.size HT2.out.size)
      go_wp2_with fail
      rw [← hW2]
      refine (markTys_all d B _ fts f1 (m + 1 + 1 + 1 + 1) W2 hBW HFB1.out N1.out (by omega) (by omega) HY1.out).mono ?_
      rintro e w4 ⟨rfl, ht4, hb4, hout4⟩
      have HR1 := Lib.hid ht4; clear ht4
      have HT3 := Lib.hid (HT2.out.call f1 hb4 hout4 HGN1.out); clear hb4 hout4 hW2
      clear q1 q2 q3 q4 p1 p2 p3
      obtain ⟨m5, hm5⟩ : ∃ x : Int, x = m + 1 + 1 + 1 + 1 + (Ty.sizes fts : Int) := ⟨_, rfl⟩
      have h5a : m5 + (1 + Ty.sizes ts + Co.wts us + Co.wtb vs) ≤ 1099511627776 := by omega
      have h5b : 0 ≤ m5 := by omega
      rw [← hm5]
      have HM5 := Lib.hid hm5; clear hm5
      have q5 : ∃ u, w4.cell? ⟨g, off + j * 9 + 5, none⟩ = some u := ⟨_, HT3.out.cell 5 (by omega)⟩
      obtain ⟨u5, q5⟩ := q5
      have p5 : w4.frozen? ⟨g, off + j * 9 + 5, none⟩ = false := (HT3.out.froz _).trans (HFR.out _)
      have q6 : w4.cell? ⟨g, off + j * 9 + 6, none⟩ = some (.slice a2 ts.length cap2) := HT3.out.cell 6 (by omega)
      obtain ⟨W4, hW4⟩ : ∃ W, W = (w4.setCell ⟨g, off + j * 9 + 5, none⟩ (.int .i64 m5)) := ⟨_, rfl⟩
      have HT4 := Lib.hid ((HT3.out.store 5 (by omega) (.int .i64 m5)))
      rw [← hW4] at HT4
      have HY2 : Hid (TysOwn W4 d (.slice a2 ts.length cap2) ts f2) := TysOwn.kept HX2.out HT4.out.size (fun b hb => HT4.out.away b (HG2.out b hb) (fun e => D12.out b (by simpa using e) hb) (coTys_lt HX2.out b hb))
      have hBW4 : B ≤ W4.heap.size := Nat.le_trans hB (Nat.le_trans HB.out.size HT4.out.size)
      have HZ1 : Hid (TysOwn W4 d (.slice a1 fts.length cap1) (Ty.marks fts (m + 1 + 1 + 1 + 1)) f1) := TysOwn.kept HR1.out (by rw [hW4, World.size_setCell]; exact Nat.le_refl _) (fun b hb => by rw [hW4]; exact heap_setCell_other _ _ _ _ (HG1.out b hb))
      go_wp2_with fail
      rw [← hW4]
      refine (markTys_all d B _ ts f2 (m5 + 1) W4 hBW4 HFB2.out N2.out (by omega) (by omega) HY2.out).mono ?_
      rintro e w6 ⟨rfl, ht6, hb6, hout6⟩
      have HR2 := Lib.hid ht6; clear ht6
      have HT5 := Lib.hid (HT4.out.call f2 hb6 hout6 HGN2.out)
      replace HZ1 := Lib.hid (TysOwn.kept HZ1.out hb6.size (fun b hb => hout6 b (coTys_lt HZ1.out b hb) (D12.out b hb)))
      clear hb6 hout6 hW4 HR1
      clear q5 q6 p5
      obtain ⟨m7, hm7⟩ : ∃ x : Int, x = m5 + 1 + (Ty.sizes ts : Int) := ⟨_, rfl⟩
      have h7a : m7 + (Co.wts us + Co.wtb vs) ≤ 1099511627776 := by omega
      have h7b : 0 < m7 := by omega
      rw [← hm7]
      have HM7 := Lib.hid hm7; clear hm7
      have q7 : w6.cell? ⟨g, off + j * 9 + 7, none⟩ = some (.slice a3 us.length cap3) := HT5.out.cell 7 (by omega)
      have HY3 : Hid (CosOwn w6 (d + 1) (.slice a3 us.length cap3) us f3) := CosOwn.kept HX3.out HT5.out.size (fun b hb => HT5.out.away b (HG3.out b hb) (fun e => by
      simp only [List.nil_append, List.mem_append] at e
      rcases e with e | e
      · exact D13.out b e hb
      · exact D23.out b e hb) (CosOwn.lt HX3.out b hb))
      have hBW6 : B ≤ w6.heap.size := Nat.le_trans hB (Nat.le_trans HB.out.size HT5.out.size)
      go_wp2_with fail
      refine (IH.out B _ us f3 m7 w6 hBW6 HFB3.out N3.out (by omega) (by omega) HY3.out).mono ?_
      rintro e w7 ⟨rfl, ht7, hb7, hout7⟩
      have HR3 := Lib.hid ht7; clear ht7
      have HT6 := Lib.hid (HT5.out.call f3 hb7 hout7 HGN3.out)
      replace HZ1 := Lib.hid (TysOwn.kept HZ1.out hb7.size (fun b hb => hout7 b (coTys_lt HZ1.out b hb) (D13.out b hb)))
      replace HR2 := Lib.hid (TysOwn.kept HR2.out hb7.size (fun b hb => hout7 b (coTys_lt HR2.out b hb) (D23.out b hb)))
      clear hb7 hout7
      clear q7
      obtain ⟨m8, hm8⟩ : ∃ x : Int, x = m7 + (Co.wts us : Int) := ⟨_, rfl⟩
      have h8a : m8 + Co.wtb vs ≤ 1099511627776 := by omega
      have h8b : 0 < m8 := by omega
      rw [← hm8]
      have HM8 := Lib.hid hm8; clear hm8
      have q8 : w7.cell? ⟨g, off + j * 9 + 8, none⟩ = some (.slice a4 vs.length cap4) := HT6.out.cell 8 (by omega)
      have HY4 : Hid (CbsOwn w7 (d + 1) (.slice a4 vs.length cap4) ns1 vs f4) := CbsOwn.kept HX4.out HT6.out.size (fun b hb => HT6.out.away b (HG4.out b hb) (fun e => by
      simp only [List.nil_append, List.mem_append, or_assoc] at e
      rcases e with e | e | e
      · exact D14.out b e hb
      · exact D24.out b e hb
      · exact D34.out b e hb) (CbsOwn.lt HX4.out b hb))
      have hBW7 : B ≤ w7.heap.size := Nat.le_trans hB (Nat.le_trans HB.out.size HT6.out.size)
      go_wp2_with fail
      refine (IHB.out B _ ns1 vs f4 m8 w7 hBW7 HFB4.out N4.out h8b h8a HY4.out).mono ?_
      rintro e w8 ⟨rfl, ht8, hb8, hout8⟩
      have HR4 := Lib.hid ht8; clear ht8
      have HT7 := Lib.hid (HT6.out.call f4 hb8 hout8 HGN4.out)
      replace HZ1 := Lib.hid (TysOwn.kept HZ1.out hb8.size (fun b hb => hout8 b (coTys_lt HZ1.out b hb) (D14.out b hb)))
      replace HR2 := Lib.hid (TysOwn.kept HR2.out hb8.size (fun b hb => hout8 b (coTys_lt HR2.out b hb) (D24.out b hb)))
      replace HR3 := Lib.hid (CosOwn.kept HR3.out hb8.size (fun b hb => hout8 b (CosOwn.lt HR3.out b hb) (D34.out b hb)))
      clear hb8 hout8
      clear q8
      have HB8 : Hid (Below B w w8) := HB.out.trans HT7.out.low
      clear HT0 HT2 HT3 HT4 HT5 HT6 HY1 HY2 HY3 HY4 HX1 HX2 HX3 HX4 hBW hBW4 hBW6 hBW7
      go_wp2_with fail
      refine ⟨⟨j + 1, by omega, by go_num, ?_, fun t ht => ?_, HB8.out, fun b b1 b2 => ?_⟩, by simp [intOf]; omega⟩
      · have h1 := HS.out
        have h2 := HWT.out
        rw [hts, hfs] at h2
        have h3 := HM.out
        have h4 := HM5.out
        have h5 := HM7.out
        have h6 := HM8.out
        rw [h1, h2, h6, h5, h4]; go_num
      · obtain ⟨g', off', d0, d1, d2, d3, d4, d5, d6, d7, d8, ft, s1, s2, s3, r0, r1, r2, r3, r4, r5, r6, r7, r8, sfr, s7, s8⟩ := HR.out t ht
        cases s1
        by_cases htj : t = j
        · subst htj
          rw [HFJ.out] at s7
          cases s7
          refine ⟨g, off, .int .i64 m, .string (mt (m + 1).natAbs), .int .i64 (m + 1 + 1), .int .i64 (m + 1 + 1 + 1), .slice a1 fts.length cap1, .int .i64 m5, .slice a2 ts.length cap2, .slice a3 us.length cap3, .slice a4 vs.length cap4, f1 ++ (f2 ++ (f3 ++ f4)), rfl, rfl, Nat.lt_of_lt_of_le hg HT7.out.size, HT7.out.cell 0 (by omega), HT7.out.cell 1 (by omega), HT7.out.cell 2 (by omega), HT7.out.cell 3 (by omega), HT7.out.cell 4 (by omega), HT7.out.cell 5 (by omega), HT7.out.cell 6 (by omega), HT7.out.cell 7 (by omega), HT7.out.cell 8 (by omega), fun o => (HT7.out.froz o).trans (HFR.out o), HFJ.out, ?_⟩
          rw [if_pos (Nat.lt_succ_self t), HEJ.out, HFE.out, HTE.out]
          have ek : k + (Co.wts (es.take t) : Int) = m := HM.out.symm
          rw [ek]
          have g2 : m + 1 + 1 = m + 2 := by omega
          have g3 : m + 1 + 1 + 1 = m + 3 := by omega
          have g4 : m + 1 + 1 + 1 + 1 = m + 3 + 1 := by omega
          have h4 := HM5.out
          have h5 := HM7.out
          have h6 := HM8.out
          have g5 : m5 = m + 4 + (((Ty.node fk fts).size - 1 : Nat) : Int) := by rw [hfs]; omega
          have g7 : m7 = m + 5 + (((Ty.node fk fts).size - 1 : Nat) : Int) + (((Ty.node tk ts).size - 1 : Nat) : Int) := by rw [hfs, hts]; omega
          have g8 : m8 = m + 5 + (((Ty.node fk fts).size - 1 : Nat) : Int) + (((Ty.node tk ts).size - 1 : Nat) : Int) + (Co.wts us : Int) := by rw [hfs, hts]; omega
          have v1 := HZ1.out
          have v2 := HR2.out
          have v3 := HR3.out
          have v4 := HR4.out
          rw [g4] at v1
          rw [g5] at v2
          rw [g7] at v3
          rw [g8] at v4
          rw [g3, g2, g5]
          exact ⟨_, _, _, _, _, _, f1, f2, f3, f4, rfl, by omega, by omega, by omega, by omega, coMt_size _ (by omega), rfl, ⟨_, rfl, by omega, by omega, v1⟩, ⟨_, rfl, by rw [hfs]; omega, by rw [hfs]; omega, v2⟩, v3, v4⟩
        · have hgt : ∀ o, o < off + j * 9 ∨ off + j * 9 + 9 ≤ o → w8.cell? ⟨g, o, none⟩ = wr.cell? ⟨g, o, none⟩ := HT7.out.rest
          refine ⟨g, off, d0, d1, d2, d3, d4, d5, d6, d7, d8, ft, rfl, rfl, Nat.lt_of_lt_of_le hg HT7.out.size, (hgt _ (by omega)).trans r0, (hgt _ (by omega)).trans r1, (hgt _ (by omega)).trans r2, (hgt _ (by omega)).trans r3, (hgt _ (by omega)).trans r4, (hgt _ (by omega)).trans r5, (hgt _ (by omega)).trans r6, (hgt _ (by omega)).trans r7, (hgt _ (by omega)).trans r8, fun o => (HT7.out.froz o).trans (HFR.out o), s7, ?_⟩
          have e3 : (if t < j + 1 then es[t].mark (k + Co.wts (es.take t)) else es[t]) = (if t < j then es[t].mark (k + Co.wts (es.take t)) else es[t]) := by
            by_cases hlt2 : t < j
            · rw [if_pos hlt2, if_pos (by omega)]
            · rw [if_neg hlt2, if_neg (by omega)]
          rw [e3]
          exact s8.kept HT7.out.size fun b hb => HT7.out.away b (HG.out t ft b s7 hb) (fun e => flat_apart HN2.out s7 HFJ.out htj hb (by simpa [or_assoc] using e)) (CoOwn.lt s8 b hb)
      · have hnb : b ≠ g := fun e => b2 (by rw [e]; simp)
        rw [HT7.out.away b hnb (fun e => b2 (List.mem_append_right _ (flat_sub HFJ.out (by simpa [or_assoc] using e)))) (Nat.lt_of_lt_of_le b1 HB.out.size)]
        exact HO.out b b1 b2
    · have hjn : j = es.length := by omega
      subst hjn
      go_wp2_with fail
      go_ret
      refine ⟨by rw [List.take_length]; rfl, ⟨a, cap, hd, fps, by rw [Co.marks_length], by rw [Co.marks_length]; exact hcap, hcap2, by rw [Co.marks_length]; exact hl, hf, fun b hb => Nat.lt_of_lt_of_le (HHD.out b hb) HB.out.size, fun t ht => ?_⟩, HB.out, HO.out⟩
      rw [Co.marks_length] at ht
      obtain ⟨g, off, c0, c1, c2, c3, c4, c5, c6, c7, c8, f, s1, s2, s3, r0, r1, r2, r3, r4, r5, r6, r7, r8, sfr, s7, s8⟩ := HR.out t ht
      rw [if_pos ht] at s8
      exact ⟨g, off, c0, c1, c2, c3, c4, c5, c6, c7, c8, f, s1, s2, s3, r0, r1, r2, r3, r4, r5, r6, r7, r8, sfr, s7, by rw [Co.marks_get es k t ht]; exact s8⟩
end Go.Proofs.Ytefoenkmppeidaa
/-
  Proved: laws.markCoreS and laws.markCoreBindS number the nodes of rows of core expressions and of environments in their own memory and touch nothing else.
-/
namespace Go.Proofs.Ytefoenkmppeidaa
open Go.RowKit

set_option maxRecDepth 100000 in
set_option maxHeartbeats 8000000 in
theorem markCbs_step (d : Nat) (ih : MarkCosSaid d) (ihb : MarkCbsSaid d) : MarkCbsSaid (d + 1) := by
  intro B v ns es fp k w hB hfB hnd hk0 hk1 h
  have IH := Lib.hid ih; clear ih
  have IHB := Lib.hid ihb; clear ihb
  have HFB := Lib.hid hfB; clear hfB
  have HND := Lib.hid hnd; clear hnd
  obtain ⟨hln, a, cap, hd, fps, rfl, hcap, hcap2, hl, hf, hhd, hat⟩ := h
  have HLN := Lib.hid hln; clear hln
  have HHD := Lib.hid hhd; clear hhd
  have HAT : Hid (∀ t (h : t < es.length) (h2 : t < ns.length), ∃ g off c0 c1 c2 c3 c4 c5 c6 c7 c8 f, a = some ⟨g, off, none⟩ ∧ hd = [g] ∧ g < w.heap.size ∧ ns[t].size ≤ 9223372036854775807 ∧ w.cell? ⟨g, off + t * 10, none⟩ = some (.string (if t < 0 then mt (k + Co.wtb (es.take t)).natAbs else ns[t])) ∧ w.cell? ⟨g, off + t * 10 + 1, none⟩ = some c0 ∧ w.cell? ⟨g, off + t * 10 + 2, none⟩ = some c1 ∧ w.cell? ⟨g, off + t * 10 + 3, none⟩ = some c2 ∧ w.cell? ⟨g, off + t * 10 + 4, none⟩ = some c3 ∧ w.cell? ⟨g, off + t * 10 + 5, none⟩ = some c4 ∧ w.cell? ⟨g, off + t * 10 + 6, none⟩ = some c5 ∧ w.cell? ⟨g, off + t * 10 + 7, none⟩ = some c6 ∧ w.cell? ⟨g, off + t * 10 + 8, none⟩ = some c7 ∧ w.cell? ⟨g, off + t * 10 + 9, none⟩ = some c8 ∧ (∀ o, w.frozen? ⟨g, o, none⟩ = false) ∧ fps[t]? = some f ∧ CoOwn w (d + 1) (.agg #[c0, c1, c2, c3, c4, c5, c6, c7, c8]) (if t < 0 then es[t].mark (k + Co.wtb (es.take t) + 1) else es[t]) f) := by
    intro t h h2
    simp only [if_neg (Nat.not_lt_zero t)]
    exact hat t h h2
  clear hat
  go_enter Try.func79, Try.ntmps79
  go_wp2_with fail
  go_loopw [1, 5] (fun m i wr => ∃ (j : Nat), j ≤ es.length ∧ i = .int .i64 j ∧ m = .int .i64 (k + Co.wtb (es.take j)) ∧
      (∀ t (h : t < es.length) (h2 : t < ns.length), ∃ g off c0 c1 c2 c3 c4 c5 c6 c7 c8 f, a = some ⟨g, off, none⟩ ∧ hd = [g] ∧ g < wr.heap.size ∧ ns[t].size ≤ 9223372036854775807 ∧ wr.cell? ⟨g, off + t * 10, none⟩ = some (.string (if t < j then mt (k + Co.wtb (es.take t)).natAbs else ns[t])) ∧ wr.cell? ⟨g, off + t * 10 + 1, none⟩ = some c0 ∧ wr.cell? ⟨g, off + t * 10 + 2, none⟩ = some c1 ∧ wr.cell? ⟨g, off + t * 10 + 3, none⟩ = some c2 ∧ wr.cell? ⟨g, off + t * 10 + 4, none⟩ = some c3 ∧ wr.cell? ⟨g, off + t * 10 + 5, none⟩ = some c4 ∧ wr.cell? ⟨g, off + t * 10 + 6, none⟩ = some c5 ∧ wr.cell? ⟨g, off + t * 10 + 7, none⟩ = some c6 ∧ wr.cell? ⟨g, off + t * 10 + 8, none⟩ = some c7 ∧ wr.cell? ⟨g, off + t * 10 + 9, none⟩ = some c8 ∧ (∀ o, wr.frozen? ⟨g, o, none⟩ = false) ∧ fps[t]? = some f ∧ CoOwn wr (d + 1) (.agg #[c0, c1, c2, c3, c4, c5, c6, c7, c8]) (if t < j then es[t].mark (k + Co.wtb (es.take t) + 1) else es[t]) f) ∧
      Below B w wr ∧ (∀ b, b < w.heap.size → b ∉ fp → wr.heap[b]? = w.heap[b]?)) (fun _ i _ => es.length - (intOf i).toNat)
  case atStart => exact ⟨0, by omega, rfl, by simp [Co.wtb], HAT.out, Below.refl _ _, fun _ _ _ => rfl⟩
  case round =>
    obtain ⟨j, hj, rfl, rfl, hrow, hb, hout⟩ := hrel
    have HR := Lib.hid hrow; clear hrow
    have HB := Lib.hid hb; clear hb
    have HO := Lib.hid hout; clear hout
    by_cases hlt : j < es.length
    · have hltn : j < ns.length := by have := HLN.out; omega
      obtain ⟨g, off, c0, c1, c2, c3, c4, c5, c6, c7, c8, f, rfl, rfl, hg, hnz, en, e0, e1, e2, e3, e4, e5, e6, e7, e8, hfr0, hfj, hex⟩ := HR.out j hlt hltn
      rw [if_neg (Nat.lt_irrefl j)] at hex
      rw [if_neg (Nat.lt_irrefl j)] at en
      have HS := Lib.hid (Co.wtb_take es j hlt)
      have hle := Co.wtb_le es (j + 1)
      cases hej : es[j] with
      | node kd nm n fr ty us ns1 vs =>
      rw [hej] at hex
      obtain ⟨z3, z4, z5, z6, sl, el, f1, f2, f3, f4, hv, h0, h1, h2, h3, h4, hff, hfr, hty, hus, hvs⟩ := hex
      have hc : c0 = .int .i64 kd ∧ c1 = .string nm ∧ c2 = .int .i64 n ∧ c3 = z3 ∧ c4 = z4 ∧ c5 = z5 ∧ c6 = z6 ∧ c7 = sl ∧ c8 = el := by injection hv with hv; injection hv with hv; simpa using hv
      obtain ⟨rfl, rfl, rfl, rfl, rfl, rfl, rfl, rfl, rfl⟩ := hc
      have hwt : es[j].wt = (fr.size - 1) + (ty.size - 1) + Co.wts us + Co.wtb vs := by rw [hej]; rfl
      cases d with
      | zero => exact hfr.elim
      | succ d =>
      cases hfe : fr with
      | node fk fts =>
      cases hte : ty with
      | node tk ts =>
      rw [hfe] at hfr hwt
      rw [hte] at hty hwt
      have hts : (Ty.node tk ts).size - 1 = Ty.sizes ts := by show 1 + Ty.sizes ts - 1 = _; omega
      have hfs : (Ty.node fk fts).size - 1 = Ty.sizes fts := by show 1 + Ty.sizes fts - 1 = _; omega
      obtain ⟨sl1, hv1, q0, q1, hfts⟩ := hfr
      have hc1 : c3 = .int .i64 fk ∧ c4 = sl1 := by injection hv1 with hv1; injection hv1 with hv1; simpa using hv1
      obtain ⟨rfl, rfl⟩ := hc1
      obtain ⟨sl2, hv2, t0, t1, hts2⟩ := hty
      have hc2 : c5 = .int .i64 tk ∧ c6 = sl2 := by injection hv2 with hv2; injection hv2 with hv2; simpa using hv2
      obtain ⟨rfl, rfl⟩ := hc2
      have HX1 : Hid (TysOwn wr d c4 fts f1) := hfts
      obtain ⟨a1, cap1, hd1, fps1, rfl, _⟩ := hfts
      have HX2 : Hid (TysOwn wr d c6 ts f2) := hts2
      obtain ⟨a2, cap2, hd2, fps2, rfl, _⟩ := hts2
      have HX3 : Hid (CosOwn wr (d + 1) c7 us f3) := hus
      obtain ⟨a3, cap3, hd3, fps3, rfl, _⟩ := hus
      have HX4 : Hid (CbsOwn wr (d + 1) c8 ns1 vs f4) := hvs
      obtain ⟨_, a4, cap4, hd4, fps4, rfl, _⟩ := hvs
      have HEJ := Lib.hid hej; clear hej
      have HTE := Lib.hid hte; clear hte
      have HFE := Lib.hid hfe; clear hfe
      subst hf
      have hnd := List.nodup_append.1 HND.out
      have HN2 := Lib.hid hnd.2.1
      have HG : Hid (∀ (t : Nat) (f' : List Nat) (b : Nat), fps[t]? = some f' → b ∈ f' → b ≠ g) := fun t f' b hf' hb e => hnd.2.2 g (by simp) b (flat_sub hf' hb) e.symm
      clear hnd hv hv1 hv2
      subst hff
      have HFJ := Lib.hid hfj; clear hfj
      have HG1 : Hid (∀ b, b ∈ f1 → b ≠ g) := fun b hb => HG.out j _ b HFJ.out (List.mem_append_left _ hb)
      have HFB1 : Hid (∀ b, b ∈ f1 → B ≤ b) := fun b hb => HFB.out b (List.mem_append_right _ (flat_sub HFJ.out (List.mem_append_left _ hb)))
      have HGN1 : Hid (g ∉ f1) := fun e => HG1.out g e rfl
      have HG2 : Hid (∀ b, b ∈ f2 → b ≠ g) := fun b hb => HG.out j _ b HFJ.out (List.mem_append_right _ (List.mem_append_left _ hb))
      have HFB2 : Hid (∀ b, b ∈ f2 → B ≤ b) := fun b hb => HFB.out b (List.mem_append_right _ (flat_sub HFJ.out (List.mem_append_right _ (List.mem_append_left _ hb))))
      have HGN2 : Hid (g ∉ f2) := fun e => HG2.out g e rfl
      have HG3 : Hid (∀ b, b ∈ f3 → b ≠ g) := fun b hb => HG.out j _ b HFJ.out (List.mem_append_right _ (List.mem_append_right _ (List.mem_append_left _ hb)))
      have HFB3 : Hid (∀ b, b ∈ f3 → B ≤ b) := fun b hb => HFB.out b (List.mem_append_right _ (flat_sub HFJ.out (List.mem_append_right _ (List.mem_append_right _ (List.mem_append_left _ hb)))))
      have HGN3 : Hid (g ∉ f3) := fun e => HG3.out g e rfl
      have HG4 : Hid (∀ b, b ∈ f4 → b ≠ g) := fun b hb => HG.out j _ b HFJ.out (List.mem_append_right _ (List.mem_append_right _ (List.mem_append_right _ hb)))
      have HFB4 : Hid (∀ b, b ∈ f4 → B ≤ b) := fun b hb => HFB.out b (List.mem_append_right _ (flat_sub HFJ.out (List.mem_append_right _ (List.mem_append_right _ (List.mem_append_right _ hb)))))
      have HGN4 : Hid (g ∉ f4) := fun e => HG4.out g e rfl
      have hn1 := List.nodup_append.1 (flat_nodup HN2.out HFJ.out)
      have hn2 := List.nodup_append.1 hn1.2.1
      have hn3 := List.nodup_append.1 hn2.2.1
      have N1 := Lib.hid hn1.1
      have N2 := Lib.hid hn2.1
      have N3 := Lib.hid hn3.1
      have N4 := Lib.hid hn3.2.1
      have D12 : Hid (∀ b, b ∈ f1 → b ∉ f2) := fun b h1 h2 => hn1.2.2 b h1 b (List.mem_append_left _ h2) rfl
      have D13 : Hid (∀ b, b ∈ f1 → b ∉ f3) := fun b h1 h2 => hn1.2.2 b h1 b (List.mem_append_right _ (List.mem_append_left _ h2)) rfl
      have D14 : Hid (∀ b, b ∈ f1 → b ∉ f4) := fun b h1 h2 => hn1.2.2 b h1 b (List.mem_append_right _ (List.mem_append_right _ h2)) rfl
      have D23 : Hid (∀ b, b ∈ f2 → b ∉ f3) := fun b h1 h2 => hn2.2.2 b h1 b (List.mem_append_left _ h2) rfl
      have D24 : Hid (∀ b, b ∈ f2 → b ∉ f4) := fun b h1 h2 => hn2.2.2 b h1 b (List.mem_append_right _ h2) rfl
      have D34 : Hid (∀ b, b ∈ f3 → b ∉ f4) := fun b h1 h2 => hn3.2.2 b h1 b h2 rfl
      clear hn1 hn2 hn3
      have hBg : B ≤ g := HFB.out g (by simp)
      have HFR := Lib.hid hfr0; clear hfr0
      have HWT := Lib.hid hwt
      have T0 : Trk wr wr B g (off + j * 10) 10 [] (fun | 0 => .string ns[j] | 1 => .int .i64 kd | 2 => .string nm | 3 => .int .i64 n | 4 => .int .i64 fk | 5 => .slice a1 fts.length cap1 | 6 => .int .i64 tk | 7 => .slice a2 ts.length cap2 | 8 => .slice a3 us.length cap3 | _ => .slice a4 vs.length cap4) := Trk.start (fun i hi => match i, hi with | 0, _ => en | 1, _ => e0 | 2, _ => e1 | 3, _ => e2 | 4, _ => e3 | 5, _ => e4 | 6, _ => e5 | 7, _ => e6 | 8, _ => e7 | 9, _ => e8 | i + 10, hi => absurd hi (by omega)) hg hBg
      have HT0 := Lib.hid T0; clear T0
      obtain ⟨m0, hm⟩ : ∃ m : Int, m = k + Co.wtb (es.take j) := ⟨_, rfl⟩
      have hmw : m0 + (6 + Ty.sizes fts + Ty.sizes ts + Co.wts us + Co.wtb vs) ≤ 1099511627776 := by have := HS.out; rw [hts, hfs] at hwt; omega
      have hm0 : 0 ≤ m0 := by omega
      rw [← hm]
      have HM := Lib.hid hm; clear hm hwt
      have hm1 : 0 < m0 := by have := HM.out; omega
      clear en e0 e1 e2 e3 e4 e5 e6 e7 e8
      go_wp2_with fail
      refine (markText m0 (by omega) (by omega) _).mono ?_
      rintro e w1 ⟨rfl, hb1⟩
      have HT1a := Lib.hid (HT0.out.quiet hb1); clear hb1
      have q0 : ∃ u, w1.cell? ⟨g, off + j * 10, none⟩ = some u := ⟨_, HT1a.out.cell 0 (by omega)⟩
      obtain ⟨u0, q0⟩ := q0
      have p0 : w1.frozen? ⟨g, off + j * 10, none⟩ = false := (HT1a.out.froz _).trans (HFR.out _)
      have q1 : ∃ u, w1.cell? ⟨g, off + j * 10 + 1, none⟩ = some u := ⟨_, HT1a.out.cell 1 (by omega)⟩
      obtain ⟨u1, q1⟩ := q1
      have p1 : w1.frozen? ⟨g, off + j * 10 + 1, none⟩ = false := (HT1a.out.froz _).trans (HFR.out _)
      go_wp2_with fail
      refine (markText (m0 + 1 + 1) (by omega) (by omega) _).mono ?_
      rintro e w2 ⟨rfl, hb2⟩
      have HT1 := Lib.hid (Trk.quiet ((HT1a.out.store 0 (by omega) (.string (mt m0.natAbs))).store 1 (by omega) (.int .i64 (m0 + 1))) hb2); clear hb2 HT1a
      clear q0 q1 p0 p1
      have q2 : ∃ u, w2.cell? ⟨g, off + j * 10 + 2, none⟩ = some u := ⟨_, HT1.out.cell 2 (by omega)⟩
      obtain ⟨u2, q2⟩ := q2
      have p2 : w2.frozen? ⟨g, off + j * 10 + 2, none⟩ = false := (HT1.out.froz _).trans (HFR.out _)
      have q3 : ∃ u, w2.cell? ⟨g, off + j * 10 + 3, none⟩ = some u := ⟨_, HT1.out.cell 3 (by omega)⟩
      obtain ⟨u3, q3⟩ := q3
      have p3 : w2.frozen? ⟨g, off + j * 10 + 3, none⟩ = false := (HT1.out.froz _).trans (HFR.out _)
      have q4 : ∃ u, w2.cell? ⟨g, off + j * 10 + 4, none⟩ = some u := ⟨_, HT1.out.cell 4 (by omega)⟩
      obtain ⟨u4, q4⟩ := q4
      have p4 : w2.frozen? ⟨g, off + j * 10 + 4, none⟩ = false := (HT1.out.froz _).trans (HFR.out _)
      have q5 : w2.cell? ⟨g, off + j * 10 + 5, none⟩ = some (.slice a1 fts.length cap1) := HT1.out.cell 5 (by omega)
      obtain ⟨W2, hW2⟩ : ∃ W, W = (((w2.setCell ⟨g, off + j * 10 + 2, none⟩ (.string (mt (m0 + 1 + 1).natAbs))).setCell ⟨g, off + j * 10 + 3, none⟩ (.int .i64 (m0 + 1 + 1 + 1))).setCell ⟨g, off + j * 10 + 4, none⟩ (.int .i64 (m0 + 1 + 1 + 1 + 1))) := ⟨_, rfl⟩
      have HT2 := Lib.hid ((((HT1.out.store 2 (by omega) (.string (mt (m0 + 1 + 1).natAbs))).store 3 (by omega) (.int .i64 (m0 + 1 + 1 + 1))).store 4 (by omega) (.int .i64 (m0 + 1 + 1 + 1 + 1))))
      rw [← hW2] at HT2
      have HY1 : Hid (TysOwn W2 d (.slice a1 fts.length cap1) fts f1) := TysOwn.kept HX1.out HT2.out.size (fun b hb => HT2.out.away b (HG1.out b hb) (by simp) (coTys_lt HX1.out b hb))
      have hBW : B ≤ W2.heap.size := Nat.le_trans hB (Nat.le_trans HB.out.size HT2.out.size)
      go_wp2_with fail
      rw [← hW2]
      refine (markTys_all d B _ fts f1 (m0 + 1 + 1 + 1 + 1 + 1) W2 hBW HFB1.out N1.out (by omega) (by omega) HY1.out).mono ?_
      rintro e w4 ⟨rfl, ht4, hb4, hout4⟩
      have HR1 := Lib.hid ht4; clear ht4
      have HT3 := Lib.hid (HT2.out.call f1 hb4 hout4 HGN1.out); clear hb4 hout4 hW2
      clear q2 q3 q4 q5 p2 p3 p4
      obtain ⟨m5, hm5⟩ : ∃ x : Int, x = m0 + 1 + 1 + 1 + 1 + 1 + (Ty.sizes fts : Int) := ⟨_, rfl⟩
      have h5a : m5 + (1 + Ty.sizes ts + Co.wts us + Co.wtb vs) ≤ 1099511627776 := by omega
      have h5b : 0 ≤ m5 := by omega
      rw [← hm5]
      have HM5 := Lib.hid hm5; clear hm5
      have q6 : ∃ u, w4.cell? ⟨g, off + j * 10 + 6, none⟩ = some u := ⟨_, HT3.out.cell 6 (by omega)⟩
      obtain ⟨u6, q6⟩ := q6
      have p6 : w4.frozen? ⟨g, off + j * 10 + 6, none⟩ = false := (HT3.out.froz _).trans (HFR.out _)
      have q7 : w4.cell? ⟨g, off + j * 10 + 7, none⟩ = some (.slice a2 ts.length cap2) := HT3.out.cell 7 (by omega)
      obtain ⟨W4, hW4⟩ : ∃ W, W = (w4.setCell ⟨g, off + j * 10 + 6, none⟩ (.int .i64 m5)) := ⟨_, rfl⟩
      have HT4 := Lib.hid ((HT3.out.store 6 (by omega) (.int .i64 m5)))
      rw [← hW4] at HT4
      have HY2 : Hid (TysOwn W4 d (.slice a2 ts.length cap2) ts f2) := TysOwn.kept HX2.out HT4.out.size (fun b hb => HT4.out.away b (HG2.out b hb) (fun e => D12.out b (by simpa using e) hb) (coTys_lt HX2.out b hb))
      have hBW4 : B ≤ W4.heap.size := Nat.le_trans hB (Nat.le_trans HB.out.size HT4.out.size)
      have HZ1 : Hid (TysOwn W4 d (.slice a1 fts.length cap1) (Ty.marks fts (m0 + 1 + 1 + 1 + 1 + 1)) f1) := TysOwn.kept HR1.out (by rw [hW4, World.size_setCell]; exact Nat.le_refl _) (fun b hb => by rw [hW4]; exact heap_setCell_other _ _ _ _ (HG1.out b hb))
      go_wp2_with fail
      rw [← hW4]
      refine (markTys_all d B _ ts f2 (m5 + 1) W4 hBW4 HFB2.out N2.out (by omega) (by omega) HY2.out).mono ?_
      rintro e w6 ⟨rfl, ht6, hb6, hout6⟩
      have HR2 := Lib.hid ht6; clear ht6
      have HT5 := Lib.hid (HT4.out.call f2 hb6 hout6 HGN2.out)
      replace HZ1 := Lib.hid (TysOwn.kept HZ1.out hb6.size (fun b hb => hout6 b (coTys_lt HZ1.out b hb) (D12.out b hb)))
      clear hb6 hout6 hW4 HR1
      clear q6 q7 p6
      obtain ⟨m7, hm7⟩ : ∃ x : Int, x = m5 + 1 + (Ty.sizes ts : Int) := ⟨_, rfl⟩
      have h7a : m7 + (Co.wts us + Co.wtb vs) ≤ 1099511627776 := by omega
      have h7b : 0 < m7 := by omega
      rw [← hm7]
      have HM7 := Lib.hid hm7; clear hm7
      have q8 : w6.cell? ⟨g, off + j * 10 + 8, none⟩ = some (.slice a3 us.length cap3) := HT5.out.cell 8 (by omega)
      have HY3 : Hid (CosOwn w6 (d + 1) (.slice a3 us.length cap3) us f3) := CosOwn.kept HX3.out HT5.out.size (fun b hb => HT5.out.away b (HG3.out b hb) (fun e => by
      simp only [List.nil_append, List.mem_append] at e
      rcases e with e | e
      · exact D13.out b e hb
      · exact D23.out b e hb) (CosOwn.lt HX3.out b hb))
      have hBW6 : B ≤ w6.heap.size := Nat.le_trans hB (Nat.le_trans HB.out.size HT5.out.size)
      go_wp2_with fail
      refine (IH.out B _ us f3 m7 w6 hBW6 HFB3.out N3.out (by omega) (by omega) HY3.out).mono ?_
      rintro e w7 ⟨rfl, ht7, hb7, hout7⟩
      have HR3 := Lib.hid ht7; clear ht7
      have HT6 := Lib.hid (HT5.out.call f3 hb7 hout7 HGN3.out)
      replace HZ1 := Lib.hid (TysOwn.kept HZ1.out hb7.size (fun b hb => hout7 b (coTys_lt HZ1.out b hb) (D13.out b hb)))
      replace HR2 := Lib.hid (TysOwn.kept HR2.out hb7.size (fun b hb => hout7 b (coTys_lt HR2.out b hb) (D23.out b hb)))
      clear hb7 hout7
      clear q8
      obtain ⟨m8, hm8⟩ : ∃ x : Int, x = m7 + (Co.wts us : Int) := ⟨_, rfl⟩
      have h8a : m8 + Co.wtb vs ≤ 1099511627776 := by omega
      have h8b : 0 < m8 := by omega
      rw [← hm8]
      have HM8 := Lib.hid hm8; clear hm8
      have q9 : w7.cell? ⟨g, off + j * 10 + 9, none⟩ = some (.slice a4 vs.length cap4) := HT6.out.cell 9 (by omega)
      have HY4 : Hid (CbsOwn w7 (d + 1) (.slice a4 vs.length cap4) ns1 vs f4) := CbsOwn.kept HX4.out HT6.out.size (fun b hb => HT6.out.away b (HG4.out b hb) (fun e => by
      simp only [List.nil_append, List.mem_append, or_assoc] at e
      rcases e with e | e | e
      · exact D14.out b e hb
      · exact D24.out b e hb
      · exact D34.out b e hb) (CbsOwn.lt HX4.out b hb))
      have hBW7 : B ≤ w7.heap.size := Nat.le_trans hB (Nat.le_trans HB.out.size HT6.out.size)
      go_wp2_with fail
      refine (IHB.out B _ ns1 vs f4 m8 w7 hBW7 HFB4.out N4.out h8b h8a HY4.out).mono ?_
      rintro e w8 ⟨rfl, ht8, hb8, hout8⟩
      have HR4 := Lib.hid ht8; clear ht8
      have HT7 := Lib.hid (HT6.out.call f4 hb8 hout8 HGN4.out)
      replace HZ1 := Lib.hid (TysOwn.kept HZ1.out hb8.size (fun b hb => hout8 b (coTys_lt HZ1.out b hb) (D14.out b hb)))
      replace HR2 := Lib.hid (TysOwn.kept HR2.out hb8.size (fun b hb => hout8 b (coTys_lt HR2.out b hb) (D24.out b hb)))
      replace HR3 := Lib.hid (CosOwn.kept HR3.out hb8.size (fun b hb => hout8 b (CosOwn.lt HR3.out b hb) (D34.out b hb)))
      clear hb8 hout8
      clear q9
      have HB8 : Hid (Below B w w8) := HB.out.trans HT7.out.low
      clear HT0 HT2 HT3 HT4 HT5 HT6 HY1 HY2 HY3 HY4 HX1 HX2 HX3 HX4 hBW hBW4 hBW6 hBW7
      go_wp2_with fail
      refine ⟨⟨j + 1, by omega, by go_num, ?_, fun t ht ht2 => ?_, HB8.out, fun b b1 b2 => ?_⟩, by simp [intOf]; omega⟩
      · have h1 := HS.out
        have h2 := HWT.out
        rw [hts, hfs] at h2
        have h3 := HM.out
        have h4 := HM5.out
        have h5 := HM7.out
        have h6 := HM8.out
        rw [h1, h2, h6, h5, h4]; go_num
      · obtain ⟨g', off', d0, d1, d2, d3, d4, d5, d6, d7, d8, ft, s1, s2, s3, rz, rn, r0, r1, r2, r3, r4, r5, r6, r7, r8, sfr, s7, s8⟩ := HR.out t ht ht2
        cases s1
        by_cases htj : t = j
        · subst htj
          rw [HFJ.out] at s7
          cases s7
          refine ⟨g, off, .int .i64 (m0 + 1), .string (mt ((m0 + 1) + 1).natAbs), .int .i64 ((m0 + 1) + 1 + 1), .int .i64 ((m0 + 1) + 1 + 1 + 1), .slice a1 fts.length cap1, .int .i64 m5, .slice a2 ts.length cap2, .slice a3 us.length cap3, .slice a4 vs.length cap4, f1 ++ (f2 ++ (f3 ++ f4)), rfl, rfl, Nat.lt_of_lt_of_le hg HT7.out.size, rz, (by rw [if_pos (Nat.lt_succ_self t), ← HM.out]; exact HT7.out.cell 0 (by omega)), HT7.out.cell 1 (by omega), HT7.out.cell 2 (by omega), HT7.out.cell 3 (by omega), HT7.out.cell 4 (by omega), HT7.out.cell 5 (by omega), HT7.out.cell 6 (by omega), HT7.out.cell 7 (by omega), HT7.out.cell 8 (by omega), HT7.out.cell 9 (by omega), fun o => (HT7.out.froz o).trans (HFR.out o), HFJ.out, ?_⟩
          rw [if_pos (Nat.lt_succ_self t), HEJ.out, HFE.out, HTE.out]
          have ek : k + (Co.wtb (es.take t) : Int) + 1 = m0 + 1 := by have := HM.out; omega
          rw [ek]
          have g2 : (m0 + 1) + 1 + 1 = (m0 + 1) + 2 := by omega
          have g3 : (m0 + 1) + 1 + 1 + 1 = (m0 + 1) + 3 := by omega
          have g4 : (m0 + 1) + 1 + 1 + 1 + 1 = (m0 + 1) + 3 + 1 := by omega
          have h4 := HM5.out
          have h5 := HM7.out
          have h6 := HM8.out
          have g5 : m5 = (m0 + 1) + 4 + (((Ty.node fk fts).size - 1 : Nat) : Int) := by rw [hfs]; omega
          have g7 : m7 = (m0 + 1) + 5 + (((Ty.node fk fts).size - 1 : Nat) : Int) + (((Ty.node tk ts).size - 1 : Nat) : Int) := by rw [hfs, hts]; omega
          have g8 : m8 = (m0 + 1) + 5 + (((Ty.node fk fts).size - 1 : Nat) : Int) + (((Ty.node tk ts).size - 1 : Nat) : Int) + (Co.wts us : Int) := by rw [hfs, hts]; omega
          have v1 := HZ1.out
          have v2 := HR2.out
          have v3 := HR3.out
          have v4 := HR4.out
          rw [g4] at v1
          rw [g5] at v2
          rw [g7] at v3
          rw [g8] at v4
          rw [g3, g2, g5]
          exact ⟨_, _, _, _, _, _, f1, f2, f3, f4, rfl, by omega, by omega, by omega, by omega, coMt_size _ (by omega), rfl, ⟨_, rfl, by omega, by omega, v1⟩, ⟨_, rfl, by rw [hfs]; omega, by rw [hfs]; omega, v2⟩, v3, v4⟩
        · have hgt : ∀ o, o < off + j * 10 ∨ off + j * 10 + 10 ≤ o → w8.cell? ⟨g, o, none⟩ = wr.cell? ⟨g, o, none⟩ := HT7.out.rest
          have e4 : (if t < j + 1 then mt (k + Co.wtb (es.take t)).natAbs else ns[t]) = (if t < j then mt (k + Co.wtb (es.take t)).natAbs else ns[t]) := by
            by_cases hlt2 : t < j
            · rw [if_pos hlt2, if_pos (by omega)]
            · rw [if_neg hlt2, if_neg (by omega)]
          refine ⟨g, off, d0, d1, d2, d3, d4, d5, d6, d7, d8, ft, rfl, rfl, Nat.lt_of_lt_of_le hg HT7.out.size, rz, (by rw [e4]; exact (hgt _ (by omega)).trans rn), (hgt _ (by omega)).trans r0, (hgt _ (by omega)).trans r1, (hgt _ (by omega)).trans r2, (hgt _ (by omega)).trans r3, (hgt _ (by omega)).trans r4, (hgt _ (by omega)).trans r5, (hgt _ (by omega)).trans r6, (hgt _ (by omega)).trans r7, (hgt _ (by omega)).trans r8, fun o => (HT7.out.froz o).trans (HFR.out o), s7, ?_⟩
          have e3 : (if t < j + 1 then es[t].mark (k + Co.wtb (es.take t) + 1) else es[t]) = (if t < j then es[t].mark (k + Co.wtb (es.take t) + 1) else es[t]) := by
            by_cases hlt2 : t < j
            · rw [if_pos hlt2, if_pos (by omega)]
            · rw [if_neg hlt2, if_neg (by omega)]
          rw [e3]
          exact s8.kept HT7.out.size fun b hb => HT7.out.away b (HG.out t ft b s7 hb) (fun e => flat_apart HN2.out s7 HFJ.out htj hb (by simpa [or_assoc] using e)) (CoOwn.lt s8 b hb)
      · have hnb : b ≠ g := fun e => b2 (by rw [e]; simp)
        rw [HT7.out.away b hnb (fun e => b2 (List.mem_append_right _ (flat_sub HFJ.out (by simpa [or_assoc] using e)))) (Nat.lt_of_lt_of_le b1 HB.out.size)]
        exact HO.out b b1 b2
    · have hjn : j = es.length := by omega
      subst hjn
      go_wp2_with fail
      go_ret
      refine ⟨by rw [List.take_length]; rfl, ⟨by rw [Co.bmarks_length, bnames_length], a, cap, hd, fps, by rw [Co.bmarks_length], by rw [Co.bmarks_length]; exact hcap, hcap2, by rw [Co.bmarks_length]; exact hl, hf, fun b hb => Nat.lt_of_lt_of_le (HHD.out b hb) HB.out.size, fun t ht ht2 => ?_⟩, HB.out, HO.out⟩
      rw [Co.bmarks_length] at ht
      obtain ⟨g, off, c0, c1, c2, c3, c4, c5, c6, c7, c8, f, s1, s2, s3, rz, rn, r0, r1, r2, r3, r4, r5, r6, r7, r8, sfr, s7, s8⟩ := HR.out t ht (by have := HLN.out; omega)
      rw [if_pos ht] at s8 rn
      have hle := Co.wtb_le es t
      exact ⟨g, off, c0, c1, c2, c3, c4, c5, c6, c7, c8, f, s1, s2, s3, by rw [bnames_get es k t ht]; exact coMt_size _ (by omega), by rw [bnames_get es k t ht]; exact rn, r0, r1, r2, r3, r4, r5, r6, r7, r8, sfr, s7, by rw [Co.bmarks_get es k t ht]; exact s8⟩
theorem markCos_zero : MarkCosSaid 0 := by
  intro B v es fp k w hB hfB hnd hk0 hk1 h
  obtain ⟨a, cap, hd, fps, rfl, hcap, hcap2, hl, rfl, hhd, hat⟩ := h
  cases es with
  | cons t r =>
    obtain ⟨_, _, _, _, _, _, _, _, _, _, _, _, _, _, _, _, _, _, _, _, _, _, _, _, _, _, hr⟩ := hat 0 (by simp)
    exact hr.elim
  | nil =>
    go_enter Try.func78, Try.ntmps78
    go_wp2_with fail
    go_loop [1, 5] (fun m i => m = .int .i64 k ∧ i = .int .i64 0) (fun _ _ => 0)
    case atStart => exact ⟨rfl, rfl⟩
    case round =>
      obtain ⟨rfl, rfl⟩ := hrel
      go_wp2_with fail
      go_ret
      exact ⟨by simp [Co.wts], ⟨a, cap, hd, fps, rfl, hcap, hcap2, hl, rfl, hhd, fun j hj => by simp [Co.marks] at hj⟩, Below.refl _ _, fun _ _ _ => rfl⟩
theorem markCbs_zero : MarkCbsSaid 0 := by
  intro B v ns es fp k w hB hfB hnd hk0 hk1 h
  obtain ⟨hln, a, cap, hd, fps, rfl, hcap, hcap2, hl, rfl, hhd, hat⟩ := h
  cases es with
  | cons t r =>
    obtain ⟨_, _, _, _, _, _, _, _, _, _, _, _, _, _, _, _, _, _, _, _, _, _, _, _, _, _, _, _, hr⟩ := hat 0 (by simp) (by rw [hln]; simp)
    exact hr.elim
  | nil =>
    go_enter Try.func79, Try.ntmps79
    go_wp2_with fail
    go_loop [1, 5] (fun m i => m = .int .i64 k ∧ i = .int .i64 0) (fun _ _ => 0)
    case atStart => exact ⟨rfl, rfl⟩
    case round =>
      obtain ⟨rfl, rfl⟩ := hrel
      go_wp2_with fail
      go_ret
      exact ⟨by simp [Co.wtb], ⟨by simp [bnames, Co.bmarks], a, cap, hd, fps, rfl, hcap, hcap2, hl, rfl, hhd, fun j hj => by simp [Co.bmarks] at hj⟩, Below.refl _ _, fun _ _ _ => rfl⟩
theorem markCo_all : ∀ d, MarkCosSaid d ∧ MarkCbsSaid d
  | 0 => ⟨markCos_zero, markCbs_zero⟩
  | d + 1 => ⟨markCos_step d (markCo_all d).1 (markCo_all d).2, markCbs_step d (markCo_all d).1 (markCo_all d).2⟩
end Go.Proofs.Ytefoenkmppeidaa
/-
  Proved: laws.markCore numbers what lies below a core expression's root in its own memory; plain facts on core expressions that own their blocks, with the blocks' bounds.
-/
namespace Go.Proofs.Ytefoenkmppeidaa
open Go.RowKit

def CoIn (w : World) (d : Nat) (v : Value) (t : Co) (lo hi : Nat) : Prop := ∃ fp, CoOwn w d v t fp ∧ Fp lo hi fp ∧ hi ≤ w.heap.size
theorem CoIn.at_ {w : World} {d : Nat} {v : Value} {t : Co} {lo hi : Nat} (h : CoIn w d v t lo hi) : CoAt w d v t := by obtain ⟨fp, h, _⟩ := h; exact CoOwn.at_ h
theorem CoIn.below {w w' : World} {d : Nat} {v : Value} {t : Co} {lo hi : Nat} (h : CoIn w d v t lo hi) (hb : Below w.heap.size w w') : CoIn w' d v t lo hi := by
  obtain ⟨fp, h, hf, hz⟩ := h
  exact ⟨fp, h.kept hb.size fun b hbf => hb.block b (Nat.lt_of_lt_of_le (hf.2 b hbf).2 hz), hf, Nat.le_trans hz hb.size⟩
theorem CoIn.of {w0 w : World} {d : Nat} {v : Value} {t : Co} {fp : List Nat} {lo : Nat} (h : CoOwn w d v t fp) (hf : Fp w0.heap.size w.heap.size fp) (hlo : lo ≤ w0.heap.size) : CoIn w d v t lo w.heap.size :=
  ⟨fp, h, hf.mono hlo (Nat.le_refl _), Nat.le_refl _⟩
theorem CoIn.beside {w w' : World} {d : Nat} {v : Value} {t : Co} {lo hi lo2 hi2 : Nat} (h : CoIn w d v t lo hi) (k : Kept lo2 hi2 w w') (hd : hi ≤ lo2 ∨ hi2 ≤ lo) : CoIn w' d v t lo hi := by
  obtain ⟨fp, h, hf, hz⟩ := h
  exact ⟨fp, h.kept k.1 fun b hbf => k.2 b (by have := (hf.2 b hbf).2; omega) (by have := hf.2 b hbf; omega), hf, Nat.le_trans hz k.1⟩
/-- The core expression with all that lies below its root numbered from k on. -/
def Co.markIn : Co → Int → Co
  | .node kd nm n fr ty es _ vs, k => .node kd nm n (fr.markIn k) (ty.markIn (k + ((fr.size - 1 : Nat) : Int))) (Co.marks es (k + ((fr.size - 1 : Nat) : Int) + ((ty.size - 1 : Nat) : Int)))
      (bnames vs (k + ((fr.size - 1 : Nat) : Int) + ((ty.size - 1 : Nat) : Int) + (Co.wts es : Int))) (Co.bmarks vs (k + ((fr.size - 1 : Nat) : Int) + ((ty.size - 1 : Nat) : Int) + (Co.wts es : Int)))
def MarkCoEnd (B d : Nat) (v : Value) (t : Co) (fp : List Nat) (k : Int) (w : World) (e : Ending) (w' : World) : Prop :=
  e = .returned (.int .i64 (k + (t.wt : Int))) ∧ CoOwn w' d v (t.markIn k) fp ∧ Below B w w' ∧ (∀ b, b < w.heap.size → b ∉ fp → w'.heap[b]? = w.heap[b]?)
set_option maxRecDepth 100000 in
set_option maxHeartbeats 4000000 in
theorem markCo (B d : Nat) (v : Value) (t : Co) (fp : List Nat) (k : Int) (w : World) (hB : B ≤ w.heap.size) (hfB : ∀ b, b ∈ fp → B ≤ b) (hnd : fp.Nodup) (hk0 : 0 < k) (hk1 : k + t.wt + 2 ≤ 1099511627776) (h : CoOwn w d v t fp) :
    Calls Try.prog 30 #[v, .int .i64 k] w (MarkCoEnd B d v t fp k w) := by
  cases d with
  | zero => exact h.elim
  | succ d =>
    cases t with
    | node kd nm n fr ty us ns vs =>
      have hlt := CoOwn.lt h
      obtain ⟨fk, fa, fn, fc, tk, ta, tn, tc, sa, sn, sc, ea, en, ec, hv0⟩ : ∃ fk fa fn fc tk ta tn tc sa sn sc ea en ec, v = .agg #[.int .i64 kd, .string nm, .int .i64 n, .int .i64 fk, .slice fa fn fc, .int .i64 tk, .slice ta tn tc, .slice sa sn sc, .slice ea en ec] := by
        obtain ⟨_, _, _, fk, fa, fn, fc, tk, ta, tn, tc, sa, sn, sc, ea, en, ec, hv⟩ := co_parts h.at_
        obtain ⟨c3, c4, c5, c6, sl, el, f1, f2, f3, f4, rfl, _⟩ := h
        injection hv with hv
        injection hv with hv
        simp at hv
        obtain ⟨rfl, rfl, rfl, rfl, rfl, rfl, rfl, rfl, rfl⟩ := hv
        exact ⟨fk, fa, fn, fc, tk, ta, tn, tc, sa, sn, sc, ea, en, ec, rfl⟩
      subst hv0
      obtain ⟨c3, c4, c5, c6, sl, el, f1, f2, f3, f4, hv, h0, h1, h2, h3, h4, hff, hfr, hty, hus, hvs⟩ := h
      injection hv with hv
      injection hv with hv
      simp at hv
      obtain ⟨rfl, rfl, rfl, rfl, rfl, rfl⟩ := hv
      subst hff
      have hn1 := List.nodup_append.1 hnd
      have hn2 := List.nodup_append.1 hn1.2.1
      have hn3 := List.nodup_append.1 hn2.2.1
      have N1 := Lib.hid hn1.1
      have N2 := Lib.hid hn2.1
      have N3 := Lib.hid hn3.1
      have N4 := Lib.hid hn3.2.1
      have D12 : Hid (∀ b, b ∈ f1 → b ∉ f2) := fun b h1 h2 => hn1.2.2 b h1 b (List.mem_append_left _ h2) rfl
      have D13 : Hid (∀ b, b ∈ f1 → b ∉ f3) := fun b h1 h2 => hn1.2.2 b h1 b (List.mem_append_right _ (List.mem_append_left _ h2)) rfl
      have D14 : Hid (∀ b, b ∈ f1 → b ∉ f4) := fun b h1 h2 => hn1.2.2 b h1 b (List.mem_append_right _ (List.mem_append_right _ h2)) rfl
      have D23 : Hid (∀ b, b ∈ f2 → b ∉ f3) := fun b h1 h2 => hn2.2.2 b h1 b (List.mem_append_left _ h2) rfl
      have D24 : Hid (∀ b, b ∈ f2 → b ∉ f4) := fun b h1 h2 => hn2.2.2 b h1 b (List.mem_append_right _ h2) rfl
      have D34 : Hid (∀ b, b ∈ f3 → b ∉ f4) := fun b h1 h2 => hn3.2.2 b h1 b h2 rfl
      clear hn1 hn2 hn3 hnd
      have hwt : (Co.node kd nm n fr ty us ns vs).wt = (fr.size - 1) + (ty.size - 1) + Co.wts us + Co.wtb vs := rfl
      rw [hwt] at hk1
      have hpf := fr.size_pos
      have hpt := ty.size_pos
      obtain ⟨W, hW⟩ : ∃ W, W = w.alloc (.cells #[.int .i64 kd, .string nm, .int .i64 n, .int .i64 fk, .slice fa fn fc, .int .i64 tk, .slice ta tn tc, .slice sa sn sc, .slice ea en ec] 68) := ⟨_, rfl⟩
      have e1 : Below w.heap.size w W := by rw [hW]; exact below_alloc _ _
      have XA : Hid (BoxAt W w.heap.size #[.int .i64 kd, .string nm, .int .i64 n, .int .i64 fk, .slice fa fn fc, .int .i64 tk, .slice ta tn tc, .slice sa sn sc, .slice ea en ec]) := by rw [hW]; exact BoxAt.new _ _ _
      have HE := Lib.hid e1
      have HLT := Lib.hid hlt; clear hlt
      have M1 : Hid (∀ b, b ∈ f1 → b ∈ f1 ++ (f2 ++ (f3 ++ f4))) := fun b hb => List.mem_append_left _ hb
      have M2 : Hid (∀ b, b ∈ f2 → b ∈ f1 ++ (f2 ++ (f3 ++ f4))) := fun b hb => List.mem_append_right _ (List.mem_append_left _ hb)
      have M3 : Hid (∀ b, b ∈ f3 → b ∈ f1 ++ (f2 ++ (f3 ++ f4))) := fun b hb => List.mem_append_right _ (List.mem_append_right _ (List.mem_append_left _ hb))
      have M4 : Hid (∀ b, b ∈ f4 → b ∈ f1 ++ (f2 ++ (f3 ++ f4))) := fun b hb => List.mem_append_right _ (List.mem_append_right _ (List.mem_append_right _ hb))
      have HX1 : Hid (TyOwn W d (.agg #[.int .i64 fk, .slice fa fn fc]) fr f1) := hfr.kept e1.size fun b hb => e1.block b (HLT.out b (M1.out b hb))
      have HX2 : Hid (TyOwn W d (.agg #[.int .i64 tk, .slice ta tn tc]) ty f2) := hty.kept e1.size fun b hb => e1.block b (HLT.out b (M2.out b hb))
      have HX3 : Hid (CosOwn W d (.slice sa sn sc) us f3) := CosOwn.kept hus e1.size fun b hb => e1.block b (HLT.out b (M3.out b hb))
      have HX4 : Hid (CbsOwn W d (.slice ea en ec) ns vs f4) := CbsOwn.kept hvs e1.size fun b hb => e1.block b (HLT.out b (M4.out b hb))
      have HFB := Lib.hid hfB; clear hfB
      have hBW : B ≤ W.heap.size := Nat.le_trans hB e1.size
      have x3 := XA.out.2 3
      have x4 := XA.out.2 4
      have hBB : Hid (Below B w W) := by rw [hW]; exact (Below.refl _ _).alloc hB _
      have hpW : w.heap.size < W.heap.size := XA.out.1
      have NP : Hid (w.heap.size ∉ f1 ++ (f2 ++ (f3 ++ f4))) := fun hm => absurd (HLT.out _ hm) (by omega)
      clear hfr hty hus hvs e1
      go_enter Try.func30, Try.ntmps30
      go_wp2_with fail
      rw [← hW]
      go_wp2_with fail
      refine (markTy B d _ fr f1 k W hBW (fun b hb => HFB.out b (M1.out b hb)) N1.out (by omega) (by omega) HX1.out).mono ?_
      rintro e w2 ⟨rfl, ht, hb, hout⟩
      have HR1 := Lib.hid ht; clear ht
      have HB2 := Lib.hid (hBB.out.trans hb)
      have hz2 := hb.size
      have hgb : w2.heap[w.heap.size]? = W.heap[w.heap.size]? := hout _ hpW (fun hm => NP.out (M1.out _ hm))
      have HGB := Lib.hid hgb
      have x5 : w2.cell? ⟨w.heap.size, 5, none⟩ = some (.int .i64 tk) := (World.cell?_of_block (a := ⟨w.heap.size, 5, none⟩) hgb).trans (XA.out.2 5)
      have x6 : w2.cell? ⟨w.heap.size, 6, none⟩ = some (.slice ta tn tc) := (World.cell?_of_block (a := ⟨w.heap.size, 6, none⟩) hgb).trans (XA.out.2 6)
      have HY2 : Hid (TyOwn w2 d (.agg #[.int .i64 tk, .slice ta tn tc]) ty f2) := HX2.out.kept hb.size fun b hm => hout b (TyOwn.lt HX2.out b hm) (fun h => D12.out b h hm)
      have HY3 : Hid (CosOwn w2 d (.slice sa sn sc) us f3) := CosOwn.kept HX3.out hb.size fun b hm => hout b (CosOwn.lt HX3.out b hm) (fun h => D13.out b h hm)
      have HY4 : Hid (CbsOwn w2 d (.slice ea en ec) ns vs f4) := CbsOwn.kept HX4.out hb.size fun b hm => hout b (CbsOwn.lt HX4.out b hm) (fun h => D14.out b h hm)
      have HO1 := Lib.hid hout
      clear hb hout hgb x3 x4 HX1 HX2 HX3 HX4
      obtain ⟨m2, hm2⟩ : ∃ x : Int, x = k + ((fr.size - 1 : Nat) : Int) := ⟨_, rfl⟩
      have h2a : m2 + ((ty.size - 1) + Co.wts us + Co.wtb vs) + 2 ≤ 1099511627776 := by omega
      have h2b : 0 < m2 := by omega
      rw [← hm2]
      have HM2 := Lib.hid hm2; clear hm2
      go_wp2_with fail
      refine (markTy B d _ ty f2 m2 w2 (by omega) (fun b hb => HFB.out b (M2.out b hb)) N2.out (by omega) (by omega) HY2.out).mono ?_
      rintro e w3 ⟨rfl, ht, hb, hout⟩
      have HR2 := Lib.hid ht; clear ht
      have HB3 := Lib.hid (HB2.out.trans hb)
      have hz3 := hb.size
      have hgb : w3.heap[w.heap.size]? = W.heap[w.heap.size]? := (hout _ (by omega) (fun hm => NP.out (M2.out _ hm))).trans HGB.out
      have HGB3 := Lib.hid hgb
      have x7 : w3.cell? ⟨w.heap.size, 7, none⟩ = some (.slice sa sn sc) := (World.cell?_of_block (a := ⟨w.heap.size, 7, none⟩) hgb).trans (XA.out.2 7)
      have HZ1 : Hid (TyOwn w3 d (.agg #[.int .i64 fk, .slice fa fn fc]) (fr.markIn k) f1) := HR1.out.kept hb.size fun b hm => hout b (TyOwn.lt HR1.out b hm) (D12.out b hm)
      have HZ3 : Hid (CosOwn w3 d (.slice sa sn sc) us f3) := CosOwn.kept HY3.out hb.size fun b hm => hout b (CosOwn.lt HY3.out b hm) (fun h => D23.out b h hm)
      have HZ4 : Hid (CbsOwn w3 d (.slice ea en ec) ns vs f4) := CbsOwn.kept HY4.out hb.size fun b hm => hout b (CbsOwn.lt HY4.out b hm) (fun h => D24.out b h hm)
      have HO2 := Lib.hid hout
      clear hb hout hgb x5 x6 HY2 HY3 HY4 HR1 HGB
      obtain ⟨m3, hm3⟩ : ∃ x : Int, x = m2 + ((ty.size - 1 : Nat) : Int) := ⟨_, rfl⟩
      have h3a : m3 + (Co.wts us + Co.wtb vs) + 2 ≤ 1099511627776 := by omega
      have h3b : 0 < m3 := by omega
      rw [← hm3]
      have HM3 := Lib.hid hm3; clear hm3
      go_wp2_with fail
      refine ((markCo_all d).1 B _ us f3 m3 w3 (by omega) (fun b hb => HFB.out b (M3.out b hb)) N3.out (by omega) (by omega) HZ3.out).mono ?_
      rintro e w4 ⟨rfl, ht, hb, hout⟩
      have HR3 := Lib.hid ht; clear ht
      have HB4 := Lib.hid (HB3.out.trans hb)
      have hz4 := hb.size
      have hgb : w4.heap[w.heap.size]? = W.heap[w.heap.size]? := (hout _ (by omega) (fun hm => NP.out (M3.out _ hm))).trans HGB3.out
      have x8 : w4.cell? ⟨w.heap.size, 8, none⟩ = some (.slice ea en ec) := (World.cell?_of_block (a := ⟨w.heap.size, 8, none⟩) hgb).trans (XA.out.2 8)
      replace HZ1 : Hid (TyOwn w4 d (.agg #[.int .i64 fk, .slice fa fn fc]) (fr.markIn k) f1) := HZ1.out.kept hb.size fun b hm => hout b (TyOwn.lt HZ1.out b hm) (D13.out b hm)
      replace HR2 := Lib.hid (HR2.out.kept hb.size fun b hm => hout b (TyOwn.lt HR2.out b hm) (D23.out b hm))
      replace HZ4 : Hid (CbsOwn w4 d (.slice ea en ec) ns vs f4) := CbsOwn.kept HZ4.out hb.size fun b hm => hout b (CbsOwn.lt HZ4.out b hm) (fun h => D34.out b h hm)
      have HO3 := Lib.hid hout
      clear hb hout hgb x7 HZ3 HGB3
      obtain ⟨m4, hm4⟩ : ∃ x : Int, x = m3 + (Co.wts us : Int) := ⟨_, rfl⟩
      have h4a : m4 + Co.wtb vs + 2 ≤ 1099511627776 := by omega
      have h4b : 0 < m4 := by omega
      rw [← hm4]
      have HM4 := Lib.hid hm4; clear hm4
      go_wp2_with fail
      refine ((markCo_all d).2 B _ ns vs f4 m4 w4 (by omega) (fun b hb => HFB.out b (M4.out b hb)) N4.out h4b (by omega) HZ4.out).mono ?_
      rintro e w5 ⟨rfl, ht, hb, hout⟩
      have HR4 := Lib.hid ht; clear ht
      have HB5 := Lib.hid (HB4.out.trans hb)
      replace HZ1 : Hid (TyOwn w5 d (.agg #[.int .i64 fk, .slice fa fn fc]) (fr.markIn k) f1) := HZ1.out.kept hb.size fun b hm => hout b (TyOwn.lt HZ1.out b hm) (D14.out b hm)
      replace HR2 := Lib.hid (HR2.out.kept hb.size fun b hm => hout b (TyOwn.lt HR2.out b hm) (D24.out b hm))
      replace HR3 := Lib.hid (CosOwn.kept HR3.out hb.size fun b hm => hout b (CosOwn.lt HR3.out b hm) (D34.out b hm))
      have HO4 := Lib.hid hout
      clear hb hout x8 HZ4
      go_wp2_with fail
      go_ret
      have g2 := HM2.out
      have g3 := HM3.out
      have g4 := HM4.out
      rw [g2] at g3
      rw [g3] at g4
      have v2 := HR2.out
      have v3 := HR3.out
      have v4 := HR4.out
      rw [g2] at v2
      rw [g3] at v3
      rw [g4] at v4
      have ek : m4 + (Co.wtb vs : Int) = k + (((fr.size - 1) + (ty.size - 1) + Co.wts us + Co.wtb vs : Nat) : Int) := by omega
      refine ⟨by rw [hwt, ← ek]; rfl, ⟨_, _, _, _, _, _, f1, f2, f3, f4, rfl, h0, h1, h2, h3, h4, rfl, HZ1.out, v2, v3, v4⟩, HB5.out, fun b b1 b2 => ?_⟩
      rw [HO4.out b (by omega) (fun h => b2 (M4.out b h)), HO3.out b (by omega) (fun h => b2 (M3.out b h)), HO2.out b (by omega) (fun h => b2 (M2.out b h)), HO1.out b (by omega) (fun h => b2 (M1.out b h))]
      exact HE.out.block b b1
theorem markCoIn (B d : Nat) (v : Value) (t : Co) (lo hi : Nat) (k : Int) (w : World) (hB : B ≤ lo) (hBw : B ≤ w.heap.size) (hk0 : 0 < k) (hk1 : k + t.wt + 2 ≤ 1099511627776) (h : CoIn w d v t lo hi) :
    Calls Try.prog 30 #[v, .int .i64 k] w fun e w' => e = .returned (.int .i64 (k + (t.wt : Int))) ∧ CoIn w' d v (t.markIn k) lo hi ∧ Below B w w' ∧ Kept lo hi w w' := by
  obtain ⟨fp, h, hf, hz⟩ := h
  refine (markCo B d v t fp k w hBw (fun b hb => by have := (hf.2 b hb).1; omega) hf.1 hk0 hk1 h).mono ?_
  rintro e w' ⟨rfl, h1, h2, h3⟩
  exact ⟨rfl, ⟨fp, h1, hf, Nat.le_trans hz h2.size⟩, h2, h2.size, fun b h4 h5 => h3 b h4 fun hm => by have := hf.2 b hm; omega⟩
end Go.Proofs.Ytefoenkmppeidaa
/-
  Proved: laws.eqStringS answers true for two slices that hold the same strings, and changes no memory that was there.
-/
namespace Go.Proofs.Ytefoenkmppeidaa
open Go.RowKit

set_option maxRecDepth 100000 in
set_option maxHeartbeats 1000000 in
theorem eqStrs (v1 v2 : Value) (ss : List ByteArray) (hn : ss.length ≤ 9223372036854775807) (w : World) (h1 : Strs w v1 ss) (h2 : Strs w v2 ss) :
    Calls Try.prog 28 #[v1, v2] w fun e w' => e = .returned (.bool true) ∧ Below w.heap.size w w' := by
  obtain ⟨a1, cap1, rfl, hcap1, hat1⟩ := h1
  obtain ⟨a2, cap2, rfl, hcap2, hat2⟩ := h2
  have HC1 := Lib.hid hat1; clear hat1
  have HC2 := Lib.hid hat2; clear hat2
  go_enter Try.func28, Try.ntmps28
  go_wp2_with fail
  go_loopw [5] (fun i wr => ∃ k : Nat, k ≤ ss.length ∧ i = .int .i64 k ∧ Below w.heap.size w wr) (fun i _ => ss.length - (intOf i).toNat)
  case atStart => exact ⟨0, by omega, rfl, Below.refl _ _⟩
  case round =>
    obtain ⟨k, hk, rfl, hb⟩ := hrel
    by_cases hlt : k < ss.length
    · obtain ⟨b1, off1, rfl, hbl1, hcell1⟩ := HC1.out k hlt
      obtain ⟨b2, off2, rfl, hbl2, hcell2⟩ := HC2.out k hlt
      have c1 : wr.cell? ⟨b1, off1 + k, none⟩ = some (.string ss[k]) := by rw [hb.cell (p := ⟨b1, off1 + k, none⟩) hbl1]; exact hcell1
      have c2 : wr.cell? ⟨b2, off2 + k, none⟩ = some (.string ss[k]) := by rw [hb.cell (p := ⟨b2, off2 + k, none⟩) hbl2]; exact hcell2
      have HB2 := Lib.hid hb; clear hb hcell1 hcell2
      go_wp2_with fail
      go_quiet (fail)
      go_wp2_with fail
      exact ⟨⟨k + 1, by omega, by go_num, below_drewN HB2.out nq⟩, by simp [intOf]; omega⟩
    · go_wp2_with fail
      go_ret
      exact ⟨rfl, hb⟩
end Go.Proofs.Ytefoenkmppeidaa
/-
  Proved: spec.FreeInCore unites the free variables of a core expression, in new memory; the memory that was there stays as it was.
-/
namespace Go.Proofs.Ytefoenkmppeidaa
open Go.RowKit

set_option maxRecDepth 100000 in
set_option maxHeartbeats 4000000 in
theorem specCoFree : ∀ (d : Nat) (v : Value) (t : Co) (w : World), CoAt w d v t → t.bulk ≤ 1048576 → Calls Try.prog 25 #[v] w (RowEnd t.free w)
  | 0, _, _, _, h, _ => h.elim
  | d + 1, v, .node kd nm n fr ty es ns vs, w, h, hsz => by
    have IH : Hid (∀ (v : Value) (t : Co) (w : World), CoAt w d v t → t.bulk ≤ 1048576 → Calls Try.prog 25 #[v] w (RowEnd t.free w)) := specCoFree d
    have HV := co_parts h
    obtain ⟨c3, c4, c5, c6, sl, el, rfl, hk0, hk1, hn0, hn1, hnm, hfr, hty, ⟨a, cap, rfl, hcap, hcap2, hat⟩, hln, a2, cap2, rfl, hcpe, hcpe2, hae⟩ := h
    obtain ⟨k', nm', n', fk, fa, fn, fc, tk, ta, tn, tc, sa, sn, sc, ea, en, ec, hv⟩ := HV
    injection hv with hv
    injection hv with hv
    simp at hv
    obtain ⟨rfl, rfl, rfl, rfl, rfl, rfl, rfl, HVR⟩ := hv
    clear HVR
    have HAT := Lib.hid hat; clear hat
    have HAE := Lib.hid hae; clear hae
    have HLN := Lib.hid hln; clear hln
    have hbk : (Co.node kd nm n fr ty es ns vs).bulk = nm.size + (fr.size - 1) + (ty.size - 1) + Co.bulks es + (txs ns + Co.bulks vs) := rfl
    have HSZ : Hid (Co.bulks es + Co.bulks vs ≤ 1048576) := by show _ ≤ _; omega
    have hlen : es.length ≤ 1048576 := by have := Co.length_le es; omega
    have hlen2 : vs.length ≤ 1048576 := by have := Co.length_le vs; omega
    clear hsz hbk hty hfr
    by_cases q : kd = 3
    · subst q
      have HFH : Hid ((Co.node 3 nm n fr ty es ns vs).free = [nm]) := by show _ = _; simp [Co.free]
      go_enter Try.func25, Try.ntmps25
      go_wp2_with fail
      go_ret
      rw [HFH.out]
      refine ⟨_, rfl, ⟨?_, fun k hk => ?_, Nat.le_refl _⟩, ((Below.refl _ _).alloc (Nat.le_refl _) _).alloc (by simp) _⟩
      · have := one_made (B := w.heap.size) (w.alloc (.cells #[.int .i64 3, .string nm, .int .i64 n, .int .i64 fk, .slice fa fn fc, .int .i64 tk, .slice ta tn tc, .slice a es.length cap, .slice a2 vs.length cap2] 68)) nm (by simp)
        rw [World.size_alloc] at this
        exact this
      · simp [Value.ownBlock] at hk; subst hk; simp
    · have qb : (kd == 3) = false := by simp; omega
      have HST : Hid (((w.alloc (.cells #[.int .i64 kd, .string nm, .int .i64 n, .int .i64 fk, .slice fa fn fc, .int .i64 tk, .slice ta tn tc, .slice a es.length cap, .slice a2 vs.length cap2] 68)).alloc (.cells #[] 9)).ownsRow (w.heap.size + 1) 9 1 (.slice (some ⟨w.heap.size + 1, 0, none⟩) 0 0) 0 []) := by
        have := World.ownsRow_made (base := w.heap.size + 1) (e := 9) (size := 1) (w.alloc (.cells #[.int .i64 kd, .string nm, .int .i64 n, .int .i64 fk, .slice fa fn fc, .int .i64 tk, .slice ta tn tc, .slice a es.length cap, .slice a2 vs.length cap2] 68)) #[] 0 (by simp) (Nat.zero_le _) rfl
        rw [World.size_alloc] at this
        exact this
      have HSB : Hid (Below (w.heap.size + 1) (w.alloc (.cells #[.int .i64 kd, .string nm, .int .i64 n, .int .i64 fk, .slice fa fn fc, .int .i64 tk, .slice ta tn tc, .slice a es.length cap, .slice a2 vs.length cap2] 68)) ((w.alloc (.cells #[.int .i64 kd, .string nm, .int .i64 n, .int .i64 fk, .slice fa fn fc, .int .i64 tk, .slice ta tn tc, .slice a es.length cap, .slice a2 vs.length cap2] 68)).alloc (.cells #[] 9))) := (Below.refl _ _).alloc (by simp) _
      have HFE : Hid ((Co.node kd nm n fr ty es ns vs).free = if kd = 4 then without (Co.frees (Co.frees [] es) vs) nm else Co.frees (Co.frees [] es) vs) := by show _ = _; simp [Co.free, q]
      clear q
      go_enter Try.func25, Try.ntmps25
      go_wp2_with fail
      go_loopw [3, 4] (fun o i wr => ∃ (k : Nat) (L : List ByteArray), k ≤ es.length ∧ i = .int .i64 k ∧ wr.ownsRow (w.heap.size + 1) 9 1 o L.length (L.map Value.string) ∧ L = Co.frees [] (es.take k) ∧ Below (w.heap.size + 1) (w.alloc (.cells #[.int .i64 kd, .string nm, .int .i64 n, .int .i64 fk, .slice fa fn fc, .int .i64 tk, .slice ta tn tc, .slice a es.length cap, .slice a2 vs.length cap2] 68)) wr) (fun _ i _ => es.length - (intOf i).toNat)
      case atStart => exact ⟨0, [], by omega, rfl, HST.out, by simp [Co.frees], HSB.out⟩
      case round =>
        obtain ⟨k, L, hk, rfl, hown, hL, hb⟩ := hrel
        have b0 := box_cell hb 0
        have b1 := box_cell hb 1
        have b7 := box_cell hb 7
        have b8 := box_cell hb 8
        have HO := Lib.hid hown; clear hown
        have HB := Lib.hid (box_below hb)
        have HBX := Lib.hid hb; clear hb
        have HS2 := HSZ.out
        have hpart := Co.frees_few (es.take k) []
        have hpart2 := Co.bulks_le es k
        have hll : L.length ≤ 1048576 := by rw [hL]; simp at hpart; omega
        have hLL : L.length ≤ Co.bulks (es.take k) := by rw [hL]; simpa using hpart
        have HLL := Lib.hid hLL; clear hLL hpart hpart2
        have HL := Lib.hid hL; clear hL
        by_cases hlt : k < es.length
        · obtain ⟨b, off, x0, x1, x2, x3, x4, x5, x6, x7, x8, rfl, hbl, hc0, hc1, hc2, hc3, hc4, hc5, hc6, hc7, hc8, ht⟩ := HAT.out k hlt
          have hg := Co.bulk_get es k hlt
          have e0 : wr.cell? ⟨b, off + k * 9, none⟩ = some x0 := by rw [HB.out.cell (p := ⟨b, off + k * 9, none⟩) hbl]; exact hc0
          have e1 : wr.cell? ⟨b, off + k * 9 + 1, none⟩ = some x1 := by rw [HB.out.cell (p := ⟨b, off + k * 9 + 1, none⟩) hbl]; exact hc1
          have e2 : wr.cell? ⟨b, off + k * 9 + 2, none⟩ = some x2 := by rw [HB.out.cell (p := ⟨b, off + k * 9 + 2, none⟩) hbl]; exact hc2
          have e3 : wr.cell? ⟨b, off + k * 9 + 3, none⟩ = some x3 := by rw [HB.out.cell (p := ⟨b, off + k * 9 + 3, none⟩) hbl]; exact hc3
          have e4 : wr.cell? ⟨b, off + k * 9 + 4, none⟩ = some x4 := by rw [HB.out.cell (p := ⟨b, off + k * 9 + 4, none⟩) hbl]; exact hc4
          have e5 : wr.cell? ⟨b, off + k * 9 + 5, none⟩ = some x5 := by rw [HB.out.cell (p := ⟨b, off + k * 9 + 5, none⟩) hbl]; exact hc5
          have e6 : wr.cell? ⟨b, off + k * 9 + 6, none⟩ = some x6 := by rw [HB.out.cell (p := ⟨b, off + k * 9 + 6, none⟩) hbl]; exact hc6
          have e7 : wr.cell? ⟨b, off + k * 9 + 7, none⟩ = some x7 := by rw [HB.out.cell (p := ⟨b, off + k * 9 + 7, none⟩) hbl]; exact hc7
          have e8 : wr.cell? ⟨b, off + k * 9 + 8, none⟩ = some x8 := by rw [HB.out.cell (p := ⟨b, off + k * 9 + 8, none⟩) hbl]; exact hc8
          have HT := Lib.hid (ht.below HB.out)
          clear ht hc0 hc1 hc2 hc3 hc4 hc5 hc6 hc7 hc8
          have hp2 : Co.bulk es[k] ≤ 1048576 := by omega
          have hfew := Co.free_few es[k]
          have hbt := Co.bulks_take es k hlt
          have hbt2 := Co.bulks_le es (k + 1)
          have HSUM : Hid (L.length + es[k].free.length ≤ 1048576) := by show _ ≤ _; have := HLL.out; omega
          clear hfew hbt hbt2
          have HTK := Lib.hid (Co.frees_take es [] k hlt)
          go_wp2_with fail
          refine (IH.out _ _ _ HT.out hp2).mono ?_
          rintro e w1 ⟨v1, rfl, hi1, hb1⟩
          have HO1 := Lib.hid (row_below HO.out hb1)
          have HI1 := Lib.hid hi1
          have HN := Lib.hid (box_next HBX.out hb1)
          have hz1 := HN.out.size
          simp only [World.size_alloc] at hz1
          clear hi1 hb1 e0 e1 e2 e3 e4 e5 e6 e7 e8
          go_wp2_with fail
          refine (specUnite _ _ L es[k].free HSUM.out _ (Strs.of_own HO1.out) HI1.out.strs).mono ?_
          rintro e w2 ⟨v2, rfl, hi2, hb2⟩
          have HO2 := Lib.hid (str_base hi2.1 (B := w.heap.size + 1) (by omega))
          have HN2 := Lib.hid (box_next HN.out hb2)
          have HL2 : Hid (addAll (addAll [] L) es[k].free = Co.frees [] (es.take (k + 1))) := by show _ = _; rw [HTK.out, HL.out]
          clear hi2 hb2 hz1
          go_wp2_with fail
          exact ⟨⟨k + 1, addAll (addAll [] L) es[k].free, by omega, by go_num, HO2.out, HL2.out, HN2.out⟩, by simp [intOf]; omega⟩
        · obtain rfl : k = es.length := by omega
          have HFN0 : Hid (L = Co.frees [] es) := by show _ = _; rw [HL.out, List.take_length]
          have HO0 := HO
          have HB0 := HBX
          clear HO HB HBX HL HLL
          go_wp2_with fail
          clear b0 b1 b7 b8
          go_loopw [3, 5] (fun o i wr => ∃ (k : Nat) (L : List ByteArray), k ≤ vs.length ∧ i = .int .i64 k ∧ wr.ownsRow (w.heap.size + 1) 9 1 o L.length (L.map Value.string) ∧ L = Co.frees (Co.frees [] es) (vs.take k) ∧ Below (w.heap.size + 1) (w.alloc (.cells #[.int .i64 kd, .string nm, .int .i64 n, .int .i64 fk, .slice fa fn fc, .int .i64 tk, .slice ta tn tc, .slice a es.length cap, .slice a2 vs.length cap2] 68)) wr) (fun _ i _ => vs.length - (intOf i).toNat)
          case atStart => exact ⟨0, L, by omega, rfl, HO0.out, by rw [HFN0.out]; simp [Co.frees], HB0.out⟩
          case round =>
            obtain ⟨k, L, hk, rfl, hown, hL, hb⟩ := hrel
            have b0 := box_cell hb 0
            have b1 := box_cell hb 1
            have b7 := box_cell hb 7
            have b8 := box_cell hb 8
            have HO := Lib.hid hown; clear hown
            have HB := Lib.hid (box_below hb)
            have HBX := Lib.hid hb; clear hb
            have HS2 := HSZ.out
            have hpart := Co.frees_few (vs.take k) (Co.frees [] es)
            have hpart2 := Co.bulks_le vs k
            have hp0 := Co.frees_few es []
            have hp1 : (Co.frees [] es).length ≤ Co.bulks es := by simpa using hp0
            have hll : L.length ≤ 1048576 := by rw [hL]; omega
            have hLL : L.length ≤ Co.bulks es + Co.bulks (vs.take k) := by rw [hL]; omega
            clear hp0 hp1
            have HLL := Lib.hid hLL; clear hLL hpart hpart2
            have HL := Lib.hid hL; clear hL
            by_cases hlt : k < vs.length
            · have hltn : k < ns.length := by have := HLN.out; omega
              obtain ⟨b, off, x0, x1, x2, x3, x4, x5, x6, x7, x8, rfl, hbl, hnz, hcn, hc0, hc1, hc2, hc3, hc4, hc5, hc6, hc7, hc8, ht⟩ := HAE.out k hlt hltn
              have hg := Co.bulk_get vs k hlt
              have e0 : wr.cell? ⟨b, off + k * 10 + 1, none⟩ = some x0 := by rw [HB.out.cell (p := ⟨b, off + k * 10 + 1, none⟩) hbl]; exact hc0
              have e1 : wr.cell? ⟨b, off + k * 10 + 2, none⟩ = some x1 := by rw [HB.out.cell (p := ⟨b, off + k * 10 + 2, none⟩) hbl]; exact hc1
              have e2 : wr.cell? ⟨b, off + k * 10 + 3, none⟩ = some x2 := by rw [HB.out.cell (p := ⟨b, off + k * 10 + 3, none⟩) hbl]; exact hc2
              have e3 : wr.cell? ⟨b, off + k * 10 + 4, none⟩ = some x3 := by rw [HB.out.cell (p := ⟨b, off + k * 10 + 4, none⟩) hbl]; exact hc3
              have e4 : wr.cell? ⟨b, off + k * 10 + 5, none⟩ = some x4 := by rw [HB.out.cell (p := ⟨b, off + k * 10 + 5, none⟩) hbl]; exact hc4
              have e5 : wr.cell? ⟨b, off + k * 10 + 6, none⟩ = some x5 := by rw [HB.out.cell (p := ⟨b, off + k * 10 + 6, none⟩) hbl]; exact hc5
              have e6 : wr.cell? ⟨b, off + k * 10 + 7, none⟩ = some x6 := by rw [HB.out.cell (p := ⟨b, off + k * 10 + 7, none⟩) hbl]; exact hc6
              have e7 : wr.cell? ⟨b, off + k * 10 + 8, none⟩ = some x7 := by rw [HB.out.cell (p := ⟨b, off + k * 10 + 8, none⟩) hbl]; exact hc7
              have e8 : wr.cell? ⟨b, off + k * 10 + 9, none⟩ = some x8 := by rw [HB.out.cell (p := ⟨b, off + k * 10 + 9, none⟩) hbl]; exact hc8
              have HT := Lib.hid (ht.below HB.out)
              clear ht hc0 hc1 hc2 hc3 hc4 hc5 hc6 hc7 hc8 hcn hnz
              have hp2 : Co.bulk vs[k] ≤ 1048576 := by omega
              have hfew := Co.free_few vs[k]
              have hbt := Co.bulks_take vs k hlt
              have hbt2 := Co.bulks_le vs (k + 1)
              have HSUM : Hid (L.length + vs[k].free.length ≤ 1048576) := by show _ ≤ _; have := HLL.out; omega
              clear hfew hbt hbt2
              have HTK := Lib.hid (Co.frees_take vs (Co.frees [] es) k hlt)
              go_wp2_with fail
              refine (IH.out _ _ _ HT.out hp2).mono ?_
              rintro e w1 ⟨v1, rfl, hi1, hb1⟩
              have HO1 := Lib.hid (row_below HO.out hb1)
              have HI1 := Lib.hid hi1
              have HN := Lib.hid (box_next HBX.out hb1)
              have hz1 := HN.out.size
              simp only [World.size_alloc] at hz1
              clear hi1 hb1 e0 e1 e2 e3 e4 e5 e6 e7 e8
              go_wp2_with fail
              refine (specUnite _ _ L vs[k].free HSUM.out _ (Strs.of_own HO1.out) HI1.out.strs).mono ?_
              rintro e w2 ⟨v2, rfl, hi2, hb2⟩
              have HO2 := Lib.hid (str_base hi2.1 (B := w.heap.size + 1) (by omega))
              have HN2 := Lib.hid (box_next HN.out hb2)
              have HL2 : Hid (addAll (addAll [] L) vs[k].free = Co.frees (Co.frees [] es) (vs.take (k + 1))) := by show _ = _; rw [HTK.out, HL.out]
              clear hi2 hb2 hz1
              go_wp2_with fail
              exact ⟨⟨k + 1, addAll (addAll [] L) vs[k].free, by omega, by go_num, HO2.out, HL2.out, HN2.out⟩, by simp [intOf]; omega⟩
            · obtain rfl : k = vs.length := by omega
              have HFN : Hid (Co.frees (Co.frees [] es) vs = L) := by show _ = _; rw [HL.out, List.take_length]
              by_cases q3 : kd = 4
              · subst q3
                go_wp2_with fail
                refine (specWithout _ L nm (by omega) _ (Strs.of_own HO.out)).mono ?_
                rintro e w1 ⟨v1, rfl, hi1, hb1⟩
                have HI1 := Lib.hid hi1
                have HB1 := Lib.hid hb1
                clear hi1 hb1
                have HFE2 : Hid ((Co.node 4 nm n fr ty es ns vs).free = without L nm) := by
                  show _ = _
                  have hfe := HFE.out
                  simp only [if_true, HFN.out] at hfe
                  exact hfe
                go_wp2_with fail
                go_ret
                rw [HFE2.out]
                exact ⟨v1, rfl, ⟨str_base HI1.out.1 HB.out.size, HI1.out.2.1, HI1.out.2.2⟩, HB.out.trans (HB1.out.mono HB.out.size)⟩
              · have qb3 : (kd == 4) = false := by simp; omega
                have hfe := HFE.out
                rw [if_neg q3, HFN.out] at hfe
                have HFE2 := Lib.hid hfe; clear hfe q3
                go_wp2_with fail
                go_ret
                rw [HFE2.out]
                exact ⟨_, rfl, ⟨str_base HO.out (by omega), fun b hb => (HO.out.lt b hb).2, Nat.le_refl _⟩, HB.out⟩
end Go.Proofs.Ytefoenkmppeidaa
/-
  Proved: impl.FreeInCore collects the free variables of a core expression, in new memory; the memory that was there stays as it was.
-/
namespace Go.Proofs.Ytefoenkmppeidaa
open Go.RowKit Go.Maps Go.WideMaps

set_option maxRecDepth 100000 in
set_option maxHeartbeats 4000000 in
theorem implCoFree (d : Nat) (v : Value) (t : Co) (w : World) (h : CoAt w d v t) (hsz : t.bulk ≤ 1048576) :
    Calls Try.prog 27 #[v] w (RowEnd t.free w) := by
  obtain ⟨k, nm, n, fk, fa, fn, fc, tk, ta, tn, tc, sa, sn, sc, ea, en, ec, rfl⟩ := co_parts h
  have HCO := Lib.hid t.coll_start
  have HB0 : Hid (Below w.heap.size w (w.alloc (.cells #[.int .i64 k, .string nm, .int .i64 n, .int .i64 fk, .slice fa fn fc, .int .i64 tk, .slice ta tn tc, .slice sa sn sc, .slice ea en ec] 68))) := below_alloc _ _
  have XB : Hid (BoxAt (w.alloc (.cells #[.int .i64 k, .string nm, .int .i64 n, .int .i64 fk, .slice fa fn fc, .int .i64 tk, .slice ta tn tc, .slice sa sn sc, .slice ea en ec] 68)) w.heap.size #[.int .i64 k, .string nm, .int .i64 n, .int .i64 fk, .slice fa fn fc, .int .i64 tk, .slice ta tn tc, .slice sa sn sc, .slice ea en ec]) := BoxAt.new _ _ _
  have HPT : Hid (PtrCo (w.alloc (.cells #[.int .i64 k, .string nm, .int .i64 n, .int .i64 fk, .slice fa fn fc, .int .i64 tk, .slice ta tn tc, .slice sa sn sc, .slice ea en ec] 68)) d (.pointer (some ⟨w.heap.size, 0, none⟩)) t) := ⟨w.heap.size, 0, _, _, _, _, _, _, _, _, _, rfl, by simp, XB.out.2 0, XB.out.2 1, XB.out.2 2, XB.out.2 3, XB.out.2 4, XB.out.2 5, XB.out.2 6, XB.out.2 7, XB.out.2 8, h.below HB0.out⟩
  obtain ⟨w0, hw0⟩ : ∃ w0, w0 = w.alloc (.cells #[.int .i64 k, .string nm, .int .i64 n, .int .i64 fk, .slice fa fn fc, .int .i64 tk, .slice ta tn tc, .slice sa sn sc, .slice ea en ec] 68) := ⟨_, rfl⟩
  have hz0 : w0.heap.size = w.heap.size + 1 := by rw [hw0]; simp
  have HB1 : Hid (Below w0.heap.size w0 (((w0.alloc (.map #[] 0)).alloc (.map #[] 0)).alloc (.cells #[.slice none 0 0, .map (some (w.heap.size + 1)), .map (some (w.heap.size + 1 + 1))] 122))) := (((Below.refl _ _).alloc (Nat.le_refl _) _).alloc (by simp) _).alloc (by simp; omega) _
  have XS : Hid (BoxAt (((w0.alloc (.map #[] 0)).alloc (.map #[] 0)).alloc (.cells #[.slice none 0 0, .map (some (w.heap.size + 1)), .map (some (w.heap.size + 1 + 1))] 122)) (w.heap.size + 1 + 1 + 1) #[.slice none 0 0, .map (some (w.heap.size + 1)), .map (some (w.heap.size + 1 + 1))]) := by
    have := BoxAt.new ((w0.alloc (.map #[] 0)).alloc (.map #[] 0)) #[.slice none 0 0, .map (some (w.heap.size + 1)), .map (some (w.heap.size + 1 + 1))] 122
    rw [World.size_alloc, World.size_alloc, hz0] at this
    exact this
  have FS : Hid (FreeAt (((w0.alloc (.map #[] 0)).alloc (.map #[] 0)).alloc (.cells #[.slice none 0 0, .map (some (w.heap.size + 1)), .map (some (w.heap.size + 1 + 1))] 122)) (w.heap.size + 1 + 1 + 1)) := by
    have := FreeAt.new ((w0.alloc (.map #[] 0)).alloc (.map #[] 0)) #[.slice none 0 0, .map (some (w.heap.size + 1)), .map (some (w.heap.size + 1 + 1))] 122
    rw [World.size_alloc, World.size_alloc, hz0] at this
    exact this
  have HST : Hid (LookSt w0 (w.heap.size + 1 + 1 + 1) (w.heap.size + 1) (w.heap.size + 1 + 1) (((w0.alloc (.map #[] 0)).alloc (.map #[] 0)).alloc (.cells #[.slice none 0 0, .map (some (w.heap.size + 1)), .map (some (w.heap.size + 1 + 1))] 122)) (.slice none 0 0) [] (fun _ => 0) 0) := by
    refine ⟨HB1.out, ⟨by omega, by omega, by omega, by simp; omega⟩, ⟨XS.out.2 0, XS.out.2 1, XS.out.2 2, FS.out.2 0⟩, World.ownsRow_nil _ _ _ _, ?_, ?_⟩
    · have h1 := CntAt.new w0
      rw [hz0] at h1
      exact (h1.kept (heap_alloc_old _ _ (by simp; omega))).kept (heap_alloc_old _ _ (by simp; omega))
    · show SetAt _ _ _ _ _ _ _ _
      have h1 := SetAt.new Try.prog 9 4 Lit.string (w0.alloc (.map #[] 0))
      rw [seenB_nil, World.size_alloc, hz0] at h1
      exact SetAt.kept h1 (heap_alloc_old _ _ (by simp; omega))
  rw [hw0] at HST
  have hmm := @run_makeMap Try.prog
  clear h HB1 XS FS XB
  go_enter Try.func27, Try.ntmps27
  go_wp2_with fail
  clear hmm
  refine (implLook _ _ _ _ d _ t _ _ [] (fun _ => 0) 0 HPT.out HST.out (fun _ => Int.le_refl 0) (fun _ => by show (0 : Int) + _ ≤ _; omega) (by simp; omega) (by omega)).mono ?_
  rintro e w' ⟨o', nc', rfl, hs, _⟩
  rw [HCO.out] at hs
  have HS := Lib.hid hs; clear hs
  have y0 : w'.cell? ⟨w.heap.size + 1 + 1 + 1, 0, none⟩ = some o' := HS.out.2.2.1.1
  go_wp2_with fail
  go_ret
  obtain ⟨h1, ⟨l1, l2, l3, l4⟩, _, h2, _⟩ := HS.out
  exact ⟨_, rfl, ⟨str_base h2 (by omega), fun b hb => (h2.lt b hb).2, Nat.le_refl _⟩, HB0.out.trans (h1.mono (by simp))⟩
end Go.Proofs.Ytefoenkmppeidaa
/-
  Proved: laws.toCore, toCoreS, toCoreBind and toCoreBindS copy a core expression into new memory; they leave the memory that was there as it was.
-/
namespace Go.Proofs.Ytefoenkmppeidaa
open Go.RowKit

/-- Cells written one after another into block p, from cell j on. -/
def putAll (p : Nat) : Nat → List Value → World → World
  | _, [], w => w
  | j, u :: r, w => putAll p (j + 1) r (w.setCell ⟨p, j, none⟩ u)
theorem BoxAt.puts {p : Nat} : ∀ (us old pre : List Value) (w : World), BoxAt w p (pre ++ old).toArray → us.length = old.length → BoxAt (putAll p pre.length us w) p (pre ++ us).toArray
  | [], [], pre, w, h, _ => h
  | [], _ :: _, _, _, _, h => by simp at h
  | _ :: _, [], _, _, _, h => by simp at h
  | u :: r, o :: s, pre, w, h, hl => by
    have h1 := h.put (j := pre.length) (u := u) (by simp)
    have e1 : (pre ++ o :: s).toArray.setIfInBounds pre.length u = ((pre ++ [u]) ++ s).toArray := by simp
    rw [e1] at h1
    have h2 := BoxAt.puts r s (pre ++ [u]) _ h1 (by simpa using hl)
    rw [List.append_assoc, List.length_append] at h2
    exact h2
theorem info_co : (Try.prog.info? 68).map (fun i => (i.zero, i.size, i.bytes)) = some (some (.agg #[.int .i64 0, .string ⟨#[]⟩, .int .i64 0, .int .i64 0, .slice none 0 0, .int .i64 0, .slice none 0 0, .slice none 0 0, .slice none 0 0]), 9, 144) := by kernel_rfl
theorem info_cb : (Try.prog.info? 115).map (fun i => (i.zero, i.size, i.bytes)) = some (some (.agg #[.string ⟨#[]⟩, .int .i64 0, .string ⟨#[]⟩, .int .i64 0, .int .i64 0, .slice none 0 0, .int .i64 0, .slice none 0 0, .slice none 0 0, .slice none 0 0]), 10, 160) := by kernel_rfl
def ToCoEnd (d : Nat) (t : Co) (w : World) (e : Ending) (w' : World) : Prop :=
  ∃ v' fp, e = .returned v' ∧ CoOwn w' d v' t fp ∧ Fp w.heap.size w'.heap.size fp ∧ Below w.heap.size w w'
def ToCosEnd (d : Nat) (ts : List Co) (w : World) (e : Ending) (w' : World) : Prop :=
  ∃ v' fp, e = .returned v' ∧ CosOwn w' d v' ts fp ∧ Fp w.heap.size w'.heap.size fp ∧ Below w.heap.size w w'
def ToCbEnd (d : Nat) (nm : ByteArray) (t : Co) (w : World) (e : Ending) (w' : World) : Prop :=
  ∃ v' fp, e = .returned v' ∧ CbOwn w' d v' nm t fp ∧ Fp w.heap.size w'.heap.size fp ∧ Below w.heap.size w w'
def ToCbsEnd (d : Nat) (ns : List ByteArray) (ts : List Co) (w : World) (e : Ending) (w' : World) : Prop :=
  ∃ v' fp, e = .returned v' ∧ CbsOwn w' d v' ns ts fp ∧ Fp w.heap.size w'.heap.size fp ∧ Below w.heap.size w w'
def ToCoSaid (d : Nat) : Prop := ∀ (v : Value) (t : Co) (w : World), t.bulk ≤ 1048576 → CoAt w d v t →
  Calls Try.prog 26 #[v] w (ToCoEnd d t w)
def ToCosSaid (d : Nat) : Prop := ∀ (v : Value) (ts : List Co) (w : World), Co.bulks ts ≤ 1048576 → CosAt w d v ts →
  Calls Try.prog 73 #[v] w (ToCosEnd d ts w)
def ToCbSaid (d : Nat) : Prop := ∀ (v : Value) (nm : ByteArray) (t : Co) (w : World), t.bulk ≤ 1048576 → CbAt w d v nm t →
  Calls Try.prog 107 #[v] w (ToCbEnd d nm t w)
def ToCbsSaid (d : Nat) : Prop := ∀ (v : Value) (ns : List ByteArray) (ts : List Co) (w : World), Co.bulks ts ≤ 1048576 → CbsAt w d v ns ts →
  Calls Try.prog 74 #[v] w (ToCbsEnd d ns ts w)

set_option maxRecDepth 100000 in
set_option maxHeartbeats 4000000 in
theorem toCos_step (d : Nat) (ih : ToCoSaid d) : ToCosSaid d := by
  intro v ts w hn h
  have IH := Lib.hid ih; clear ih
  obtain ⟨i0, hi, hz0, hz1, hz2⟩ := info_parts info_co
  have hlen := Co.length_le ts
  obtain ⟨a, cap, rfl, hcap, hcap2, hat⟩ := h
  have HAT := Lib.hid hat; clear hat
  go_enter Try.func73, Try.ntmps73
  go_wp2_with (at_make; refine wpList_make_full _ rfl _ _ 65 rfl w.heap.size 68 i0 (.agg #[.int .i64 0, .string ⟨#[]⟩, .int .i64 0, .int .i64 0, .slice none 0 0, .int .i64 0, .slice none 0 0, .slice none 0 0, .slice none 0 0]) 9 Try.underlying65 hi hz0 hz1 .i64 .i64 _ _ ts.length rfl rfl rfl rfl (by rw [hz2]; omega) (by unfold maxLen; omega) (Nat.le_refl _) ?_; intro w0 hown0 hg0; refine Hid.out ?_)
  refine Lib.hid ?_
  have HB0 := Lib.hid ((Below.refl w.heap.size w).grown hg0 (Nat.le_refl _) (fun k hk => by cases hk))
  have HO0 := Lib.hid hown0
  clear hown0 hg0 hi hz0 hz1 hz2
  go_wp2_with fail
  go_loopw [4] (fun i wr => ∃ (k : Nat) (cs : List Value) (fps : List (List Nat)), k ≤ ts.length ∧ i = .int .i64 k ∧ wr.ownsRow w.heap.size 68 9 (.slice (some ⟨w.heap.size, 0, none⟩) ts.length ts.length) ts.length cs ∧
      fps.length = k ∧ Fp (w.heap.size + 1) wr.heap.size (List.flatten fps) ∧ (∀ j (h : j < ts.length), j < k → ∃ c0 c1 c2 c3 c4 c5 c6 c7 c8 f, cs[j * 9]? = some (c0) ∧ cs[j * 9 + 1]? = some (c1) ∧ cs[j * 9 + 2]? = some (c2) ∧ cs[j * 9 + 3]? = some (c3) ∧ cs[j * 9 + 4]? = some (c4) ∧ cs[j * 9 + 5]? = some (c5) ∧ cs[j * 9 + 6]? = some (c6) ∧ cs[j * 9 + 7]? = some (c7) ∧ cs[j * 9 + 8]? = some (c8) ∧ fps[j]? = some f ∧ CoOwn wr d (.agg #[c0, c1, c2, c3, c4, c5, c6, c7, c8]) ts[j] f) ∧ Below w.heap.size w wr) (fun i _ => ts.length - (intOf i).toNat)
  case atStart => exact ⟨0, _, [], by omega, rfl, HO0.out, rfl, Fp.nil _ _, fun j h h2 => by omega, HB0.out⟩
  case round =>
    obtain ⟨k, cs, fps, hk, rfl, hown, hfl, hfp, hdone, hb⟩ := hrel
    have HF := Lib.hid hfp; clear hfp
    have HL := Lib.hid hfl; clear hfl
    have HO := Lib.hid hown
    have HD := Lib.hid hdone; clear hdone
    have HB := Lib.hid hb; clear hb
    have hgl := (hown.lt w.heap.size rfl).2
    clear hown
    by_cases hlt : k < ts.length
    · obtain ⟨b, off, x0, x1, x2, x3, x4, x5, x6, x7, x8, rfl, hbl, hc0, hc1, hc2, hc3, hc4, hc5, hc6, hc7, hc8, ht⟩ := HAT.out k hlt
      have hg := Co.bulk_get ts k hlt
      have e0 : wr.cell? ⟨b, off + k * 9, none⟩ = some x0 := by rw [HB.out.cell (p := ⟨b, off + k * 9, none⟩) hbl]; exact hc0
      have e1 : wr.cell? ⟨b, off + k * 9 + 1, none⟩ = some x1 := by rw [HB.out.cell (p := ⟨b, off + k * 9 + 1, none⟩) hbl]; exact hc1
      have e2 : wr.cell? ⟨b, off + k * 9 + 2, none⟩ = some x2 := by rw [HB.out.cell (p := ⟨b, off + k * 9 + 2, none⟩) hbl]; exact hc2
      have e3 : wr.cell? ⟨b, off + k * 9 + 3, none⟩ = some x3 := by rw [HB.out.cell (p := ⟨b, off + k * 9 + 3, none⟩) hbl]; exact hc3
      have e4 : wr.cell? ⟨b, off + k * 9 + 4, none⟩ = some x4 := by rw [HB.out.cell (p := ⟨b, off + k * 9 + 4, none⟩) hbl]; exact hc4
      have e5 : wr.cell? ⟨b, off + k * 9 + 5, none⟩ = some x5 := by rw [HB.out.cell (p := ⟨b, off + k * 9 + 5, none⟩) hbl]; exact hc5
      have e6 : wr.cell? ⟨b, off + k * 9 + 6, none⟩ = some x6 := by rw [HB.out.cell (p := ⟨b, off + k * 9 + 6, none⟩) hbl]; exact hc6
      have e7 : wr.cell? ⟨b, off + k * 9 + 7, none⟩ = some x7 := by rw [HB.out.cell (p := ⟨b, off + k * 9 + 7, none⟩) hbl]; exact hc7
      have e8 : wr.cell? ⟨b, off + k * 9 + 8, none⟩ = some x8 := by rw [HB.out.cell (p := ⟨b, off + k * 9 + 8, none⟩) hbl]; exact hc8
      have HT := Lib.hid (ht.below HB.out)
      clear ht hc0 hc1 hc2 hc3 hc4 hc5 hc6 hc7 hc8
      go_wp2_with fail
      refine (IH.out _ _ wr (by omega) HT.out).mono ?_
      rintro e w' ⟨v2, fp, rfl, ht, hfp, hb1⟩
      have HF1 := Lib.hid hfp; clear hfp
      have HO1 := Lib.hid (own_below HO.out hb1); clear HO
      have hz1 := hb1.size
      obtain ⟨zk, znm, zn, zfk, zfa, zfn, zfc, ztk, zta, ztn, ztc, zsa, zsn, zsc, zea, zen, zec, rfl⟩ := co_parts ht.at_
      have HY := Lib.hid ht
      clear ht
      have hcs : cs.length = ts.length * 9 := HO1.out.1
      obtain ⟨u0v, p0⟩ : ∃ u, w'.cell? ⟨w.heap.size, k * 9, none⟩ = some u := by
        rw [HO1.out.cellAt (k * 9) (by omega)]
        exact ⟨_, List.getElem?_eq_getElem (by rw [HO1.out.1]; omega)⟩
      have f0 := HO1.out.frozenAt (k * 9)
      obtain ⟨u1v, p1⟩ : ∃ u, w'.cell? ⟨w.heap.size, k * 9 + 1, none⟩ = some u := by
        rw [HO1.out.cellAt (k * 9 + 1) (by omega)]
        exact ⟨_, List.getElem?_eq_getElem (by rw [HO1.out.1]; omega)⟩
      have f1 := HO1.out.frozenAt (k * 9 + 1)
      obtain ⟨u2v, p2⟩ : ∃ u, w'.cell? ⟨w.heap.size, k * 9 + 2, none⟩ = some u := by
        rw [HO1.out.cellAt (k * 9 + 2) (by omega)]
        exact ⟨_, List.getElem?_eq_getElem (by rw [HO1.out.1]; omega)⟩
      have f2 := HO1.out.frozenAt (k * 9 + 2)
      obtain ⟨u3v, p3⟩ : ∃ u, w'.cell? ⟨w.heap.size, k * 9 + 3, none⟩ = some u := by
        rw [HO1.out.cellAt (k * 9 + 3) (by omega)]
        exact ⟨_, List.getElem?_eq_getElem (by rw [HO1.out.1]; omega)⟩
      have f3 := HO1.out.frozenAt (k * 9 + 3)
      obtain ⟨u4v, p4⟩ : ∃ u, w'.cell? ⟨w.heap.size, k * 9 + 4, none⟩ = some u := by
        rw [HO1.out.cellAt (k * 9 + 4) (by omega)]
        exact ⟨_, List.getElem?_eq_getElem (by rw [HO1.out.1]; omega)⟩
      have f4 := HO1.out.frozenAt (k * 9 + 4)
      obtain ⟨u5v, p5⟩ : ∃ u, w'.cell? ⟨w.heap.size, k * 9 + 5, none⟩ = some u := by
        rw [HO1.out.cellAt (k * 9 + 5) (by omega)]
        exact ⟨_, List.getElem?_eq_getElem (by rw [HO1.out.1]; omega)⟩
      have f5 := HO1.out.frozenAt (k * 9 + 5)
      obtain ⟨u6v, p6⟩ : ∃ u, w'.cell? ⟨w.heap.size, k * 9 + 6, none⟩ = some u := by
        rw [HO1.out.cellAt (k * 9 + 6) (by omega)]
        exact ⟨_, List.getElem?_eq_getElem (by rw [HO1.out.1]; omega)⟩
      have f6 := HO1.out.frozenAt (k * 9 + 6)
      obtain ⟨u7v, p7⟩ : ∃ u, w'.cell? ⟨w.heap.size, k * 9 + 7, none⟩ = some u := by
        rw [HO1.out.cellAt (k * 9 + 7) (by omega)]
        exact ⟨_, List.getElem?_eq_getElem (by rw [HO1.out.1]; omega)⟩
      have f7 := HO1.out.frozenAt (k * 9 + 7)
      obtain ⟨u8v, p8⟩ : ∃ u, w'.cell? ⟨w.heap.size, k * 9 + 8, none⟩ = some u := by
        rw [HO1.out.cellAt (k * 9 + 8) (by omega)]
        exact ⟨_, List.getElem?_eq_getElem (by rw [HO1.out.1]; omega)⟩
      have f8 := HO1.out.frozenAt (k * 9 + 8)
      have HB1 := Lib.hid hb1; clear hb1
      have HCS := Lib.hid hcs; clear hcs
      go_wp2_with fail
      have hcs := HCS.out
      have hs0 := HO1.out.stored (k * 9) (.int .i64 zk)
      have hs1 := hs0.1.stored (k * 9 + 1) (.string znm)
      have hs2 := hs1.1.stored (k * 9 + 2) (.int .i64 zn)
      have hs3 := hs2.1.stored (k * 9 + 3) (.int .i64 zfk)
      have hs4 := hs3.1.stored (k * 9 + 4) (.slice zfa zfn zfc)
      have hs5 := hs4.1.stored (k * 9 + 5) (.int .i64 ztk)
      have hs6 := hs5.1.stored (k * 9 + 6) (.slice zta ztn ztc)
      have hs7 := hs6.1.stored (k * 9 + 7) (.slice zsa zsn zsc)
      have hs8 := hs7.1.stored (k * 9 + 8) (.slice zea zen zec)
      have hkeep : ∀ b, w.heap.size + 1 ≤ b → (((((((((w'.setCell ⟨w.heap.size, k * 9, none⟩ (.int .i64 zk)).setCell ⟨w.heap.size, k * 9 + 1, none⟩ (.string znm)).setCell ⟨w.heap.size, k * 9 + 2, none⟩ (.int .i64 zn)).setCell ⟨w.heap.size, k * 9 + 3, none⟩ (.int .i64 zfk)).setCell ⟨w.heap.size, k * 9 + 4, none⟩ (.slice zfa zfn zfc)).setCell ⟨w.heap.size, k * 9 + 5, none⟩ (.int .i64 ztk)).setCell ⟨w.heap.size, k * 9 + 6, none⟩ (.slice zta ztn ztc)).setCell ⟨w.heap.size, k * 9 + 7, none⟩ (.slice zsa zsn zsc)).setCell ⟨w.heap.size, k * 9 + 8, none⟩ (.slice zea zen zec)).heap[b]? = w'.heap[b]? := fun b h1 => by
        rw [heap_setCell_other _ _ _ _ (by simp; omega), heap_setCell_other _ _ _ _ (by simp; omega), heap_setCell_other _ _ _ _ (by simp; omega), heap_setCell_other _ _ _ _ (by simp; omega), heap_setCell_other _ _ _ _ (by simp; omega), heap_setCell_other _ _ _ _ (by simp; omega), heap_setCell_other _ _ _ _ (by simp; omega), heap_setCell_other _ _ _ _ (by simp; omega), heap_setCell_other _ _ _ _ (by simp; omega)]
      have hF := HF.out
      have hF1 := HF1.out
      have hL := HL.out
      have hzz : (((((((((w'.setCell ⟨w.heap.size, k * 9, none⟩ (.int .i64 zk)).setCell ⟨w.heap.size, k * 9 + 1, none⟩ (.string znm)).setCell ⟨w.heap.size, k * 9 + 2, none⟩ (.int .i64 zn)).setCell ⟨w.heap.size, k * 9 + 3, none⟩ (.int .i64 zfk)).setCell ⟨w.heap.size, k * 9 + 4, none⟩ (.slice zfa zfn zfc)).setCell ⟨w.heap.size, k * 9 + 5, none⟩ (.int .i64 ztk)).setCell ⟨w.heap.size, k * 9 + 6, none⟩ (.slice zta ztn ztc)).setCell ⟨w.heap.size, k * 9 + 7, none⟩ (.slice zsa zsn zsc)).setCell ⟨w.heap.size, k * 9 + 8, none⟩ (.slice zea zen zec)).heap.size = w'.heap.size := by simp
      refine ⟨⟨k + 1, _, fps ++ [fp], by omega, by go_num, hs8.1, by simp [hL], ?_, ?_, ((((((((((HB.out.trans (HB1.out.mono HB.out.size)).setCell (Nat.le_refl _) _).setCell (Nat.le_refl _) _).setCell (Nat.le_refl _) _).setCell (Nat.le_refl _) _).setCell (Nat.le_refl _) _).setCell (Nat.le_refl _) _).setCell (Nat.le_refl _) _).setCell (Nat.le_refl _) _).setCell (Nat.le_refl _) _)⟩, by simp [intOf]; omega⟩
      · rw [hzz, List.flatten_append, List.flatten_cons, List.flatten_nil, List.append_nil]
        exact hF.join hF1 (by omega) hz1
      · intro j hj hjk
        by_cases hjk2 : j = k
        · subst hjk2
          refine ⟨_, _, _, _, _, _, _, _, _, fp, (by rw [List.getElem?_set_ne (by omega), List.getElem?_set_ne (by omega), List.getElem?_set_ne (by omega), List.getElem?_set_ne (by omega), List.getElem?_set_ne (by omega), List.getElem?_set_ne (by omega), List.getElem?_set_ne (by omega), List.getElem?_set_ne (by omega), List.getElem?_set_self (by first | omega | (simp only [List.length_set]; omega))]), (by rw [List.getElem?_set_ne (by omega), List.getElem?_set_ne (by omega), List.getElem?_set_ne (by omega), List.getElem?_set_ne (by omega), List.getElem?_set_ne (by omega), List.getElem?_set_ne (by omega), List.getElem?_set_ne (by omega), List.getElem?_set_self (by first | omega | (simp only [List.length_set]; omega))]), (by rw [List.getElem?_set_ne (by omega), List.getElem?_set_ne (by omega), List.getElem?_set_ne (by omega), List.getElem?_set_ne (by omega), List.getElem?_set_ne (by omega), List.getElem?_set_ne (by omega), List.getElem?_set_self (by first | omega | (simp only [List.length_set]; omega))]), (by rw [List.getElem?_set_ne (by omega), List.getElem?_set_ne (by omega), List.getElem?_set_ne (by omega), List.getElem?_set_ne (by omega), List.getElem?_set_ne (by omega), List.getElem?_set_self (by first | omega | (simp only [List.length_set]; omega))]), (by rw [List.getElem?_set_ne (by omega), List.getElem?_set_ne (by omega), List.getElem?_set_ne (by omega), List.getElem?_set_ne (by omega), List.getElem?_set_self (by first | omega | (simp only [List.length_set]; omega))]), (by rw [List.getElem?_set_ne (by omega), List.getElem?_set_ne (by omega), List.getElem?_set_ne (by omega), List.getElem?_set_self (by first | omega | (simp only [List.length_set]; omega))]), (by rw [List.getElem?_set_ne (by omega), List.getElem?_set_ne (by omega), List.getElem?_set_self (by first | omega | (simp only [List.length_set]; omega))]), (by rw [List.getElem?_set_ne (by omega), List.getElem?_set_self (by first | omega | (simp only [List.length_set]; omega))]), (by rw [List.getElem?_set_self (by first | omega | (simp only [List.length_set]; omega))]), ?_, HY.out.kept (by simp) fun b hb => hkeep b ?_⟩
          · rw [List.getElem?_append_right (by omega), hL]; simp
          · have := (hF1.2 b hb).1; omega
        · obtain ⟨c0, c1, c2, c3, c4, c5, c6, c7, c8, f, hc0, hc1, hc2, hc3, hc4, hc5, hc6, hc7, hc8, hfj, hty⟩ := HD.out j hj (by omega)
          have hsub : ∀ b, b ∈ f → b ∈ fps.flatten := fun b hb => List.mem_flatten.2 ⟨f, List.mem_of_getElem? hfj, hb⟩
          refine ⟨c0, c1, c2, c3, c4, c5, c6, c7, c8, f, (by rw [List.getElem?_set_ne (by omega), List.getElem?_set_ne (by omega), List.getElem?_set_ne (by omega), List.getElem?_set_ne (by omega), List.getElem?_set_ne (by omega), List.getElem?_set_ne (by omega), List.getElem?_set_ne (by omega), List.getElem?_set_ne (by omega), List.getElem?_set_ne (by omega)]; exact hc0), (by rw [List.getElem?_set_ne (by omega), List.getElem?_set_ne (by omega), List.getElem?_set_ne (by omega), List.getElem?_set_ne (by omega), List.getElem?_set_ne (by omega), List.getElem?_set_ne (by omega), List.getElem?_set_ne (by omega), List.getElem?_set_ne (by omega), List.getElem?_set_ne (by omega)]; exact hc1), (by rw [List.getElem?_set_ne (by omega), List.getElem?_set_ne (by omega), List.getElem?_set_ne (by omega), List.getElem?_set_ne (by omega), List.getElem?_set_ne (by omega), List.getElem?_set_ne (by omega), List.getElem?_set_ne (by omega), List.getElem?_set_ne (by omega), List.getElem?_set_ne (by omega)]; exact hc2), (by rw [List.getElem?_set_ne (by omega), List.getElem?_set_ne (by omega), List.getElem?_set_ne (by omega), List.getElem?_set_ne (by omega), List.getElem?_set_ne (by omega), List.getElem?_set_ne (by omega), List.getElem?_set_ne (by omega), List.getElem?_set_ne (by omega), List.getElem?_set_ne (by omega)]; exact hc3), (by rw [List.getElem?_set_ne (by omega), List.getElem?_set_ne (by omega), List.getElem?_set_ne (by omega), List.getElem?_set_ne (by omega), List.getElem?_set_ne (by omega), List.getElem?_set_ne (by omega), List.getElem?_set_ne (by omega), List.getElem?_set_ne (by omega), List.getElem?_set_ne (by omega)]; exact hc4), (by rw [List.getElem?_set_ne (by omega), List.getElem?_set_ne (by omega), List.getElem?_set_ne (by omega), List.getElem?_set_ne (by omega), List.getElem?_set_ne (by omega), List.getElem?_set_ne (by omega), List.getElem?_set_ne (by omega), List.getElem?_set_ne (by omega), List.getElem?_set_ne (by omega)]; exact hc5), (by rw [List.getElem?_set_ne (by omega), List.getElem?_set_ne (by omega), List.getElem?_set_ne (by omega), List.getElem?_set_ne (by omega), List.getElem?_set_ne (by omega), List.getElem?_set_ne (by omega), List.getElem?_set_ne (by omega), List.getElem?_set_ne (by omega), List.getElem?_set_ne (by omega)]; exact hc6), (by rw [List.getElem?_set_ne (by omega), List.getElem?_set_ne (by omega), List.getElem?_set_ne (by omega), List.getElem?_set_ne (by omega), List.getElem?_set_ne (by omega), List.getElem?_set_ne (by omega), List.getElem?_set_ne (by omega), List.getElem?_set_ne (by omega), List.getElem?_set_ne (by omega)]; exact hc7), (by rw [List.getElem?_set_ne (by omega), List.getElem?_set_ne (by omega), List.getElem?_set_ne (by omega), List.getElem?_set_ne (by omega), List.getElem?_set_ne (by omega), List.getElem?_set_ne (by omega), List.getElem?_set_ne (by omega), List.getElem?_set_ne (by omega), List.getElem?_set_ne (by omega)]; exact hc8), ?_, hty.kept (by simp; omega) fun b hb => ?_⟩
          · rw [List.getElem?_append_left (by omega)]; exact hfj
          · have hb2 := hF.2 b (hsub b hb)
            rw [hkeep b hb2.1]; exact HB1.out.block b hb2.2
    · have hkk : k = ts.length := by omega
      subst hkk
      go_wp2_with fail
      go_ret
      refine ⟨_, [w.heap.size] ++ fps.flatten, rfl, ⟨_, _, [w.heap.size], fps, rfl, Nat.le_refl _, by omega, HL.out, rfl, fun b hb => by cases List.mem_singleton.1 hb; exact hgl, fun j hj => ?_⟩, (Fp.one (Nat.le_refl _) (Nat.lt_succ_self _)).join HF.out (by omega) (by omega), HB.out⟩
      obtain ⟨c0, c1, c2, c3, c4, c5, c6, c7, c8, f, hc0, hc1, hc2, hc3, hc4, hc5, hc6, hc7, hc8, hfj, hty⟩ := HD.out j hj hj
      refine ⟨w.heap.size, 0, c0, c1, c2, c3, c4, c5, c6, c7, c8, f, rfl, rfl, hgl, (by rw [Nat.zero_add, HO.out.cellAt (j * 9) (by omega)]; exact hc0), (by rw [Nat.zero_add, HO.out.cellAt (j * 9 + 1) (by omega)]; exact hc1), (by rw [Nat.zero_add, HO.out.cellAt (j * 9 + 2) (by omega)]; exact hc2), (by rw [Nat.zero_add, HO.out.cellAt (j * 9 + 3) (by omega)]; exact hc3), (by rw [Nat.zero_add, HO.out.cellAt (j * 9 + 4) (by omega)]; exact hc4), (by rw [Nat.zero_add, HO.out.cellAt (j * 9 + 5) (by omega)]; exact hc5), (by rw [Nat.zero_add, HO.out.cellAt (j * 9 + 6) (by omega)]; exact hc6), (by rw [Nat.zero_add, HO.out.cellAt (j * 9 + 7) (by omega)]; exact hc7), (by rw [Nat.zero_add, HO.out.cellAt (j * 9 + 8) (by omega)]; exact hc8), fun o => HO.out.frozenAt o, hfj, hty⟩

set_option maxRecDepth 100000 in
set_option maxHeartbeats 4000000 in
theorem toCbs_step (d : Nat) (ih : ToCbSaid d) : ToCbsSaid d := by
  intro v ns ts w hn h
  have IH := Lib.hid ih; clear ih
  obtain ⟨i0, hi, hz0, hz1, hz2⟩ := info_parts info_cb
  have hlen := Co.length_le ts
  obtain ⟨hln, a, cap, rfl, hcap, hcap2, hat⟩ := h
  have HAT := Lib.hid hat; clear hat
  go_enter Try.func74, Try.ntmps74
  go_wp2_with (at_make; refine wpList_make_full _ rfl _ _ 66 rfl w.heap.size 115 i0 (.agg #[.string ⟨#[]⟩, .int .i64 0, .string ⟨#[]⟩, .int .i64 0, .int .i64 0, .slice none 0 0, .int .i64 0, .slice none 0 0, .slice none 0 0, .slice none 0 0]) 10 Try.underlying66 hi hz0 hz1 .i64 .i64 _ _ ts.length rfl rfl rfl rfl (by rw [hz2]; omega) (by unfold maxLen; omega) (Nat.le_refl _) ?_; intro w0 hown0 hg0; refine Hid.out ?_)
  refine Lib.hid ?_
  have HB0 := Lib.hid ((Below.refl w.heap.size w).grown hg0 (Nat.le_refl _) (fun k hk => by cases hk))
  have HO0 := Lib.hid hown0
  clear hown0 hg0 hi hz0 hz1 hz2
  go_wp2_with fail
  go_loopw [4] (fun i wr => ∃ (k : Nat) (cs : List Value) (fps : List (List Nat)), k ≤ ts.length ∧ i = .int .i64 k ∧ wr.ownsRow w.heap.size 115 10 (.slice (some ⟨w.heap.size, 0, none⟩) ts.length ts.length) ts.length cs ∧
      fps.length = k ∧ Fp (w.heap.size + 1) wr.heap.size (List.flatten fps) ∧ (∀ j (h : j < ts.length) (h2 : j < ns.length), j < k → ∃ c0 c1 c2 c3 c4 c5 c6 c7 c8 f, ns[j].size ≤ 9223372036854775807 ∧ cs[j * 10]? = some (.string ns[j]) ∧ cs[j * 10 + 1]? = some (c0) ∧ cs[j * 10 + 2]? = some (c1) ∧ cs[j * 10 + 3]? = some (c2) ∧ cs[j * 10 + 4]? = some (c3) ∧ cs[j * 10 + 5]? = some (c4) ∧ cs[j * 10 + 6]? = some (c5) ∧ cs[j * 10 + 7]? = some (c6) ∧ cs[j * 10 + 8]? = some (c7) ∧ cs[j * 10 + 9]? = some (c8) ∧ fps[j]? = some f ∧ CoOwn wr d (.agg #[c0, c1, c2, c3, c4, c5, c6, c7, c8]) ts[j] f) ∧ Below w.heap.size w wr) (fun i _ => ts.length - (intOf i).toNat)
  case atStart => exact ⟨0, _, [], by omega, rfl, HO0.out, rfl, Fp.nil _ _, fun j h h3 h2 => by omega, HB0.out⟩
  case round =>
    obtain ⟨k, cs, fps, hk, rfl, hown, hfl, hfp, hdone, hb⟩ := hrel
    have HF := Lib.hid hfp; clear hfp
    have HL := Lib.hid hfl; clear hfl
    have HO := Lib.hid hown
    have HD := Lib.hid hdone; clear hdone
    have HB := Lib.hid hb; clear hb
    have hgl := (hown.lt w.heap.size rfl).2
    clear hown
    by_cases hlt : k < ts.length
    · have hlt2 : k < ns.length := by omega
      obtain ⟨b, off, x0, x1, x2, x3, x4, x5, x6, x7, x8, rfl, hbl, hnz, hcn, hc0, hc1, hc2, hc3, hc4, hc5, hc6, hc7, hc8, ht⟩ := HAT.out k hlt hlt2
      have hg := Co.bulk_get ts k hlt
      have e0 : wr.cell? ⟨b, off + k * 10, none⟩ = some (.string ns[k]) := by rw [HB.out.cell (p := ⟨b, off + k * 10, none⟩) hbl]; exact hcn
      have e1 : wr.cell? ⟨b, off + k * 10 + 1, none⟩ = some x0 := by rw [HB.out.cell (p := ⟨b, off + k * 10 + 1, none⟩) hbl]; exact hc0
      have e2 : wr.cell? ⟨b, off + k * 10 + 2, none⟩ = some x1 := by rw [HB.out.cell (p := ⟨b, off + k * 10 + 2, none⟩) hbl]; exact hc1
      have e3 : wr.cell? ⟨b, off + k * 10 + 3, none⟩ = some x2 := by rw [HB.out.cell (p := ⟨b, off + k * 10 + 3, none⟩) hbl]; exact hc2
      have e4 : wr.cell? ⟨b, off + k * 10 + 4, none⟩ = some x3 := by rw [HB.out.cell (p := ⟨b, off + k * 10 + 4, none⟩) hbl]; exact hc3
      have e5 : wr.cell? ⟨b, off + k * 10 + 5, none⟩ = some x4 := by rw [HB.out.cell (p := ⟨b, off + k * 10 + 5, none⟩) hbl]; exact hc4
      have e6 : wr.cell? ⟨b, off + k * 10 + 6, none⟩ = some x5 := by rw [HB.out.cell (p := ⟨b, off + k * 10 + 6, none⟩) hbl]; exact hc5
      have e7 : wr.cell? ⟨b, off + k * 10 + 7, none⟩ = some x6 := by rw [HB.out.cell (p := ⟨b, off + k * 10 + 7, none⟩) hbl]; exact hc6
      have e8 : wr.cell? ⟨b, off + k * 10 + 8, none⟩ = some x7 := by rw [HB.out.cell (p := ⟨b, off + k * 10 + 8, none⟩) hbl]; exact hc7
      have e9 : wr.cell? ⟨b, off + k * 10 + 9, none⟩ = some x8 := by rw [HB.out.cell (p := ⟨b, off + k * 10 + 9, none⟩) hbl]; exact hc8
      have HT := Lib.hid (ht.below HB.out)
      clear ht hcn hc0 hc1 hc2 hc3 hc4 hc5 hc6 hc7 hc8
      go_wp2_with fail
      refine (IH.out _ ns[k] _ wr (by omega) ⟨hnz, _, _, _, _, _, _, _, _, _, rfl, HT.out⟩).mono ?_
      rintro e w' ⟨v2, fp, rfl, ht, hfp, hb1⟩
      have HF1 := Lib.hid hfp; clear hfp
      have HO1 := Lib.hid (own_below HO.out hb1); clear HO
      have hz1 := hb1.size
      obtain ⟨hny, y0, y1, y2, y3, y4, y5, y6, y7, y8, rfl, ht⟩ := ht
      obtain ⟨zk, znm, zn, zfk, zfa, zfn, zfc, ztk, zta, ztn, ztc, zsa, zsn, zsc, zea, zen, zec, rfl, rfl, rfl, rfl, rfl, rfl, rfl, rfl, rfl⟩ := co_cells ht.at_
      have HY := Lib.hid ht
      clear ht
      have hcs : cs.length = ts.length * 10 := HO1.out.1
      obtain ⟨u0v, p0⟩ : ∃ u, w'.cell? ⟨w.heap.size, k * 10, none⟩ = some u := by
        rw [HO1.out.cellAt (k * 10) (by omega)]
        exact ⟨_, List.getElem?_eq_getElem (by rw [HO1.out.1]; omega)⟩
      have f0 := HO1.out.frozenAt (k * 10)
      obtain ⟨u1v, p1⟩ : ∃ u, w'.cell? ⟨w.heap.size, k * 10 + 1, none⟩ = some u := by
        rw [HO1.out.cellAt (k * 10 + 1) (by omega)]
        exact ⟨_, List.getElem?_eq_getElem (by rw [HO1.out.1]; omega)⟩
      have f1 := HO1.out.frozenAt (k * 10 + 1)
      obtain ⟨u2v, p2⟩ : ∃ u, w'.cell? ⟨w.heap.size, k * 10 + 2, none⟩ = some u := by
        rw [HO1.out.cellAt (k * 10 + 2) (by omega)]
        exact ⟨_, List.getElem?_eq_getElem (by rw [HO1.out.1]; omega)⟩
      have f2 := HO1.out.frozenAt (k * 10 + 2)
      obtain ⟨u3v, p3⟩ : ∃ u, w'.cell? ⟨w.heap.size, k * 10 + 3, none⟩ = some u := by
        rw [HO1.out.cellAt (k * 10 + 3) (by omega)]
        exact ⟨_, List.getElem?_eq_getElem (by rw [HO1.out.1]; omega)⟩
      have f3 := HO1.out.frozenAt (k * 10 + 3)
      obtain ⟨u4v, p4⟩ : ∃ u, w'.cell? ⟨w.heap.size, k * 10 + 4, none⟩ = some u := by
        rw [HO1.out.cellAt (k * 10 + 4) (by omega)]
        exact ⟨_, List.getElem?_eq_getElem (by rw [HO1.out.1]; omega)⟩
      have f4 := HO1.out.frozenAt (k * 10 + 4)
      obtain ⟨u5v, p5⟩ : ∃ u, w'.cell? ⟨w.heap.size, k * 10 + 5, none⟩ = some u := by
        rw [HO1.out.cellAt (k * 10 + 5) (by omega)]
        exact ⟨_, List.getElem?_eq_getElem (by rw [HO1.out.1]; omega)⟩
      have f5 := HO1.out.frozenAt (k * 10 + 5)
      obtain ⟨u6v, p6⟩ : ∃ u, w'.cell? ⟨w.heap.size, k * 10 + 6, none⟩ = some u := by
        rw [HO1.out.cellAt (k * 10 + 6) (by omega)]
        exact ⟨_, List.getElem?_eq_getElem (by rw [HO1.out.1]; omega)⟩
      have f6 := HO1.out.frozenAt (k * 10 + 6)
      obtain ⟨u7v, p7⟩ : ∃ u, w'.cell? ⟨w.heap.size, k * 10 + 7, none⟩ = some u := by
        rw [HO1.out.cellAt (k * 10 + 7) (by omega)]
        exact ⟨_, List.getElem?_eq_getElem (by rw [HO1.out.1]; omega)⟩
      have f7 := HO1.out.frozenAt (k * 10 + 7)
      obtain ⟨u8v, p8⟩ : ∃ u, w'.cell? ⟨w.heap.size, k * 10 + 8, none⟩ = some u := by
        rw [HO1.out.cellAt (k * 10 + 8) (by omega)]
        exact ⟨_, List.getElem?_eq_getElem (by rw [HO1.out.1]; omega)⟩
      have f8 := HO1.out.frozenAt (k * 10 + 8)
      obtain ⟨u9v, p9⟩ : ∃ u, w'.cell? ⟨w.heap.size, k * 10 + 9, none⟩ = some u := by
        rw [HO1.out.cellAt (k * 10 + 9) (by omega)]
        exact ⟨_, List.getElem?_eq_getElem (by rw [HO1.out.1]; omega)⟩
      have f9 := HO1.out.frozenAt (k * 10 + 9)
      have HB1 := Lib.hid hb1; clear hb1
      have HCS := Lib.hid hcs; clear hcs
      go_wp2_with fail
      have hcs := HCS.out
      have hs0 := HO1.out.stored (k * 10) (.string ns[k])
      have hs1 := hs0.1.stored (k * 10 + 1) (.int .i64 zk)
      have hs2 := hs1.1.stored (k * 10 + 2) (.string znm)
      have hs3 := hs2.1.stored (k * 10 + 3) (.int .i64 zn)
      have hs4 := hs3.1.stored (k * 10 + 4) (.int .i64 zfk)
      have hs5 := hs4.1.stored (k * 10 + 5) (.slice zfa zfn zfc)
      have hs6 := hs5.1.stored (k * 10 + 6) (.int .i64 ztk)
      have hs7 := hs6.1.stored (k * 10 + 7) (.slice zta ztn ztc)
      have hs8 := hs7.1.stored (k * 10 + 8) (.slice zsa zsn zsc)
      have hs9 := hs8.1.stored (k * 10 + 9) (.slice zea zen zec)
      have hkeep : ∀ b, w.heap.size + 1 ≤ b → ((((((((((w'.setCell ⟨w.heap.size, k * 10, none⟩ (.string ns[k])).setCell ⟨w.heap.size, k * 10 + 1, none⟩ (.int .i64 zk)).setCell ⟨w.heap.size, k * 10 + 2, none⟩ (.string znm)).setCell ⟨w.heap.size, k * 10 + 3, none⟩ (.int .i64 zn)).setCell ⟨w.heap.size, k * 10 + 4, none⟩ (.int .i64 zfk)).setCell ⟨w.heap.size, k * 10 + 5, none⟩ (.slice zfa zfn zfc)).setCell ⟨w.heap.size, k * 10 + 6, none⟩ (.int .i64 ztk)).setCell ⟨w.heap.size, k * 10 + 7, none⟩ (.slice zta ztn ztc)).setCell ⟨w.heap.size, k * 10 + 8, none⟩ (.slice zsa zsn zsc)).setCell ⟨w.heap.size, k * 10 + 9, none⟩ (.slice zea zen zec)).heap[b]? = w'.heap[b]? := fun b h1 => by
        rw [heap_setCell_other _ _ _ _ (by simp; omega), heap_setCell_other _ _ _ _ (by simp; omega), heap_setCell_other _ _ _ _ (by simp; omega), heap_setCell_other _ _ _ _ (by simp; omega), heap_setCell_other _ _ _ _ (by simp; omega), heap_setCell_other _ _ _ _ (by simp; omega), heap_setCell_other _ _ _ _ (by simp; omega), heap_setCell_other _ _ _ _ (by simp; omega), heap_setCell_other _ _ _ _ (by simp; omega), heap_setCell_other _ _ _ _ (by simp; omega)]
      have hF := HF.out
      have hF1 := HF1.out
      have hL := HL.out
      have hzz : ((((((((((w'.setCell ⟨w.heap.size, k * 10, none⟩ (.string ns[k])).setCell ⟨w.heap.size, k * 10 + 1, none⟩ (.int .i64 zk)).setCell ⟨w.heap.size, k * 10 + 2, none⟩ (.string znm)).setCell ⟨w.heap.size, k * 10 + 3, none⟩ (.int .i64 zn)).setCell ⟨w.heap.size, k * 10 + 4, none⟩ (.int .i64 zfk)).setCell ⟨w.heap.size, k * 10 + 5, none⟩ (.slice zfa zfn zfc)).setCell ⟨w.heap.size, k * 10 + 6, none⟩ (.int .i64 ztk)).setCell ⟨w.heap.size, k * 10 + 7, none⟩ (.slice zta ztn ztc)).setCell ⟨w.heap.size, k * 10 + 8, none⟩ (.slice zsa zsn zsc)).setCell ⟨w.heap.size, k * 10 + 9, none⟩ (.slice zea zen zec)).heap.size = w'.heap.size := by simp
      refine ⟨⟨k + 1, _, fps ++ [fp], by omega, by go_num, hs9.1, by simp [hL], ?_, ?_, (((((((((((HB.out.trans (HB1.out.mono HB.out.size)).setCell (Nat.le_refl _) _).setCell (Nat.le_refl _) _).setCell (Nat.le_refl _) _).setCell (Nat.le_refl _) _).setCell (Nat.le_refl _) _).setCell (Nat.le_refl _) _).setCell (Nat.le_refl _) _).setCell (Nat.le_refl _) _).setCell (Nat.le_refl _) _).setCell (Nat.le_refl _) _)⟩, by simp [intOf]; omega⟩
      · rw [hzz, List.flatten_append, List.flatten_cons, List.flatten_nil, List.append_nil]
        exact hF.join hF1 (by omega) hz1
      · intro j hj hj2 hjk
        by_cases hjk2 : j = k
        · subst hjk2
          refine ⟨_, _, _, _, _, _, _, _, _, fp, hnz, (by rw [List.getElem?_set_ne (by omega), List.getElem?_set_ne (by omega), List.getElem?_set_ne (by omega), List.getElem?_set_ne (by omega), List.getElem?_set_ne (by omega), List.getElem?_set_ne (by omega), List.getElem?_set_ne (by omega), List.getElem?_set_ne (by omega), List.getElem?_set_ne (by omega), List.getElem?_set_self (by first | omega | (simp only [List.length_set]; omega))]), (by rw [List.getElem?_set_ne (by omega), List.getElem?_set_ne (by omega), List.getElem?_set_ne (by omega), List.getElem?_set_ne (by omega), List.getElem?_set_ne (by omega), List.getElem?_set_ne (by omega), List.getElem?_set_ne (by omega), List.getElem?_set_ne (by omega), List.getElem?_set_self (by first | omega | (simp only [List.length_set]; omega))]), (by rw [List.getElem?_set_ne (by omega), List.getElem?_set_ne (by omega), List.getElem?_set_ne (by omega), List.getElem?_set_ne (by omega), List.getElem?_set_ne (by omega), List.getElem?_set_ne (by omega), List.getElem?_set_ne (by omega), List.getElem?_set_self (by first | omega | (simp only [List.length_set]; omega))]), (by rw [List.getElem?_set_ne (by omega), List.getElem?_set_ne (by omega), List.getElem?_set_ne (by omega), List.getElem?_set_ne (by omega), List.getElem?_set_ne (by omega), List.getElem?_set_ne (by omega), List.getElem?_set_self (by first | omega | (simp only [List.length_set]; omega))]), (by rw [List.getElem?_set_ne (by omega), List.getElem?_set_ne (by omega), List.getElem?_set_ne (by omega), List.getElem?_set_ne (by omega), List.getElem?_set_ne (by omega), List.getElem?_set_self (by first | omega | (simp only [List.length_set]; omega))]), (by rw [List.getElem?_set_ne (by omega), List.getElem?_set_ne (by omega), List.getElem?_set_ne (by omega), List.getElem?_set_ne (by omega), List.getElem?_set_self (by first | omega | (simp only [List.length_set]; omega))]), (by rw [List.getElem?_set_ne (by omega), List.getElem?_set_ne (by omega), List.getElem?_set_ne (by omega), List.getElem?_set_self (by first | omega | (simp only [List.length_set]; omega))]), (by rw [List.getElem?_set_ne (by omega), List.getElem?_set_ne (by omega), List.getElem?_set_self (by first | omega | (simp only [List.length_set]; omega))]), (by rw [List.getElem?_set_ne (by omega), List.getElem?_set_self (by first | omega | (simp only [List.length_set]; omega))]), (by rw [List.getElem?_set_self (by first | omega | (simp only [List.length_set]; omega))]), ?_, HY.out.kept (by simp) fun b hb => hkeep b ?_⟩
          · rw [List.getElem?_append_right (by omega), hL]; simp
          · have := (hF1.2 b hb).1; omega
        · obtain ⟨c0, c1, c2, c3, c4, c5, c6, c7, c8, f, hnz, hcn, hc0, hc1, hc2, hc3, hc4, hc5, hc6, hc7, hc8, hfj, hty⟩ := HD.out j hj hj2 (by omega)
          have hsub : ∀ b, b ∈ f → b ∈ fps.flatten := fun b hb => List.mem_flatten.2 ⟨f, List.mem_of_getElem? hfj, hb⟩
          refine ⟨c0, c1, c2, c3, c4, c5, c6, c7, c8, f, hnz, (by rw [List.getElem?_set_ne (by omega), List.getElem?_set_ne (by omega), List.getElem?_set_ne (by omega), List.getElem?_set_ne (by omega), List.getElem?_set_ne (by omega), List.getElem?_set_ne (by omega), List.getElem?_set_ne (by omega), List.getElem?_set_ne (by omega), List.getElem?_set_ne (by omega), List.getElem?_set_ne (by omega)]; exact hcn), (by rw [List.getElem?_set_ne (by omega), List.getElem?_set_ne (by omega), List.getElem?_set_ne (by omega), List.getElem?_set_ne (by omega), List.getElem?_set_ne (by omega), List.getElem?_set_ne (by omega), List.getElem?_set_ne (by omega), List.getElem?_set_ne (by omega), List.getElem?_set_ne (by omega), List.getElem?_set_ne (by omega)]; exact hc0), (by rw [List.getElem?_set_ne (by omega), List.getElem?_set_ne (by omega), List.getElem?_set_ne (by omega), List.getElem?_set_ne (by omega), List.getElem?_set_ne (by omega), List.getElem?_set_ne (by omega), List.getElem?_set_ne (by omega), List.getElem?_set_ne (by omega), List.getElem?_set_ne (by omega), List.getElem?_set_ne (by omega)]; exact hc1), (by rw [List.getElem?_set_ne (by omega), List.getElem?_set_ne (by omega), List.getElem?_set_ne (by omega), List.getElem?_set_ne (by omega), List.getElem?_set_ne (by omega), List.getElem?_set_ne (by omega), List.getElem?_set_ne (by omega), List.getElem?_set_ne (by omega), List.getElem?_set_ne (by omega), List.getElem?_set_ne (by omega)]; exact hc2), (by rw [List.getElem?_set_ne (by omega), List.getElem?_set_ne (by omega), List.getElem?_set_ne (by omega), List.getElem?_set_ne (by omega), List.getElem?_set_ne (by omega), List.getElem?_set_ne (by omega), List.getElem?_set_ne (by omega), List.getElem?_set_ne (by omega), List.getElem?_set_ne (by omega), List.getElem?_set_ne (by omega)]; exact hc3), (by rw [List.getElem?_set_ne (by omega), List.getElem?_set_ne (by omega), List.getElem?_set_ne (by omega), List.getElem?_set_ne (by omega), List.getElem?_set_ne (by omega), List.getElem?_set_ne (by omega), List.getElem?_set_ne (by omega), List.getElem?_set_ne (by omega), List.getElem?_set_ne (by omega), List.getElem?_set_ne (by omega)]; exact hc4), (by rw [List.getElem?_set_ne (by omega), List.getElem?_set_ne (by omega), List.getElem?_set_ne (by omega), List.getElem?_set_ne (by omega), List.getElem?_set_ne (by omega), List.getElem?_set_ne (by omega), List.getElem?_set_ne (by omega), List.getElem?_set_ne (by omega), List.getElem?_set_ne (by omega), List.getElem?_set_ne (by omega)]; exact hc5), (by rw [List.getElem?_set_ne (by omega), List.getElem?_set_ne (by omega), List.getElem?_set_ne (by omega), List.getElem?_set_ne (by omega), List.getElem?_set_ne (by omega), List.getElem?_set_ne (by omega), List.getElem?_set_ne (by omega), List.getElem?_set_ne (by omega), List.getElem?_set_ne (by omega), List.getElem?_set_ne (by omega)]; exact hc6), (by rw [List.getElem?_set_ne (by omega), List.getElem?_set_ne (by omega), List.getElem?_set_ne (by omega), List.getElem?_set_ne (by omega), List.getElem?_set_ne (by omega), List.getElem?_set_ne (by omega), List.getElem?_set_ne (by omega), List.getElem?_set_ne (by omega), List.getElem?_set_ne (by omega), List.getElem?_set_ne (by omega)]; exact hc7), (by rw [List.getElem?_set_ne (by omega), List.getElem?_set_ne (by omega), List.getElem?_set_ne (by omega), List.getElem?_set_ne (by omega), List.getElem?_set_ne (by omega), List.getElem?_set_ne (by omega), List.getElem?_set_ne (by omega), List.getElem?_set_ne (by omega), List.getElem?_set_ne (by omega), List.getElem?_set_ne (by omega)]; exact hc8), ?_, hty.kept (by simp; omega) fun b hb => ?_⟩
          · rw [List.getElem?_append_left (by omega)]; exact hfj
          · have hb2 := hF.2 b (hsub b hb)
            rw [hkeep b hb2.1]; exact HB1.out.block b hb2.2
    · have hkk : k = ts.length := by omega
      subst hkk
      go_wp2_with fail
      go_ret
      refine ⟨_, [w.heap.size] ++ fps.flatten, rfl, ⟨hln, _, _, [w.heap.size], fps, rfl, Nat.le_refl _, by omega, HL.out, rfl, fun b hb => by cases List.mem_singleton.1 hb; exact hgl, fun j hj hj2 => ?_⟩, (Fp.one (Nat.le_refl _) (Nat.lt_succ_self _)).join HF.out (by omega) (by omega), HB.out⟩
      obtain ⟨c0, c1, c2, c3, c4, c5, c6, c7, c8, f, hnz, hcn, hc0, hc1, hc2, hc3, hc4, hc5, hc6, hc7, hc8, hfj, hty⟩ := HD.out j hj hj2 hj
      refine ⟨w.heap.size, 0, c0, c1, c2, c3, c4, c5, c6, c7, c8, f, rfl, rfl, hgl, hnz, (by rw [Nat.zero_add, HO.out.cellAt (j * 10) (by omega)]; exact hcn), (by rw [Nat.zero_add, HO.out.cellAt (j * 10 + 1) (by omega)]; exact hc0), (by rw [Nat.zero_add, HO.out.cellAt (j * 10 + 2) (by omega)]; exact hc1), (by rw [Nat.zero_add, HO.out.cellAt (j * 10 + 3) (by omega)]; exact hc2), (by rw [Nat.zero_add, HO.out.cellAt (j * 10 + 4) (by omega)]; exact hc3), (by rw [Nat.zero_add, HO.out.cellAt (j * 10 + 5) (by omega)]; exact hc4), (by rw [Nat.zero_add, HO.out.cellAt (j * 10 + 6) (by omega)]; exact hc5), (by rw [Nat.zero_add, HO.out.cellAt (j * 10 + 7) (by omega)]; exact hc6), (by rw [Nat.zero_add, HO.out.cellAt (j * 10 + 8) (by omega)]; exact hc7), (by rw [Nat.zero_add, HO.out.cellAt (j * 10 + 9) (by omega)]; exact hc8), fun o => HO.out.frozenAt o, hfj, hty⟩

set_option maxRecDepth 100000 in
set_option maxHeartbeats 4000000 in
theorem toCo_step (d : Nat) (ih : ToCosSaid d) (ih2 : ToCbsSaid d) : ToCoSaid (d + 1) := by
  intro v t w hn h
  have IH := Lib.hid ih; clear ih
  have IH2 := Lib.hid ih2; clear ih2
  have HV := co_parts h
  cases t with
  | node kd nm0 n0 fr ty ts ns vs =>
    obtain ⟨c3, c4, c5, c6, sl, el, rfl, hk0, hk1, hn0, hn1, hnm, hfr, hty, h, he⟩ := h
    obtain ⟨k, nm, n, fk, fa, fn, fc, tk, ta, tn, tc, sa, sn, sc, ea, en, ec, hv⟩ := HV
    injection hv with hv
    injection hv with hv
    simp at hv
    obtain ⟨rfl, rfl, rfl, rfl, rfl, rfl, rfl, rfl, rfl⟩ := hv
    have hbk : (Co.node kd nm0 n0 fr ty ts ns vs).bulk = nm0.size + (fr.size - 1) + (ty.size - 1) + Co.bulks ts + (txs ns + Co.bulks vs) := rfl
    have hsz1 : fr.size ≤ 1048577 := by omega
    have hsz2 : ty.size ≤ 1048577 := by omega
    have hsz3 : Co.bulks ts ≤ 1048576 := by omega
    have hsz4 : Co.bulks vs ≤ 1048576 := by omega
    clear hn hbk
    have B : Hid (Below w.heap.size w (((w.alloc (.cells #[.int .i64 kd, .string nm0, .int .i64 n0, .int .i64 fk, .slice fa fn fc, .int .i64 tk, .slice ta tn tc, .slice sa sn sc, .slice ea en ec] 61)).alloc (.cells #[.int .i64 0, .string ⟨#[]⟩, .int .i64 0, .int .i64 0, .slice none 0 0, .int .i64 0, .slice none 0 0, .slice none 0 0, .slice none 0 0] 68)).alloc (.cells #[.int .i64 kd, .string nm0, .int .i64 n0, .int .i64 0, .slice none 0 0, .int .i64 0, .slice none 0 0, .slice none 0 0, .slice none 0 0] 68))) := (((Below.refl _ _).alloc (Nat.le_refl _) _).alloc (by simp) _).alloc (by simp; omega) _
    have HFR := Lib.hid (hfr.below B.out)
    have HTW := Lib.hid hty
    have HSW : Hid (CosAt w d (.slice sa sn sc) ts) := h
    have HEW : Hid (CbsAt w d (.slice ea en ec) ns vs) := he
    have XA : Hid (BoxAt (((w.alloc (.cells #[.int .i64 kd, .string nm0, .int .i64 n0, .int .i64 fk, .slice fa fn fc, .int .i64 tk, .slice ta tn tc, .slice sa sn sc, .slice ea en ec] 61)).alloc (.cells #[.int .i64 0, .string ⟨#[]⟩, .int .i64 0, .int .i64 0, .slice none 0 0, .int .i64 0, .slice none 0 0, .slice none 0 0, .slice none 0 0] 68)).alloc (.cells #[.int .i64 kd, .string nm0, .int .i64 n0, .int .i64 0, .slice none 0 0, .int .i64 0, .slice none 0 0, .slice none 0 0, .slice none 0 0] 68)) w.heap.size #[.int .i64 kd, .string nm0, .int .i64 n0, .int .i64 fk, .slice fa fn fc, .int .i64 tk, .slice ta tn tc, .slice sa sn sc, .slice ea en ec]) := ((BoxAt.new _ _ _).below (below_alloc _ _)).below (below_alloc _ _)
    have XR : Hid (BoxAt (((w.alloc (.cells #[.int .i64 kd, .string nm0, .int .i64 n0, .int .i64 fk, .slice fa fn fc, .int .i64 tk, .slice ta tn tc, .slice sa sn sc, .slice ea en ec] 61)).alloc (.cells #[.int .i64 0, .string ⟨#[]⟩, .int .i64 0, .int .i64 0, .slice none 0 0, .int .i64 0, .slice none 0 0, .slice none 0 0, .slice none 0 0] 68)).alloc (.cells #[.int .i64 kd, .string nm0, .int .i64 n0, .int .i64 0, .slice none 0 0, .int .i64 0, .slice none 0 0, .slice none 0 0, .slice none 0 0] 68)) (w.heap.size + 1) #[.int .i64 0, .string ⟨#[]⟩, .int .i64 0, .int .i64 0, .slice none 0 0, .int .i64 0, .slice none 0 0, .slice none 0 0, .slice none 0 0]) := (box_at (BoxAt.new _ _ _) (by simp)).below (below_alloc _ _)
    have XO : Hid (BoxAt (((w.alloc (.cells #[.int .i64 kd, .string nm0, .int .i64 n0, .int .i64 fk, .slice fa fn fc, .int .i64 tk, .slice ta tn tc, .slice sa sn sc, .slice ea en ec] 61)).alloc (.cells #[.int .i64 0, .string ⟨#[]⟩, .int .i64 0, .int .i64 0, .slice none 0 0, .int .i64 0, .slice none 0 0, .slice none 0 0, .slice none 0 0] 68)).alloc (.cells #[.int .i64 kd, .string nm0, .int .i64 n0, .int .i64 0, .slice none 0 0, .int .i64 0, .slice none 0 0, .slice none 0 0, .slice none 0 0] 68)) (w.heap.size + 1 + 1) #[.int .i64 kd, .string nm0, .int .i64 n0, .int .i64 0, .slice none 0 0, .int .i64 0, .slice none 0 0, .slice none 0 0, .slice none 0 0]) := box_at (BoxAt.new _ _ _) (by simp)
    have FR : Hid (FreeAt (((w.alloc (.cells #[.int .i64 kd, .string nm0, .int .i64 n0, .int .i64 fk, .slice fa fn fc, .int .i64 tk, .slice ta tn tc, .slice sa sn sc, .slice ea en ec] 61)).alloc (.cells #[.int .i64 0, .string ⟨#[]⟩, .int .i64 0, .int .i64 0, .slice none 0 0, .int .i64 0, .slice none 0 0, .slice none 0 0, .slice none 0 0] 68)).alloc (.cells #[.int .i64 kd, .string nm0, .int .i64 n0, .int .i64 0, .slice none 0 0, .int .i64 0, .slice none 0 0, .slice none 0 0, .slice none 0 0] 68)) (w.heap.size + 1)) := (free_at (FreeAt.new _ _ _) (by simp)).below (below_alloc _ _)
    have FO : Hid (FreeAt (((w.alloc (.cells #[.int .i64 kd, .string nm0, .int .i64 n0, .int .i64 fk, .slice fa fn fc, .int .i64 tk, .slice ta tn tc, .slice sa sn sc, .slice ea en ec] 61)).alloc (.cells #[.int .i64 0, .string ⟨#[]⟩, .int .i64 0, .int .i64 0, .slice none 0 0, .int .i64 0, .slice none 0 0, .slice none 0 0, .slice none 0 0] 68)).alloc (.cells #[.int .i64 kd, .string nm0, .int .i64 n0, .int .i64 0, .slice none 0 0, .int .i64 0, .slice none 0 0, .slice none 0 0, .slice none 0 0] 68)) (w.heap.size + 1 + 1)) := free_at (FreeAt.new _ _ _) (by simp)
    have hz0 : (((w.alloc (.cells #[.int .i64 kd, .string nm0, .int .i64 n0, .int .i64 fk, .slice fa fn fc, .int .i64 tk, .slice ta tn tc, .slice sa sn sc, .slice ea en ec] 61)).alloc (.cells #[.int .i64 0, .string ⟨#[]⟩, .int .i64 0, .int .i64 0, .slice none 0 0, .int .i64 0, .slice none 0 0, .slice none 0 0, .slice none 0 0] 68)).alloc (.cells #[.int .i64 kd, .string nm0, .int .i64 n0, .int .i64 0, .slice none 0 0, .int .i64 0, .slice none 0 0, .slice none 0 0, .slice none 0 0] 68)).heap.size = w.heap.size + 3 := by simp
    clear hfr hty h he
    go_enter Try.func26, Try.ntmps26
    go_wp2_with fail
    refine ((toTy_all d).1 _ fr _ hsz1 HFR.out).mono ?_
    rintro e w1 ⟨v1, f1, rfl, ht, hf, hb⟩
    have hz1 := hb.size
    rw [hz0] at hz1 hf
    obtain ⟨gk, ga, gn, gc, rfl, HG⟩ := ty_parts ht
    have F1 := Lib.hid hf
    clear HFR
    have B0 := Lib.hid (below_thru B.out (Nat.le_refl _) hb)
    have XA0 := Lib.hid (XA.out.below hb)
    have XR0 := Lib.hid (XR.out.below hb)
    have XO0 := Lib.hid (XO.out.below hb)
    have FR0 := Lib.hid (FR.out.below hb)
    have FO0 := Lib.hid (FO.out.below hb)
    clear hb ht hf
    clear B
    have B := B0
    clear B0
    clear XA
    have XA := XA0
    clear XA0
    clear XR
    have XR := XR0
    clear XR0
    clear XO
    have XO := XO0
    clear XO0
    clear FR
    have FR := FR0
    clear FR0
    clear FO
    have FO := FO0
    clear FO0
    have BS : Hid (Below w.heap.size w ((w1.setCell ⟨w.heap.size + 1 + 1, 3, none⟩ (.int .i64 gk)).setCell ⟨w.heap.size + 1 + 1, 4, none⟩ (.slice ga gn gc))) := ((B.out.setCell (by simp; omega) _).setCell (by simp; omega) _)
    have XOS : Hid (BoxAt ((w1.setCell ⟨w.heap.size + 1 + 1, 3, none⟩ (.int .i64 gk)).setCell ⟨w.heap.size + 1 + 1, 4, none⟩ (.slice ga gn gc)) (w.heap.size + 1 + 1) #[.int .i64 kd, .string nm0, .int .i64 n0, .int .i64 gk, .slice ga gn gc, .int .i64 0, .slice none 0 0, .slice none 0 0, .slice none 0 0]) := by
      have := ((XO.out.put (j := 3) (u := .int .i64 gk) (by simp)).put (j := 4) (u := .slice ga gn gc) (by simp))
      exact this
    have XRS : Hid (BoxAt ((w1.setCell ⟨w.heap.size + 1 + 1, 3, none⟩ (.int .i64 gk)).setCell ⟨w.heap.size + 1 + 1, 4, none⟩ (.slice ga gn gc)) (w.heap.size + 1) #[.int .i64 0, .string ⟨#[]⟩, .int .i64 0, .int .i64 0, .slice none 0 0, .int .i64 0, .slice none 0 0, .slice none 0 0, .slice none 0 0]) := (XR.out.stored (by omega)).stored (by omega)
    have XAS : Hid (BoxAt ((w1.setCell ⟨w.heap.size + 1 + 1, 3, none⟩ (.int .i64 gk)).setCell ⟨w.heap.size + 1 + 1, 4, none⟩ (.slice ga gn gc)) w.heap.size #[.int .i64 kd, .string nm0, .int .i64 n0, .int .i64 fk, .slice fa fn fc, .int .i64 tk, .slice ta tn tc, .slice sa sn sc, .slice ea en ec]) := (XA.out.stored (by omega)).stored (by omega)
    have FRS : Hid (FreeAt ((w1.setCell ⟨w.heap.size + 1 + 1, 3, none⟩ (.int .i64 gk)).setCell ⟨w.heap.size + 1 + 1, 4, none⟩ (.slice ga gn gc)) (w.heap.size + 1)) := FR.out.put.put
    have FOS : Hid (FreeAt ((w1.setCell ⟨w.heap.size + 1 + 1, 3, none⟩ (.int .i64 gk)).setCell ⟨w.heap.size + 1 + 1, 4, none⟩ (.slice ga gn gc)) (w.heap.size + 1 + 1)) := FO.out.put.put
    have hsz : ((w1.setCell ⟨w.heap.size + 1 + 1, 3, none⟩ (.int .i64 gk)).setCell ⟨w.heap.size + 1 + 1, 4, none⟩ (.slice ga gn gc)).heap.size = w1.heap.size := by simp
    have K1 : Hid (∀ b, w.heap.size + 3 ≤ b → ((w1.setCell ⟨w.heap.size + 1 + 1, 3, none⟩ (.int .i64 gk)).setCell ⟨w.heap.size + 1 + 1, 4, none⟩ (.slice ga gn gc)).heap[b]? = w1.heap[b]?) := fun b hb => by rw [heap_setCell_other _ _ _ _ (by simp; omega), heap_setCell_other _ _ _ _ (by simp; omega)]
    have HTS := Lib.hid (HTW.out.below BS.out)
    have a5 := XA.out.2 5
    have a5s := XAS.out.2 5
    have a6 := XA.out.2 6
    have a6s := XAS.out.2 6
    have o3 := XO.out.2 3
    have u3 := FO.out.2 3
    have o4 := XO.out.2 4
    have u4 := FO.out.2 4
    go_wp2_with fail
    clear a5 a5s a6 a6s o3 u3 o4 u4 XA XR XO FR FO B
    refine ((toTy_all d).1 _ ty _ hsz2 HTS.out).mono ?_
    rintro e w2 ⟨v2, f2, rfl, ht, hf, hb⟩
    have hz2 := hb.size
    rw [hsz] at hz2 hf
    obtain ⟨qk, qa, qn, qc, rfl, HQ⟩ := ty_parts ht
    have F2 := Lib.hid hf
    clear HTS
    have B0 := Lib.hid (below_thru BS.out (Nat.le_refl _) hb)
    have XA0 := Lib.hid (XAS.out.below hb)
    have XR0 := Lib.hid (XRS.out.below hb)
    have XO0 := Lib.hid (XOS.out.below hb)
    have FR0 := Lib.hid (FRS.out.below hb)
    have FO0 := Lib.hid (FOS.out.below hb)
    have L1 : Hid (∀ b, b < w1.heap.size → w2.heap[b]? = ((w1.setCell ⟨w.heap.size + 1 + 1, 3, none⟩ (.int .i64 gk)).setCell ⟨w.heap.size + 1 + 1, 4, none⟩ (.slice ga gn gc)).heap[b]?) := fun b h1 => hb.block b (by rw [hsz]; exact h1)
    clear hb ht hf hsz BS
    have B := B0
    clear B0
    clear XAS
    have XA := XA0
    clear XA0
    clear XRS
    have XR := XR0
    clear XR0
    clear XOS
    have XO := XO0
    clear XO0
    clear FRS
    have FR := FR0
    clear FR0
    clear FOS
    have FO := FO0
    clear FO0
    have BS : Hid (Below w.heap.size w ((w2.setCell ⟨w.heap.size + 1 + 1, 5, none⟩ (.int .i64 qk)).setCell ⟨w.heap.size + 1 + 1, 6, none⟩ (.slice qa qn qc))) := ((B.out.setCell (by simp; omega) _).setCell (by simp; omega) _)
    have XOS : Hid (BoxAt ((w2.setCell ⟨w.heap.size + 1 + 1, 5, none⟩ (.int .i64 qk)).setCell ⟨w.heap.size + 1 + 1, 6, none⟩ (.slice qa qn qc)) (w.heap.size + 1 + 1) #[.int .i64 kd, .string nm0, .int .i64 n0, .int .i64 gk, .slice ga gn gc, .int .i64 qk, .slice qa qn qc, .slice none 0 0, .slice none 0 0]) := by
      have := ((XO.out.put (j := 5) (u := .int .i64 qk) (by simp)).put (j := 6) (u := .slice qa qn qc) (by simp))
      exact this
    have XRS : Hid (BoxAt ((w2.setCell ⟨w.heap.size + 1 + 1, 5, none⟩ (.int .i64 qk)).setCell ⟨w.heap.size + 1 + 1, 6, none⟩ (.slice qa qn qc)) (w.heap.size + 1) #[.int .i64 0, .string ⟨#[]⟩, .int .i64 0, .int .i64 0, .slice none 0 0, .int .i64 0, .slice none 0 0, .slice none 0 0, .slice none 0 0]) := (XR.out.stored (by omega)).stored (by omega)
    have XAS : Hid (BoxAt ((w2.setCell ⟨w.heap.size + 1 + 1, 5, none⟩ (.int .i64 qk)).setCell ⟨w.heap.size + 1 + 1, 6, none⟩ (.slice qa qn qc)) w.heap.size #[.int .i64 kd, .string nm0, .int .i64 n0, .int .i64 fk, .slice fa fn fc, .int .i64 tk, .slice ta tn tc, .slice sa sn sc, .slice ea en ec]) := (XA.out.stored (by omega)).stored (by omega)
    have FRS : Hid (FreeAt ((w2.setCell ⟨w.heap.size + 1 + 1, 5, none⟩ (.int .i64 qk)).setCell ⟨w.heap.size + 1 + 1, 6, none⟩ (.slice qa qn qc)) (w.heap.size + 1)) := FR.out.put.put
    have FOS : Hid (FreeAt ((w2.setCell ⟨w.heap.size + 1 + 1, 5, none⟩ (.int .i64 qk)).setCell ⟨w.heap.size + 1 + 1, 6, none⟩ (.slice qa qn qc)) (w.heap.size + 1 + 1)) := FO.out.put.put
    have hsz : ((w2.setCell ⟨w.heap.size + 1 + 1, 5, none⟩ (.int .i64 qk)).setCell ⟨w.heap.size + 1 + 1, 6, none⟩ (.slice qa qn qc)).heap.size = w2.heap.size := by simp
    have K2 : Hid (∀ b, w.heap.size + 3 ≤ b → ((w2.setCell ⟨w.heap.size + 1 + 1, 5, none⟩ (.int .i64 qk)).setCell ⟨w.heap.size + 1 + 1, 6, none⟩ (.slice qa qn qc)).heap[b]? = w2.heap[b]?) := fun b hb => by rw [heap_setCell_other _ _ _ _ (by simp; omega), heap_setCell_other _ _ _ _ (by simp; omega)]
    have HSS := Lib.hid (HSW.out.below BS.out)
    have a7 := XA.out.2 7
    have a7s := XAS.out.2 7
    have o5 := XO.out.2 5
    have u5 := FO.out.2 5
    have o6 := XO.out.2 6
    have u6 := FO.out.2 6
    go_wp2_with fail
    clear a7 a7s o5 u5 o6 u6 XA XR XO FR FO B
    refine (IH.out _ ts _ hsz3 HSS.out).mono ?_
    rintro e w3 ⟨v3, f3, rfl, ht, hf, hb⟩
    have hz3 := hb.size
    rw [hsz] at hz3 hf
    have HR := Lib.hid ht
    obtain ⟨ra, rc, hd9, fps9, rfl, _⟩ := ht
    have F3 := Lib.hid hf
    clear HSS
    have B0 := Lib.hid (below_thru BS.out (Nat.le_refl _) hb)
    have XA0 := Lib.hid (XAS.out.below hb)
    have XR0 := Lib.hid (XRS.out.below hb)
    have XO0 := Lib.hid (XOS.out.below hb)
    have FR0 := Lib.hid (FRS.out.below hb)
    have FO0 := Lib.hid (FOS.out.below hb)
    have L2 : Hid (∀ b, b < w2.heap.size → w3.heap[b]? = ((w2.setCell ⟨w.heap.size + 1 + 1, 5, none⟩ (.int .i64 qk)).setCell ⟨w.heap.size + 1 + 1, 6, none⟩ (.slice qa qn qc)).heap[b]?) := fun b h1 => hb.block b (by rw [hsz]; exact h1)
    clear hb hf hsz BS
    have B := B0
    clear B0
    clear XAS
    have XA := XA0
    clear XA0
    clear XRS
    have XR := XR0
    clear XR0
    clear XOS
    have XO := XO0
    clear XO0
    clear FRS
    have FR := FR0
    clear FR0
    clear FOS
    have FO := FO0
    clear FO0
    have BS : Hid (Below w.heap.size w (w3.setCell ⟨w.heap.size + 1 + 1, 7, none⟩ (.slice ra ts.length rc))) := (B.out.setCell (by simp; omega) _)
    have XOS : Hid (BoxAt (w3.setCell ⟨w.heap.size + 1 + 1, 7, none⟩ (.slice ra ts.length rc)) (w.heap.size + 1 + 1) #[.int .i64 kd, .string nm0, .int .i64 n0, .int .i64 gk, .slice ga gn gc, .int .i64 qk, .slice qa qn qc, .slice ra ts.length rc, .slice none 0 0]) := by
      have := (XO.out.put (j := 7) (u := .slice ra ts.length rc) (by simp))
      exact this
    have XRS : Hid (BoxAt (w3.setCell ⟨w.heap.size + 1 + 1, 7, none⟩ (.slice ra ts.length rc)) (w.heap.size + 1) #[.int .i64 0, .string ⟨#[]⟩, .int .i64 0, .int .i64 0, .slice none 0 0, .int .i64 0, .slice none 0 0, .slice none 0 0, .slice none 0 0]) := XR.out.stored (by omega)
    have XAS : Hid (BoxAt (w3.setCell ⟨w.heap.size + 1 + 1, 7, none⟩ (.slice ra ts.length rc)) w.heap.size #[.int .i64 kd, .string nm0, .int .i64 n0, .int .i64 fk, .slice fa fn fc, .int .i64 tk, .slice ta tn tc, .slice sa sn sc, .slice ea en ec]) := XA.out.stored (by omega)
    have FRS : Hid (FreeAt (w3.setCell ⟨w.heap.size + 1 + 1, 7, none⟩ (.slice ra ts.length rc)) (w.heap.size + 1)) := FR.out.put
    have FOS : Hid (FreeAt (w3.setCell ⟨w.heap.size + 1 + 1, 7, none⟩ (.slice ra ts.length rc)) (w.heap.size + 1 + 1)) := FO.out.put
    have hsz : (w3.setCell ⟨w.heap.size + 1 + 1, 7, none⟩ (.slice ra ts.length rc)).heap.size = w3.heap.size := by simp
    have K3 : Hid (∀ b, w.heap.size + 3 ≤ b → (w3.setCell ⟨w.heap.size + 1 + 1, 7, none⟩ (.slice ra ts.length rc)).heap[b]? = w3.heap[b]?) := fun b hb => by rw [heap_setCell_other _ _ _ _ (by simp; omega)]
    have HES := Lib.hid (HEW.out.below BS.out)
    have a8 := XA.out.2 8
    have a8s := XAS.out.2 8
    have o7 := XO.out.2 7
    have u7 := FO.out.2 7
    go_wp2_with fail
    clear a8 a8s o7 u7 XA XR XO FR FO B
    refine (IH2.out _ ns vs _ hsz4 HES.out).mono ?_
    rintro e w4 ⟨v4, f4, rfl, ht, hf, hb⟩
    have hz4 := hb.size
    rw [hsz] at hz4 hf
    have HX := Lib.hid ht
    obtain ⟨hln9, xa, xc, hd8, fps8, rfl, _⟩ := ht
    have F4 := Lib.hid hf
    clear HES
    have B0 := Lib.hid (below_thru BS.out (Nat.le_refl _) hb)
    have XA0 := Lib.hid (XAS.out.below hb)
    have XR0 := Lib.hid (XRS.out.below hb)
    have XO0 := Lib.hid (XOS.out.below hb)
    have FR0 := Lib.hid (FRS.out.below hb)
    have FO0 := Lib.hid (FOS.out.below hb)
    have L3 : Hid (∀ b, b < w3.heap.size → w4.heap[b]? = (w3.setCell ⟨w.heap.size + 1 + 1, 7, none⟩ (.slice ra ts.length rc)).heap[b]?) := fun b h1 => hb.block b (by rw [hsz]; exact h1)
    clear hb hf hsz BS
    have B := B0
    clear B0
    clear XAS
    have XA := XA0
    clear XA0
    clear XRS
    have XR := XR0
    clear XR0
    clear XOS
    have XO := XO0
    clear XO0
    clear FRS
    have FR := FR0
    clear FR0
    clear FOS
    have FO := FO0
    clear FO0
    have o0 := XO.out.2 0
    have u0 := FO.out.2 0
    have r0 := XR.out.2 0
    have s0 := FR.out.2 0
    have o1 := XO.out.2 1
    have u1 := FO.out.2 1
    have r1 := XR.out.2 1
    have s1 := FR.out.2 1
    have o2 := XO.out.2 2
    have u2 := FO.out.2 2
    have r2 := XR.out.2 2
    have s2 := FR.out.2 2
    have o3 := XO.out.2 3
    have u3 := FO.out.2 3
    have r3 := XR.out.2 3
    have s3 := FR.out.2 3
    have o4 := XO.out.2 4
    have u4 := FO.out.2 4
    have r4 := XR.out.2 4
    have s4 := FR.out.2 4
    have o5 := XO.out.2 5
    have u5 := FO.out.2 5
    have r5 := XR.out.2 5
    have s5 := FR.out.2 5
    have o6 := XO.out.2 6
    have u6 := FO.out.2 6
    have r6 := XR.out.2 6
    have s6 := FR.out.2 6
    have o7 := XO.out.2 7
    have u7 := FO.out.2 7
    have r7 := XR.out.2 7
    have s7 := FR.out.2 7
    have o8 := XO.out.2 8
    have u8 := FO.out.2 8
    have r8 := XR.out.2 8
    have s8 := FR.out.2 8
    go_wp2_with fail
    have XRF : BoxAt ((((((((((w4.setCell ⟨w.heap.size + 1 + 1, 8, none⟩ (.slice xa vs.length xc)).setCell ⟨w.heap.size + 1, 0, none⟩ (.int .i64 kd)).setCell ⟨w.heap.size + 1, 1, none⟩ (.string nm0)).setCell ⟨w.heap.size + 1, 2, none⟩ (.int .i64 n0)).setCell ⟨w.heap.size + 1, 3, none⟩ (.int .i64 gk)).setCell ⟨w.heap.size + 1, 4, none⟩ (.slice ga gn gc)).setCell ⟨w.heap.size + 1, 5, none⟩ (.int .i64 qk)).setCell ⟨w.heap.size + 1, 6, none⟩ (.slice qa qn qc)).setCell ⟨w.heap.size + 1, 7, none⟩ (.slice ra ts.length rc)).setCell ⟨w.heap.size + 1, 8, none⟩ (.slice xa vs.length xc)) (w.heap.size + 1) #[.int .i64 kd, .string nm0, .int .i64 n0, .int .i64 gk, .slice ga gn gc, .int .i64 qk, .slice qa qn qc, .slice ra ts.length rc, .slice xa vs.length xc] := by
      have := BoxAt.puts [.int .i64 kd, .string nm0, .int .i64 n0, .int .i64 gk, .slice ga gn gc, .int .i64 qk, .slice qa qn qc, .slice ra ts.length rc, .slice xa vs.length xc] [.int .i64 0, .string ⟨#[]⟩, .int .i64 0, .int .i64 0, .slice none 0 0, .int .i64 0, .slice none 0 0, .slice none 0 0, .slice none 0 0] [] _ (XR.out.stored (q := w.heap.size + 1 + 1) (j := 8) (u := .slice xa vs.length xc) (by omega)) rfl
      exact this
    have K4 : ∀ b, w.heap.size + 3 ≤ b → ((((((((((w4.setCell ⟨w.heap.size + 1 + 1, 8, none⟩ (.slice xa vs.length xc)).setCell ⟨w.heap.size + 1, 0, none⟩ (.int .i64 kd)).setCell ⟨w.heap.size + 1, 1, none⟩ (.string nm0)).setCell ⟨w.heap.size + 1, 2, none⟩ (.int .i64 n0)).setCell ⟨w.heap.size + 1, 3, none⟩ (.int .i64 gk)).setCell ⟨w.heap.size + 1, 4, none⟩ (.slice ga gn gc)).setCell ⟨w.heap.size + 1, 5, none⟩ (.int .i64 qk)).setCell ⟨w.heap.size + 1, 6, none⟩ (.slice qa qn qc)).setCell ⟨w.heap.size + 1, 7, none⟩ (.slice ra ts.length rc)).setCell ⟨w.heap.size + 1, 8, none⟩ (.slice xa vs.length xc)).heap[b]? = w4.heap[b]? := fun b hb => by
      rw [heap_setCell_other _ _ _ _ (by simp; omega), heap_setCell_other _ _ _ _ (by simp; omega), heap_setCell_other _ _ _ _ (by simp; omega), heap_setCell_other _ _ _ _ (by simp; omega), heap_setCell_other _ _ _ _ (by simp; omega), heap_setCell_other _ _ _ _ (by simp; omega), heap_setCell_other _ _ _ _ (by simp; omega), heap_setCell_other _ _ _ _ (by simp; omega), heap_setCell_other _ _ _ _ (by simp; omega), heap_setCell_other _ _ _ _ (by simp; omega)]
    have hzf : ((((((((((w4.setCell ⟨w.heap.size + 1 + 1, 8, none⟩ (.slice xa vs.length xc)).setCell ⟨w.heap.size + 1, 0, none⟩ (.int .i64 kd)).setCell ⟨w.heap.size + 1, 1, none⟩ (.string nm0)).setCell ⟨w.heap.size + 1, 2, none⟩ (.int .i64 n0)).setCell ⟨w.heap.size + 1, 3, none⟩ (.int .i64 gk)).setCell ⟨w.heap.size + 1, 4, none⟩ (.slice ga gn gc)).setCell ⟨w.heap.size + 1, 5, none⟩ (.int .i64 qk)).setCell ⟨w.heap.size + 1, 6, none⟩ (.slice qa qn qc)).setCell ⟨w.heap.size + 1, 7, none⟩ (.slice ra ts.length rc)).setCell ⟨w.heap.size + 1, 8, none⟩ (.slice xa vs.length xc)).heap.size = w4.heap.size := by simp
    have hbF : Below w.heap.size w ((((((((((w4.setCell ⟨w.heap.size + 1 + 1, 8, none⟩ (.slice xa vs.length xc)).setCell ⟨w.heap.size + 1, 0, none⟩ (.int .i64 kd)).setCell ⟨w.heap.size + 1, 1, none⟩ (.string nm0)).setCell ⟨w.heap.size + 1, 2, none⟩ (.int .i64 n0)).setCell ⟨w.heap.size + 1, 3, none⟩ (.int .i64 gk)).setCell ⟨w.heap.size + 1, 4, none⟩ (.slice ga gn gc)).setCell ⟨w.heap.size + 1, 5, none⟩ (.int .i64 qk)).setCell ⟨w.heap.size + 1, 6, none⟩ (.slice qa qn qc)).setCell ⟨w.heap.size + 1, 7, none⟩ (.slice ra ts.length rc)).setCell ⟨w.heap.size + 1, 8, none⟩ (.slice xa vs.length xc)) := ((((((((((B.out.setCell (by simp; omega) _).setCell (by simp) _).setCell (by simp) _).setCell (by simp) _).setCell (by simp) _).setCell (by simp) _).setCell (by simp) _).setCell (by simp) _).setCell (by simp) _).setCell (by simp) _)
    have g0 := XRF.2 0
    have g1 := XRF.2 1
    have g2 := XRF.2 2
    have g3 := XRF.2 3
    have g4 := XRF.2 4
    have g5 := XRF.2 5
    have g6 := XRF.2 6
    have g7 := XRF.2 7
    have g8 := XRF.2 8
    clear XRF
    have q1 := F1.out.2
    have q2 := F2.out.2
    have q3 := F3.out.2
    have HGF : TyOwn ((((((((((w4.setCell ⟨w.heap.size + 1 + 1, 8, none⟩ (.slice xa vs.length xc)).setCell ⟨w.heap.size + 1, 0, none⟩ (.int .i64 kd)).setCell ⟨w.heap.size + 1, 1, none⟩ (.string nm0)).setCell ⟨w.heap.size + 1, 2, none⟩ (.int .i64 n0)).setCell ⟨w.heap.size + 1, 3, none⟩ (.int .i64 gk)).setCell ⟨w.heap.size + 1, 4, none⟩ (.slice ga gn gc)).setCell ⟨w.heap.size + 1, 5, none⟩ (.int .i64 qk)).setCell ⟨w.heap.size + 1, 6, none⟩ (.slice qa qn qc)).setCell ⟨w.heap.size + 1, 7, none⟩ (.slice ra ts.length rc)).setCell ⟨w.heap.size + 1, 8, none⟩ (.slice xa vs.length xc)) d (.agg #[.int .i64 gk, .slice ga gn gc]) fr f1 := HG.out.kept (by rw [hzf]; omega) fun b hb => by
      have hq := q1 b hb
      rw [K4 b hq.1, L3.out b (by omega), K3.out b hq.1, L2.out b (by omega), K2.out b hq.1, L1.out b hq.2, K1.out b hq.1]
    have HQF : TyOwn ((((((((((w4.setCell ⟨w.heap.size + 1 + 1, 8, none⟩ (.slice xa vs.length xc)).setCell ⟨w.heap.size + 1, 0, none⟩ (.int .i64 kd)).setCell ⟨w.heap.size + 1, 1, none⟩ (.string nm0)).setCell ⟨w.heap.size + 1, 2, none⟩ (.int .i64 n0)).setCell ⟨w.heap.size + 1, 3, none⟩ (.int .i64 gk)).setCell ⟨w.heap.size + 1, 4, none⟩ (.slice ga gn gc)).setCell ⟨w.heap.size + 1, 5, none⟩ (.int .i64 qk)).setCell ⟨w.heap.size + 1, 6, none⟩ (.slice qa qn qc)).setCell ⟨w.heap.size + 1, 7, none⟩ (.slice ra ts.length rc)).setCell ⟨w.heap.size + 1, 8, none⟩ (.slice xa vs.length xc)) d (.agg #[.int .i64 qk, .slice qa qn qc]) ty f2 := HQ.out.kept (by rw [hzf]; omega) fun b hb => by
      have hq := q2 b hb
      rw [K4 b (by omega), L3.out b (by omega), K3.out b (by omega), L2.out b hq.2, K2.out b (by omega)]
    have HRF : CosOwn ((((((((((w4.setCell ⟨w.heap.size + 1 + 1, 8, none⟩ (.slice xa vs.length xc)).setCell ⟨w.heap.size + 1, 0, none⟩ (.int .i64 kd)).setCell ⟨w.heap.size + 1, 1, none⟩ (.string nm0)).setCell ⟨w.heap.size + 1, 2, none⟩ (.int .i64 n0)).setCell ⟨w.heap.size + 1, 3, none⟩ (.int .i64 gk)).setCell ⟨w.heap.size + 1, 4, none⟩ (.slice ga gn gc)).setCell ⟨w.heap.size + 1, 5, none⟩ (.int .i64 qk)).setCell ⟨w.heap.size + 1, 6, none⟩ (.slice qa qn qc)).setCell ⟨w.heap.size + 1, 7, none⟩ (.slice ra ts.length rc)).setCell ⟨w.heap.size + 1, 8, none⟩ (.slice xa vs.length xc)) d (.slice ra ts.length rc) ts f3 := CosOwn.kept HR.out (by rw [hzf]; omega) fun b hb => by
      have hq := q3 b hb
      rw [K4 b (by omega), L3.out b hq.2, K3.out b (by omega)]
    have HXF : CbsOwn ((((((((((w4.setCell ⟨w.heap.size + 1 + 1, 8, none⟩ (.slice xa vs.length xc)).setCell ⟨w.heap.size + 1, 0, none⟩ (.int .i64 kd)).setCell ⟨w.heap.size + 1, 1, none⟩ (.string nm0)).setCell ⟨w.heap.size + 1, 2, none⟩ (.int .i64 n0)).setCell ⟨w.heap.size + 1, 3, none⟩ (.int .i64 gk)).setCell ⟨w.heap.size + 1, 4, none⟩ (.slice ga gn gc)).setCell ⟨w.heap.size + 1, 5, none⟩ (.int .i64 qk)).setCell ⟨w.heap.size + 1, 6, none⟩ (.slice qa qn qc)).setCell ⟨w.heap.size + 1, 7, none⟩ (.slice ra ts.length rc)).setCell ⟨w.heap.size + 1, 8, none⟩ (.slice xa vs.length xc)) d (.slice xa vs.length xc) ns vs f4 := CbsOwn.kept HX.out (by rw [hzf]; omega) fun b hb => K4 b (by have := (F4.out.2 b hb).1; omega)
    have hfp : Fp w.heap.size ((((((((((w4.setCell ⟨w.heap.size + 1 + 1, 8, none⟩ (.slice xa vs.length xc)).setCell ⟨w.heap.size + 1, 0, none⟩ (.int .i64 kd)).setCell ⟨w.heap.size + 1, 1, none⟩ (.string nm0)).setCell ⟨w.heap.size + 1, 2, none⟩ (.int .i64 n0)).setCell ⟨w.heap.size + 1, 3, none⟩ (.int .i64 gk)).setCell ⟨w.heap.size + 1, 4, none⟩ (.slice ga gn gc)).setCell ⟨w.heap.size + 1, 5, none⟩ (.int .i64 qk)).setCell ⟨w.heap.size + 1, 6, none⟩ (.slice qa qn qc)).setCell ⟨w.heap.size + 1, 7, none⟩ (.slice ra ts.length rc)).setCell ⟨w.heap.size + 1, 8, none⟩ (.slice xa vs.length xc)).heap.size (f1 ++ (f2 ++ (f3 ++ f4))) := by
      rw [hzf]
      exact (F1.out.join (F2.out.join (F3.out.join F4.out (by omega) (by omega)) (by omega) (by omega)) (by omega) (by omega)).mono (by omega) (Nat.le_refl _)
    generalize ((((((((((w4.setCell ⟨w.heap.size + 1 + 1, 8, none⟩ (.slice xa vs.length xc)).setCell ⟨w.heap.size + 1, 0, none⟩ (.int .i64 kd)).setCell ⟨w.heap.size + 1, 1, none⟩ (.string nm0)).setCell ⟨w.heap.size + 1, 2, none⟩ (.int .i64 n0)).setCell ⟨w.heap.size + 1, 3, none⟩ (.int .i64 gk)).setCell ⟨w.heap.size + 1, 4, none⟩ (.slice ga gn gc)).setCell ⟨w.heap.size + 1, 5, none⟩ (.int .i64 qk)).setCell ⟨w.heap.size + 1, 6, none⟩ (.slice qa qn qc)).setCell ⟨w.heap.size + 1, 7, none⟩ (.slice ra ts.length rc)).setCell ⟨w.heap.size + 1, 8, none⟩ (.slice xa vs.length xc)) = WX at g0 g1 g2 g3 g4 g5 g6 g7 g8 HGF HQF HRF HXF hfp hbF ⊢
    refine bodyPost_ret (v := .agg #[.int .i64 kd, .string nm0, .int .i64 n0, .int .i64 gk, .slice ga gn gc, .int .i64 qk, .slice qa qn qc, .slice ra ts.length rc, .slice xa vs.length xc]) (by simp [results, Try.results26, go_sem, g0, g1, g2, g3, g4, g5, g6, g7, g8]) rfl ?_
    exact ⟨_, _, rfl, ⟨_, _, _, _, _, _, f1, f2, f3, f4, rfl, hk0, hk1, hn0, hn1, hnm, rfl, HGF, HQF, HRF, HXF⟩, hfp, hbF⟩

set_option maxRecDepth 100000 in
set_option maxHeartbeats 4000000 in
theorem toCb_step (d : Nat) (ih : ToCoSaid d) : ToCbSaid d := by
  intro v nm0 t w hn h
  have IH := Lib.hid ih; clear ih
  obtain ⟨k, nm, n, fk, fa, fn, fc, tk, ta, tn, tc, sa, sn, sc, ea, en, ec, rfl⟩ := cb_parts h
  obtain ⟨hnz, c0, c1, c2, c3, c4, c5, c6, c7, c8, hv, h⟩ := h
  have hv2 : .int .i64 k = c0 ∧ .string nm = c1 ∧ .int .i64 n = c2 ∧ .int .i64 fk = c3 ∧ .slice fa fn fc = c4 ∧ .int .i64 tk = c5 ∧ .slice ta tn tc = c6 ∧ .slice sa sn sc = c7 ∧ .slice ea en ec = c8 := by injection hv with hv; injection hv with hv; simpa using hv
  obtain ⟨rfl, rfl, rfl, rfl, rfl, rfl, rfl, rfl, rfl⟩ := hv2
  clear hv
  have B : Hid (Below w.heap.size w (((w.alloc (.cells #[.string nm0, .int .i64 k, .string nm, .int .i64 n, .int .i64 fk, .slice fa fn fc, .int .i64 tk, .slice ta tn tc, .slice sa sn sc, .slice ea en ec] 154)).alloc (.cells #[.string ⟨#[]⟩, .int .i64 0, .string ⟨#[]⟩, .int .i64 0, .int .i64 0, .slice none 0 0, .int .i64 0, .slice none 0 0, .slice none 0 0, .slice none 0 0] 115)).alloc (.cells #[.string nm0, .int .i64 0, .string ⟨#[]⟩, .int .i64 0, .int .i64 0, .slice none 0 0, .int .i64 0, .slice none 0 0, .slice none 0 0, .slice none 0 0] 115))) := (((Below.refl _ _).alloc (Nat.le_refl _) _).alloc (by simp) _).alloc (by simp; omega) _
  have HT := Lib.hid (h.below B.out)
  have XA : Hid (BoxAt (((w.alloc (.cells #[.string nm0, .int .i64 k, .string nm, .int .i64 n, .int .i64 fk, .slice fa fn fc, .int .i64 tk, .slice ta tn tc, .slice sa sn sc, .slice ea en ec] 154)).alloc (.cells #[.string ⟨#[]⟩, .int .i64 0, .string ⟨#[]⟩, .int .i64 0, .int .i64 0, .slice none 0 0, .int .i64 0, .slice none 0 0, .slice none 0 0, .slice none 0 0] 115)).alloc (.cells #[.string nm0, .int .i64 0, .string ⟨#[]⟩, .int .i64 0, .int .i64 0, .slice none 0 0, .int .i64 0, .slice none 0 0, .slice none 0 0, .slice none 0 0] 115)) w.heap.size #[.string nm0, .int .i64 k, .string nm, .int .i64 n, .int .i64 fk, .slice fa fn fc, .int .i64 tk, .slice ta tn tc, .slice sa sn sc, .slice ea en ec]) := ((BoxAt.new _ _ _).below (below_alloc _ _)).below (below_alloc _ _)
  have XR : Hid (BoxAt (((w.alloc (.cells #[.string nm0, .int .i64 k, .string nm, .int .i64 n, .int .i64 fk, .slice fa fn fc, .int .i64 tk, .slice ta tn tc, .slice sa sn sc, .slice ea en ec] 154)).alloc (.cells #[.string ⟨#[]⟩, .int .i64 0, .string ⟨#[]⟩, .int .i64 0, .int .i64 0, .slice none 0 0, .int .i64 0, .slice none 0 0, .slice none 0 0, .slice none 0 0] 115)).alloc (.cells #[.string nm0, .int .i64 0, .string ⟨#[]⟩, .int .i64 0, .int .i64 0, .slice none 0 0, .int .i64 0, .slice none 0 0, .slice none 0 0, .slice none 0 0] 115)) (w.heap.size + 1) #[.string ⟨#[]⟩, .int .i64 0, .string ⟨#[]⟩, .int .i64 0, .int .i64 0, .slice none 0 0, .int .i64 0, .slice none 0 0, .slice none 0 0, .slice none 0 0]) := (box_at (BoxAt.new _ _ _) (by simp)).below (below_alloc _ _)
  have XO : Hid (BoxAt (((w.alloc (.cells #[.string nm0, .int .i64 k, .string nm, .int .i64 n, .int .i64 fk, .slice fa fn fc, .int .i64 tk, .slice ta tn tc, .slice sa sn sc, .slice ea en ec] 154)).alloc (.cells #[.string ⟨#[]⟩, .int .i64 0, .string ⟨#[]⟩, .int .i64 0, .int .i64 0, .slice none 0 0, .int .i64 0, .slice none 0 0, .slice none 0 0, .slice none 0 0] 115)).alloc (.cells #[.string nm0, .int .i64 0, .string ⟨#[]⟩, .int .i64 0, .int .i64 0, .slice none 0 0, .int .i64 0, .slice none 0 0, .slice none 0 0, .slice none 0 0] 115)) (w.heap.size + 1 + 1) #[.string nm0, .int .i64 0, .string ⟨#[]⟩, .int .i64 0, .int .i64 0, .slice none 0 0, .int .i64 0, .slice none 0 0, .slice none 0 0, .slice none 0 0]) := box_at (BoxAt.new _ _ _) (by simp)
  have FR : Hid (FreeAt (((w.alloc (.cells #[.string nm0, .int .i64 k, .string nm, .int .i64 n, .int .i64 fk, .slice fa fn fc, .int .i64 tk, .slice ta tn tc, .slice sa sn sc, .slice ea en ec] 154)).alloc (.cells #[.string ⟨#[]⟩, .int .i64 0, .string ⟨#[]⟩, .int .i64 0, .int .i64 0, .slice none 0 0, .int .i64 0, .slice none 0 0, .slice none 0 0, .slice none 0 0] 115)).alloc (.cells #[.string nm0, .int .i64 0, .string ⟨#[]⟩, .int .i64 0, .int .i64 0, .slice none 0 0, .int .i64 0, .slice none 0 0, .slice none 0 0, .slice none 0 0] 115)) (w.heap.size + 1)) := (free_at (FreeAt.new _ _ _) (by simp)).below (below_alloc _ _)
  have FO : Hid (FreeAt (((w.alloc (.cells #[.string nm0, .int .i64 k, .string nm, .int .i64 n, .int .i64 fk, .slice fa fn fc, .int .i64 tk, .slice ta tn tc, .slice sa sn sc, .slice ea en ec] 154)).alloc (.cells #[.string ⟨#[]⟩, .int .i64 0, .string ⟨#[]⟩, .int .i64 0, .int .i64 0, .slice none 0 0, .int .i64 0, .slice none 0 0, .slice none 0 0, .slice none 0 0] 115)).alloc (.cells #[.string nm0, .int .i64 0, .string ⟨#[]⟩, .int .i64 0, .int .i64 0, .slice none 0 0, .int .i64 0, .slice none 0 0, .slice none 0 0, .slice none 0 0] 115)) (w.heap.size + 1 + 1)) := free_at (FreeAt.new _ _ _) (by simp)
  have hz0 : (((w.alloc (.cells #[.string nm0, .int .i64 k, .string nm, .int .i64 n, .int .i64 fk, .slice fa fn fc, .int .i64 tk, .slice ta tn tc, .slice sa sn sc, .slice ea en ec] 154)).alloc (.cells #[.string ⟨#[]⟩, .int .i64 0, .string ⟨#[]⟩, .int .i64 0, .int .i64 0, .slice none 0 0, .int .i64 0, .slice none 0 0, .slice none 0 0, .slice none 0 0] 115)).alloc (.cells #[.string nm0, .int .i64 0, .string ⟨#[]⟩, .int .i64 0, .int .i64 0, .slice none 0 0, .int .i64 0, .slice none 0 0, .slice none 0 0, .slice none 0 0] 115)).heap.size = w.heap.size + 3 := by simp
  clear h
  go_enter Try.func107, Try.ntmps107
  go_wp2_with fail
  refine (IH.out _ t _ hn HT.out).mono ?_
  rintro e w1 ⟨v1, f1, rfl, ht, hf, hb⟩
  have hz1 := hb.size
  rw [hz0] at hz1 hf
  obtain ⟨zk, znm, zn, zfk, zfa, zfn, zfc, ztk, zta, ztn, ztc, zsa, zsn, zsc, zea, zen, zec, rfl⟩ := co_parts ht.at_
  have HG := Lib.hid ht
  have F1 := Lib.hid hf
  replace B := Lib.hid (below_thru B.out (Nat.le_refl _) hb)
  replace XR := Lib.hid (XR.out.below hb)
  replace XO := Lib.hid (XO.out.below hb)
  replace FR := Lib.hid (FR.out.below hb)
  replace FO := Lib.hid (FO.out.below hb)
  clear hb ht hf HT XA
  have o0 := XO.out.2 0
  have u0 := FO.out.2 0
  have r0 := XR.out.2 0
  have s0 := FR.out.2 0
  have o1 := XO.out.2 1
  have u1 := FO.out.2 1
  have r1 := XR.out.2 1
  have s1 := FR.out.2 1
  have o2 := XO.out.2 2
  have u2 := FO.out.2 2
  have r2 := XR.out.2 2
  have s2 := FR.out.2 2
  have o3 := XO.out.2 3
  have u3 := FO.out.2 3
  have r3 := XR.out.2 3
  have s3 := FR.out.2 3
  have o4 := XO.out.2 4
  have u4 := FO.out.2 4
  have r4 := XR.out.2 4
  have s4 := FR.out.2 4
  have o5 := XO.out.2 5
  have u5 := FO.out.2 5
  have r5 := XR.out.2 5
  have s5 := FR.out.2 5
  have o6 := XO.out.2 6
  have u6 := FO.out.2 6
  have r6 := XR.out.2 6
  have s6 := FR.out.2 6
  have o7 := XO.out.2 7
  have u7 := FO.out.2 7
  have r7 := XR.out.2 7
  have s7 := FR.out.2 7
  have o8 := XO.out.2 8
  have u8 := FO.out.2 8
  have r8 := XR.out.2 8
  have s8 := FR.out.2 8
  have o9 := XO.out.2 9
  have u9 := FO.out.2 9
  have r9 := XR.out.2 9
  have s9 := FR.out.2 9
  go_wp2_with fail
  have XRF : BoxAt (((((((((((((((((((w1.setCell ⟨w.heap.size + 1 + 1, 1, none⟩ (.int .i64 zk)).setCell ⟨w.heap.size + 1 + 1, 2, none⟩ (.string znm)).setCell ⟨w.heap.size + 1 + 1, 3, none⟩ (.int .i64 zn)).setCell ⟨w.heap.size + 1 + 1, 4, none⟩ (.int .i64 zfk)).setCell ⟨w.heap.size + 1 + 1, 5, none⟩ (.slice zfa zfn zfc)).setCell ⟨w.heap.size + 1 + 1, 6, none⟩ (.int .i64 ztk)).setCell ⟨w.heap.size + 1 + 1, 7, none⟩ (.slice zta ztn ztc)).setCell ⟨w.heap.size + 1 + 1, 8, none⟩ (.slice zsa zsn zsc)).setCell ⟨w.heap.size + 1 + 1, 9, none⟩ (.slice zea zen zec)).setCell ⟨w.heap.size + 1, 0, none⟩ (.string nm0)).setCell ⟨w.heap.size + 1, 1, none⟩ (.int .i64 zk)).setCell ⟨w.heap.size + 1, 2, none⟩ (.string znm)).setCell ⟨w.heap.size + 1, 3, none⟩ (.int .i64 zn)).setCell ⟨w.heap.size + 1, 4, none⟩ (.int .i64 zfk)).setCell ⟨w.heap.size + 1, 5, none⟩ (.slice zfa zfn zfc)).setCell ⟨w.heap.size + 1, 6, none⟩ (.int .i64 ztk)).setCell ⟨w.heap.size + 1, 7, none⟩ (.slice zta ztn ztc)).setCell ⟨w.heap.size + 1, 8, none⟩ (.slice zsa zsn zsc)).setCell ⟨w.heap.size + 1, 9, none⟩ (.slice zea zen zec)) (w.heap.size + 1) #[.string nm0, .int .i64 zk, .string znm, .int .i64 zn, .int .i64 zfk, .slice zfa zfn zfc, .int .i64 ztk, .slice zta ztn ztc, .slice zsa zsn zsc, .slice zea zen zec] := by
    have := BoxAt.puts [.string nm0, .int .i64 zk, .string znm, .int .i64 zn, .int .i64 zfk, .slice zfa zfn zfc, .int .i64 ztk, .slice zta ztn ztc, .slice zsa zsn zsc, .slice zea zen zec] [.string ⟨#[]⟩, .int .i64 0, .string ⟨#[]⟩, .int .i64 0, .int .i64 0, .slice none 0 0, .int .i64 0, .slice none 0 0, .slice none 0 0, .slice none 0 0] [] _ (((((((((XR.out.stored (q := w.heap.size + 1 + 1) (j := 1) (u := .int .i64 zk) (by omega)).stored (q := w.heap.size + 1 + 1) (j := 2) (u := .string znm) (by omega)).stored (q := w.heap.size + 1 + 1) (j := 3) (u := .int .i64 zn) (by omega)).stored (q := w.heap.size + 1 + 1) (j := 4) (u := .int .i64 zfk) (by omega)).stored (q := w.heap.size + 1 + 1) (j := 5) (u := .slice zfa zfn zfc) (by omega)).stored (q := w.heap.size + 1 + 1) (j := 6) (u := .int .i64 ztk) (by omega)).stored (q := w.heap.size + 1 + 1) (j := 7) (u := .slice zta ztn ztc) (by omega)).stored (q := w.heap.size + 1 + 1) (j := 8) (u := .slice zsa zsn zsc) (by omega)).stored (q := w.heap.size + 1 + 1) (j := 9) (u := .slice zea zen zec) (by omega)) rfl
    exact this
  have K1 : ∀ b, w.heap.size + 3 ≤ b → (((((((((((((((((((w1.setCell ⟨w.heap.size + 1 + 1, 1, none⟩ (.int .i64 zk)).setCell ⟨w.heap.size + 1 + 1, 2, none⟩ (.string znm)).setCell ⟨w.heap.size + 1 + 1, 3, none⟩ (.int .i64 zn)).setCell ⟨w.heap.size + 1 + 1, 4, none⟩ (.int .i64 zfk)).setCell ⟨w.heap.size + 1 + 1, 5, none⟩ (.slice zfa zfn zfc)).setCell ⟨w.heap.size + 1 + 1, 6, none⟩ (.int .i64 ztk)).setCell ⟨w.heap.size + 1 + 1, 7, none⟩ (.slice zta ztn ztc)).setCell ⟨w.heap.size + 1 + 1, 8, none⟩ (.slice zsa zsn zsc)).setCell ⟨w.heap.size + 1 + 1, 9, none⟩ (.slice zea zen zec)).setCell ⟨w.heap.size + 1, 0, none⟩ (.string nm0)).setCell ⟨w.heap.size + 1, 1, none⟩ (.int .i64 zk)).setCell ⟨w.heap.size + 1, 2, none⟩ (.string znm)).setCell ⟨w.heap.size + 1, 3, none⟩ (.int .i64 zn)).setCell ⟨w.heap.size + 1, 4, none⟩ (.int .i64 zfk)).setCell ⟨w.heap.size + 1, 5, none⟩ (.slice zfa zfn zfc)).setCell ⟨w.heap.size + 1, 6, none⟩ (.int .i64 ztk)).setCell ⟨w.heap.size + 1, 7, none⟩ (.slice zta ztn ztc)).setCell ⟨w.heap.size + 1, 8, none⟩ (.slice zsa zsn zsc)).setCell ⟨w.heap.size + 1, 9, none⟩ (.slice zea zen zec)).heap[b]? = w1.heap[b]? := fun b hb => by
    rw [heap_setCell_other _ _ _ _ (by simp; omega), heap_setCell_other _ _ _ _ (by simp; omega), heap_setCell_other _ _ _ _ (by simp; omega), heap_setCell_other _ _ _ _ (by simp; omega), heap_setCell_other _ _ _ _ (by simp; omega), heap_setCell_other _ _ _ _ (by simp; omega), heap_setCell_other _ _ _ _ (by simp; omega), heap_setCell_other _ _ _ _ (by simp; omega), heap_setCell_other _ _ _ _ (by simp; omega), heap_setCell_other _ _ _ _ (by simp; omega), heap_setCell_other _ _ _ _ (by simp; omega), heap_setCell_other _ _ _ _ (by simp; omega), heap_setCell_other _ _ _ _ (by simp; omega), heap_setCell_other _ _ _ _ (by simp; omega), heap_setCell_other _ _ _ _ (by simp; omega), heap_setCell_other _ _ _ _ (by simp; omega), heap_setCell_other _ _ _ _ (by simp; omega), heap_setCell_other _ _ _ _ (by simp; omega), heap_setCell_other _ _ _ _ (by simp; omega)]
  have hzf : (((((((((((((((((((w1.setCell ⟨w.heap.size + 1 + 1, 1, none⟩ (.int .i64 zk)).setCell ⟨w.heap.size + 1 + 1, 2, none⟩ (.string znm)).setCell ⟨w.heap.size + 1 + 1, 3, none⟩ (.int .i64 zn)).setCell ⟨w.heap.size + 1 + 1, 4, none⟩ (.int .i64 zfk)).setCell ⟨w.heap.size + 1 + 1, 5, none⟩ (.slice zfa zfn zfc)).setCell ⟨w.heap.size + 1 + 1, 6, none⟩ (.int .i64 ztk)).setCell ⟨w.heap.size + 1 + 1, 7, none⟩ (.slice zta ztn ztc)).setCell ⟨w.heap.size + 1 + 1, 8, none⟩ (.slice zsa zsn zsc)).setCell ⟨w.heap.size + 1 + 1, 9, none⟩ (.slice zea zen zec)).setCell ⟨w.heap.size + 1, 0, none⟩ (.string nm0)).setCell ⟨w.heap.size + 1, 1, none⟩ (.int .i64 zk)).setCell ⟨w.heap.size + 1, 2, none⟩ (.string znm)).setCell ⟨w.heap.size + 1, 3, none⟩ (.int .i64 zn)).setCell ⟨w.heap.size + 1, 4, none⟩ (.int .i64 zfk)).setCell ⟨w.heap.size + 1, 5, none⟩ (.slice zfa zfn zfc)).setCell ⟨w.heap.size + 1, 6, none⟩ (.int .i64 ztk)).setCell ⟨w.heap.size + 1, 7, none⟩ (.slice zta ztn ztc)).setCell ⟨w.heap.size + 1, 8, none⟩ (.slice zsa zsn zsc)).setCell ⟨w.heap.size + 1, 9, none⟩ (.slice zea zen zec)).heap.size = w1.heap.size := by simp
  have hbF : Below w.heap.size w (((((((((((((((((((w1.setCell ⟨w.heap.size + 1 + 1, 1, none⟩ (.int .i64 zk)).setCell ⟨w.heap.size + 1 + 1, 2, none⟩ (.string znm)).setCell ⟨w.heap.size + 1 + 1, 3, none⟩ (.int .i64 zn)).setCell ⟨w.heap.size + 1 + 1, 4, none⟩ (.int .i64 zfk)).setCell ⟨w.heap.size + 1 + 1, 5, none⟩ (.slice zfa zfn zfc)).setCell ⟨w.heap.size + 1 + 1, 6, none⟩ (.int .i64 ztk)).setCell ⟨w.heap.size + 1 + 1, 7, none⟩ (.slice zta ztn ztc)).setCell ⟨w.heap.size + 1 + 1, 8, none⟩ (.slice zsa zsn zsc)).setCell ⟨w.heap.size + 1 + 1, 9, none⟩ (.slice zea zen zec)).setCell ⟨w.heap.size + 1, 0, none⟩ (.string nm0)).setCell ⟨w.heap.size + 1, 1, none⟩ (.int .i64 zk)).setCell ⟨w.heap.size + 1, 2, none⟩ (.string znm)).setCell ⟨w.heap.size + 1, 3, none⟩ (.int .i64 zn)).setCell ⟨w.heap.size + 1, 4, none⟩ (.int .i64 zfk)).setCell ⟨w.heap.size + 1, 5, none⟩ (.slice zfa zfn zfc)).setCell ⟨w.heap.size + 1, 6, none⟩ (.int .i64 ztk)).setCell ⟨w.heap.size + 1, 7, none⟩ (.slice zta ztn ztc)).setCell ⟨w.heap.size + 1, 8, none⟩ (.slice zsa zsn zsc)).setCell ⟨w.heap.size + 1, 9, none⟩ (.slice zea zen zec)) := (((((((((((((((((((B.out.setCell (by simp; omega) _).setCell (by simp; omega) _).setCell (by simp; omega) _).setCell (by simp; omega) _).setCell (by simp; omega) _).setCell (by simp; omega) _).setCell (by simp; omega) _).setCell (by simp; omega) _).setCell (by simp; omega) _).setCell (by simp) _).setCell (by simp) _).setCell (by simp) _).setCell (by simp) _).setCell (by simp) _).setCell (by simp) _).setCell (by simp) _).setCell (by simp) _).setCell (by simp) _).setCell (by simp) _)
  have g0 := XRF.2 0
  have g1 := XRF.2 1
  have g2 := XRF.2 2
  have g3 := XRF.2 3
  have g4 := XRF.2 4
  have g5 := XRF.2 5
  have g6 := XRF.2 6
  have g7 := XRF.2 7
  have g8 := XRF.2 8
  have g9 := XRF.2 9
  clear XRF
  have HGF : CoOwn (((((((((((((((((((w1.setCell ⟨w.heap.size + 1 + 1, 1, none⟩ (.int .i64 zk)).setCell ⟨w.heap.size + 1 + 1, 2, none⟩ (.string znm)).setCell ⟨w.heap.size + 1 + 1, 3, none⟩ (.int .i64 zn)).setCell ⟨w.heap.size + 1 + 1, 4, none⟩ (.int .i64 zfk)).setCell ⟨w.heap.size + 1 + 1, 5, none⟩ (.slice zfa zfn zfc)).setCell ⟨w.heap.size + 1 + 1, 6, none⟩ (.int .i64 ztk)).setCell ⟨w.heap.size + 1 + 1, 7, none⟩ (.slice zta ztn ztc)).setCell ⟨w.heap.size + 1 + 1, 8, none⟩ (.slice zsa zsn zsc)).setCell ⟨w.heap.size + 1 + 1, 9, none⟩ (.slice zea zen zec)).setCell ⟨w.heap.size + 1, 0, none⟩ (.string nm0)).setCell ⟨w.heap.size + 1, 1, none⟩ (.int .i64 zk)).setCell ⟨w.heap.size + 1, 2, none⟩ (.string znm)).setCell ⟨w.heap.size + 1, 3, none⟩ (.int .i64 zn)).setCell ⟨w.heap.size + 1, 4, none⟩ (.int .i64 zfk)).setCell ⟨w.heap.size + 1, 5, none⟩ (.slice zfa zfn zfc)).setCell ⟨w.heap.size + 1, 6, none⟩ (.int .i64 ztk)).setCell ⟨w.heap.size + 1, 7, none⟩ (.slice zta ztn ztc)).setCell ⟨w.heap.size + 1, 8, none⟩ (.slice zsa zsn zsc)).setCell ⟨w.heap.size + 1, 9, none⟩ (.slice zea zen zec)) d (.agg #[.int .i64 zk, .string znm, .int .i64 zn, .int .i64 zfk, .slice zfa zfn zfc, .int .i64 ztk, .slice zta ztn ztc, .slice zsa zsn zsc, .slice zea zen zec]) t f1 := HG.out.kept (by rw [hzf]; omega) fun b hb => K1 b (F1.out.2 b hb).1
  have hfp : Fp w.heap.size (((((((((((((((((((w1.setCell ⟨w.heap.size + 1 + 1, 1, none⟩ (.int .i64 zk)).setCell ⟨w.heap.size + 1 + 1, 2, none⟩ (.string znm)).setCell ⟨w.heap.size + 1 + 1, 3, none⟩ (.int .i64 zn)).setCell ⟨w.heap.size + 1 + 1, 4, none⟩ (.int .i64 zfk)).setCell ⟨w.heap.size + 1 + 1, 5, none⟩ (.slice zfa zfn zfc)).setCell ⟨w.heap.size + 1 + 1, 6, none⟩ (.int .i64 ztk)).setCell ⟨w.heap.size + 1 + 1, 7, none⟩ (.slice zta ztn ztc)).setCell ⟨w.heap.size + 1 + 1, 8, none⟩ (.slice zsa zsn zsc)).setCell ⟨w.heap.size + 1 + 1, 9, none⟩ (.slice zea zen zec)).setCell ⟨w.heap.size + 1, 0, none⟩ (.string nm0)).setCell ⟨w.heap.size + 1, 1, none⟩ (.int .i64 zk)).setCell ⟨w.heap.size + 1, 2, none⟩ (.string znm)).setCell ⟨w.heap.size + 1, 3, none⟩ (.int .i64 zn)).setCell ⟨w.heap.size + 1, 4, none⟩ (.int .i64 zfk)).setCell ⟨w.heap.size + 1, 5, none⟩ (.slice zfa zfn zfc)).setCell ⟨w.heap.size + 1, 6, none⟩ (.int .i64 ztk)).setCell ⟨w.heap.size + 1, 7, none⟩ (.slice zta ztn ztc)).setCell ⟨w.heap.size + 1, 8, none⟩ (.slice zsa zsn zsc)).setCell ⟨w.heap.size + 1, 9, none⟩ (.slice zea zen zec)).heap.size f1 := by
    rw [hzf]
    exact F1.out.mono (by omega) (Nat.le_refl _)
  generalize (((((((((((((((((((w1.setCell ⟨w.heap.size + 1 + 1, 1, none⟩ (.int .i64 zk)).setCell ⟨w.heap.size + 1 + 1, 2, none⟩ (.string znm)).setCell ⟨w.heap.size + 1 + 1, 3, none⟩ (.int .i64 zn)).setCell ⟨w.heap.size + 1 + 1, 4, none⟩ (.int .i64 zfk)).setCell ⟨w.heap.size + 1 + 1, 5, none⟩ (.slice zfa zfn zfc)).setCell ⟨w.heap.size + 1 + 1, 6, none⟩ (.int .i64 ztk)).setCell ⟨w.heap.size + 1 + 1, 7, none⟩ (.slice zta ztn ztc)).setCell ⟨w.heap.size + 1 + 1, 8, none⟩ (.slice zsa zsn zsc)).setCell ⟨w.heap.size + 1 + 1, 9, none⟩ (.slice zea zen zec)).setCell ⟨w.heap.size + 1, 0, none⟩ (.string nm0)).setCell ⟨w.heap.size + 1, 1, none⟩ (.int .i64 zk)).setCell ⟨w.heap.size + 1, 2, none⟩ (.string znm)).setCell ⟨w.heap.size + 1, 3, none⟩ (.int .i64 zn)).setCell ⟨w.heap.size + 1, 4, none⟩ (.int .i64 zfk)).setCell ⟨w.heap.size + 1, 5, none⟩ (.slice zfa zfn zfc)).setCell ⟨w.heap.size + 1, 6, none⟩ (.int .i64 ztk)).setCell ⟨w.heap.size + 1, 7, none⟩ (.slice zta ztn ztc)).setCell ⟨w.heap.size + 1, 8, none⟩ (.slice zsa zsn zsc)).setCell ⟨w.heap.size + 1, 9, none⟩ (.slice zea zen zec)) = WX at g0 g1 g2 g3 g4 g5 g6 g7 g8 g9 HGF hfp hbF ⊢
  refine bodyPost_ret (v := .agg #[.string nm0, .int .i64 zk, .string znm, .int .i64 zn, .int .i64 zfk, .slice zfa zfn zfc, .int .i64 ztk, .slice zta ztn ztc, .slice zsa zsn zsc, .slice zea zen zec]) (by simp [results, Try.results107, go_sem, g0, g1, g2, g3, g4, g5, g6, g7, g8, g9]) rfl ?_
  exact ⟨_, _, rfl, ⟨hnz, _, _, _, _, _, _, _, _, _, rfl, HGF⟩, hfp, hbF⟩

theorem toCo_all (d : Nat) : ToCoSaid d ∧ ToCosSaid d ∧ ToCbsSaid d := by
  induction d with
  | zero =>
    have h0 : ToCoSaid 0 := fun v t w _ h => h.elim
    exact ⟨h0, toCos_step 0 h0, toCbs_step 0 (toCb_step 0 h0)⟩
  | succ d ih =>
    have h1 := toCo_step d ih.2.1 ih.2.2
    exact ⟨h1, toCos_step (d + 1) h1, toCbs_step (d + 1) (toCb_step (d + 1) h1)⟩
end Go.Proofs.Ytefoenkmppeidaa
/-
  Proved: the law FnExactFreeInCore answers true for every expression, and leaves the memory that was there as it was.
-/
namespace Go.Proofs.Ytefoenkmppeidaa
open Go.RowKit

set_option maxRecDepth 100000 in
set_option maxHeartbeats 2000000 in
theorem freeInCoreWalk (d : Nat) (v1 : Value) (t1 : Co) (w : World) (h1 : CoAt w d v1 t1) :
    Calls Try.prog 6 #[v1] w fun e w' => e = .returned (.bool true) ∧ Below w.heap.size w w' := by
  obtain ⟨a1k, a1nm, a1n, a1fk, a1fa, a1fn, a1fc, a1tk, a1ta, a1tn, a1tc, a1sa, a1sn, a1sc, a1ea, a1en, a1ec, rfl⟩ := co_parts h1
  have B : Hid (Below w.heap.size w (w.alloc (.cells #[.int .i64 a1k, .string a1nm, .int .i64 a1n, .int .i64 a1fk, .slice a1fa a1fn a1fc, .int .i64 a1tk, .slice a1ta a1tn a1tc, .slice a1sa a1sn a1sc, .slice a1ea a1en a1ec] 61))) := below_alloc _ _
  have HA10 := Lib.hid h1
  have HA1 := Lib.hid (h1.below B.out)
  have XA1 : Hid (BoxAt (w.alloc (.cells #[.int .i64 a1k, .string a1nm, .int .i64 a1n, .int .i64 a1fk, .slice a1fa a1fn a1fc, .int .i64 a1tk, .slice a1ta a1tn a1tc, .slice a1sa a1sn a1sc, .slice a1ea a1en a1ec] 61)) (w.heap.size) #[.int .i64 a1k, .string a1nm, .int .i64 a1n, .int .i64 a1fk, .slice a1fa a1fn a1fc, .int .i64 a1tk, .slice a1ta a1tn a1tc, .slice a1sa a1sn a1sc, .slice a1ea a1en a1ec]) := BoxAt.new _ _ _
  clear h1
  go_enter Try.func6, Try.ntmps6
  go_wp2_with fail
  refine (szCo_all d _ t1 1048576 _ (by omega) (by omega) HA1.out).mono ?_
  rintro e w1 ⟨r1, rfl, hb, hr1⟩
  have hz1 := hb.size
  try simp only [World.size_alloc] at hz1
  try simp only [World.size_drew] at hz1
  replace B := Lib.hid (below_thru B.out (Nat.le_refl _) hb)
  replace HA1 := Lib.hid (HA1.out.below hb)
  replace XA1 := Lib.hid (XA1.out.below hb)
  clear hb
  rcases hr1 with ⟨hr1, hs1⟩ | ⟨hr1, hs1⟩
  · go_wp2_with fail
    go_ret
    exact ⟨rfl, B.out⟩
  have hn1 : t1.bulk ≤ 1048576 := by omega
  have hwt1 : t1.wt ≤ 6291456 := by have := t1.wt_le; omega
  clear hs1
  have hrb : (t1.free).length ≤ 1048577 := Nat.le_trans t1.free_few (by omega)
  have cXA1_0 := XA1.out.2 0
  have cXA1_1 := XA1.out.2 1
  have cXA1_2 := XA1.out.2 2
  have cXA1_3 := XA1.out.2 3
  have cXA1_4 := XA1.out.2 4
  have cXA1_5 := XA1.out.2 5
  have cXA1_6 := XA1.out.2 6
  have cXA1_7 := XA1.out.2 7
  have cXA1_8 := XA1.out.2 8
  go_wp2_with fail
  clear cXA1_0 cXA1_1 cXA1_2 cXA1_3 cXA1_4 cXA1_5 cXA1_6 cXA1_7 cXA1_8
  refine ((toCo_all d).1 _ t1 _ hn1 HA1.out).mono ?_
  rintro e w2 ⟨s, fp, rfl, ht, hf, hb⟩
  have hz2 := hb.size
  try simp only [World.size_alloc] at hz2
  try simp only [World.size_drew] at hz2
  replace B := Lib.hid (below_thru B.out (Nat.le_refl _) hb)
  replace HA1 := Lib.hid (HA1.out.below hb)
  replace XA1 := Lib.hid (XA1.out.below hb)
  clear hb
  have Hs := Lib.hid ht.at_
  clear ht hf
  have cXA1_0 := XA1.out.2 0
  have cXA1_1 := XA1.out.2 1
  have cXA1_2 := XA1.out.2 2
  have cXA1_3 := XA1.out.2 3
  have cXA1_4 := XA1.out.2 4
  have cXA1_5 := XA1.out.2 5
  have cXA1_6 := XA1.out.2 6
  have cXA1_7 := XA1.out.2 7
  have cXA1_8 := XA1.out.2 8
  go_wp2_with fail
  clear cXA1_0 cXA1_1 cXA1_2 cXA1_3 cXA1_4 cXA1_5 cXA1_6 cXA1_7 cXA1_8
  refine (specCoFree d _ t1 _ Hs.out hn1).mono ?_
  rintro e w3 ⟨o, rfl, hi, hb⟩
  have hz3 := hb.size
  try simp only [World.size_alloc] at hz3
  try simp only [World.size_drew] at hz3
  replace B := Lib.hid (below_thru B.out (Nat.le_refl _) hb)
  replace HA1 := Lib.hid (HA1.out.below hb)
  replace XA1 := Lib.hid (XA1.out.below hb)
  replace Hs := Lib.hid (Hs.out.below hb)
  clear hb
  try rw [World.size_alloc] at hi
  have Ho := Lib.hid hi
  clear hi
  clear Hs
  have cXA1_0 := XA1.out.2 0
  have cXA1_1 := XA1.out.2 1
  have cXA1_2 := XA1.out.2 2
  have cXA1_3 := XA1.out.2 3
  have cXA1_4 := XA1.out.2 4
  have cXA1_5 := XA1.out.2 5
  have cXA1_6 := XA1.out.2 6
  have cXA1_7 := XA1.out.2 7
  have cXA1_8 := XA1.out.2 8
  go_wp2_with fail
  clear cXA1_0 cXA1_1 cXA1_2 cXA1_3 cXA1_4 cXA1_5 cXA1_6 cXA1_7 cXA1_8
  refine ((toCo_all d).1 _ t1 _ hn1 HA1.out).mono ?_
  rintro e w4 ⟨x, fp, rfl, ht, hf, hb⟩
  have hz4 := hb.size
  try simp only [World.size_alloc] at hz4
  try simp only [World.size_drew] at hz4
  replace B := Lib.hid (below_thru B.out (Nat.le_refl _) hb)
  replace HA1 := Lib.hid (HA1.out.below hb)
  replace XA1 := Lib.hid (XA1.out.below hb)
  replace Ho := Lib.hid (Ho.out.below hb)
  clear hb
  obtain ⟨xk, xnm, xn, xfk, xfa, xfn, xfc, xtk, xta, xtn, xtc, xsa, xsn, xsc, xea, xen, xec, rfl⟩ := co_parts ht.at_
  have Hx := Lib.hid (CoIn.of ht hf (lo := w3.heap.size) (by first | exact Nat.le_refl _ | simp | (simp; omega)))
  clear ht hf
  have Xx : Hid (BoxAt (w4.alloc (.cells #[.int .i64 xk, .string xnm, .int .i64 xn, .int .i64 xfk, .slice xfa xfn xfc, .int .i64 xtk, .slice xta xtn xtc, .slice xsa xsn xsc, .slice xea xen xec] 68)) w4.heap.size #[.int .i64 xk, .string xnm, .int .i64 xn, .int .i64 xfk, .slice xfa xfn xfc, .int .i64 xtk, .slice xta xtn xtc, .slice xsa xsn xsc, .slice xea xen xec]) := BoxAt.new _ _ _
  have hb := below_alloc w4 (.cells #[.int .i64 xk, .string xnm, .int .i64 xn, .int .i64 xfk, .slice xfa xfn xfc, .int .i64 xtk, .slice xta xtn xtc, .slice xsa xsn xsc, .slice xea xen xec] 68)
  replace B := Lib.hid (below_thru B.out (Nat.le_refl _) hb)
  replace HA1 := Lib.hid (HA1.out.below hb)
  replace XA1 := Lib.hid (XA1.out.below hb)
  replace Ho := Lib.hid (Ho.out.below hb)
  replace Hx := Lib.hid (Hx.out.below hb)
  clear hb
  have cXA1_0 := XA1.out.2 0
  have cXA1_1 := XA1.out.2 1
  have cXA1_2 := XA1.out.2 2
  have cXA1_3 := XA1.out.2 3
  have cXA1_4 := XA1.out.2 4
  have cXA1_5 := XA1.out.2 5
  have cXA1_6 := XA1.out.2 6
  have cXA1_7 := XA1.out.2 7
  have cXA1_8 := XA1.out.2 8
  have cXx_0 := Xx.out.2 0
  have cXx_1 := Xx.out.2 1
  have cXx_2 := Xx.out.2 2
  have cXx_3 := Xx.out.2 3
  have cXx_4 := Xx.out.2 4
  have cXx_5 := Xx.out.2 5
  have cXx_6 := Xx.out.2 6
  have cXx_7 := Xx.out.2 7
  have cXx_8 := Xx.out.2 8
  go_wp2_with fail
  clear cXA1_0 cXA1_1 cXA1_2 cXA1_3 cXA1_4 cXA1_5 cXA1_6 cXA1_7 cXA1_8 cXx_0 cXx_1 cXx_2 cXx_3 cXx_4 cXx_5 cXx_6 cXx_7 cXx_8
  have HxAT := Lib.hid Hx.out.at_
  refine (implCoFree d _ t1 _ HxAT.out hn1).mono ?_
  rintro e w5 ⟨g, rfl, hi, hb⟩
  have hz5 := hb.size
  try simp only [World.size_alloc] at hz5
  try simp only [World.size_drew] at hz5
  replace B := Lib.hid (below_thru B.out (Nat.le_refl _) hb)
  replace HA1 := Lib.hid (HA1.out.below hb)
  replace XA1 := Lib.hid (XA1.out.below hb)
  replace Ho := Lib.hid (Ho.out.below hb)
  replace Hx := Lib.hid (Hx.out.below hb)
  replace Xx := Lib.hid (Xx.out.below hb)
  clear hb
  try rw [World.size_alloc] at hi
  have Hg := Lib.hid hi
  clear hi
  clear HxAT
  have cXA1_0 := XA1.out.2 0
  have cXA1_1 := XA1.out.2 1
  have cXA1_2 := XA1.out.2 2
  have cXA1_3 := XA1.out.2 3
  have cXA1_4 := XA1.out.2 4
  have cXA1_5 := XA1.out.2 5
  have cXA1_6 := XA1.out.2 6
  have cXA1_7 := XA1.out.2 7
  have cXA1_8 := XA1.out.2 8
  have cXx_0 := Xx.out.2 0
  have cXx_1 := Xx.out.2 1
  have cXx_2 := Xx.out.2 2
  have cXx_3 := Xx.out.2 3
  have cXx_4 := Xx.out.2 4
  have cXx_5 := Xx.out.2 5
  have cXx_6 := Xx.out.2 6
  have cXx_7 := Xx.out.2 7
  have cXx_8 := Xx.out.2 8
  go_wp2_with fail
  clear cXA1_0 cXA1_1 cXA1_2 cXA1_3 cXA1_4 cXA1_5 cXA1_6 cXA1_7 cXA1_8 cXx_0 cXx_1 cXx_2 cXx_3 cXx_4 cXx_5 cXx_6 cXx_7 cXx_8
  refine (eqStrs _ _ (t1.free) (by omega) _ Hg.out.strs Ho.out.strs).mono ?_
  rintro e w6 ⟨rfl, hb⟩
  have hz6 := hb.size
  try simp only [World.size_alloc] at hz6
  try simp only [World.size_drew] at hz6
  replace B := Lib.hid (below_thru B.out (Nat.le_refl _) hb)
  replace HA1 := Lib.hid (HA1.out.below hb)
  replace XA1 := Lib.hid (XA1.out.below hb)
  replace Ho := Lib.hid (Ho.out.below hb)
  replace Hx := Lib.hid (Hx.out.below hb)
  replace Xx := Lib.hid (Xx.out.below hb)
  replace Hg := Lib.hid (Hg.out.below hb)
  clear hb
  have cXA1_0 := XA1.out.2 0
  have cXA1_1 := XA1.out.2 1
  have cXA1_2 := XA1.out.2 2
  have cXA1_3 := XA1.out.2 3
  have cXA1_4 := XA1.out.2 4
  have cXA1_5 := XA1.out.2 5
  have cXA1_6 := XA1.out.2 6
  have cXA1_7 := XA1.out.2 7
  have cXA1_8 := XA1.out.2 8
  have cXx_0 := Xx.out.2 0
  have cXx_1 := Xx.out.2 1
  have cXx_2 := Xx.out.2 2
  have cXx_3 := Xx.out.2 3
  have cXx_4 := Xx.out.2 4
  have cXx_5 := Xx.out.2 5
  have cXx_6 := Xx.out.2 6
  have cXx_7 := Xx.out.2 7
  have cXx_8 := Xx.out.2 8
  go_wp2_with fail
  clear cXA1_0 cXA1_1 cXA1_2 cXA1_3 cXA1_4 cXA1_5 cXA1_6 cXA1_7 cXA1_8 cXx_0 cXx_1 cXx_2 cXx_3 cXx_4 cXx_5 cXx_6 cXx_7 cXx_8
  have hb := below_drew w6
  replace B := Lib.hid (below_thru B.out (Nat.le_refl _) hb)
  replace HA1 := Lib.hid (HA1.out.below hb)
  replace XA1 := Lib.hid (XA1.out.below hb)
  replace Ho := Lib.hid (Ho.out.below hb)
  replace Hx := Lib.hid (Hx.out.below hb)
  replace Xx := Lib.hid (Xx.out.below hb)
  replace Hg := Lib.hid (Hg.out.below hb)
  clear hb
  go_region_held3 (fun w' => w'.cell? ⟨w.heap.size, 0, none⟩ = some (.int .i64 a1k) ∧ w'.cell? ⟨w.heap.size, 1, none⟩ = some (.string a1nm) ∧ w'.cell? ⟨w.heap.size, 2, none⟩ = some (.int .i64 a1n) ∧ w'.cell? ⟨w.heap.size, 3, none⟩ = some (.int .i64 a1fk) ∧ w'.cell? ⟨w.heap.size, 4, none⟩ = some (.slice a1fa a1fn a1fc) ∧ w'.cell? ⟨w.heap.size, 5, none⟩ = some (.int .i64 a1tk) ∧ w'.cell? ⟨w.heap.size, 6, none⟩ = some (.slice a1ta a1tn a1tc) ∧ w'.cell? ⟨w.heap.size, 7, none⟩ = some (.slice a1sa a1sn a1sc) ∧ w'.cell? ⟨w.heap.size, 8, none⟩ = some (.slice a1ea a1en a1ec) ∧ w'.cell? ⟨w4.heap.size, 0, none⟩ = some (.int .i64 xk) ∧ w'.cell? ⟨w4.heap.size, 1, none⟩ = some (.string xnm) ∧ w'.cell? ⟨w4.heap.size, 2, none⟩ = some (.int .i64 xn) ∧ w'.cell? ⟨w4.heap.size, 3, none⟩ = some (.int .i64 xfk) ∧ w'.cell? ⟨w4.heap.size, 4, none⟩ = some (.slice xfa xfn xfc) ∧ w'.cell? ⟨w4.heap.size, 5, none⟩ = some (.int .i64 xtk) ∧ w'.cell? ⟨w4.heap.size, 6, none⟩ = some (.slice xta xtn xtc) ∧ w'.cell? ⟨w4.heap.size, 7, none⟩ = some (.slice xsa xsn xsc) ∧ w'.cell? ⟨w4.heap.size, 8, none⟩ = some (.slice xea xen xec)) (exact ⟨XA1.out.2 0, XA1.out.2 1, XA1.out.2 2, XA1.out.2 3, XA1.out.2 4, XA1.out.2 5, XA1.out.2 6, XA1.out.2 7, XA1.out.2 8, Xx.out.2 0, Xx.out.2 1, Xx.out.2 2, Xx.out.2 3, Xx.out.2 4, Xx.out.2 5, Xx.out.2 6, Xx.out.2 7, Xx.out.2 8⟩)
    (first
     | (go_at_call_of 26 (Value.agg #[Value.int IntKind.i64 a1k, Value.string a1nm, Value.int IntKind.i64 a1n, Value.int IntKind.i64 a1fk, Value.slice a1fa a1fn a1fc, Value.int IntKind.i64 a1tk, Value.slice a1ta a1tn a1tc, Value.slice a1sa a1sn a1sc, Value.slice a1ea a1en a1ec])
        refine ((toCo_all d).1 _ t1 _ hn1 HA1.out).mono ?_
        rintro e w7 ⟨y, fp, rfl, ht, hf, hb⟩
        have hz7 := hb.size
        try simp only [World.size_drew] at hz7
        replace B := Lib.hid (below_thru B.out (Nat.le_refl _) hb)
        replace HA1 := Lib.hid (HA1.out.below hb)
        replace XA1 := Lib.hid (XA1.out.below hb)
        replace Ho := Lib.hid (Ho.out.below hb)
        replace Hx := Lib.hid (Hx.out.below hb)
        replace Xx := Lib.hid (Xx.out.below hb)
        replace Hg := Lib.hid (Hg.out.below hb)
        clear hb
        have Hy := Lib.hid ht.at_
        clear ht hf)
     | (go_at_call 29
        refine (eqCo_all d _ y t1 _ Hx.out.at_ Hy.out).mono ?_
        rintro e w8 ⟨rfl, hb⟩
        have hz8 := hb.size
        try simp only [World.size_drew] at hz8
        replace B := Lib.hid (below_thru B.out (Nat.le_refl _) hb)
        replace HA1 := Lib.hid (HA1.out.below hb)
        replace XA1 := Lib.hid (XA1.out.below hb)
        replace Ho := Lib.hid (Ho.out.below hb)
        replace Hx := Lib.hid (Hx.out.below hb)
        replace Xx := Lib.hid (Xx.out.below hb)
        replace Hg := Lib.hid (Hg.out.below hb)
        clear hb
        clear Hy))
  have cXA1_0 := XA1.out.2 0
  have cXA1_1 := XA1.out.2 1
  have cXA1_2 := XA1.out.2 2
  have cXA1_3 := XA1.out.2 3
  have cXA1_4 := XA1.out.2 4
  have cXA1_5 := XA1.out.2 5
  have cXA1_6 := XA1.out.2 6
  have cXA1_7 := XA1.out.2 7
  have cXA1_8 := XA1.out.2 8
  have cXx_0 := Xx.out.2 0
  have cXx_1 := Xx.out.2 1
  have cXx_2 := Xx.out.2 2
  have cXx_3 := Xx.out.2 3
  have cXx_4 := Xx.out.2 4
  have cXx_5 := Xx.out.2 5
  have cXx_6 := Xx.out.2 6
  have cXx_7 := Xx.out.2 7
  have cXx_8 := Xx.out.2 8
  go_wp2_with fail
  clear cXA1_0 cXA1_1 cXA1_2 cXA1_3 cXA1_4 cXA1_5 cXA1_6 cXA1_7 cXA1_8 cXx_0 cXx_1 cXx_2 cXx_3 cXx_4 cXx_5 cXx_6 cXx_7 cXx_8
  refine (markCoIn w.heap.size _ _ t1 _ _ 1 _ (by omega) B.out.size (by omega) (by omega) Hx.out).mono ?_
  rintro e w9 ⟨rfl, hm, hb0, hk⟩
  replace B := Lib.hid (B.out.trans hb0)
  replace HA1 := Lib.hid (HA10.out.below B.out)
  replace XA1 := Lib.hid (XA1.out.beside hk (by omega))
  replace Ho := Lib.hid (Ho.out.beside hk (by omega))
  replace Xx := Lib.hid (Xx.out.beside hk (by omega))
  replace Hg := Lib.hid (Hg.out.beside hk (by omega))
  replace Hx := Lib.hid hm
  have hz9 := hk.1
  clear hb0 hk hm
  clear Hx
  have hx0 : (0 : Int) ≤ 1 + (t1.wt : Int) := by omega
  have hx1 : (1 : Int) + (t1.wt : Int) ≤ 1099511627776 := by omega
  have cXA1_0 := XA1.out.2 0
  have cXA1_1 := XA1.out.2 1
  have cXA1_2 := XA1.out.2 2
  have cXA1_3 := XA1.out.2 3
  have cXA1_4 := XA1.out.2 4
  have cXA1_5 := XA1.out.2 5
  have cXA1_6 := XA1.out.2 6
  have cXA1_7 := XA1.out.2 7
  have cXA1_8 := XA1.out.2 8
  have cXx_0 := Xx.out.2 0
  have cXx_1 := Xx.out.2 1
  have cXx_2 := Xx.out.2 2
  have cXx_3 := Xx.out.2 3
  have cXx_4 := Xx.out.2 4
  have cXx_5 := Xx.out.2 5
  have cXx_6 := Xx.out.2 6
  have cXx_7 := Xx.out.2 7
  have cXx_8 := Xx.out.2 8
  go_wp2_with fail
  clear cXA1_0 cXA1_1 cXA1_2 cXA1_3 cXA1_4 cXA1_5 cXA1_6 cXA1_7 cXA1_8 cXx_0 cXx_1 cXx_2 cXx_3 cXx_4 cXx_5 cXx_6 cXx_7 cXx_8
  refine (eqStrs _ _ (t1.free) (by omega) _ Hg.out.strs Ho.out.strs).mono ?_
  rintro e w10 ⟨rfl, hb⟩
  have hz10 := hb.size
  try simp only [World.size_alloc] at hz10
  try simp only [World.size_drew] at hz10
  replace B := Lib.hid (below_thru B.out (Nat.le_refl _) hb)
  replace HA1 := Lib.hid (HA1.out.below hb)
  replace XA1 := Lib.hid (XA1.out.below hb)
  replace Ho := Lib.hid (Ho.out.below hb)
  replace Xx := Lib.hid (Xx.out.below hb)
  replace Hg := Lib.hid (Hg.out.below hb)
  clear hb
  have cXA1_0 := XA1.out.2 0
  have cXA1_1 := XA1.out.2 1
  have cXA1_2 := XA1.out.2 2
  have cXA1_3 := XA1.out.2 3
  have cXA1_4 := XA1.out.2 4
  have cXA1_5 := XA1.out.2 5
  have cXA1_6 := XA1.out.2 6
  have cXA1_7 := XA1.out.2 7
  have cXA1_8 := XA1.out.2 8
  have cXx_0 := Xx.out.2 0
  have cXx_1 := Xx.out.2 1
  have cXx_2 := Xx.out.2 2
  have cXx_3 := Xx.out.2 3
  have cXx_4 := Xx.out.2 4
  have cXx_5 := Xx.out.2 5
  have cXx_6 := Xx.out.2 6
  have cXx_7 := Xx.out.2 7
  have cXx_8 := Xx.out.2 8
  go_wp2_with fail
  clear cXA1_0 cXA1_1 cXA1_2 cXA1_3 cXA1_4 cXA1_5 cXA1_6 cXA1_7 cXA1_8 cXx_0 cXx_1 cXx_2 cXx_3 cXx_4 cXx_5 cXx_6 cXx_7 cXx_8
  refine (markStrsIn w.heap.size _ _ _ _ _ (by omega) (by omega) (by omega) Hg.out).mono ?_
  rintro e w11 ⟨rfl, hm, hb0, hk⟩
  replace B := Lib.hid (B.out.trans hb0)
  replace HA1 := Lib.hid (HA10.out.below B.out)
  replace XA1 := Lib.hid (XA1.out.beside hk (by omega))
  replace Ho := Lib.hid (Ho.out.beside hk (by omega))
  replace Xx := Lib.hid (Xx.out.beside hk (by omega))
  replace Hg := Lib.hid hm
  have hz11 := hk.1
  clear hb0 hk hm
  obtain ⟨m, hm⟩ : ∃ m : Int, m = 1 + ((t1.free).length : Int) := ⟨_, rfl⟩
  rw [← hm]
  have HM := Lib.hid hm
  have hm0 : 0 ≤ m := by omega
  have hm1 : m ≤ 1099511627776 := by omega
  clear hm
  have cXA1_0 := XA1.out.2 0
  have cXA1_1 := XA1.out.2 1
  have cXA1_2 := XA1.out.2 2
  have cXA1_3 := XA1.out.2 3
  have cXA1_4 := XA1.out.2 4
  have cXA1_5 := XA1.out.2 5
  have cXA1_6 := XA1.out.2 6
  have cXA1_7 := XA1.out.2 7
  have cXA1_8 := XA1.out.2 8
  have cXx_0 := Xx.out.2 0
  have cXx_1 := Xx.out.2 1
  have cXx_2 := Xx.out.2 2
  have cXx_3 := Xx.out.2 3
  have cXx_4 := Xx.out.2 4
  have cXx_5 := Xx.out.2 5
  have cXx_6 := Xx.out.2 6
  have cXx_7 := Xx.out.2 7
  have cXx_8 := Xx.out.2 8
  go_wp2_with fail
  clear cXA1_0 cXA1_1 cXA1_2 cXA1_3 cXA1_4 cXA1_5 cXA1_6 cXA1_7 cXA1_8 cXx_0 cXx_1 cXx_2 cXx_3 cXx_4 cXx_5 cXx_6 cXx_7 cXx_8
  refine (heldStrsIn _ (t1.free).length _ _ _ (by omega) Hg.out).mono ?_
  rintro e w12 ⟨rfl, hb⟩
  have hz12 := hb.size
  try simp only [World.size_alloc] at hz12
  try simp only [World.size_drew] at hz12
  replace B := Lib.hid (below_thru B.out (Nat.le_refl _) hb)
  replace HA1 := Lib.hid (HA1.out.below hb)
  replace XA1 := Lib.hid (XA1.out.below hb)
  replace Ho := Lib.hid (Ho.out.below hb)
  replace Xx := Lib.hid (Xx.out.below hb)
  replace Hg := Lib.hid (Hg.out.below hb)
  clear hb
  rw [← HM.out]
  have cXA1_0 := XA1.out.2 0
  have cXA1_1 := XA1.out.2 1
  have cXA1_2 := XA1.out.2 2
  have cXA1_3 := XA1.out.2 3
  have cXA1_4 := XA1.out.2 4
  have cXA1_5 := XA1.out.2 5
  have cXA1_6 := XA1.out.2 6
  have cXA1_7 := XA1.out.2 7
  have cXA1_8 := XA1.out.2 8
  have cXx_0 := Xx.out.2 0
  have cXx_1 := Xx.out.2 1
  have cXx_2 := Xx.out.2 2
  have cXx_3 := Xx.out.2 3
  have cXx_4 := Xx.out.2 4
  have cXx_5 := Xx.out.2 5
  have cXx_6 := Xx.out.2 6
  have cXx_7 := Xx.out.2 7
  have cXx_8 := Xx.out.2 8
  go_wp2_with fail
  clear cXA1_0 cXA1_1 cXA1_2 cXA1_3 cXA1_4 cXA1_5 cXA1_6 cXA1_7 cXA1_8 cXx_0 cXx_1 cXx_2 cXx_3 cXx_4 cXx_5 cXx_6 cXx_7 cXx_8
  refine ((toCo_all d).1 _ t1 _ hn1 HA1.out).mono ?_
  rintro e w13 ⟨h, fp, rfl, ht, hf, hb⟩
  have hz13 := hb.size
  try simp only [World.size_alloc] at hz13
  try simp only [World.size_drew] at hz13
  replace B := Lib.hid (below_thru B.out (Nat.le_refl _) hb)
  replace HA1 := Lib.hid (HA1.out.below hb)
  replace XA1 := Lib.hid (XA1.out.below hb)
  replace Ho := Lib.hid (Ho.out.below hb)
  replace Xx := Lib.hid (Xx.out.below hb)
  replace Hg := Lib.hid (Hg.out.below hb)
  clear hb
  have Hh := Lib.hid ht.at_
  clear ht hf
  have cXA1_0 := XA1.out.2 0
  have cXA1_1 := XA1.out.2 1
  have cXA1_2 := XA1.out.2 2
  have cXA1_3 := XA1.out.2 3
  have cXA1_4 := XA1.out.2 4
  have cXA1_5 := XA1.out.2 5
  have cXA1_6 := XA1.out.2 6
  have cXA1_7 := XA1.out.2 7
  have cXA1_8 := XA1.out.2 8
  have cXx_0 := Xx.out.2 0
  have cXx_1 := Xx.out.2 1
  have cXx_2 := Xx.out.2 2
  have cXx_3 := Xx.out.2 3
  have cXx_4 := Xx.out.2 4
  have cXx_5 := Xx.out.2 5
  have cXx_6 := Xx.out.2 6
  have cXx_7 := Xx.out.2 7
  have cXx_8 := Xx.out.2 8
  go_wp2_with fail
  clear cXA1_0 cXA1_1 cXA1_2 cXA1_3 cXA1_4 cXA1_5 cXA1_6 cXA1_7 cXA1_8 cXx_0 cXx_1 cXx_2 cXx_3 cXx_4 cXx_5 cXx_6 cXx_7 cXx_8
  refine (implCoFree d _ t1 _ Hh.out hn1).mono ?_
  rintro e w14 ⟨j, rfl, hi, hb⟩
  have hz14 := hb.size
  try simp only [World.size_alloc] at hz14
  try simp only [World.size_drew] at hz14
  replace B := Lib.hid (below_thru B.out (Nat.le_refl _) hb)
  replace HA1 := Lib.hid (HA1.out.below hb)
  replace XA1 := Lib.hid (XA1.out.below hb)
  replace Ho := Lib.hid (Ho.out.below hb)
  replace Xx := Lib.hid (Xx.out.below hb)
  replace Hg := Lib.hid (Hg.out.below hb)
  replace Hh := Lib.hid (Hh.out.below hb)
  clear hb
  try rw [World.size_alloc] at hi
  have Hj := Lib.hid hi
  clear hi
  clear Hh
  have cXA1_0 := XA1.out.2 0
  have cXA1_1 := XA1.out.2 1
  have cXA1_2 := XA1.out.2 2
  have cXA1_3 := XA1.out.2 3
  have cXA1_4 := XA1.out.2 4
  have cXA1_5 := XA1.out.2 5
  have cXA1_6 := XA1.out.2 6
  have cXA1_7 := XA1.out.2 7
  have cXA1_8 := XA1.out.2 8
  have cXx_0 := Xx.out.2 0
  have cXx_1 := Xx.out.2 1
  have cXx_2 := Xx.out.2 2
  have cXx_3 := Xx.out.2 3
  have cXx_4 := Xx.out.2 4
  have cXx_5 := Xx.out.2 5
  have cXx_6 := Xx.out.2 6
  have cXx_7 := Xx.out.2 7
  have cXx_8 := Xx.out.2 8
  go_wp2_with fail
  clear cXA1_0 cXA1_1 cXA1_2 cXA1_3 cXA1_4 cXA1_5 cXA1_6 cXA1_7 cXA1_8 cXx_0 cXx_1 cXx_2 cXx_3 cXx_4 cXx_5 cXx_6 cXx_7 cXx_8
  refine (eqStrs _ _ (t1.free) (by omega) _ Hj.out.strs Ho.out.strs).mono ?_
  rintro e w15 ⟨rfl, hb⟩
  have hz15 := hb.size
  try simp only [World.size_alloc] at hz15
  try simp only [World.size_drew] at hz15
  replace B := Lib.hid (below_thru B.out (Nat.le_refl _) hb)
  replace HA1 := Lib.hid (HA1.out.below hb)
  replace XA1 := Lib.hid (XA1.out.below hb)
  replace Ho := Lib.hid (Ho.out.below hb)
  replace Xx := Lib.hid (Xx.out.below hb)
  replace Hg := Lib.hid (Hg.out.below hb)
  replace Hj := Lib.hid (Hj.out.below hb)
  clear hb
  have cXA1_0 := XA1.out.2 0
  have cXA1_1 := XA1.out.2 1
  have cXA1_2 := XA1.out.2 2
  have cXA1_3 := XA1.out.2 3
  have cXA1_4 := XA1.out.2 4
  have cXA1_5 := XA1.out.2 5
  have cXA1_6 := XA1.out.2 6
  have cXA1_7 := XA1.out.2 7
  have cXA1_8 := XA1.out.2 8
  have cXx_0 := Xx.out.2 0
  have cXx_1 := Xx.out.2 1
  have cXx_2 := Xx.out.2 2
  have cXx_3 := Xx.out.2 3
  have cXx_4 := Xx.out.2 4
  have cXx_5 := Xx.out.2 5
  have cXx_6 := Xx.out.2 6
  have cXx_7 := Xx.out.2 7
  have cXx_8 := Xx.out.2 8
  go_wp2_with fail
  clear cXA1_0 cXA1_1 cXA1_2 cXA1_3 cXA1_4 cXA1_5 cXA1_6 cXA1_7 cXA1_8 cXx_0 cXx_1 cXx_2 cXx_3 cXx_4 cXx_5 cXx_6 cXx_7 cXx_8
  refine (heldStrsIn _ (t1.free).length _ _ _ (by omega) Hg.out).mono ?_
  rintro e w16 ⟨rfl, hb⟩
  have hz16 := hb.size
  try simp only [World.size_alloc] at hz16
  try simp only [World.size_drew] at hz16
  replace B := Lib.hid (below_thru B.out (Nat.le_refl _) hb)
  replace HA1 := Lib.hid (HA1.out.below hb)
  replace XA1 := Lib.hid (XA1.out.below hb)
  replace Ho := Lib.hid (Ho.out.below hb)
  replace Xx := Lib.hid (Xx.out.below hb)
  replace Hg := Lib.hid (Hg.out.below hb)
  replace Hj := Lib.hid (Hj.out.below hb)
  clear hb
  rw [← HM.out]
  have cXA1_0 := XA1.out.2 0
  have cXA1_1 := XA1.out.2 1
  have cXA1_2 := XA1.out.2 2
  have cXA1_3 := XA1.out.2 3
  have cXA1_4 := XA1.out.2 4
  have cXA1_5 := XA1.out.2 5
  have cXA1_6 := XA1.out.2 6
  have cXA1_7 := XA1.out.2 7
  have cXA1_8 := XA1.out.2 8
  have cXx_0 := Xx.out.2 0
  have cXx_1 := Xx.out.2 1
  have cXx_2 := Xx.out.2 2
  have cXx_3 := Xx.out.2 3
  have cXx_4 := Xx.out.2 4
  have cXx_5 := Xx.out.2 5
  have cXx_6 := Xx.out.2 6
  have cXx_7 := Xx.out.2 7
  have cXx_8 := Xx.out.2 8
  go_wp2_with fail
  go_ret
  exact ⟨rfl, B.out⟩
end Go.Proofs.Ytefoenkmppeidaa
namespace Go.Proofs.Ytefoenkmppeidaa.ExactFreeInCore
open Go.ChangeShapes Go.WideShapes Go.ChangeAt Go.RowKit Go.WideMaps Go.WideElems
open Go.ChangeMaps (setBlock shut_map_nil open_string shut_string keptBut_setBlock frozen?_setBlock heap_setBlock_same)
set_option maxRecDepth 100000 in
theorem contract (H : Type) (enc : TypeId × Value → H) (W : World) (base : Nat) (args : Array Value) (ds gs : List (DataW H)) (before : List MemPlace)
    (hval : ∀ (j : Nat) t v, Try.f6.params[j]? = some t → args[j]? = some v → Value.okWide Try.prog W .any base t v)
    (hW : DataW.Whole enc Try.prog Try.f6.params.toList Rows.fnExactFreeInCoreSpec.vars false W args.toList ds gs before) 
    (_hsz : (DataW.weightsEach Try.prog (Try.f6.params.toList ++ (OpenSpec.ofChange Rows.fnExactFreeInCoreSpec).bare.plain.varTypes Try.prog) (ds ++ gs)).all (· ≤ reachBytes) = true) (_hsh : W.ShapedOpen Try.prog) :
    Calls Try.prog 6 args W fun e W' => ∃ v, e = .returned v ∧ Rows.fnExactFreeInCoreSpec.post enc Try.prog Try.f6 false true false false W args v W' := by
  have hW' := hW
  obtain ⟨p, q, hA0, hV, rfl, hfz, hnd⟩ := hW
  have hA : DataW.TrodAll enc Try.prog W 0 (fun _ => true) true Try.f6.params.toList args.toList ds p := hA0
  rw [Try.params6] at hA hval
  obtain ⟨v0, vs0, d0, ds0, p0, q0, hargs, rfl, rfl, h0, r0⟩ := trodAll_cons hA
  obtain ⟨rfl, rfl, rfl⟩ := trodAll_nil r0
  obtain rfl : args = #[v0] := by cases args; simp_all
  obtain ⟨rfl, rfl⟩ := trodVars_none hV
  obtain ⟨e0, t0, ht0⟩ := co_of_arg (hval 0 61 v0 rfl rfl) h0
  refine Calls.mono (freeInCoreWalk e0 v0 t0 W ht0) fun e W' ⟨he, hg⟩ => ?_
  subst he
  exact ⟨_, rfl, Law.law_post hW' rfl (by kernel_rfl) Try.underlying4 (by kernel_rfl) (by kernel_rfl) (fun _ => rfl) hg⟩
set_option maxRecDepth 100000 in
theorem laid_met (os : Os) : laidMet Try.prog Rows.fnExactFreeInCoreRow.laid (((World.holding Try.prog os ⟨#[], #[], []⟩)).forCall (fun _ _ => 0) ⟨#[], #[.agg #[.int .i64 0, .string ⟨#[]⟩, .int .i64 0, .int .i64 0, .slice none 0 0, .int .i64 0, .slice none 0 0, .slice none 0 0, .slice none 0 0]], []⟩).memory :=
  laidMet_of_run' 8 (by kernel_rfl) (by kernel_rfl)
theorem reads (os : Os) {H : Type} (enc : TypeId × Value → H) : ∃ places, DataW.whole enc Try.prog (((World.holding Try.prog os ⟨#[], #[], []⟩)).forCall (fun _ _ => 0) ⟨#[], #[.agg #[.int .i64 0, .string ⟨#[]⟩, .int .i64 0, .int .i64 0, .slice none 0 0, .int .i64 0, .slice none 0 0, .slice none 0 0, .slice none 0 0]], []⟩).memory Try.f6.params.toList Rows.fnExactFreeInCoreSpec.vars false (#[.agg #[.int .i64 0, .string ⟨#[]⟩, .int .i64 0, .int .i64 0, .slice none 0 0, .int .i64 0, .slice none 0 0, .slice none 0 0, .slice none 0 0]] : Array Value).toList 8 = some ([.agg [.lit (.int .i64 0), .lit (.string []), .lit (.int .i64 0), .agg [.lit (.int .i64 0), .nil], .agg [.lit (.int .i64 0), .nil], .nil, .nil]], [], places) :=
  ⟨[], by kernel_rfl⟩
set_option maxRecDepth 100000 in
theorem lifted (os : Os) (started : os.Started) (H : Type) (enc : TypeId × Value → H) (F : Stop.Interp) :
    ReturnsInHanded {} Try.checked os 6 .any ((OpenSpec.ofChange Rows.fnExactFreeInCoreSpec).preRow enc Try.prog Try.f6 Rows.fnExactFreeInCoreRow.domain false Rows.fnExactFreeInCoreRow.laid) (((OpenSpec.ofChange Rows.fnExactFreeInCoreSpec).at F).post enc Try.prog Try.f6 false true false false) := by
  obtain ⟨places, hx⟩ := reads os enc
  refine returnsInHanded_of_row (C := Try.checked) (s := OpenSpec.ofChange Rows.fnExactFreeInCoreSpec) (by kernel_rfl) started (by kernel_rfl) Try.func6
    (witness_row_atRef (enc := enc) (C := Try.checked) false (World.holding Try.prog os ⟨#[], #[], []⟩) #[.agg #[.int .i64 0, .string ⟨#[]⟩, .int .i64 0, .int .i64 0, .slice none 0 0, .int .i64 0, .slice none 0 0, .slice none 0 0, .slice none 0 0]] rfl (by kernel_rfl) (by kernel_rfl) (by kernel_rfl)
      (OpenSpec.preRow_of_cond 8 hx (by kernel_rfl) (fun k hk => by cases hk) (by kernel_rfl) (laid_met os))) ?_
  intro W base args ds gs before hval hW _ _ hsz _ hsh _
  exact contract H enc W base args ds gs before hval hW hsz hsh
theorem said : Rows.FnExactFreeInCoreSaid :=
  OpenClaim.holds_of_cond 6 Try.f6 rfl rfl rfl rfl rfl rfl rfl ⟨rfl, rfl, rfl, rfl, rfl⟩ rfl rfl rfl rfl rfl (by kernel_rfl) Try.func6 (by kernel_rfl)
    (of_decide_eq_true (by kernel_rfl)) (by unfold Func.isWrapper; first | (rw [if_pos (by decide +kernel)]; kernel_rfl) | (rw [if_neg (by decide +kernel)]; exact ⟨rfl, rfl⟩))
    (fun os started H enc _ F => by rw [OpenClaim.pre_eq_preRow]; exact lifted os started H enc F)
end Go.Proofs.Ytefoenkmppeidaa.ExactFreeInCore
