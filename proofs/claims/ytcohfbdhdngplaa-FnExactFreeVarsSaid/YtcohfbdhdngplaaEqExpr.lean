/-
  Proved: laws.eqExpr and eqExprS answer true for two readings of the same expression, and change no memory that was there.
-/
import Derived.Test.YtcohfbdhdngplaaExTree
import Derived.Test.YtcohfbdhdngplaaEqType
import Derived.Test.YtcohfbdhdngplaaTyEq
namespace Go.Proofs.Ytcohfbdhdngplaa
open Go.RowKit

def EqExSaid (d : Nat) : Prop := ∀ (v1 v2 : Value) (t : Ex) (w : World), ExAt w d v1 t → ExAt w d v2 t →
  Calls Try.prog 15 #[v1, v2] w (EqTrueEnd w)
def EqExsSaid (d : Nat) : Prop := ∀ (v1 v2 : Value) (ts : List Ex) (w : World), ExsAt w d v1 ts → ExsAt w d v2 ts →
  Calls Try.prog 57 #[v1, v2] w (EqTrueEnd w)

set_option maxRecDepth 100000 in
set_option maxHeartbeats 2000000 in
theorem eqExs_step (d : Nat) (ih : EqExSaid d) : EqExsSaid d := by
  intro v1 v2 ts w h1 h2
  have IH := Lib.hid ih; clear ih
  obtain ⟨a1, cap1, rfl, hcap1, hm1, hat1⟩ := h1
  obtain ⟨a2, cap2, rfl, hcap2, hm2, hat2⟩ := h2
  have HA1 := Lib.hid hat1; clear hat1
  have HA2 := Lib.hid hat2; clear hat2
  go_enter Try.func57, Try.ntmps57
  go_wp2_with fail
  go_loopw [5] (fun i wr => ∃ k : Nat, k ≤ ts.length ∧ i = .int .i64 k ∧ Below w.heap.size w wr) (fun i _ => ts.length - (intOf i).toNat)
  case atStart => exact ⟨0, by omega, rfl, Below.refl _ _⟩
  case round =>
    obtain ⟨k, hk, rfl, hb⟩ := hrel
    have HB := Lib.hid hb; clear hb
    by_cases hlt : k < ts.length
    · obtain ⟨b1, off1, x0, x1, x2, x3, x4, x5, rfl, hbl1, hc10, hc11, hc12, hc13, hc14, hc15, ht1⟩ := HA1.out k hlt
      obtain ⟨b2, off2, y0, y1, y2, y3, y4, y5, rfl, hbl2, hc20, hc21, hc22, hc23, hc24, hc25, ht2⟩ := HA2.out k hlt
      have c10 : wr.cell? ⟨b1, off1 + k * 6, none⟩ = some x0 := by rw [HB.out.cell (p := ⟨b1, off1 + k * 6, none⟩) hbl1]; exact hc10
      have c20 : wr.cell? ⟨b2, off2 + k * 6, none⟩ = some y0 := by rw [HB.out.cell (p := ⟨b2, off2 + k * 6, none⟩) hbl2]; exact hc20
      have c11 : wr.cell? ⟨b1, off1 + k * 6 + 1, none⟩ = some x1 := by rw [HB.out.cell (p := ⟨b1, off1 + k * 6 + 1, none⟩) hbl1]; exact hc11
      have c21 : wr.cell? ⟨b2, off2 + k * 6 + 1, none⟩ = some y1 := by rw [HB.out.cell (p := ⟨b2, off2 + k * 6 + 1, none⟩) hbl2]; exact hc21
      have c12 : wr.cell? ⟨b1, off1 + k * 6 + 2, none⟩ = some x2 := by rw [HB.out.cell (p := ⟨b1, off1 + k * 6 + 2, none⟩) hbl1]; exact hc12
      have c22 : wr.cell? ⟨b2, off2 + k * 6 + 2, none⟩ = some y2 := by rw [HB.out.cell (p := ⟨b2, off2 + k * 6 + 2, none⟩) hbl2]; exact hc22
      have c13 : wr.cell? ⟨b1, off1 + k * 6 + 3, none⟩ = some x3 := by rw [HB.out.cell (p := ⟨b1, off1 + k * 6 + 3, none⟩) hbl1]; exact hc13
      have c23 : wr.cell? ⟨b2, off2 + k * 6 + 3, none⟩ = some y3 := by rw [HB.out.cell (p := ⟨b2, off2 + k * 6 + 3, none⟩) hbl2]; exact hc23
      have c14 : wr.cell? ⟨b1, off1 + k * 6 + 4, none⟩ = some x4 := by rw [HB.out.cell (p := ⟨b1, off1 + k * 6 + 4, none⟩) hbl1]; exact hc14
      have c24 : wr.cell? ⟨b2, off2 + k * 6 + 4, none⟩ = some y4 := by rw [HB.out.cell (p := ⟨b2, off2 + k * 6 + 4, none⟩) hbl2]; exact hc24
      have c15 : wr.cell? ⟨b1, off1 + k * 6 + 5, none⟩ = some x5 := by rw [HB.out.cell (p := ⟨b1, off1 + k * 6 + 5, none⟩) hbl1]; exact hc15
      have c25 : wr.cell? ⟨b2, off2 + k * 6 + 5, none⟩ = some y5 := by rw [HB.out.cell (p := ⟨b2, off2 + k * 6 + 5, none⟩) hbl2]; exact hc25
      have HT1 := Lib.hid (ht1.below HB.out.drew)
      have HT2 := Lib.hid (ht2.below HB.out.drew)
      clear ht1 ht2 hc10 hc11 hc12 hc13 hc14 hc15 hc20 hc21 hc22 hc23 hc24 hc25
      go_wp2_with fail
      go_still_tail 8, (by kernel_rfl)
      change wpList _ _ _ _ _ wr.drew
      go_wp2_with fail
      refine (IH.out _ _ _ wr.drew HT1.out HT2.out).mono ?_
      rintro e w' ⟨rfl, hb1⟩
      have HB2 := Lib.hid (HB.out.drew.trans (hb1.mono HB.out.drew.size)); clear hb1
      go_wp2_with fail
      exact ⟨⟨k + 1, by omega, by go_num, HB2.out⟩, by simp [intOf]; omega⟩
    · go_wp2_with fail
      go_ret
      exact ⟨rfl, HB.out⟩

set_option maxRecDepth 100000 in
set_option maxHeartbeats 2000000 in
theorem eqEx_step (d : Nat) (ih : EqExsSaid d) : EqExSaid (d + 1) := by
  intro v1 v2 t w h1 h2
  have IH := Lib.hid ih; clear ih
  have HV1 := ex_parts h1
  have HV2 := ex_parts h2
  cases t with
  | node kd nm n ty ts =>
    obtain ⟨c3, c4, sl, rfl, hk0, hk1, hn0, hn1, hnm, hty1, g1⟩ := h1
    obtain ⟨d3, d4, sl2, rfl, _, _, _, _, _, hty2, g2⟩ := h2
    obtain ⟨k', nm', n', tk, ta, tn, tc, sa, sn, sc, hv⟩ := HV1
    injection hv with hv
    injection hv with hv
    simp at hv
    obtain ⟨rfl, rfl, rfl, rfl, rfl, rfl⟩ := hv
    obtain ⟨k', nm', n', uk, ua, un, uc, qa, qn, qc, hv⟩ := HV2
    injection hv with hv
    injection hv with hv
    simp at hv
    obtain ⟨rfl, rfl, rfl, rfl, rfl, rfl⟩ := hv
    have e2 : Below w.heap.size w ((w.alloc (.cells #[.int .i64 kd, .string nm, .int .i64 n, .int .i64 tk, .slice ta tn tc, .slice sa sn sc] 36)).alloc (.cells #[.int .i64 kd, .string nm, .int .i64 n, .int .i64 uk, .slice ua un uc, .slice qa qn qc] 36)) := ((Below.refl _ _).alloc (Nat.le_refl _) _).alloc (by simp) _
    have HY1 := Lib.hid (hty1.below e2)
    have HY2 := Lib.hid (hty2.below e2)
    have HT1 : Hid (ExsAt ((w.alloc (.cells #[.int .i64 kd, .string nm, .int .i64 n, .int .i64 tk, .slice ta tn tc, .slice sa sn sc] 36)).alloc (.cells #[.int .i64 kd, .string nm, .int .i64 n, .int .i64 uk, .slice ua un uc, .slice qa qn qc] 36)) d (.slice sa sn sc) ts) := ExsAt.below g1 e2
    have HT2 : Hid (ExsAt ((w.alloc (.cells #[.int .i64 kd, .string nm, .int .i64 n, .int .i64 tk, .slice ta tn tc, .slice sa sn sc] 36)).alloc (.cells #[.int .i64 kd, .string nm, .int .i64 n, .int .i64 uk, .slice ua un uc, .slice qa qn qc] 36)) d (.slice qa qn qc) ts) := ExsAt.below g2 e2
    have HE := Lib.hid e2; clear e2 hty1 hty2 g1 g2
    go_enter Try.func15, Try.ntmps15
    go_wp2_with fail
    refine (eqTy_all d _ _ ty _ HY1.out HY2.out).mono ?_
    rintro e w' ⟨rfl, hb1⟩
    have HB := Lib.hid (two_on (Below.refl _ _) hb1)
    have HT1' := Lib.hid (HT1.out.below hb1)
    have HT2' := Lib.hid (HT2.out.below hb1)
    have p5 := two_first HB.out 5
    have q5 := two_next HB.out 5
    clear hb1 HT1 HT2
    go_wp2_with fail
    refine (IH.out _ _ ts _ HT1'.out HT2'.out).mono ?_
    rintro e w2 ⟨rfl, hb2⟩
    have HB2 := Lib.hid (two_on HB.out hb2); clear hb2
    go_wp2_with fail
    go_ret
    exact ⟨rfl, two_below HB2.out⟩
theorem eqEx_all : ∀ d, EqExSaid d
  | 0 => fun _ _ _ _ h => h.elim
  | d + 1 => eqEx_step d (eqExs_step d (eqEx_all d))
end Go.Proofs.Ytcohfbdhdngplaa
