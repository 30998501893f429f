/-
  Proved: impl.equalTyping and the library's EqualFunc say whether two typings and two lists of them are equal; the memory that was there stays as it was.
-/
import Derived.Test.YtlpdgmgafabadaaBiEq
import Derived.Test.YtlpdgmgafabadaaImplEqual
import Derived.Test.YtlpdgmgafabadaaHold
namespace Go.Proofs.Ytlpdgmgafabadaa
open Go.RowKit

set_option maxRecDepth 100000 in
set_option maxHeartbeats 2000000 in
theorem implBi (d : Nat) (v1 v2 : Value) (c b : Bi) (w : World) (h1 : BiAt w d v1 c) (h2 : BiAt w d v2 b) :
    Calls Try.prog 67 #[v1, v2] w fun e w' => e = .returned (.bool (c.beq b)) ∧ Below w.heap.size w w' := by
  cases c with
  | mk nm1 ty1 =>
  cases b with
  | mk nm2 ty2 =>
    obtain ⟨tk, ta, tn, tc, rfl, hn1, hty1⟩ := h1
    obtain ⟨uk, ua, un, uc, rfl, hn2, hty2⟩ := h2
    dsimp only at hn1 hty1 hn2 hty2 ⊢
    have HEQ : Hid ((Bi.mk nm1 ty1).beq (Bi.mk nm2 ty2) = (decide (nm1 = nm2) && ty1.beq ty2)) := rfl
    have e2 : Below w.heap.size w ((w.alloc (.cells #[.string nm1, .int .i64 tk, .slice ta tn tc] 91)).alloc (.cells #[.string nm2, .int .i64 uk, .slice ua un uc] 91)) := ((Below.refl _ _).alloc (Nat.le_refl _) _).alloc (by simp) _
    have HT1 := Lib.hid (hty1.below e2)
    have HT2 := Lib.hid (hty2.below e2)
    have HB := Lib.hid e2
    clear e2 hty1 hty2
    by_cases q : nm1 = nm2
    · subst q
      have HE2 : Hid ((Bi.mk nm1 ty1).beq (Bi.mk nm1 ty2) = ty1.beq ty2) := by show _ = _; rw [HEQ.out]; simp
      go_enter Try.func67, Try.ntmps67
      go_wp2_with fail
      refine (implEqual d _ _ ty1 ty2 _ HT1.out HT2.out).mono ?_
      rintro e w1 ⟨rfl, hb⟩
      replace HB := Lib.hid (below_thru HB.out (Nat.le_refl _) hb)
      clear hb
      go_wp2_with fail
      go_ret
      exact ⟨by rw [HE2.out]; rfl, HB.out⟩
    · have qs := text_ne q
      have HE2 : Hid ((Bi.mk nm1 ty1).beq (Bi.mk nm2 ty2) = false) := by show _ = _; rw [HEQ.out, decide_eq_false q]; rfl
      clear q
      go_enter Try.func67, Try.ntmps67
      go_wp2_with fail
      go_ret
      exact ⟨by rw [HE2.out]; rfl, HB.out⟩
set_option maxRecDepth 100000 in
set_option maxHeartbeats 2000000 in
theorem libEqBis (d : Nat) (v1 v2 : Value) (cs bs : List Bi) (w : World) (h1 : BisAt w d v1 cs) (h2 : BisAt w d v2 bs) :
    Calls Try.prog 66 #[v1, v2, .func (.func 67) #[] #[]] w fun e w' => e = .returned (.bool (Bi.beqs cs bs)) ∧ Below w.heap.size w w' := by
  obtain ⟨a1, cap1, rfl, hcap1, hm1, hat1⟩ := h1
  obtain ⟨a2, cap2, rfl, hcap2, hm2, hat2⟩ := h2
  have HA1 := Lib.hid hat1; clear hat1
  have HA2 := Lib.hid hat2; clear hat2
  by_cases hl : cs.length = bs.length
  case neg =>
    have HF := Lib.hid (Bi.beqs_len cs bs hl)
    have qb : ((cs.length : Int) != (bs.length : Int)) = true := by simp; omega
    go_enter Try.func66, Try.ntmps66
    go_wp2_with fail
    go_ret
    exact ⟨by rw [HF.out]; rfl, Below.refl _ _⟩
  case pos =>
    have qb0 : ((cs.length : Int) != (bs.length : Int)) = false := by simp; omega
    have HL := Lib.hid hl; clear hl
    go_enter Try.func66, Try.ntmps66
    go_wp2_with fail
    clear qb0
    go_loopw [17] (fun i wr => ∃ k : Nat, k ≤ cs.length ∧ i = .int .i64 k ∧ Bi.beqs (cs.take k) (bs.take k) = true ∧ Below w.heap.size w wr) (fun i _ => cs.length - (intOf i).toNat)
    case atStart => exact ⟨0, by omega, rfl, by simp [Bi.beqs], Below.refl _ _⟩
    case round =>
      obtain ⟨k, hk, rfl, hf, hb⟩ := hrel
      have HF := Lib.hid hf; clear hf
      have HB := Lib.hid hb; clear hb
      by_cases hlt : k < cs.length
      · have hlt2 : k < bs.length := by have := HL.out; omega
        obtain ⟨b1, off1, x0, x1, x2, rfl, hbl1, hc10, hc11, hc12, ht1⟩ := HA1.out k hlt
        obtain ⟨b2, off2, y0, y1, y2, rfl, hbl2, hc20, hc21, hc22, ht2⟩ := HA2.out k hlt2
        obtain ⟨tk, ta, tn, tc, rfl, rfl, rfl, hn1, hty1⟩ := bi_cells ht1
        obtain ⟨uk, ua, un, uc, rfl, rfl, rfl, hn2, hty2⟩ := bi_cells ht2
        have HTK := Lib.hid (Bi.beqs_take cs bs k hlt hlt2)
        have HBAD : Hid (cs[k].beq bs[k] = false → Bi.beqs cs bs = false) := fun h => beqs_bad hlt hlt2 HL.out h
        have HEQ : Hid (cs[k].beq bs[k] = (decide (cs[k].name = bs[k].name) && cs[k].ty.beq bs[k].ty)) := rfl
        have K10 := Lib.hid hc10
        have K11 := Lib.hid hc11
        have K12 := Lib.hid hc12
        have K20 := Lib.hid hc20
        have K21 := Lib.hid hc21
        have K22 := Lib.hid hc22
        have HT1 := Lib.hid hty1
        have HT2 := Lib.hid hty2
        have HR1 := Lib.hid ht1
        have HR2 := Lib.hid ht2
        clear hc10 hc11 hc12 hc20 hc21 hc22 ht1 ht2 hty1 hty2
        generalize cs[k] = c at HTK HBAD HEQ K10 HT1 HR1 hn1
        generalize bs[k] = b at HTK HBAD HEQ K20 HT2 HR2 hn2
        obtain ⟨nm1, ty1⟩ := c
        obtain ⟨nm2, ty2⟩ := b
        dsimp only at HEQ K10 K20 HT1 HT2 hn1 hn2
        have c10 : wr.cell? ⟨b1, off1 + k * 3, none⟩ = some (.string nm1) := (HB.out.cell (p := ⟨b1, off1 + k * 3, none⟩) hbl1).trans K10.out
        have c11 : wr.cell? ⟨b1, off1 + k * 3 + 1, none⟩ = some (.int .i64 tk) := (HB.out.cell (p := ⟨b1, off1 + k * 3 + 1, none⟩) hbl1).trans K11.out
        have c12 : wr.cell? ⟨b1, off1 + k * 3 + 2, none⟩ = some (.slice ta tn tc) := (HB.out.cell (p := ⟨b1, off1 + k * 3 + 2, none⟩) hbl1).trans K12.out
        have c20 : wr.cell? ⟨b2, off2 + k * 3, none⟩ = some (.string nm2) := (HB.out.cell (p := ⟨b2, off2 + k * 3, none⟩) hbl2).trans K20.out
        have c21 : wr.cell? ⟨b2, off2 + k * 3 + 1, none⟩ = some (.int .i64 uk) := (HB.out.cell (p := ⟨b2, off2 + k * 3 + 1, none⟩) hbl2).trans K21.out
        have c22 : wr.cell? ⟨b2, off2 + k * 3 + 2, none⟩ = some (.slice ua un uc) := (HB.out.cell (p := ⟨b2, off2 + k * 3 + 2, none⟩) hbl2).trans K22.out
        have hb2 : Below wr.heap.size wr ((wr.alloc (.cells #[.string nm1, .int .i64 tk, .slice ta tn tc] 91)).alloc (.cells #[.string nm2, .int .i64 uk, .slice ua un uc] 91)) := ((Below.refl _ _).alloc (Nat.le_refl _) _).alloc (by simp) _
        have m20 : (wr.alloc (.cells #[.string nm1, .int .i64 tk, .slice ta tn tc] 91)).cell? ⟨b2, off2 + k * 3, none⟩ = some (.string nm2) := ((below_alloc wr _).cell (p := ⟨b2, off2 + k * 3, none⟩) (Nat.lt_of_lt_of_le hbl2 HB.out.size)).trans c20
        have m21 : (wr.alloc (.cells #[.string nm1, .int .i64 tk, .slice ta tn tc] 91)).cell? ⟨b2, off2 + k * 3 + 1, none⟩ = some (.int .i64 uk) := ((below_alloc wr _).cell (p := ⟨b2, off2 + k * 3 + 1, none⟩) (Nat.lt_of_lt_of_le hbl2 HB.out.size)).trans c21
        have m22 : (wr.alloc (.cells #[.string nm1, .int .i64 tk, .slice ta tn tc] 91)).cell? ⟨b2, off2 + k * 3 + 2, none⟩ = some (.slice ua un uc) := ((below_alloc wr _).cell (p := ⟨b2, off2 + k * 3 + 2, none⟩) (Nat.lt_of_lt_of_le hbl2 HB.out.size)).trans c22
        have HB2 := Lib.hid (HB.out.trans (hb2.mono HB.out.size))
        replace HR1 := Lib.hid (HR1.out.below HB2.out)
        replace HR2 := Lib.hid (HR2.out.below HB2.out)
        clear hb2
        go_wp2_with fail
        clear m20 m21 m22 c10 c11 c12 c20 c21 c22
        refine (implBi d _ _ ⟨nm1, ty1⟩ ⟨nm2, ty2⟩ _ HR1.out HR2.out).mono ?_
        rintro e w1 ⟨rfl, hb⟩
        replace HB := Lib.hid (below_thru HB2.out (Nat.le_refl _) hb)
        clear hb HB2
        cases hq : (Bi.mk nm1 ty1).beq (Bi.mk nm2 ty2) with
        | true =>
          have HK : Hid (Bi.beqs (cs.take (k + 1)) (bs.take (k + 1)) = true) := by show _ = _; rw [HTK.out, HF.out, hq]; rfl
          clear hq
          go_wp2_with fail
          exact ⟨⟨k + 1, by omega, by go_num, HK.out, HB.out⟩, by simp [intOf]; omega⟩
        | false =>
          have HK := Lib.hid (HBAD.out hq)
          clear hq
          go_wp2_with fail
          go_ret
          exact ⟨by rw [HK.out]; rfl, HB.out⟩
      · obtain rfl : k = cs.length := by omega
        have HK : Hid (Bi.beqs cs bs = true) := by
          have := HF.out
          rw [List.take_length, HL.out, List.take_length] at this; exact this
        go_wp2_with fail
        go_ret
        exact ⟨by rw [HK.out]; rfl, HB.out⟩
end Go.Proofs.Ytlpdgmgafabadaa
