/-
  Proved: spec.l12Equal says whether two lists of typings are equal; the memory that was there stays as it was.
-/
import Derived.Test.YtlpdgmgafabadaaBiEq
import Derived.Test.YtlpdgmgafabadaaSpecEqual
import Derived.Test.YtlpdgmgafabadaaHold
import Derived.BigQuiet
import Derived.Deep.QuietTactic
import Derived.Deep.RegionHeld3
namespace Go.Proofs.Ytlpdgmgafabadaa
open Go.RowKit

theorem drewQ {B : Nat} {a w : World} (h : Below B a w) (n : Nat) : Below B a (w.drewN n) := ⟨h.os, h.tape, h.output, h.size, h.block⟩
set_option maxRecDepth 100000 in
set_option maxHeartbeats 2000000 in
theorem specBis (d : Nat) (v1 v2 : Value) (cs bs : List Bi) (w : World) (h1 : BisAt w d v1 cs) (h2 : BisAt w d v2 bs) :
    Calls Try.prog 65 #[v1, v2] w fun e w' => e = .returned (.bool (Bi.beqs cs bs)) ∧ Below w.heap.size w w' := by
  obtain ⟨a1, cap1, rfl, hcap1, hm1, hat1⟩ := h1
  obtain ⟨a2, cap2, rfl, hcap2, hm2, hat2⟩ := h2
  have HA1 := Lib.hid hat1; clear hat1
  have HA2 := Lib.hid hat2; clear hat2
  by_cases hl : cs.length = bs.length
  case neg =>
    have HF := Lib.hid (Bi.beqs_len cs bs hl)
    have qb : ((cs.length : Int) != (bs.length : Int)) = true := by simp; omega
    go_enter Try.func65, Try.ntmps65
    go_wp2_with fail
    go_ret
    exact ⟨by rw [HF.out]; rfl, Below.refl _ _⟩
  case pos =>
    have qb0 : ((cs.length : Int) != (bs.length : Int)) = false := by simp; omega
    have HL := Lib.hid hl; clear hl
    go_enter Try.func65, Try.ntmps65
    go_wp2_with fail
    clear qb0
    go_loopw [5] (fun i wr => ∃ k : Nat, k ≤ cs.length ∧ i = .int .i64 k ∧ Bi.beqs (cs.take k) (bs.take k) = true ∧ Below w.heap.size w wr) (fun i _ => cs.length - (intOf i).toNat)
    case atStart => exact ⟨0, by omega, rfl, by simp [Bi.beqs], Below.refl _ _⟩
    case round =>
      obtain ⟨k, hk, rfl, hf, hb⟩ := hrel
      have HF := Lib.hid hf; clear hf
      have HB := Lib.hid hb; clear hb
      by_cases hlt : k < cs.length
      · have hlt2 : k < bs.length := by have := HL.out; omega
        obtain ⟨b1, off1, x0, x1, x2, rfl, hbl1, hc10, hc11, hc12, ht1⟩ := HA1.out k hlt
        obtain ⟨b2, off2, y0, y1, y2, rfl, hbl2, hc20, hc21, hc22, ht2⟩ := HA2.out k hlt2
        obtain ⟨tk, ta, tn, tc, rfl, rfl, rfl, hn1, hty1⟩ := bi_cells ht1
        obtain ⟨uk, ua, un, uc, rfl, rfl, rfl, hn2, hty2⟩ := bi_cells ht2
        have HTK := Lib.hid (Bi.beqs_take cs bs k hlt hlt2)
        have HBAD : Hid (cs[k].beq bs[k] = false → Bi.beqs cs bs = false) := fun h => beqs_bad hlt hlt2 HL.out h
        have HEQ : Hid (cs[k].beq bs[k] = (decide (cs[k].name = bs[k].name) && cs[k].ty.beq bs[k].ty)) := rfl
        have K10 := Lib.hid hc10
        have K11 := Lib.hid hc11
        have K12 := Lib.hid hc12
        have K20 := Lib.hid hc20
        have K21 := Lib.hid hc21
        have K22 := Lib.hid hc22
        have HT1 := Lib.hid hty1
        have HT2 := Lib.hid hty2
        have HR1 := Lib.hid ht1
        have HR2 := Lib.hid ht2
        clear hc10 hc11 hc12 hc20 hc21 hc22 ht1 ht2 hty1 hty2
        generalize cs[k] = c at HTK HBAD HEQ K10 HT1 HR1 hn1
        generalize bs[k] = b at HTK HBAD HEQ K20 HT2 HR2 hn2
        obtain ⟨nm1, ty1⟩ := c
        obtain ⟨nm2, ty2⟩ := b
        dsimp only at HEQ K10 K20 HT1 HT2 hn1 hn2
        by_cases q : nm1 = nm2
        · subst q
          have HE2 : Hid ((Bi.mk nm1 ty1).beq (Bi.mk nm1 ty2) = ty1.beq ty2) := by show _ = _; rw [HEQ.out]; simp
          go_wp2_with fail
          replace HB := Lib.hid HB.out.drew
          replace HT1 := Lib.hid (HT1.out.below HB.out)
          replace HT2 := Lib.hid (HT2.out.below HB.out)
          go_region_held3 (fun w' => w'.cell? ⟨b1, off1 + k * 3, none⟩ = some (.string nm1) ∧ w'.cell? ⟨b1, off1 + k * 3 + 1, none⟩ = some (.int .i64 tk) ∧ w'.cell? ⟨b1, off1 + k * 3 + 2, none⟩ = some (.slice ta tn tc) ∧ w'.cell? ⟨b2, off2 + k * 3, none⟩ = some (.string nm1) ∧ w'.cell? ⟨b2, off2 + k * 3 + 1, none⟩ = some (.int .i64 uk) ∧ w'.cell? ⟨b2, off2 + k * 3 + 2, none⟩ = some (.slice ua un uc))
            (exact ⟨(HB.out.cell (p := ⟨b1, off1 + k * 3, none⟩) hbl1).trans K10.out, (HB.out.cell (p := ⟨b1, off1 + k * 3 + 1, none⟩) hbl1).trans K11.out, (HB.out.cell (p := ⟨b1, off1 + k * 3 + 2, none⟩) hbl1).trans K12.out, (HB.out.cell (p := ⟨b2, off2 + k * 3, none⟩) hbl2).trans K20.out, (HB.out.cell (p := ⟨b2, off2 + k * 3 + 1, none⟩) hbl2).trans K21.out, (HB.out.cell (p := ⟨b2, off2 + k * 3 + 2, none⟩) hbl2).trans K22.out⟩)
            (first
             | (go_at_call 64
                refine (specEqual d _ _ ty1 ty2 _ HT1.out HT2.out).mono ?_
                rintro e w1 ⟨he, hb⟩
                replace HB := Lib.hid (below_thru HB.out (Nat.le_refl _) hb)
                clear hb
                subst he))
          cases hq : ty1.beq ty2 with
          | true =>
            have HK : Hid (Bi.beqs (cs.take (k + 1)) (bs.take (k + 1)) = true) := by show _ = _; rw [HTK.out, HF.out, HE2.out, hq]; rfl
            clear hq
            go_wp2_with fail
            exact ⟨⟨k + 1, by omega, by go_num, HK.out, HB.out⟩, by simp [intOf]; omega⟩
          | false =>
            have HK := Lib.hid (HBAD.out (by rw [HE2.out, hq]))
            clear hq
            go_wp2_with fail
            go_ret
            exact ⟨by rw [HK.out]; rfl, HB.out⟩
        · have qs := text_ne q
          have HK := Lib.hid (HBAD.out (by rw [HEQ.out, decide_eq_false q]; rfl))
          clear q
          go_wp2_with fail
          have c10 : wr.cell? ⟨b1, off1 + k * 3, none⟩ = some (.string nm1) := (HB.out.cell (p := ⟨b1, off1 + k * 3, none⟩) hbl1).trans K10.out
          have c11 : wr.cell? ⟨b1, off1 + k * 3 + 1, none⟩ = some (.int .i64 tk) := (HB.out.cell (p := ⟨b1, off1 + k * 3 + 1, none⟩) hbl1).trans K11.out
          have c12 : wr.cell? ⟨b1, off1 + k * 3 + 2, none⟩ = some (.slice ta tn tc) := (HB.out.cell (p := ⟨b1, off1 + k * 3 + 2, none⟩) hbl1).trans K12.out
          have c20 : wr.cell? ⟨b2, off2 + k * 3, none⟩ = some (.string nm2) := (HB.out.cell (p := ⟨b2, off2 + k * 3, none⟩) hbl2).trans K20.out
          have c21 : wr.cell? ⟨b2, off2 + k * 3 + 1, none⟩ = some (.int .i64 uk) := (HB.out.cell (p := ⟨b2, off2 + k * 3 + 1, none⟩) hbl2).trans K21.out
          have c22 : wr.cell? ⟨b2, off2 + k * 3 + 2, none⟩ = some (.slice ua un uc) := (HB.out.cell (p := ⟨b2, off2 + k * 3 + 2, none⟩) hbl2).trans K22.out
          go_quiet (fail)
          clear c10 c11 c12 c20 c21 c22
          go_wp2_with fail
          go_ret
          exact ⟨by rw [HK.out]; rfl, drewQ HB.out nq⟩
      · obtain rfl : k = cs.length := by omega
        have HK : Hid (Bi.beqs cs bs = true) := by
          have := HF.out
          rw [List.take_length, HL.out, List.take_length] at this; exact this
        go_wp2_with fail
        go_ret
        exact ⟨by rw [HK.out]; rfl, HB.out⟩
end Go.Proofs.Ytlpdgmgafabadaa
