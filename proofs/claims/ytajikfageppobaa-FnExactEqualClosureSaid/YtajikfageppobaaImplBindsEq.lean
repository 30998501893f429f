/-
  Proved: impl.EqualBinds compares two environments, if impl.equalCores compares their values; the memory that was there stays as it was.
-/
import Derived.Test.YtajikfageppobaaCoEq
import Derived.Test.YtajikfageppobaaHold
import Derived.StillTailTactics
import Derived.BigQuiet
import Derived.Deep.QuietTactic
import Derived.Deep.RegionHeld3
namespace Go.Proofs.Ytajikfageppobaa
open Go.RowKit

theorem drewC {B : Nat} {a w : World} (h : Below B a w) (n : Nat) : Below B a (w.drewN n) := ⟨h.os, h.tape, h.output, h.size, h.block⟩
def EqCoresSaid (d : Nat) : Prop := ∀ (v1 v2 : Value) (t1 t2 : Co) (w : World), PtrCo w d v1 t1 → PtrCo w d v2 t2 →
  Calls Try.prog 85 #[v1, v2] w fun e w' => e = .returned (.bool (t1.beq t2)) ∧ Below w.heap.size w w'
set_option maxRecDepth 100000 in
set_option maxHeartbeats 4000000 in
theorem implBinds_step (d : Nat) (ih : EqCoresSaid d) (v1 v2 : Value) (ns : List ByteArray) (vs : List Co) (ms : List ByteArray) (us : List Co) (w : World) (h1 : CbsAt w d v1 ns vs) (h2 : CbsAt w d v2 ms us) :
    Calls Try.prog 57 #[v1, v2] w fun e w' => e = .returned (.bool (ebeq ns vs ms us)) ∧ Below w.heap.size w w' := by
  obtain ⟨hln1, ea1, ec1, rfl, hcap1, hm1, hat1⟩ := h1
  obtain ⟨hln2, ea2, ec2, rfl, hcap2, hm2, hat2⟩ := h2
  have IH := Lib.hid ih; clear ih
  have HE1 := Lib.hid hat1; clear hat1
  have HE2 := Lib.hid hat2; clear hat2
  have HLN1 := Lib.hid hln1; clear hln1
  have HLN2 := Lib.hid hln2; clear hln2
  by_cases q8 : vs.length = us.length
  case neg =>
    have HR := Lib.hid (ebeq_len ns vs ms us q8)
    have qb : ((vs.length : Int) != (us.length : Int)) = true := by simp; omega
    clear q8
    go_enter Try.func57, Try.ntmps57
    go_wp2_with fail
    go_ret
    exact ⟨by rw [HR.out]; rfl, Below.refl _ _⟩
  have qb0 : ((vs.length : Int) != (us.length : Int)) = false := by simp; omega
  have Q8 := Lib.hid q8; clear q8
  go_enter Try.func57, Try.ntmps57
  go_wp2_with fail
  clear qb0
  go_loopw [13] (fun i wr => ∃ k : Nat, k ≤ vs.length ∧ i = .int .i64 k ∧ ebeq (ns.take k) (vs.take k) (ms.take k) (us.take k) = true ∧ Below w.heap.size w wr) (fun i _ => vs.length - (intOf i).toNat)
  case atStart => exact ⟨0, by omega, rfl, by simp [ebeq, nbeqs, Co.beqs], Below.refl _ _⟩
  case round =>
    obtain ⟨k, hk, rfl, hf, hb⟩ := hrel
    have HF := Lib.hid hf; clear hf
    have HB := Lib.hid hb; clear hb
    by_cases hlt : k < vs.length
    · have hlt2 : k < us.length := by have := Q8.out; omega
      have hlt3 : k < ns.length := by have := HLN1.out; omega
      have hlt4 : k < ms.length := by have := HLN2.out; omega
      obtain ⟨b1, off1, x0, x1, x2, x3, x4, x5, x6, x7, x8, rfl, hbl1, hnz1, hcn1, hc10, hc11, hc12, hc13, hc14, hc15, hc16, hc17, hc18, ht1⟩ := HE1.out k hlt hlt3
      obtain ⟨b2, off2, y0, y1, y2, y3, y4, y5, y6, y7, y8, rfl, hbl2, hnz2, hcn2, hc20, hc21, hc22, hc23, hc24, hc25, hc26, hc27, hc28, ht2⟩ := HE2.out k hlt2 hlt4
      have HTK := Lib.hid (ebeq_take ns vs ms us k hlt3 hlt hlt4 hlt2)
      have HBAD := Lib.hid (ebeq_bad ns vs ms us k hlt3 hlt hlt4 hlt2 (by have := HLN1.out; have := HLN2.out; have := Q8.out; omega) Q8.out)
      have E10 := Lib.hid hc10
      have E11 := Lib.hid hc11
      have E12 := Lib.hid hc12
      have E13 := Lib.hid hc13
      have E14 := Lib.hid hc14
      have E15 := Lib.hid hc15
      have E16 := Lib.hid hc16
      have E17 := Lib.hid hc17
      have E18 := Lib.hid hc18
      have E20 := Lib.hid hc20
      have E21 := Lib.hid hc21
      have E22 := Lib.hid hc22
      have E23 := Lib.hid hc23
      have E24 := Lib.hid hc24
      have E25 := Lib.hid hc25
      have E26 := Lib.hid hc26
      have E27 := Lib.hid hc27
      have E28 := Lib.hid hc28
      have E1n := Lib.hid hcn1
      have E2n := Lib.hid hcn2
      have HT1 := Lib.hid ht1
      have HT2 := Lib.hid ht2
      clear ht1 ht2 hc10 hc20 hc11 hc21 hc12 hc22 hc13 hc23 hc14 hc24 hc15 hc25 hc16 hc26 hc17 hc27 hc18 hc28 hcn1 hcn2
      generalize ns[k] = nm1 at HTK HBAD E1n hnz1
      generalize ms[k] = nm2 at HTK HBAD E2n hnz2
      by_cases q : nm1 = nm2
      · subst q
        go_wp2_with fail
        replace HB := Lib.hid HB.out.drew
        replace HT1 := Lib.hid (HT1.out.below HB.out)
        replace HT2 := Lib.hid (HT2.out.below HB.out)
        have HP1 : Hid (PtrCo _ d (.pointer (some ⟨b1, off1 + k * 10 + 1, none⟩)) vs[k]) := ⟨_, _, _, _, _, _, _, _, _, _, _, rfl, Nat.lt_of_lt_of_le hbl1 HB.out.size, (HB.out.cell (p := ⟨b1, off1 + k * 10 + 1, none⟩) hbl1).trans E10.out, (HB.out.cell (p := ⟨b1, off1 + k * 10 + 2, none⟩) hbl1).trans E11.out, (HB.out.cell (p := ⟨b1, off1 + k * 10 + 3, none⟩) hbl1).trans E12.out, (HB.out.cell (p := ⟨b1, off1 + k * 10 + 4, none⟩) hbl1).trans E13.out, (HB.out.cell (p := ⟨b1, off1 + k * 10 + 5, none⟩) hbl1).trans E14.out, (HB.out.cell (p := ⟨b1, off1 + k * 10 + 6, none⟩) hbl1).trans E15.out, (HB.out.cell (p := ⟨b1, off1 + k * 10 + 7, none⟩) hbl1).trans E16.out, (HB.out.cell (p := ⟨b1, off1 + k * 10 + 8, none⟩) hbl1).trans E17.out, (HB.out.cell (p := ⟨b1, off1 + k * 10 + 9, none⟩) hbl1).trans E18.out, HT1.out⟩
        have HP2 : Hid (PtrCo _ d (.pointer (some ⟨b2, off2 + k * 10 + 1, none⟩)) us[k]) := ⟨_, _, _, _, _, _, _, _, _, _, _, rfl, Nat.lt_of_lt_of_le hbl2 HB.out.size, (HB.out.cell (p := ⟨b2, off2 + k * 10 + 1, none⟩) hbl2).trans E20.out, (HB.out.cell (p := ⟨b2, off2 + k * 10 + 2, none⟩) hbl2).trans E21.out, (HB.out.cell (p := ⟨b2, off2 + k * 10 + 3, none⟩) hbl2).trans E22.out, (HB.out.cell (p := ⟨b2, off2 + k * 10 + 4, none⟩) hbl2).trans E23.out, (HB.out.cell (p := ⟨b2, off2 + k * 10 + 5, none⟩) hbl2).trans E24.out, (HB.out.cell (p := ⟨b2, off2 + k * 10 + 6, none⟩) hbl2).trans E25.out, (HB.out.cell (p := ⟨b2, off2 + k * 10 + 7, none⟩) hbl2).trans E26.out, (HB.out.cell (p := ⟨b2, off2 + k * 10 + 8, none⟩) hbl2).trans E27.out, (HB.out.cell (p := ⟨b2, off2 + k * 10 + 9, none⟩) hbl2).trans E28.out, HT2.out⟩
        go_region_held3 (fun w' => w'.cell? ⟨b1, off1 + k * 10, none⟩ = some (.string nm1) ∧ w'.cell? ⟨b2, off2 + k * 10, none⟩ = some (.string nm1))
          (exact ⟨(HB.out.cell (p := ⟨b1, off1 + k * 10, none⟩) hbl1).trans E1n.out, (HB.out.cell (p := ⟨b2, off2 + k * 10, none⟩) hbl2).trans E2n.out⟩)
          (first
           | (go_at_call 85
              refine (IH.out _ _ _ _ _ HP1.out HP2.out).mono ?_
              rintro e w1 ⟨he, hb⟩
              replace HB := Lib.hid (below_thru HB.out (Nat.le_refl _) hb)
              clear hb
              subst he))
        cases hq : vs[k].beq us[k] with
        | true =>
          have HK : Hid (ebeq (ns.take (k + 1)) (vs.take (k + 1)) (ms.take (k + 1)) (us.take (k + 1)) = true) := by show _ = _; rw [HTK.out, HF.out, hq]; simp
          clear hq
          go_wp2_with fail
          exact ⟨⟨k + 1, by omega, by go_num, HK.out, HB.out⟩, by simp [intOf]; omega⟩
        | false =>
          have HK := Lib.hid (HBAD.out (by rw [hq, Bool.and_false]))
          clear hq
          go_wp2_with fail
          go_ret
          exact ⟨by rw [HK.out]; rfl, HB.out⟩
      · have qs := text_ne q
        have HK := Lib.hid (HBAD.out (by rw [decide_eq_false q]; rfl))
        clear q
        go_wp2_with fail
        have dE1n : wr.cell? ⟨b1, off1 + k * 10, none⟩ = some (.string nm1) := (HB.out.cell (p := ⟨b1, off1 + k * 10, none⟩) hbl1).trans E1n.out
        have dE2n : wr.cell? ⟨b2, off2 + k * 10, none⟩ = some (.string nm2) := (HB.out.cell (p := ⟨b2, off2 + k * 10, none⟩) hbl2).trans E2n.out
        go_quiet (fail)
        clear dE1n dE2n
        go_wp2_with fail
        go_ret
        exact ⟨by rw [HK.out]; rfl, drewC HB.out nq⟩
    · obtain rfl : k = vs.length := by omega
      have HK : Hid (ebeq ns vs ms us = true) := by
        have h1 := HF.out
        have e1 := HLN1.out
        have e2 := HLN2.out
        have e3 := Q8.out
        rw [List.take_of_length_le (by omega), List.take_of_length_le (by omega), List.take_of_length_le (by omega), List.take_of_length_le (by omega)] at h1
        exact h1
      go_wp2_with fail
      go_ret
      exact ⟨by rw [HK.out]; rfl, HB.out⟩
end Go.Proofs.Ytajikfageppobaa
