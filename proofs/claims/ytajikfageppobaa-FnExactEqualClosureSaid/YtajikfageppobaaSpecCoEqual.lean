/-
  Proved: spec.EqualCore compares two core expressions; the memory that was there stays as it was.
-/
import Derived.Test.YtajikfageppobaaCoEq
import Derived.Test.YtajikfageppobaaSpecEqual
import Derived.Test.YtajikfageppobaaHold
import Derived.StillTailTactics
import Derived.BigQuiet
import Derived.Deep.QuietTactic
import Derived.Deep.RegionHeld3
namespace Go.Proofs.Ytajikfageppobaa
open Go.RowKit

theorem drewB {B : Nat} {a w : World} (h : Below B a w) (n : Nat) : Below B a (w.drewN n) := ⟨h.os, h.tape, h.output, h.size, h.block⟩
set_option maxRecDepth 100000 in
set_option maxHeartbeats 4000000 in
theorem specEqualCore : ∀ (d : Nat) (v1 v2 : Value) (t1 t2 : Co) (w : World), CoAt w d v1 t1 → CoAt w d v2 t2 →
    Calls Try.prog 83 #[v1, v2] w fun e w' => e = .returned (.bool (t1.beq t2)) ∧ Below w.heap.size w w'
  | 0, _, _, _, _, _, h, _ => h.elim
  | d + 1, v1, v2, .node k1 nm1 n1 fr1 ty1 cs ns vs, .node k2 nm2 n2 fr2 ty2 bs ms us, w, h1, h2 => by
    have IH : Hid (∀ (v1 v2 : Value) (t1 t2 : Co) (w : World), CoAt w d v1 t1 → CoAt w d v2 t2 → Calls Try.prog 83 #[v1, v2] w fun e w' => e = .returned (.bool (t1.beq t2)) ∧ Below w.heap.size w w') := specEqualCore d
    have HV1 := co_parts h1
    obtain ⟨c3, c4, c5, c6, sl, el, rfl, hk10, hk11, hn10, hn11, hm1, hfr1, hty1, ⟨sa1, sc1, rfl, hcap1, hcp1, hat1⟩, hln1, ea1, ec1, rfl, hec1, hem1, hae1⟩ := h1
    obtain ⟨ak, anm, an, afk, afa, afn, afc, atk, ata, atn, atc, asa, asn, asc, aea, aen, aec, hv⟩ := HV1
    injection hv with hv
    injection hv with hv
    simp at hv
    obtain ⟨rfl, rfl, rfl, rfl, rfl, rfl, rfl, hvr⟩ := hv
    clear hvr
    have HV2 := co_parts h2
    obtain ⟨c3, c4, c5, c6, sl, el, rfl, hk20, hk21, hn20, hn21, hm2, hfr2, hty2, ⟨sa2, sc2, rfl, hcap2, hcp2, hat2⟩, hln2, ea2, ec2, rfl, hec2, hem2, hae2⟩ := h2
    obtain ⟨bk, bnm, bn, bfk, bfa, bfn, bfc, btk, bta, btn, btc, bsa, bsn, bsc, bea, ben, bec, hv⟩ := HV2
    injection hv with hv
    injection hv with hv
    simp at hv
    obtain ⟨rfl, rfl, rfl, rfl, rfl, rfl, rfl, hvr⟩ := hv
    clear hvr
    have e2 : Below w.heap.size w ((w.alloc (.cells #[.int .i64 k1, .string nm1, .int .i64 n1, .int .i64 afk, .slice afa afn afc, .int .i64 atk, .slice ata atn atc, .slice sa1 cs.length sc1, .slice ea1 vs.length ec1] 125)).alloc (.cells #[.int .i64 k2, .string nm2, .int .i64 n2, .int .i64 bfk, .slice bfa bfn bfc, .int .i64 btk, .slice bta btn btc, .slice sa2 bs.length sc2, .slice ea2 us.length ec2] 125)) := ((Below.refl _ _).alloc (Nat.le_refl _) _).alloc (by simp) _
    have HF1 := Lib.hid (hfr1.below e2)
    have HF2 := Lib.hid (hfr2.below e2)
    have HY1 := Lib.hid (hty1.below e2)
    have HY2 := Lib.hid (hty2.below e2)
    have HE := Lib.hid e2
    have HA1 := Lib.hid hat1
    have HA2 := Lib.hid hat2
    have HE1 := Lib.hid hae1
    have HE2 := Lib.hid hae2
    have HLN1 := Lib.hid hln1
    have HLN2 := Lib.hid hln2
    clear e2 hfr1 hfr2 hty1 hty2 hat1 hat2 hae1 hae2 hln1 hln2
    by_cases q1 : k1 = k2
    case neg =>
      have HR : Hid ((Co.node k1 nm1 n1 fr1 ty1 cs ns vs).beq (Co.node k2 nm2 n2 fr2 ty2 bs ms us) = false) := by show _ = _; simp [Co.beq, q1]
      go_enter Try.func83, Try.ntmps83
      go_wp2_with fail
      go_ret
      exact ⟨by rw [HR.out]; rfl, HE.out⟩
    subst q1
    by_cases q2 : nm1 = nm2
    case neg =>
      have q2b : (nm1.toList == nm2.toList) = false := text_ne q2
      have HR : Hid ((Co.node k1 nm1 n1 fr1 ty1 cs ns vs).beq (Co.node k1 nm2 n2 fr2 ty2 bs ms us) = false) := by show _ = _; simp [Co.beq, q2]
      go_enter Try.func83, Try.ntmps83
      go_wp2_with fail
      go_ret
      exact ⟨by rw [HR.out]; rfl, HE.out⟩
    subst q2
    by_cases q3 : n1 = n2
    case neg =>
      have HR : Hid ((Co.node k1 nm1 n1 fr1 ty1 cs ns vs).beq (Co.node k1 nm1 n2 fr2 ty2 bs ms us) = false) := by show _ = _; simp [Co.beq, q3]
      go_enter Try.func83, Try.ntmps83
      go_wp2_with fail
      go_ret
      exact ⟨by rw [HR.out]; rfl, HE.out⟩
    subst q3
    go_enter Try.func83, Try.ntmps83
    go_wp2_with fail
    refine (specEqual d _ _ fr1 fr2 _ HF1.out HF2.out).mono ?_
    rintro e w1 ⟨rfl, hb⟩
    have HB9 := Lib.hid (two_on (Below.refl _ _) hb)
    replace HY1 := Lib.hid (HY1.out.below hb)
    replace HY2 := Lib.hid (HY2.out.below hb)
    clear hb HF1 HF2
    have p5 := two_first HB9.out 5
    have r5 := two_next HB9.out 5
    have p6 := two_first HB9.out 6
    have r6 := two_next HB9.out 6
    cases hq : fr1.beq fr2 with
    | false =>
      have HR : Hid ((Co.node k1 nm1 n1 fr1 ty1 cs ns vs).beq (Co.node k1 nm1 n1 fr2 ty2 bs ms us) = false) := by show _ = _; simp [Co.beq, hq]
      clear hq
      go_wp2_with fail
      go_ret
      exact ⟨by rw [HR.out]; rfl, two_below HB9.out⟩
    | true =>
    have HQ1 := Lib.hid hq
    clear hq
    go_wp2_with fail
    clear p5 r5 p6 r6
    refine (specEqual d _ _ ty1 ty2 _ HY1.out HY2.out).mono ?_
    rintro e w2 ⟨rfl, hb⟩
    replace HB9 := Lib.hid (two_on HB9.out hb)
    clear hb HY1 HY2
    have p7 := two_first HB9.out 7
    have r7 := two_next HB9.out 7
    have p8 := two_first HB9.out 8
    have r8 := two_next HB9.out 8
    cases hq : ty1.beq ty2 with
    | false =>
      have HR : Hid ((Co.node k1 nm1 n1 fr1 ty1 cs ns vs).beq (Co.node k1 nm1 n1 fr2 ty2 bs ms us) = false) := by show _ = _; simp [Co.beq, hq]
      clear hq
      go_wp2_with fail
      go_ret
      exact ⟨by rw [HR.out]; rfl, two_below HB9.out⟩
    | true =>
    have HFIN : Hid ((Co.node k1 nm1 n1 fr1 ty1 cs ns vs).beq (Co.node k1 nm1 n1 fr2 ty2 bs ms us) = (Co.beqs cs bs && ebeq ns vs ms us)) := by show _ = _; simp [Co.beq, hq, HQ1.out, ebeq]
    clear hq HQ1
    by_cases q7 : cs.length = bs.length
    case neg =>
      have q7b : ((cs.length : Int) != (bs.length : Int)) = true := by simp; omega
      have HR : Hid ((Co.node k1 nm1 n1 fr1 ty1 cs ns vs).beq (Co.node k1 nm1 n1 fr2 ty2 bs ms us) = false) := by show _ = _; rw [HFIN.out, Co.beqs_len cs bs q7]; rfl
      clear q7
      go_wp2_with fail
      go_ret
      exact ⟨by rw [HR.out]; rfl, two_below HB9.out⟩
    have q7b : ((cs.length : Int) != (bs.length : Int)) = false := by simp; omega
    have Q7 := Lib.hid q7
    clear q7
    by_cases q8 : vs.length = us.length
    case neg =>
      have q8b : ((vs.length : Int) != (us.length : Int)) = true := by simp; omega
      have HR : Hid ((Co.node k1 nm1 n1 fr1 ty1 cs ns vs).beq (Co.node k1 nm1 n1 fr2 ty2 bs ms us) = false) := by show _ = _; rw [HFIN.out, ebeq_len ns vs ms us q8, Bool.and_false]
      clear q8
      go_wp2_with fail
      go_ret
      exact ⟨by rw [HR.out]; rfl, two_below HB9.out⟩
    have q8b : ((vs.length : Int) != (us.length : Int)) = false := by simp; omega
    have Q8 := Lib.hid q8
    clear q8
    go_wp2_with fail
    clear q7b q8b
    go_loopw [5] (fun i wr => ∃ k : Nat, k ≤ cs.length ∧ i = .int .i64 k ∧ Co.beqs (cs.take k) (bs.take k) = true ∧ Below (w.heap.size + 2) ((w.alloc (.cells #[.int .i64 k1, .string nm1, .int .i64 n1, .int .i64 afk, .slice afa afn afc, .int .i64 atk, .slice ata atn atc, .slice sa1 cs.length sc1, .slice ea1 vs.length ec1] 125)).alloc (.cells #[.int .i64 k1, .string nm1, .int .i64 n1, .int .i64 bfk, .slice bfa bfn bfc, .int .i64 btk, .slice bta btn btc, .slice sa2 bs.length sc2, .slice ea2 us.length ec2] 125)) wr) (fun i _ => cs.length - (intOf i).toNat)
    case atStart => exact ⟨0, by omega, rfl, by simp [Co.beqs], HB9.out⟩
    case round =>
      obtain ⟨k, hk, rfl, hf, hb⟩ := hrel
      have HF := Lib.hid hf; clear hf
      have z71 := two_first hb 7
      have z72 := two_next hb 7
      have z81 := two_first hb 8
      have z82 := two_next hb 8
      have HB := Lib.hid (two_below hb)
      have HBX := Lib.hid hb; clear hb
      by_cases hlt : k < cs.length
      · have hlt2 : k < bs.length := by have := Q7.out; omega
        obtain ⟨b1, off1, x0, x1, x2, x3, x4, x5, x6, x7, x8, rfl, hbl1, hc10, hc11, hc12, hc13, hc14, hc15, hc16, hc17, hc18, ht1⟩ := HA1.out k hlt
        obtain ⟨b2, off2, y0, y1, y2, y3, y4, y5, y6, y7, y8, rfl, hbl2, hc20, hc21, hc22, hc23, hc24, hc25, hc26, hc27, hc28, ht2⟩ := HA2.out k hlt2
        have c10 : wr.cell? ⟨b1, off1 + k * 9, none⟩ = some x0 := by rw [HB.out.cell (p := ⟨b1, off1 + k * 9, none⟩) hbl1]; exact hc10
        have c11 : wr.cell? ⟨b1, off1 + k * 9 + 1, none⟩ = some x1 := by rw [HB.out.cell (p := ⟨b1, off1 + k * 9 + 1, none⟩) hbl1]; exact hc11
        have c12 : wr.cell? ⟨b1, off1 + k * 9 + 2, none⟩ = some x2 := by rw [HB.out.cell (p := ⟨b1, off1 + k * 9 + 2, none⟩) hbl1]; exact hc12
        have c13 : wr.cell? ⟨b1, off1 + k * 9 + 3, none⟩ = some x3 := by rw [HB.out.cell (p := ⟨b1, off1 + k * 9 + 3, none⟩) hbl1]; exact hc13
        have c14 : wr.cell? ⟨b1, off1 + k * 9 + 4, none⟩ = some x4 := by rw [HB.out.cell (p := ⟨b1, off1 + k * 9 + 4, none⟩) hbl1]; exact hc14
        have c15 : wr.cell? ⟨b1, off1 + k * 9 + 5, none⟩ = some x5 := by rw [HB.out.cell (p := ⟨b1, off1 + k * 9 + 5, none⟩) hbl1]; exact hc15
        have c16 : wr.cell? ⟨b1, off1 + k * 9 + 6, none⟩ = some x6 := by rw [HB.out.cell (p := ⟨b1, off1 + k * 9 + 6, none⟩) hbl1]; exact hc16
        have c17 : wr.cell? ⟨b1, off1 + k * 9 + 7, none⟩ = some x7 := by rw [HB.out.cell (p := ⟨b1, off1 + k * 9 + 7, none⟩) hbl1]; exact hc17
        have c18 : wr.cell? ⟨b1, off1 + k * 9 + 8, none⟩ = some x8 := by rw [HB.out.cell (p := ⟨b1, off1 + k * 9 + 8, none⟩) hbl1]; exact hc18
        have c20 : wr.cell? ⟨b2, off2 + k * 9, none⟩ = some y0 := by rw [HB.out.cell (p := ⟨b2, off2 + k * 9, none⟩) hbl2]; exact hc20
        have c21 : wr.cell? ⟨b2, off2 + k * 9 + 1, none⟩ = some y1 := by rw [HB.out.cell (p := ⟨b2, off2 + k * 9 + 1, none⟩) hbl2]; exact hc21
        have c22 : wr.cell? ⟨b2, off2 + k * 9 + 2, none⟩ = some y2 := by rw [HB.out.cell (p := ⟨b2, off2 + k * 9 + 2, none⟩) hbl2]; exact hc22
        have c23 : wr.cell? ⟨b2, off2 + k * 9 + 3, none⟩ = some y3 := by rw [HB.out.cell (p := ⟨b2, off2 + k * 9 + 3, none⟩) hbl2]; exact hc23
        have c24 : wr.cell? ⟨b2, off2 + k * 9 + 4, none⟩ = some y4 := by rw [HB.out.cell (p := ⟨b2, off2 + k * 9 + 4, none⟩) hbl2]; exact hc24
        have c25 : wr.cell? ⟨b2, off2 + k * 9 + 5, none⟩ = some y5 := by rw [HB.out.cell (p := ⟨b2, off2 + k * 9 + 5, none⟩) hbl2]; exact hc25
        have c26 : wr.cell? ⟨b2, off2 + k * 9 + 6, none⟩ = some y6 := by rw [HB.out.cell (p := ⟨b2, off2 + k * 9 + 6, none⟩) hbl2]; exact hc26
        have c27 : wr.cell? ⟨b2, off2 + k * 9 + 7, none⟩ = some y7 := by rw [HB.out.cell (p := ⟨b2, off2 + k * 9 + 7, none⟩) hbl2]; exact hc27
        have c28 : wr.cell? ⟨b2, off2 + k * 9 + 8, none⟩ = some y8 := by rw [HB.out.cell (p := ⟨b2, off2 + k * 9 + 8, none⟩) hbl2]; exact hc28
        have HT1 := Lib.hid (ht1.below HB.out.drew)
        have HT2 := Lib.hid (ht2.below HB.out.drew)
        clear ht1 ht2 hc10 hc20 hc11 hc21 hc12 hc22 hc13 hc23 hc14 hc24 hc15 hc25 hc16 hc26 hc17 hc27 hc18 hc28
        go_wp2_with fail
        go_still_tail 10, (by kernel_rfl)
        change wpList _ _ _ _ _ wr.drew
        go_wp2_with fail
        refine (IH.out _ _ _ _ wr.drew HT1.out HT2.out).mono ?_
        rintro e w' ⟨rfl, hb1⟩
        have HN := Lib.hid (two_on HBX.out.drew hb1)
        clear hb1
        have HTK := Lib.hid (Co.beqs_take cs bs k hlt hlt2)
        cases hfk : cs[k].beq bs[k] with
        | true =>
          have HFK := Lib.hid hfk; clear hfk
          go_wp2_with fail
          exact ⟨⟨k + 1, by omega, by go_num, by rw [HTK.out, HF.out, HFK.out]; rfl, HN.out⟩, by simp [intOf]; omega⟩
        | false =>
          have HFK := Lib.hid hfk; clear hfk
          go_wp2_with fail
          go_ret
          have e : Co.beqs cs bs = false := Co.beqs_false cs bs (k + 1) (by rw [HTK.out, HF.out, HFK.out]; rfl) Q7.out
          exact ⟨by rw [HFIN.out, e]; rfl, two_below HN.out⟩
      · obtain rfl : k = cs.length := by omega
        have HBA : Hid (Co.beqs cs bs = true) := by
          have := HF.out
          rw [List.take_length, Q7.out, List.take_length] at this; exact this
        go_wp2_with fail
        go_loopw [6] (fun i wr => ∃ k : Nat, k ≤ vs.length ∧ i = .int .i64 k ∧ ebeq (ns.take k) (vs.take k) (ms.take k) (us.take k) = true ∧ Below (w.heap.size + 2) ((w.alloc (.cells #[.int .i64 k1, .string nm1, .int .i64 n1, .int .i64 afk, .slice afa afn afc, .int .i64 atk, .slice ata atn atc, .slice sa1 cs.length sc1, .slice ea1 vs.length ec1] 125)).alloc (.cells #[.int .i64 k1, .string nm1, .int .i64 n1, .int .i64 bfk, .slice bfa bfn bfc, .int .i64 btk, .slice bta btn btc, .slice sa2 bs.length sc2, .slice ea2 us.length ec2] 125)) wr) (fun i _ => vs.length - (intOf i).toNat)
        case atStart => exact ⟨0, by omega, rfl, by simp [ebeq, nbeqs, Co.beqs], HBX.out⟩
        case round =>
          obtain ⟨k, hk, rfl, hf, hb⟩ := hrel
          have HF := Lib.hid hf; clear hf
          have z81 := two_first hb 8
          have z82 := two_next hb 8
          have HB := Lib.hid (two_below hb)
          have HBX := Lib.hid hb; clear hb
          by_cases hlt : k < vs.length
          · have hlt2 : k < us.length := by have := Q8.out; omega
            have hlt3 : k < ns.length := by have := HLN1.out; omega
            have hlt4 : k < ms.length := by have := HLN2.out; omega
            obtain ⟨b1, off1, x0, x1, x2, x3, x4, x5, x6, x7, x8, rfl, hbl1, hnz1, hcn1, hc10, hc11, hc12, hc13, hc14, hc15, hc16, hc17, hc18, ht1⟩ := HE1.out k hlt hlt3
            obtain ⟨b2, off2, y0, y1, y2, y3, y4, y5, y6, y7, y8, rfl, hbl2, hnz2, hcn2, hc20, hc21, hc22, hc23, hc24, hc25, hc26, hc27, hc28, ht2⟩ := HE2.out k hlt2 hlt4
            have HTK := Lib.hid (ebeq_take ns vs ms us k hlt3 hlt hlt4 hlt2)
            have HBAD := Lib.hid (ebeq_bad ns vs ms us k hlt3 hlt hlt4 hlt2 (by have := HLN1.out; have := HLN2.out; have := Q8.out; omega) Q8.out)
            have E10 := Lib.hid hc10
            have E11 := Lib.hid hc11
            have E12 := Lib.hid hc12
            have E13 := Lib.hid hc13
            have E14 := Lib.hid hc14
            have E15 := Lib.hid hc15
            have E16 := Lib.hid hc16
            have E17 := Lib.hid hc17
            have E18 := Lib.hid hc18
            have E20 := Lib.hid hc20
            have E21 := Lib.hid hc21
            have E22 := Lib.hid hc22
            have E23 := Lib.hid hc23
            have E24 := Lib.hid hc24
            have E25 := Lib.hid hc25
            have E26 := Lib.hid hc26
            have E27 := Lib.hid hc27
            have E28 := Lib.hid hc28
            have E1n := Lib.hid hcn1
            have E2n := Lib.hid hcn2
            have HT1 := Lib.hid ht1
            have HT2 := Lib.hid ht2
            clear ht1 ht2 hc10 hc20 hc11 hc21 hc12 hc22 hc13 hc23 hc14 hc24 hc15 hc25 hc16 hc26 hc17 hc27 hc18 hc28 hcn1 hcn2
            generalize ns[k] = nm1 at HTK HBAD E1n hnz1
            generalize ms[k] = nm2 at HTK HBAD E2n hnz2
            by_cases q : nm1 = nm2
            · subst q
              go_wp2_with fail
              replace HB := Lib.hid HB.out.drew
              replace HBX := Lib.hid HBX.out.drew
              replace HT1 := Lib.hid (HT1.out.below HB.out)
              replace HT2 := Lib.hid (HT2.out.below HB.out)
              go_region_held3 (fun w' => w'.cell? ⟨w.heap.size, 8, none⟩ = some (.slice (some ⟨b1, off1, none⟩) vs.length ec1) ∧ w'.cell? ⟨w.heap.size + 1, 8, none⟩ = some (.slice (some ⟨b2, off2, none⟩) us.length ec2) ∧ w'.cell? ⟨b1, off1 + k * 10, none⟩ = some (.string nm1) ∧ w'.cell? ⟨b2, off2 + k * 10, none⟩ = some (.string nm1) ∧ w'.cell? ⟨b1, off1 + k * 10 + 1, none⟩ = some x0 ∧ w'.cell? ⟨b1, off1 + k * 10 + 2, none⟩ = some x1 ∧ w'.cell? ⟨b1, off1 + k * 10 + 3, none⟩ = some x2 ∧ w'.cell? ⟨b1, off1 + k * 10 + 4, none⟩ = some x3 ∧ w'.cell? ⟨b1, off1 + k * 10 + 5, none⟩ = some x4 ∧ w'.cell? ⟨b1, off1 + k * 10 + 6, none⟩ = some x5 ∧ w'.cell? ⟨b1, off1 + k * 10 + 7, none⟩ = some x6 ∧ w'.cell? ⟨b1, off1 + k * 10 + 8, none⟩ = some x7 ∧ w'.cell? ⟨b1, off1 + k * 10 + 9, none⟩ = some x8 ∧ w'.cell? ⟨b2, off2 + k * 10 + 1, none⟩ = some y0 ∧ w'.cell? ⟨b2, off2 + k * 10 + 2, none⟩ = some y1 ∧ w'.cell? ⟨b2, off2 + k * 10 + 3, none⟩ = some y2 ∧ w'.cell? ⟨b2, off2 + k * 10 + 4, none⟩ = some y3 ∧ w'.cell? ⟨b2, off2 + k * 10 + 5, none⟩ = some y4 ∧ w'.cell? ⟨b2, off2 + k * 10 + 6, none⟩ = some y5 ∧ w'.cell? ⟨b2, off2 + k * 10 + 7, none⟩ = some y6 ∧ w'.cell? ⟨b2, off2 + k * 10 + 8, none⟩ = some y7 ∧ w'.cell? ⟨b2, off2 + k * 10 + 9, none⟩ = some y8)
                (exact ⟨two_first HBX.out 8, two_next HBX.out 8, (HB.out.cell (p := ⟨b1, off1 + k * 10, none⟩) hbl1).trans E1n.out, (HB.out.cell (p := ⟨b2, off2 + k * 10, none⟩) hbl2).trans E2n.out, (HB.out.cell (p := ⟨b1, off1 + k * 10 + 1, none⟩) hbl1).trans E10.out, (HB.out.cell (p := ⟨b1, off1 + k * 10 + 2, none⟩) hbl1).trans E11.out, (HB.out.cell (p := ⟨b1, off1 + k * 10 + 3, none⟩) hbl1).trans E12.out, (HB.out.cell (p := ⟨b1, off1 + k * 10 + 4, none⟩) hbl1).trans E13.out, (HB.out.cell (p := ⟨b1, off1 + k * 10 + 5, none⟩) hbl1).trans E14.out, (HB.out.cell (p := ⟨b1, off1 + k * 10 + 6, none⟩) hbl1).trans E15.out, (HB.out.cell (p := ⟨b1, off1 + k * 10 + 7, none⟩) hbl1).trans E16.out, (HB.out.cell (p := ⟨b1, off1 + k * 10 + 8, none⟩) hbl1).trans E17.out, (HB.out.cell (p := ⟨b1, off1 + k * 10 + 9, none⟩) hbl1).trans E18.out, (HB.out.cell (p := ⟨b2, off2 + k * 10 + 1, none⟩) hbl2).trans E20.out, (HB.out.cell (p := ⟨b2, off2 + k * 10 + 2, none⟩) hbl2).trans E21.out, (HB.out.cell (p := ⟨b2, off2 + k * 10 + 3, none⟩) hbl2).trans E22.out, (HB.out.cell (p := ⟨b2, off2 + k * 10 + 4, none⟩) hbl2).trans E23.out, (HB.out.cell (p := ⟨b2, off2 + k * 10 + 5, none⟩) hbl2).trans E24.out, (HB.out.cell (p := ⟨b2, off2 + k * 10 + 6, none⟩) hbl2).trans E25.out, (HB.out.cell (p := ⟨b2, off2 + k * 10 + 7, none⟩) hbl2).trans E26.out, (HB.out.cell (p := ⟨b2, off2 + k * 10 + 8, none⟩) hbl2).trans E27.out, (HB.out.cell (p := ⟨b2, off2 + k * 10 + 9, none⟩) hbl2).trans E28.out⟩)
                (first
                 | (go_at_call 83
                    refine (IH.out _ _ _ _ _ HT1.out HT2.out).mono ?_
                    rintro e w1 ⟨he, hb⟩
                    replace HB := Lib.hid (below_thru HB.out (Nat.le_refl _) hb)
                    replace HBX := Lib.hid (two_on HBX.out hb)
                    clear hb
                    subst he))
              cases hq : vs[k].beq us[k] with
              | true =>
                have HK : Hid (ebeq (ns.take (k + 1)) (vs.take (k + 1)) (ms.take (k + 1)) (us.take (k + 1)) = true) := by show _ = _; rw [HTK.out, HF.out, hq]; simp
                clear hq
                go_wp2_with fail
                exact ⟨⟨k + 1, by omega, by go_num, HK.out, HBX.out⟩, by simp [intOf]; omega⟩
              | false =>
                have HK := Lib.hid (HBAD.out (by rw [hq, Bool.and_false]))
                clear hq
                go_wp2_with fail
                go_ret
                exact ⟨by rw [HFIN.out, HBA.out, HK.out]; rfl, HB.out⟩
            · have qs := text_ne q
              have HK := Lib.hid (HBAD.out (by rw [decide_eq_false q]; rfl))
              clear q
              go_wp2_with fail
              have dE1n : wr.cell? ⟨b1, off1 + k * 10, none⟩ = some (.string nm1) := (HB.out.cell (p := ⟨b1, off1 + k * 10, none⟩) hbl1).trans E1n.out
              have dE2n : wr.cell? ⟨b2, off2 + k * 10, none⟩ = some (.string nm2) := (HB.out.cell (p := ⟨b2, off2 + k * 10, none⟩) hbl2).trans E2n.out
              go_quiet (fail)
              clear dE1n dE2n
              go_wp2_with fail
              go_ret
              exact ⟨by rw [HFIN.out, HBA.out, HK.out]; rfl, drewB HB.out nq⟩
          · obtain rfl : k = vs.length := by omega
            have HK : Hid (ebeq ns vs ms us = true) := by
              have h1 := HF.out
              have e1 := HLN1.out
              have e2 := HLN2.out
              have e3 := Q8.out
              rw [List.take_of_length_le (by omega), List.take_of_length_le (by omega), List.take_of_length_le (by omega), List.take_of_length_le (by omega)] at h1
              exact h1
            go_wp2_with fail
            go_ret
            exact ⟨by rw [HFIN.out, HBA.out, HK.out]; rfl, HB.out⟩
set_option maxRecDepth 100000 in
set_option maxHeartbeats 4000000 in
theorem specEqualBinds (d : Nat) (v1 v2 : Value) (ns : List ByteArray) (vs : List Co) (ms : List ByteArray) (us : List Co) (w : World) (h1 : CbsAt w d v1 ns vs) (h2 : CbsAt w d v2 ms us) :
    Calls Try.prog 55 #[v1, v2] w fun e w' => e = .returned (.bool (ebeq ns vs ms us)) ∧ Below w.heap.size w w' := by
  obtain ⟨hln1, ea1, ec1, rfl, hcap1, hm1, hat1⟩ := h1
  obtain ⟨hln2, ea2, ec2, rfl, hcap2, hm2, hat2⟩ := h2
  have HE1 := Lib.hid hat1; clear hat1
  have HE2 := Lib.hid hat2; clear hat2
  have HLN1 := Lib.hid hln1; clear hln1
  have HLN2 := Lib.hid hln2; clear hln2
  by_cases q8 : vs.length = us.length
  case neg =>
    have HR := Lib.hid (ebeq_len ns vs ms us q8)
    have qb : ((vs.length : Int) != (us.length : Int)) = true := by simp; omega
    clear q8
    go_enter Try.func55, Try.ntmps55
    go_wp2_with fail
    go_ret
    exact ⟨by rw [HR.out]; rfl, Below.refl _ _⟩
  have qb0 : ((vs.length : Int) != (us.length : Int)) = false := by simp; omega
  have Q8 := Lib.hid q8; clear q8
  go_enter Try.func55, Try.ntmps55
  go_wp2_with fail
  clear qb0
  go_loopw [5] (fun i wr => ∃ k : Nat, k ≤ vs.length ∧ i = .int .i64 k ∧ ebeq (ns.take k) (vs.take k) (ms.take k) (us.take k) = true ∧ Below w.heap.size w wr) (fun i _ => vs.length - (intOf i).toNat)
  case atStart => exact ⟨0, by omega, rfl, by simp [ebeq, nbeqs, Co.beqs], Below.refl _ _⟩
  case round =>
    obtain ⟨k, hk, rfl, hf, hb⟩ := hrel
    have HF := Lib.hid hf; clear hf
    have HB := Lib.hid hb; clear hb
    by_cases hlt : k < vs.length
    · have hlt2 : k < us.length := by have := Q8.out; omega
      have hlt3 : k < ns.length := by have := HLN1.out; omega
      have hlt4 : k < ms.length := by have := HLN2.out; omega
      obtain ⟨b1, off1, x0, x1, x2, x3, x4, x5, x6, x7, x8, rfl, hbl1, hnz1, hcn1, hc10, hc11, hc12, hc13, hc14, hc15, hc16, hc17, hc18, ht1⟩ := HE1.out k hlt hlt3
      obtain ⟨b2, off2, y0, y1, y2, y3, y4, y5, y6, y7, y8, rfl, hbl2, hnz2, hcn2, hc20, hc21, hc22, hc23, hc24, hc25, hc26, hc27, hc28, ht2⟩ := HE2.out k hlt2 hlt4
      have HTK := Lib.hid (ebeq_take ns vs ms us k hlt3 hlt hlt4 hlt2)
      have HBAD := Lib.hid (ebeq_bad ns vs ms us k hlt3 hlt hlt4 hlt2 (by have := HLN1.out; have := HLN2.out; have := Q8.out; omega) Q8.out)
      have E10 := Lib.hid hc10
      have E11 := Lib.hid hc11
      have E12 := Lib.hid hc12
      have E13 := Lib.hid hc13
      have E14 := Lib.hid hc14
      have E15 := Lib.hid hc15
      have E16 := Lib.hid hc16
      have E17 := Lib.hid hc17
      have E18 := Lib.hid hc18
      have E20 := Lib.hid hc20
      have E21 := Lib.hid hc21
      have E22 := Lib.hid hc22
      have E23 := Lib.hid hc23
      have E24 := Lib.hid hc24
      have E25 := Lib.hid hc25
      have E26 := Lib.hid hc26
      have E27 := Lib.hid hc27
      have E28 := Lib.hid hc28
      have E1n := Lib.hid hcn1
      have E2n := Lib.hid hcn2
      have HT1 := Lib.hid ht1
      have HT2 := Lib.hid ht2
      clear ht1 ht2 hc10 hc20 hc11 hc21 hc12 hc22 hc13 hc23 hc14 hc24 hc15 hc25 hc16 hc26 hc17 hc27 hc18 hc28 hcn1 hcn2
      generalize ns[k] = nm1 at HTK HBAD E1n hnz1
      generalize ms[k] = nm2 at HTK HBAD E2n hnz2
      by_cases q : nm1 = nm2
      · subst q
        go_wp2_with fail
        replace HB := Lib.hid HB.out.drew
        replace HT1 := Lib.hid (HT1.out.below HB.out)
        replace HT2 := Lib.hid (HT2.out.below HB.out)
        go_region_held3 (fun w' => w'.cell? ⟨b1, off1 + k * 10, none⟩ = some (.string nm1) ∧ w'.cell? ⟨b2, off2 + k * 10, none⟩ = some (.string nm1) ∧ w'.cell? ⟨b1, off1 + k * 10 + 1, none⟩ = some x0 ∧ w'.cell? ⟨b1, off1 + k * 10 + 2, none⟩ = some x1 ∧ w'.cell? ⟨b1, off1 + k * 10 + 3, none⟩ = some x2 ∧ w'.cell? ⟨b1, off1 + k * 10 + 4, none⟩ = some x3 ∧ w'.cell? ⟨b1, off1 + k * 10 + 5, none⟩ = some x4 ∧ w'.cell? ⟨b1, off1 + k * 10 + 6, none⟩ = some x5 ∧ w'.cell? ⟨b1, off1 + k * 10 + 7, none⟩ = some x6 ∧ w'.cell? ⟨b1, off1 + k * 10 + 8, none⟩ = some x7 ∧ w'.cell? ⟨b1, off1 + k * 10 + 9, none⟩ = some x8 ∧ w'.cell? ⟨b2, off2 + k * 10 + 1, none⟩ = some y0 ∧ w'.cell? ⟨b2, off2 + k * 10 + 2, none⟩ = some y1 ∧ w'.cell? ⟨b2, off2 + k * 10 + 3, none⟩ = some y2 ∧ w'.cell? ⟨b2, off2 + k * 10 + 4, none⟩ = some y3 ∧ w'.cell? ⟨b2, off2 + k * 10 + 5, none⟩ = some y4 ∧ w'.cell? ⟨b2, off2 + k * 10 + 6, none⟩ = some y5 ∧ w'.cell? ⟨b2, off2 + k * 10 + 7, none⟩ = some y6 ∧ w'.cell? ⟨b2, off2 + k * 10 + 8, none⟩ = some y7 ∧ w'.cell? ⟨b2, off2 + k * 10 + 9, none⟩ = some y8)
          (exact ⟨(HB.out.cell (p := ⟨b1, off1 + k * 10, none⟩) hbl1).trans E1n.out, (HB.out.cell (p := ⟨b2, off2 + k * 10, none⟩) hbl2).trans E2n.out, (HB.out.cell (p := ⟨b1, off1 + k * 10 + 1, none⟩) hbl1).trans E10.out, (HB.out.cell (p := ⟨b1, off1 + k * 10 + 2, none⟩) hbl1).trans E11.out, (HB.out.cell (p := ⟨b1, off1 + k * 10 + 3, none⟩) hbl1).trans E12.out, (HB.out.cell (p := ⟨b1, off1 + k * 10 + 4, none⟩) hbl1).trans E13.out, (HB.out.cell (p := ⟨b1, off1 + k * 10 + 5, none⟩) hbl1).trans E14.out, (HB.out.cell (p := ⟨b1, off1 + k * 10 + 6, none⟩) hbl1).trans E15.out, (HB.out.cell (p := ⟨b1, off1 + k * 10 + 7, none⟩) hbl1).trans E16.out, (HB.out.cell (p := ⟨b1, off1 + k * 10 + 8, none⟩) hbl1).trans E17.out, (HB.out.cell (p := ⟨b1, off1 + k * 10 + 9, none⟩) hbl1).trans E18.out, (HB.out.cell (p := ⟨b2, off2 + k * 10 + 1, none⟩) hbl2).trans E20.out, (HB.out.cell (p := ⟨b2, off2 + k * 10 + 2, none⟩) hbl2).trans E21.out, (HB.out.cell (p := ⟨b2, off2 + k * 10 + 3, none⟩) hbl2).trans E22.out, (HB.out.cell (p := ⟨b2, off2 + k * 10 + 4, none⟩) hbl2).trans E23.out, (HB.out.cell (p := ⟨b2, off2 + k * 10 + 5, none⟩) hbl2).trans E24.out, (HB.out.cell (p := ⟨b2, off2 + k * 10 + 6, none⟩) hbl2).trans E25.out, (HB.out.cell (p := ⟨b2, off2 + k * 10 + 7, none⟩) hbl2).trans E26.out, (HB.out.cell (p := ⟨b2, off2 + k * 10 + 8, none⟩) hbl2).trans E27.out, (HB.out.cell (p := ⟨b2, off2 + k * 10 + 9, none⟩) hbl2).trans E28.out⟩)
          (first
           | (go_at_call 83
              refine (specEqualCore d _ _ _ _ _ HT1.out HT2.out).mono ?_
              rintro e w1 ⟨he, hb⟩
              replace HB := Lib.hid (below_thru HB.out (Nat.le_refl _) hb)
              clear hb
              subst he))
        cases hq : vs[k].beq us[k] with
        | true =>
          have HK : Hid (ebeq (ns.take (k + 1)) (vs.take (k + 1)) (ms.take (k + 1)) (us.take (k + 1)) = true) := by show _ = _; rw [HTK.out, HF.out, hq]; simp
          clear hq
          go_wp2_with fail
          exact ⟨⟨k + 1, by omega, by go_num, HK.out, HB.out⟩, by simp [intOf]; omega⟩
        | false =>
          have HK := Lib.hid (HBAD.out (by rw [hq, Bool.and_false]))
          clear hq
          go_wp2_with fail
          go_ret
          exact ⟨by rw [HK.out]; rfl, HB.out⟩
      · have qs := text_ne q
        have HK := Lib.hid (HBAD.out (by rw [decide_eq_false q]; rfl))
        clear q
        go_wp2_with fail
        have dE1n : wr.cell? ⟨b1, off1 + k * 10, none⟩ = some (.string nm1) := (HB.out.cell (p := ⟨b1, off1 + k * 10, none⟩) hbl1).trans E1n.out
        have dE2n : wr.cell? ⟨b2, off2 + k * 10, none⟩ = some (.string nm2) := (HB.out.cell (p := ⟨b2, off2 + k * 10, none⟩) hbl2).trans E2n.out
        go_quiet (fail)
        clear dE1n dE2n
        go_wp2_with fail
        go_ret
        exact ⟨by rw [HK.out]; rfl, drewB HB.out nq⟩
    · obtain rfl : k = vs.length := by omega
      have HK : Hid (ebeq ns vs ms us = true) := by
        have h1 := HF.out
        have e1 := HLN1.out
        have e2 := HLN2.out
        have e3 := Q8.out
        rw [List.take_of_length_le (by omega), List.take_of_length_le (by omega), List.take_of_length_le (by omega), List.take_of_length_le (by omega)] at h1
        exact h1
      go_wp2_with fail
      go_ret
      exact ⟨by rw [HK.out]; rfl, HB.out⟩
end Go.Proofs.Ytajikfageppobaa
