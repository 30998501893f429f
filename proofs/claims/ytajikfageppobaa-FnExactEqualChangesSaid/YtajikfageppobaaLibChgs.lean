/-
  Proved: the library's EqualFunc says whether two lists of values of the kind Change are equal; the memory that was there stays as it was.
-/
import Derived.Test.YtajikfageppobaaPeqChg
import Derived.Test.YtajikfageppobaaHold
import Derived.Test.YtajikfageppobaaImplChg
namespace Go.Proofs.Ytajikfageppobaa
open Go.RowKit

set_option maxRecDepth 100000 in
set_option maxHeartbeats 4000000 in
theorem libChgs (d : Nat) (v1 v2 : Value) (cs bs : List Chg) (w : World) (h1 : ChgsAt w d v1 cs) (h2 : ChgsAt w d v2 bs) (hn1 : Chg.bulks cs ≤ 1048576) (hn2 : Chg.bulks bs ≤ 1048576) :
    Calls Try.prog 63 #[v1, v2, .func (.func 64) #[] #[]] w fun e w' => e = .returned (.bool (Chg.beqs cs bs)) ∧ Below w.heap.size w w' := by
  obtain ⟨a1, cap1, rfl, hcap1, hm1, hat1⟩ := h1
  obtain ⟨a2, cap2, rfl, hcap2, hm2, hat2⟩ := h2
  have HA1 := Lib.hid hat1; clear hat1
  have HA2 := Lib.hid hat2; clear hat2
  by_cases hl : cs.length = bs.length
  case neg =>
    have HF := Lib.hid (Chg.beqs_len cs bs hl)
    have qb : ((cs.length : Int) != (bs.length : Int)) = true := by simp; omega
    go_enter Try.func63, Try.ntmps63
    go_wp2_with fail
    go_ret
    exact ⟨by rw [HF.out]; rfl, Below.refl _ _⟩
  case pos =>
    have qb0 : ((cs.length : Int) != (bs.length : Int)) = false := by simp; omega
    have HL := Lib.hid hl; clear hl
    go_enter Try.func63, Try.ntmps63
    go_wp2_with fail
    clear qb0
    go_loopw [17] (fun i wr => ∃ k : Nat, k ≤ cs.length ∧ i = .int .i64 k ∧ Chg.beqs (cs.take k) (bs.take k) = true ∧ Below w.heap.size w wr) (fun i _ => cs.length - (intOf i).toNat)
    case atStart => exact ⟨0, by omega, rfl, by simp [Chg.beqs], Below.refl _ _⟩
    case round =>
      obtain ⟨k, hk, rfl, hf, hb⟩ := hrel
      have HF := Lib.hid hf; clear hf
      have HB := Lib.hid hb; clear hb
      by_cases hlt : k < cs.length
      · have hlt2 : k < bs.length := by have := HL.out; omega
        obtain ⟨b1, off1, x0, x1, x2, x3, x4, x5, x6, rfl, hbl1, hc10, hc11, hc12, hc13, hc14, hc15, hc16, ht1⟩ := HA1.out k hlt
        obtain ⟨b2, off2, y0, y1, y2, y3, y4, y5, y6, rfl, hbl2, hc20, hc21, hc22, hc23, hc24, hc25, hc26, ht2⟩ := HA2.out k hlt2
        obtain ⟨pba, pbn, pbc, pck, pcnm, pcm, pctk, pcta, pctn, pctc, pcsa, pcsn, pcsc, hv1⟩ := chg_parts ht1
        obtain ⟨qba, qbn, qbc, qck, qcnm, qcm, qctk, qcta, qctn, qctc, qcsa, qcsn, qcsc, hv2⟩ := chg_parts ht2
        injection hv1 with hv1
        injection hv1 with hv1
        simp only [List.cons.injEq, and_true] at hv1
        obtain ⟨rfl, rfl, rfl, rfl, rfl, rfl, rfl⟩ := hv1
        injection hv2 with hv2
        injection hv2 with hv2
        simp only [List.cons.injEq, and_true] at hv2
        obtain ⟨rfl, rfl, rfl, rfl, rfl, rfl, rfl⟩ := hv2
        have hg1 : cs[k].bulk ≤ 1048576 := by have := Chg.bulk_get cs k hlt; omega
        have hg2 : bs[k].bulk ≤ 1048576 := by have := Chg.bulk_get bs k hlt2; omega
        have HTK := Lib.hid (Chg.beqs_take cs bs k hlt hlt2)
        have HBAD : Hid (cs[k].beq bs[k] = false → Chg.beqs cs bs = false) := fun h => Chg.beqs_bad hlt hlt2 HL.out h
        have HR1 := Lib.hid ht1
        have HR2 := Lib.hid ht2
        have K10 := Lib.hid hc10
        have K20 := Lib.hid hc20
        have K11 := Lib.hid hc11
        have K21 := Lib.hid hc21
        have K12 := Lib.hid hc12
        have K22 := Lib.hid hc22
        have K13 := Lib.hid hc13
        have K23 := Lib.hid hc23
        have K14 := Lib.hid hc14
        have K24 := Lib.hid hc24
        have K15 := Lib.hid hc15
        have K25 := Lib.hid hc25
        have K16 := Lib.hid hc16
        have K26 := Lib.hid hc26
        clear ht1 ht2 hc10 hc20 hc11 hc21 hc12 hc22 hc13 hc23 hc14 hc24 hc15 hc25 hc16 hc26
        generalize cs[k] = c at HTK HBAD HR1 hg1
        generalize bs[k] = b at HTK HBAD HR2 hg2
        have c10 : wr.cell? ⟨b1, off1 + k * 7, none⟩ = some (.slice pba pbn pbc) := (HB.out.cell (p := ⟨b1, off1 + k * 7, none⟩) hbl1).trans K10.out
        have c20 : wr.cell? ⟨b2, off2 + k * 7, none⟩ = some (.slice qba qbn qbc) := (HB.out.cell (p := ⟨b2, off2 + k * 7, none⟩) hbl2).trans K20.out
        have m20 : (wr.alloc (.cells #[.slice pba pbn pbc, .int .i64 pck, .string pcnm, .int .i64 pcm, .int .i64 pctk, .slice pcta pctn pctc, .slice pcsa pcsn pcsc] 94)).cell? ⟨b2, off2 + k * 7, none⟩ = some (.slice qba qbn qbc) := ((below_alloc wr _).cell (p := ⟨b2, off2 + k * 7, none⟩) (Nat.lt_of_lt_of_le hbl2 HB.out.size)).trans c20
        have c11 : wr.cell? ⟨b1, off1 + k * 7 + 1, none⟩ = some (.int .i64 pck) := (HB.out.cell (p := ⟨b1, off1 + k * 7 + 1, none⟩) hbl1).trans K11.out
        have c21 : wr.cell? ⟨b2, off2 + k * 7 + 1, none⟩ = some (.int .i64 qck) := (HB.out.cell (p := ⟨b2, off2 + k * 7 + 1, none⟩) hbl2).trans K21.out
        have m21 : (wr.alloc (.cells #[.slice pba pbn pbc, .int .i64 pck, .string pcnm, .int .i64 pcm, .int .i64 pctk, .slice pcta pctn pctc, .slice pcsa pcsn pcsc] 94)).cell? ⟨b2, off2 + k * 7 + 1, none⟩ = some (.int .i64 qck) := ((below_alloc wr _).cell (p := ⟨b2, off2 + k * 7 + 1, none⟩) (Nat.lt_of_lt_of_le hbl2 HB.out.size)).trans c21
        have c12 : wr.cell? ⟨b1, off1 + k * 7 + 2, none⟩ = some (.string pcnm) := (HB.out.cell (p := ⟨b1, off1 + k * 7 + 2, none⟩) hbl1).trans K12.out
        have c22 : wr.cell? ⟨b2, off2 + k * 7 + 2, none⟩ = some (.string qcnm) := (HB.out.cell (p := ⟨b2, off2 + k * 7 + 2, none⟩) hbl2).trans K22.out
        have m22 : (wr.alloc (.cells #[.slice pba pbn pbc, .int .i64 pck, .string pcnm, .int .i64 pcm, .int .i64 pctk, .slice pcta pctn pctc, .slice pcsa pcsn pcsc] 94)).cell? ⟨b2, off2 + k * 7 + 2, none⟩ = some (.string qcnm) := ((below_alloc wr _).cell (p := ⟨b2, off2 + k * 7 + 2, none⟩) (Nat.lt_of_lt_of_le hbl2 HB.out.size)).trans c22
        have c13 : wr.cell? ⟨b1, off1 + k * 7 + 3, none⟩ = some (.int .i64 pcm) := (HB.out.cell (p := ⟨b1, off1 + k * 7 + 3, none⟩) hbl1).trans K13.out
        have c23 : wr.cell? ⟨b2, off2 + k * 7 + 3, none⟩ = some (.int .i64 qcm) := (HB.out.cell (p := ⟨b2, off2 + k * 7 + 3, none⟩) hbl2).trans K23.out
        have m23 : (wr.alloc (.cells #[.slice pba pbn pbc, .int .i64 pck, .string pcnm, .int .i64 pcm, .int .i64 pctk, .slice pcta pctn pctc, .slice pcsa pcsn pcsc] 94)).cell? ⟨b2, off2 + k * 7 + 3, none⟩ = some (.int .i64 qcm) := ((below_alloc wr _).cell (p := ⟨b2, off2 + k * 7 + 3, none⟩) (Nat.lt_of_lt_of_le hbl2 HB.out.size)).trans c23
        have c14 : wr.cell? ⟨b1, off1 + k * 7 + 4, none⟩ = some (.int .i64 pctk) := (HB.out.cell (p := ⟨b1, off1 + k * 7 + 4, none⟩) hbl1).trans K14.out
        have c24 : wr.cell? ⟨b2, off2 + k * 7 + 4, none⟩ = some (.int .i64 qctk) := (HB.out.cell (p := ⟨b2, off2 + k * 7 + 4, none⟩) hbl2).trans K24.out
        have m24 : (wr.alloc (.cells #[.slice pba pbn pbc, .int .i64 pck, .string pcnm, .int .i64 pcm, .int .i64 pctk, .slice pcta pctn pctc, .slice pcsa pcsn pcsc] 94)).cell? ⟨b2, off2 + k * 7 + 4, none⟩ = some (.int .i64 qctk) := ((below_alloc wr _).cell (p := ⟨b2, off2 + k * 7 + 4, none⟩) (Nat.lt_of_lt_of_le hbl2 HB.out.size)).trans c24
        have c15 : wr.cell? ⟨b1, off1 + k * 7 + 5, none⟩ = some (.slice pcta pctn pctc) := (HB.out.cell (p := ⟨b1, off1 + k * 7 + 5, none⟩) hbl1).trans K15.out
        have c25 : wr.cell? ⟨b2, off2 + k * 7 + 5, none⟩ = some (.slice qcta qctn qctc) := (HB.out.cell (p := ⟨b2, off2 + k * 7 + 5, none⟩) hbl2).trans K25.out
        have m25 : (wr.alloc (.cells #[.slice pba pbn pbc, .int .i64 pck, .string pcnm, .int .i64 pcm, .int .i64 pctk, .slice pcta pctn pctc, .slice pcsa pcsn pcsc] 94)).cell? ⟨b2, off2 + k * 7 + 5, none⟩ = some (.slice qcta qctn qctc) := ((below_alloc wr _).cell (p := ⟨b2, off2 + k * 7 + 5, none⟩) (Nat.lt_of_lt_of_le hbl2 HB.out.size)).trans c25
        have c16 : wr.cell? ⟨b1, off1 + k * 7 + 6, none⟩ = some (.slice pcsa pcsn pcsc) := (HB.out.cell (p := ⟨b1, off1 + k * 7 + 6, none⟩) hbl1).trans K16.out
        have c26 : wr.cell? ⟨b2, off2 + k * 7 + 6, none⟩ = some (.slice qcsa qcsn qcsc) := (HB.out.cell (p := ⟨b2, off2 + k * 7 + 6, none⟩) hbl2).trans K26.out
        have m26 : (wr.alloc (.cells #[.slice pba pbn pbc, .int .i64 pck, .string pcnm, .int .i64 pcm, .int .i64 pctk, .slice pcta pctn pctc, .slice pcsa pcsn pcsc] 94)).cell? ⟨b2, off2 + k * 7 + 6, none⟩ = some (.slice qcsa qcsn qcsc) := ((below_alloc wr _).cell (p := ⟨b2, off2 + k * 7 + 6, none⟩) (Nat.lt_of_lt_of_le hbl2 HB.out.size)).trans c26
        have hb2 : Below wr.heap.size wr ((wr.alloc (.cells #[.slice pba pbn pbc, .int .i64 pck, .string pcnm, .int .i64 pcm, .int .i64 pctk, .slice pcta pctn pctc, .slice pcsa pcsn pcsc] 94)).alloc (.cells #[.slice qba qbn qbc, .int .i64 qck, .string qcnm, .int .i64 qcm, .int .i64 qctk, .slice qcta qctn qctc, .slice qcsa qcsn qcsc] 94)) := ((Below.refl _ _).alloc (Nat.le_refl _) _).alloc (by simp) _
        have HB2 := Lib.hid (HB.out.trans (hb2.mono HB.out.size))
        replace HR1 := Lib.hid (HR1.out.below HB2.out)
        replace HR2 := Lib.hid (HR2.out.below HB2.out)
        clear hb2
        go_wp2_with fail
        clear c10 c20 m20 c11 c21 m21 c12 c22 m22 c13 c23 m23 c14 c24 m24 c15 c25 m25 c16 c26 m26
        refine (implChg d _ _ c b _ HR1.out HR2.out hg1 hg2).mono ?_
        rintro e w1 ⟨rfl, hb⟩
        replace HB := Lib.hid (below_thru HB2.out (Nat.le_refl _) hb)
        clear hb HB2
        cases hq : c.beq b with
        | true =>
          have HK : Hid (Chg.beqs (cs.take (k + 1)) (bs.take (k + 1)) = true) := by show _ = _; rw [HTK.out, HF.out, hq]; rfl
          clear hq
          go_wp2_with fail
          exact ⟨⟨k + 1, by omega, by go_num, HK.out, HB.out⟩, by simp [intOf]; omega⟩
        | false =>
          have HK := Lib.hid (HBAD.out hq)
          clear hq
          go_wp2_with fail
          go_ret
          exact ⟨by rw [HK.out]; rfl, HB.out⟩
      · obtain rfl : k = cs.length := by omega
        have HK : Hid (Chg.beqs cs bs = true) := by
          have := HF.out
          rw [List.take_length, HL.out, List.take_length] at this; exact this
        go_wp2_with fail
        go_ret
        exact ⟨by rw [HK.out]; rfl, HB.out⟩
end Go.Proofs.Ytajikfageppobaa
