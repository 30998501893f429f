/-
  Proved: the library's EqualFunc says whether two lists of values of the kind Conflict are equal; the memory that was there stays as it was.
-/
import Derived.Test.YtajikfageppobaaPeqCfl
import Derived.Test.YtajikfageppobaaHold
import Derived.Test.YtajikfageppobaaImplCfl
namespace Go.Proofs.Ytajikfageppobaa
open Go.RowKit

set_option maxRecDepth 100000 in
set_option maxHeartbeats 4000000 in
theorem libCfls (d : Nat) (v1 v2 : Value) (cs bs : List Cfl) (w : World) (h1 : CflsAt w d v1 cs) (h2 : CflsAt w d v2 bs) (hn1 : Cfl.bulks cs ≤ 1048576) (hn2 : Cfl.bulks bs ≤ 1048576) :
    Calls Try.prog 68 #[v1, v2, .func (.func 69) #[] #[]] w fun e w' => e = .returned (.bool (Cfl.beqs cs bs)) ∧ Below w.heap.size w w' := by
  obtain ⟨a1, cap1, rfl, hcap1, hm1, hat1⟩ := h1
  obtain ⟨a2, cap2, rfl, hcap2, hm2, hat2⟩ := h2
  have HA1 := Lib.hid hat1; clear hat1
  have HA2 := Lib.hid hat2; clear hat2
  by_cases hl : cs.length = bs.length
  case neg =>
    have HF := Lib.hid (Cfl.beqs_len cs bs hl)
    have qb : ((cs.length : Int) != (bs.length : Int)) = true := by simp; omega
    go_enter Try.func68, Try.ntmps68
    go_wp2_with fail
    go_ret
    exact ⟨by rw [HF.out]; rfl, Below.refl _ _⟩
  case pos =>
    have qb0 : ((cs.length : Int) != (bs.length : Int)) = false := by simp; omega
    have HL := Lib.hid hl; clear hl
    go_enter Try.func68, Try.ntmps68
    go_wp2_with fail
    clear qb0
    go_loopw [17] (fun i wr => ∃ k : Nat, k ≤ cs.length ∧ i = .int .i64 k ∧ Cfl.beqs (cs.take k) (bs.take k) = true ∧ Below w.heap.size w wr) (fun i _ => cs.length - (intOf i).toNat)
    case atStart => exact ⟨0, by omega, rfl, by simp [Cfl.beqs], Below.refl _ _⟩
    case round =>
      obtain ⟨k, hk, rfl, hf, hb⟩ := hrel
      have HF := Lib.hid hf; clear hf
      have HB := Lib.hid hb; clear hb
      by_cases hlt : k < cs.length
      · have hlt2 : k < bs.length := by have := HL.out; omega
        obtain ⟨b1, off1, x0, x1, rfl, hbl1, hc10, hc11, ht1⟩ := HA1.out k hlt
        obtain ⟨b2, off2, y0, y1, rfl, hbl2, hc20, hc21, ht2⟩ := HA2.out k hlt2
        obtain ⟨pba, pbn, pbc, pca, pcn, pcc, hv1⟩ := cfl_parts ht1
        obtain ⟨qba, qbn, qbc, qca, qcn, qcc, hv2⟩ := cfl_parts ht2
        injection hv1 with hv1
        injection hv1 with hv1
        simp only [List.cons.injEq, and_true] at hv1
        obtain ⟨rfl, rfl⟩ := hv1
        injection hv2 with hv2
        injection hv2 with hv2
        simp only [List.cons.injEq, and_true] at hv2
        obtain ⟨rfl, rfl⟩ := hv2
        have hg1 : cs[k].bulk ≤ 1048576 := by have := Cfl.bulk_get cs k hlt; omega
        have hg2 : bs[k].bulk ≤ 1048576 := by have := Cfl.bulk_get bs k hlt2; omega
        have HTK := Lib.hid (Cfl.beqs_take cs bs k hlt hlt2)
        have HBAD : Hid (cs[k].beq bs[k] = false → Cfl.beqs cs bs = false) := fun h => Cfl.beqs_bad hlt hlt2 HL.out h
        have HR1 := Lib.hid ht1
        have HR2 := Lib.hid ht2
        have K10 := Lib.hid hc10
        have K20 := Lib.hid hc20
        have K11 := Lib.hid hc11
        have K21 := Lib.hid hc21
        clear ht1 ht2 hc10 hc20 hc11 hc21
        generalize cs[k] = c at HTK HBAD HR1 hg1
        generalize bs[k] = b at HTK HBAD HR2 hg2
        have c10 : wr.cell? ⟨b1, off1 + k * 2, none⟩ = some (.slice pba pbn pbc) := (HB.out.cell (p := ⟨b1, off1 + k * 2, none⟩) hbl1).trans K10.out
        have c20 : wr.cell? ⟨b2, off2 + k * 2, none⟩ = some (.slice qba qbn qbc) := (HB.out.cell (p := ⟨b2, off2 + k * 2, none⟩) hbl2).trans K20.out
        have m20 : (wr.alloc (.cells #[.slice pba pbn pbc, .slice pca pcn pcc] 101)).cell? ⟨b2, off2 + k * 2, none⟩ = some (.slice qba qbn qbc) := ((below_alloc wr _).cell (p := ⟨b2, off2 + k * 2, none⟩) (Nat.lt_of_lt_of_le hbl2 HB.out.size)).trans c20
        have c11 : wr.cell? ⟨b1, off1 + k * 2 + 1, none⟩ = some (.slice pca pcn pcc) := (HB.out.cell (p := ⟨b1, off1 + k * 2 + 1, none⟩) hbl1).trans K11.out
        have c21 : wr.cell? ⟨b2, off2 + k * 2 + 1, none⟩ = some (.slice qca qcn qcc) := (HB.out.cell (p := ⟨b2, off2 + k * 2 + 1, none⟩) hbl2).trans K21.out
        have m21 : (wr.alloc (.cells #[.slice pba pbn pbc, .slice pca pcn pcc] 101)).cell? ⟨b2, off2 + k * 2 + 1, none⟩ = some (.slice qca qcn qcc) := ((below_alloc wr _).cell (p := ⟨b2, off2 + k * 2 + 1, none⟩) (Nat.lt_of_lt_of_le hbl2 HB.out.size)).trans c21
        have hb2 : Below wr.heap.size wr ((wr.alloc (.cells #[.slice pba pbn pbc, .slice pca pcn pcc] 101)).alloc (.cells #[.slice qba qbn qbc, .slice qca qcn qcc] 101)) := ((Below.refl _ _).alloc (Nat.le_refl _) _).alloc (by simp) _
        have HB2 := Lib.hid (HB.out.trans (hb2.mono HB.out.size))
        replace HR1 := Lib.hid (HR1.out.below HB2.out)
        replace HR2 := Lib.hid (HR2.out.below HB2.out)
        clear hb2
        go_wp2_with fail
        clear c10 c20 m20 c11 c21 m21
        refine (implCfl d _ _ c b _ HR1.out HR2.out hg1 hg2).mono ?_
        rintro e w1 ⟨rfl, hb⟩
        replace HB := Lib.hid (below_thru HB2.out (Nat.le_refl _) hb)
        clear hb HB2
        cases hq : c.beq b with
        | true =>
          have HK : Hid (Cfl.beqs (cs.take (k + 1)) (bs.take (k + 1)) = true) := by show _ = _; rw [HTK.out, HF.out, hq]; rfl
          clear hq
          go_wp2_with fail
          exact ⟨⟨k + 1, by omega, by go_num, HK.out, HB.out⟩, by simp [intOf]; omega⟩
        | false =>
          have HK := Lib.hid (HBAD.out hq)
          clear hq
          go_wp2_with fail
          go_ret
          exact ⟨by rw [HK.out]; rfl, HB.out⟩
      · obtain rfl : k = cs.length := by omega
        have HK : Hid (Cfl.beqs cs bs = true) := by
          have := HF.out
          rw [List.take_length, HL.out, List.take_length] at this; exact this
        go_wp2_with fail
        go_ret
        exact ⟨by rw [HK.out]; rfl, HB.out⟩
end Go.Proofs.Ytajikfageppobaa
