/-
  Proved: spec.l17Same says whether two lists are equal; the memory that was there stays as it was.
-/
import Derived.Test.YtddfeecnimdikaaPeqEdt
import Derived.Test.YtddfeecnimdikaaRecBase
import Derived.Test.YtddfeecnimdikaaHold
import Derived.Test.YtddfeecnimdikaaSpecEdt
import Derived.StillTailTactics
namespace Go.Proofs.Ytddfeecnimdikaa
open Go.RowKit

set_option maxRecDepth 100000 in
set_option maxHeartbeats 4000000 in
theorem specEdts (d : Nat) (v1 v2 : Value) (cs bs : List Edt) (w : World) (h1 : EdtsAt w d v1 cs) (h2 : EdtsAt w d v2 bs) (hn1 : Edt.bulks cs ≤ 1048576) (hn2 : Edt.bulks bs ≤ 1048576) :
    Calls Try.prog 30 #[v1, v2] w fun e w' => e = .returned (.bool (Edt.beqs cs bs)) ∧ Below w.heap.size w w' := by
  obtain ⟨a1, cap1, rfl, hcap1, hm1, hat1⟩ := h1
  obtain ⟨a2, cap2, rfl, hcap2, hm2, hat2⟩ := h2
  have HA1 := Lib.hid hat1; clear hat1
  have HA2 := Lib.hid hat2; clear hat2
  by_cases hl : cs.length = bs.length
  case neg =>
    have HF := Lib.hid (Edt.beqs_len cs bs hl)
    have qb : ((cs.length : Int) != (bs.length : Int)) = true := by simp; omega
    go_enter Try.func30, Try.ntmps30
    go_wp2_with fail
    go_ret
    exact ⟨by rw [HF.out]; rfl, Below.refl _ _⟩
  case pos =>
    have qb0 : ((cs.length : Int) != (bs.length : Int)) = false := by simp; omega
    have HL := Lib.hid hl; clear hl
    go_enter Try.func30, Try.ntmps30
    go_wp2_with fail
    clear qb0
    go_loopw [5] (fun i wr => ∃ k : Nat, k ≤ cs.length ∧ i = .int .i64 k ∧ Edt.beqs (cs.take k) (bs.take k) = true ∧ Below w.heap.size w wr) (fun i _ => cs.length - (intOf i).toNat)
    case atStart => exact ⟨0, by omega, rfl, by simp [Edt.beqs], Below.refl _ _⟩
    case round =>
      obtain ⟨k, hk, rfl, hf, hb⟩ := hrel
      have HF := Lib.hid hf; clear hf
      have HB := Lib.hid hb; clear hb
      by_cases hlt : k < cs.length
      · have hlt2 : k < bs.length := by have := HL.out; omega
        obtain ⟨b1, off1, x0, x1, x2, x3, x4, x5, x6, rfl, hbl1, hc10, hc11, hc12, hc13, hc14, hc15, hc16, ht1⟩ := HA1.out k hlt
        obtain ⟨b2, off2, y0, y1, y2, y3, y4, y5, y6, rfl, hbl2, hc20, hc21, hc22, hc23, hc24, hc25, hc26, ht2⟩ := HA2.out k hlt2
        have hg1 : cs[k].bulk ≤ 1048576 := by have := Edt.bulk_get cs k hlt; omega
        have hg2 : bs[k].bulk ≤ 1048576 := by have := Edt.bulk_get bs k hlt2; omega
        have HTK := Lib.hid (Edt.beqs_take cs bs k hlt hlt2)
        have HBAD : Hid (cs[k].beq bs[k] = false → Edt.beqs cs bs = false) := fun h => Edt.beqs_bad hlt hlt2 HL.out h
        have c10 : wr.cell? ⟨b1, off1 + k * 7, none⟩ = some x0 := by rw [HB.out.cell (p := ⟨b1, off1 + k * 7, none⟩) hbl1]; exact hc10
        have c20 : wr.cell? ⟨b2, off2 + k * 7, none⟩ = some y0 := by rw [HB.out.cell (p := ⟨b2, off2 + k * 7, none⟩) hbl2]; exact hc20
        have c11 : wr.cell? ⟨b1, off1 + k * 7 + 1, none⟩ = some x1 := by rw [HB.out.cell (p := ⟨b1, off1 + k * 7 + 1, none⟩) hbl1]; exact hc11
        have c21 : wr.cell? ⟨b2, off2 + k * 7 + 1, none⟩ = some y1 := by rw [HB.out.cell (p := ⟨b2, off2 + k * 7 + 1, none⟩) hbl2]; exact hc21
        have c12 : wr.cell? ⟨b1, off1 + k * 7 + 2, none⟩ = some x2 := by rw [HB.out.cell (p := ⟨b1, off1 + k * 7 + 2, none⟩) hbl1]; exact hc12
        have c22 : wr.cell? ⟨b2, off2 + k * 7 + 2, none⟩ = some y2 := by rw [HB.out.cell (p := ⟨b2, off2 + k * 7 + 2, none⟩) hbl2]; exact hc22
        have c13 : wr.cell? ⟨b1, off1 + k * 7 + 3, none⟩ = some x3 := by rw [HB.out.cell (p := ⟨b1, off1 + k * 7 + 3, none⟩) hbl1]; exact hc13
        have c23 : wr.cell? ⟨b2, off2 + k * 7 + 3, none⟩ = some y3 := by rw [HB.out.cell (p := ⟨b2, off2 + k * 7 + 3, none⟩) hbl2]; exact hc23
        have c14 : wr.cell? ⟨b1, off1 + k * 7 + 4, none⟩ = some x4 := by rw [HB.out.cell (p := ⟨b1, off1 + k * 7 + 4, none⟩) hbl1]; exact hc14
        have c24 : wr.cell? ⟨b2, off2 + k * 7 + 4, none⟩ = some y4 := by rw [HB.out.cell (p := ⟨b2, off2 + k * 7 + 4, none⟩) hbl2]; exact hc24
        have c15 : wr.cell? ⟨b1, off1 + k * 7 + 5, none⟩ = some x5 := by rw [HB.out.cell (p := ⟨b1, off1 + k * 7 + 5, none⟩) hbl1]; exact hc15
        have c25 : wr.cell? ⟨b2, off2 + k * 7 + 5, none⟩ = some y5 := by rw [HB.out.cell (p := ⟨b2, off2 + k * 7 + 5, none⟩) hbl2]; exact hc25
        have c16 : wr.cell? ⟨b1, off1 + k * 7 + 6, none⟩ = some x6 := by rw [HB.out.cell (p := ⟨b1, off1 + k * 7 + 6, none⟩) hbl1]; exact hc16
        have c26 : wr.cell? ⟨b2, off2 + k * 7 + 6, none⟩ = some y6 := by rw [HB.out.cell (p := ⟨b2, off2 + k * 7 + 6, none⟩) hbl2]; exact hc26
        have HT1 := Lib.hid (ht1.below HB.out.drew)
        have HT2 := Lib.hid (ht2.below HB.out.drew)
        clear ht1 ht2 hc10 hc20 hc11 hc21 hc12 hc22 hc13 hc23 hc14 hc24 hc15 hc25 hc16 hc26
        go_wp2_with fail
        go_still_tail 8, (by kernel_rfl)
        change wpList _ _ _ _ _ wr.drew
        go_wp2_with fail
        refine (specEdt d _ _ _ _ wr.drew HT1.out HT2.out hg1 hg2).mono ?_
        rintro e w' ⟨rfl, hb1⟩
        have HN := Lib.hid (HB.out.drew.trans (hb1.mono HB.out.drew.size))
        clear hb1
        cases hfk : cs[k].beq bs[k] with
        | true =>
          have HK : Hid (Edt.beqs (cs.take (k + 1)) (bs.take (k + 1)) = true) := by show _ = _; rw [HTK.out, HF.out, hfk]; rfl
          clear hfk
          go_wp2_with fail
          exact ⟨⟨k + 1, by omega, by go_num, HK.out, HN.out⟩, by simp [intOf]; omega⟩
        | false =>
          have HK := Lib.hid (HBAD.out hfk)
          clear hfk
          go_wp2_with fail
          go_ret
          exact ⟨by rw [HK.out]; rfl, HN.out⟩
      · obtain rfl : k = cs.length := by omega
        have HK : Hid (Edt.beqs cs bs = true) := by
          have := HF.out
          rw [List.take_length, HL.out, List.take_length] at this; exact this
        go_wp2_with fail
        go_ret
        exact ⟨by rw [HK.out]; rfl, HB.out⟩
end Go.Proofs.Ytddfeecnimdikaa
