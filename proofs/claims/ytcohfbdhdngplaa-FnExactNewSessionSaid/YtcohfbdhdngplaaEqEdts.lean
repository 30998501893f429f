/-
  Proved: laws.eqEditS answers true for two readings of the same list, and changes no memory that was there.
-/
import Derived.Test.YtcohfbdhdngplaaAtEdts
import Derived.Test.YtcohfbdhdngplaaEqEdt
import Derived.StillTailTactics
namespace Go.Proofs.Ytcohfbdhdngplaa
open Go.RowKit

set_option maxRecDepth 100000 in
set_option maxHeartbeats 4000000 in
theorem eqEdts (d : Nat) (v1 v2 : Value) (ts : List Edt) (w : World) (h1 : EdtsAt w d v1 ts) (h2 : EdtsAt w d v2 ts) :
    Calls Try.prog 76 #[v1, v2] w (EqTrueEnd w) := by
  obtain ⟨a1, cap1, rfl, hcap1, hm1, hat1⟩ := h1
  obtain ⟨a2, cap2, rfl, hcap2, hm2, hat2⟩ := h2
  have HA1 := Lib.hid hat1; clear hat1
  have HA2 := Lib.hid hat2; clear hat2
  go_enter Try.func76, Try.ntmps76
  go_wp2_with fail
  go_loopw [5] (fun i wr => ∃ k : Nat, k ≤ ts.length ∧ i = .int .i64 k ∧ Below w.heap.size w wr) (fun i _ => ts.length - (intOf i).toNat)
  case atStart => exact ⟨0, by omega, rfl, Below.refl _ _⟩
  case round =>
    obtain ⟨k, hk, rfl, hb⟩ := hrel
    have HB := Lib.hid hb; clear hb
    by_cases hlt : k < ts.length
    · obtain ⟨b1, off1, x0, x1, x2, x3, x4, x5, x6, rfl, hbl1, h10, h11, h12, h13, h14, h15, h16, ht1⟩ := HA1.out k hlt
      obtain ⟨b2, off2, y0, y1, y2, y3, y4, y5, y6, rfl, hbl2, h20, h21, h22, h23, h24, h25, h26, ht2⟩ := HA2.out k hlt
      have c10 : wr.cell? ⟨b1, off1 + k * 7, none⟩ = some x0 := by rw [HB.out.cell (p := ⟨b1, off1 + k * 7, none⟩) hbl1]; exact h10
      have c20 : wr.cell? ⟨b2, off2 + k * 7, none⟩ = some y0 := by rw [HB.out.cell (p := ⟨b2, off2 + k * 7, none⟩) hbl2]; exact h20
      have c11 : wr.cell? ⟨b1, off1 + k * 7 + 1, none⟩ = some x1 := by rw [HB.out.cell (p := ⟨b1, off1 + k * 7 + 1, none⟩) hbl1]; exact h11
      have c21 : wr.cell? ⟨b2, off2 + k * 7 + 1, none⟩ = some y1 := by rw [HB.out.cell (p := ⟨b2, off2 + k * 7 + 1, none⟩) hbl2]; exact h21
      have c12 : wr.cell? ⟨b1, off1 + k * 7 + 2, none⟩ = some x2 := by rw [HB.out.cell (p := ⟨b1, off1 + k * 7 + 2, none⟩) hbl1]; exact h12
      have c22 : wr.cell? ⟨b2, off2 + k * 7 + 2, none⟩ = some y2 := by rw [HB.out.cell (p := ⟨b2, off2 + k * 7 + 2, none⟩) hbl2]; exact h22
      have c13 : wr.cell? ⟨b1, off1 + k * 7 + 3, none⟩ = some x3 := by rw [HB.out.cell (p := ⟨b1, off1 + k * 7 + 3, none⟩) hbl1]; exact h13
      have c23 : wr.cell? ⟨b2, off2 + k * 7 + 3, none⟩ = some y3 := by rw [HB.out.cell (p := ⟨b2, off2 + k * 7 + 3, none⟩) hbl2]; exact h23
      have c14 : wr.cell? ⟨b1, off1 + k * 7 + 4, none⟩ = some x4 := by rw [HB.out.cell (p := ⟨b1, off1 + k * 7 + 4, none⟩) hbl1]; exact h14
      have c24 : wr.cell? ⟨b2, off2 + k * 7 + 4, none⟩ = some y4 := by rw [HB.out.cell (p := ⟨b2, off2 + k * 7 + 4, none⟩) hbl2]; exact h24
      have c15 : wr.cell? ⟨b1, off1 + k * 7 + 5, none⟩ = some x5 := by rw [HB.out.cell (p := ⟨b1, off1 + k * 7 + 5, none⟩) hbl1]; exact h15
      have c25 : wr.cell? ⟨b2, off2 + k * 7 + 5, none⟩ = some y5 := by rw [HB.out.cell (p := ⟨b2, off2 + k * 7 + 5, none⟩) hbl2]; exact h25
      have c16 : wr.cell? ⟨b1, off1 + k * 7 + 6, none⟩ = some x6 := by rw [HB.out.cell (p := ⟨b1, off1 + k * 7 + 6, none⟩) hbl1]; exact h16
      have c26 : wr.cell? ⟨b2, off2 + k * 7 + 6, none⟩ = some y6 := by rw [HB.out.cell (p := ⟨b2, off2 + k * 7 + 6, none⟩) hbl2]; exact h26
      have HT1 := Lib.hid (ht1.below HB.out.drew)
      have HT2 := Lib.hid (ht2.below HB.out.drew)
      clear ht1 ht2 h10 h11 h12 h13 h14 h15 h16 h20 h21 h22 h23 h24 h25 h26
      go_wp2_with fail
      go_still_tail 8, (by kernel_rfl)
      change wpList _ _ _ _ _ wr.drew
      go_wp2_with fail
      refine (eqEdt d _ _ _ wr.drew HT1.out HT2.out).mono ?_
      rintro e w' ⟨rfl, hb1⟩
      have HB2 := Lib.hid (HB.out.drew.trans (hb1.mono HB.out.drew.size)); clear hb1
      go_wp2_with fail
      exact ⟨⟨k + 1, by omega, by go_num, HB2.out⟩, by simp [intOf]; omega⟩
    · go_wp2_with fail
      go_ret
      exact ⟨rfl, HB.out⟩
end Go.Proofs.Ytcohfbdhdngplaa
