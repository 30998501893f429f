/-
  Proved: laws.eqTyping and eqTypingS answer true for two readings of the same typings, and change no memory that was there.
-/
import Derived.Test.YtfidcblaabeaaaaBindAt
import Derived.Test.YtfidcblaabeaaaaEqType
import Derived.Test.YtfidcblaabeaaaaTyEq
import Derived.StillTailTactics
namespace Go.Proofs.Ytfidcblaabeaaaa
open Go.RowKit

set_option maxRecDepth 100000 in
set_option maxHeartbeats 2000000 in
theorem eqBi (d : Nat) (v1 v2 : Value) (t : Bi) (w : World) (h1 : BiAt w d v1 t) (h2 : BiAt w d v2 t) :
    Calls Try.prog 73 #[v1, v2] w (EqTrueEnd w) := by
  cases t with
  | mk nm ty =>
    obtain ⟨tk, ta, tn, tc, rfl, hnm, hty1⟩ := h1
    obtain ⟨uk, ua, un, uc, rfl, _, hty2⟩ := h2
    dsimp only at hnm hty1 hty2 ⊢
    have e2 : Below w.heap.size w ((w.alloc (.cells #[.string nm, .int .i64 tk, .slice ta tn tc] 111)).alloc (.cells #[.string nm, .int .i64 uk, .slice ua un uc] 111)) := ((Below.refl _ _).alloc (Nat.le_refl _) _).alloc (by simp) _
    have HY1 := Lib.hid (hty1.below e2)
    have HY2 := Lib.hid (hty2.below e2)
    clear e2 hty1 hty2
    go_enter Try.func73, Try.ntmps73
    go_wp2_with fail
    refine (eqTy_all d _ _ ty _ HY1.out HY2.out).mono ?_
    rintro e w' ⟨rfl, hb1⟩
    have HB := Lib.hid (two_on (Below.refl _ _) hb1)
    clear hb1
    go_wp2_with fail
    go_ret
    exact ⟨rfl, two_below HB.out⟩

set_option maxRecDepth 100000 in
set_option maxHeartbeats 2000000 in
theorem eqBis (d : Nat) (v1 v2 : Value) (ts : List Bi) (w : World) (h1 : BisAt w d v1 ts) (h2 : BisAt w d v2 ts) :
    Calls Try.prog 26 #[v1, v2] w (EqTrueEnd w) := by
  obtain ⟨a1, cap1, rfl, hcap1, hm1, hat1⟩ := h1
  obtain ⟨a2, cap2, rfl, hcap2, hm2, hat2⟩ := h2
  have HA1 := Lib.hid hat1; clear hat1
  have HA2 := Lib.hid hat2; clear hat2
  go_enter Try.func26, Try.ntmps26
  go_wp2_with fail
  go_loopw [5] (fun i wr => ∃ k : Nat, k ≤ ts.length ∧ i = .int .i64 k ∧ Below w.heap.size w wr) (fun i _ => ts.length - (intOf i).toNat)
  case atStart => exact ⟨0, by omega, rfl, Below.refl _ _⟩
  case round =>
    obtain ⟨k, hk, rfl, hb⟩ := hrel
    have HB := Lib.hid hb; clear hb
    by_cases hlt : k < ts.length
    · obtain ⟨b1, off1, x0, x1, x2, rfl, hbl1, hc10, hc11, hc12, ht1⟩ := HA1.out k hlt
      obtain ⟨b2, off2, y0, y1, y2, rfl, hbl2, hc20, hc21, hc22, ht2⟩ := HA2.out k hlt
      have c10 : wr.cell? ⟨b1, off1 + k * 3, none⟩ = some x0 := by rw [HB.out.cell (p := ⟨b1, off1 + k * 3, none⟩) hbl1]; exact hc10
      have c20 : wr.cell? ⟨b2, off2 + k * 3, none⟩ = some y0 := by rw [HB.out.cell (p := ⟨b2, off2 + k * 3, none⟩) hbl2]; exact hc20
      have c11 : wr.cell? ⟨b1, off1 + k * 3 + 1, none⟩ = some x1 := by rw [HB.out.cell (p := ⟨b1, off1 + k * 3 + 1, none⟩) hbl1]; exact hc11
      have c21 : wr.cell? ⟨b2, off2 + k * 3 + 1, none⟩ = some y1 := by rw [HB.out.cell (p := ⟨b2, off2 + k * 3 + 1, none⟩) hbl2]; exact hc21
      have c12 : wr.cell? ⟨b1, off1 + k * 3 + 2, none⟩ = some x2 := by rw [HB.out.cell (p := ⟨b1, off1 + k * 3 + 2, none⟩) hbl1]; exact hc12
      have c22 : wr.cell? ⟨b2, off2 + k * 3 + 2, none⟩ = some y2 := by rw [HB.out.cell (p := ⟨b2, off2 + k * 3 + 2, none⟩) hbl2]; exact hc22
      have HT1 := Lib.hid (ht1.below HB.out.drew)
      have HT2 := Lib.hid (ht2.below HB.out.drew)
      clear ht1 ht2 hc10 hc11 hc12 hc20 hc21 hc22
      go_wp2_with fail
      go_still_tail 8, (by kernel_rfl)
      change wpList _ _ _ _ _ wr.drew
      go_wp2_with fail
      refine (eqBi d _ _ _ wr.drew HT1.out HT2.out).mono ?_
      rintro e w' ⟨rfl, hb1⟩
      have HB2 := Lib.hid (HB.out.drew.trans (hb1.mono HB.out.drew.size)); clear hb1
      go_wp2_with fail
      exact ⟨⟨k + 1, by omega, by go_num, HB2.out⟩, by simp [intOf]; omega⟩
    · go_wp2_with fail
      go_ret
      exact ⟨rfl, HB.out⟩
end Go.Proofs.Ytfidcblaabeaaaa
