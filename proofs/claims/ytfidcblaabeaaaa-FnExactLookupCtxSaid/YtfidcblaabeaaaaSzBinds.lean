/-
  Proved: laws.szTyping and szTypingS say whether what typings hold fits into what is left; they leave the memory that was there as it was.
-/
import Derived.Test.YtfidcblaabeaaaaBindAt
import Derived.Test.YtfidcblaabeaaaaSzType
import Derived.Test.YtfidcblaabeaaaaHold
namespace Go.Proofs.Ytfidcblaabeaaaa
open Go.RowKit

set_option maxRecDepth 100000 in
set_option maxHeartbeats 2000000 in
theorem szBi (d : Nat) (v : Value) (t : Bi) (left : Int) (w : World) (hl0 : 0 ≤ left) (hl1 : left ≤ 1048576) (h : BiAt w d v t) :
    Calls Try.prog 68 #[v, .int .i64 left] w (SzTyEnd t.bulk left w) := by
  cases t with
  | mk nm ty =>
    obtain ⟨tk, ta, tn, tc, rfl, hnm, hty⟩ := h
    dsimp only at hnm hty ⊢
    have hb0 := below_alloc w (.cells #[.string nm, .int .i64 tk, .slice ta tn tc] 109)
    have HTY := Lib.hid (hty.below hb0)
    clear hty hb0
    have hbk : Hid ((Bi.mk nm ty).bulk = nm.size + (ty.size - 1)) := rfl
    by_cases hneg : left - (nm.size : Int) < 0
    · go_enter Try.func68, Try.ntmps68
      go_wp2_with fail
      go_ret
      exact ⟨-1, rfl, below_alloc _ _, Or.inl ⟨by omega, by omega⟩⟩
    · go_enter Try.func68, Try.ntmps68
      go_wp2_with fail
      refine (szTy_all d _ ty _ _ (by omega) (by omega) HTY.out).mono ?_
      rintro e w' ⟨r, rfl, hb1, hr⟩
      have HN := Lib.hid (below_thru (below_alloc w (.cells #[.string nm, .int .i64 tk, .slice ta tn tc] 109)) (Nat.le_refl _) hb1)
      clear hb1
      rcases hr with ⟨hr, hr2⟩ | ⟨hr, hr2⟩
      · go_wp2_with fail
        go_ret
        exact ⟨-1, rfl, HN.out, Or.inl ⟨by omega, by omega⟩⟩
      · go_wp2_with fail
        go_ret
        exact ⟨r, rfl, HN.out, Or.inr ⟨hr, by rw [hbk.out]; omega⟩⟩

set_option maxRecDepth 100000 in
set_option maxHeartbeats 2000000 in
theorem szBis (d : Nat) (v : Value) (ts : List Bi) (left : Int) (w : World) (hl0 : 0 ≤ left) (hl1 : left ≤ 1048576) (h : BisAt w d v ts) :
    Calls Try.prog 21 #[v, .int .i64 left] w (SzTyEnd (Bi.bulks ts) left w) := by
  obtain ⟨a, cap, rfl, hcap, hcap2, hat⟩ := h
  have HAT := Lib.hid hat; clear hat
  by_cases hneg : left - ts.length < 0
  · have HLN := Lib.hid (Bi.length_le ts)
    go_enter Try.func21, Try.ntmps21
    go_wp2_with fail
    go_ret
    exact ⟨-1, rfl, Below.refl _ _, Or.inl ⟨by omega, by omega⟩⟩
  · go_enter Try.func21, Try.ntmps21
    go_wp2_with fail
    go_loopw [1, 5] (fun l i wr => ∃ (k : Nat) (m : Int), k ≤ ts.length ∧ i = .int .i64 k ∧ l = .int .i64 m ∧ 0 ≤ m ∧ m ≤ 1048576 ∧ m + (ts.length - k) + Bi.bulks (ts.take k) = left ∧ Below w.heap.size w wr) (fun _ i _ => ts.length - (intOf i).toNat)
    case atStart => exact ⟨0, left - ts.length, by omega, rfl, rfl, by omega, by omega, by simp [Bi.bulks], Below.refl _ _⟩
    case round =>
      obtain ⟨k, m, hk, rfl, rfl, hm0, hm1, he, hb⟩ := hrel
      have HE := Lib.hid he; clear he
      have HB := Lib.hid hb; clear hb
      by_cases hlt : k < ts.length
      · obtain ⟨b, off, x0, x1, x2, rfl, hbl, hc0, hc1, hc2, ht⟩ := HAT.out k hlt
        have e0 : wr.cell? ⟨b, off + k * 3, none⟩ = some x0 := by rw [HB.out.cell (p := ⟨b, off + k * 3, none⟩) hbl]; exact hc0
        have e1 : wr.cell? ⟨b, off + k * 3 + 1, none⟩ = some x1 := by rw [HB.out.cell (p := ⟨b, off + k * 3 + 1, none⟩) hbl]; exact hc1
        have e2 : wr.cell? ⟨b, off + k * 3 + 2, none⟩ = some x2 := by rw [HB.out.cell (p := ⟨b, off + k * 3 + 2, none⟩) hbl]; exact hc2
        have HT := Lib.hid (ht.below HB.out)
        have HS := Lib.hid (Bi.bulks_take ts k hlt)
        clear ht hc0 hc1 hc2
        go_wp2_with fail
        refine (szBi d _ _ m wr hm0 hm1 HT.out).mono ?_
        rintro e w' ⟨r, rfl, hb1, hr⟩
        have HN := Lib.hid (HB.out.trans (hb1.mono HB.out.size)); clear hb1
        rcases hr with ⟨hr, hr2⟩ | ⟨hr, hr2⟩
        · go_wp2_with fail
          go_ret
          exact ⟨-1, rfl, HN.out, Or.inl ⟨by omega, by omega⟩⟩
        · have HR := Lib.hid hr2; clear hr2
          have hr3 : r ≤ 1048576 := by have := HR.out; omega
          go_wp2_with fail
          exact ⟨⟨k + 1, r, by omega, by go_num, rfl, hr, hr3, by rw [HS.out]; have h1 := HE.out; have h2 := HR.out; omega, HN.out⟩, by simp [intOf]; omega⟩
      · obtain rfl : k = ts.length := by omega
        go_wp2_with fail
        go_ret
        refine ⟨m, rfl, HB.out, Or.inr ⟨hm0, ?_⟩⟩
        have := HE.out
        rw [List.take_length] at this; omega
end Go.Proofs.Ytfidcblaabeaaaa
