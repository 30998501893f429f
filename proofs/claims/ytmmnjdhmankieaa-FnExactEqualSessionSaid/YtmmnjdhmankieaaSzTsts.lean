/-
  Proved: laws.szTestS says whether what the list holds fits into what is left; it leaves the memory that was there as it was.
-/
import Derived.Test.YtmmnjdhmankieaaAtTsts
import Derived.Test.YtmmnjdhmankieaaSzTst
namespace Go.Proofs.Ytmmnjdhmankieaa
open Go.RowKit

set_option maxRecDepth 100000 in
set_option maxHeartbeats 4000000 in
theorem szTsts (d : Nat) (v : Value) (ts : List Tst) (left : Int) (w : World) (hl0 : 0 ≤ left) (hl1 : left ≤ 1048576) (h : TstsAt w d v ts) :
    Calls Try.prog 50 #[v, .int .i64 left] w (SzTyEnd (Tst.bulks ts) left w) := by
  obtain ⟨a, cap, rfl, hcap, hcap2, hat⟩ := h
  have HAT := Lib.hid hat; clear hat
  by_cases hneg : left - ts.length < 0
  · have HLN := Lib.hid (Tst.length_le ts)
    go_enter Try.func50, Try.ntmps50
    go_wp2_with fail
    go_ret
    exact ⟨-1, rfl, Below.refl _ _, Or.inl ⟨by omega, by have := HLN.out; omega⟩⟩
  · go_enter Try.func50, Try.ntmps50
    go_wp2_with fail
    go_loopw [1, 5] (fun l i wr => ∃ (k : Nat) (m : Int), k ≤ ts.length ∧ i = .int .i64 k ∧ l = .int .i64 m ∧ 0 ≤ m ∧ m ≤ 1048576 ∧ m + (ts.length - k) + Tst.bulks (ts.take k) = left ∧ Below w.heap.size w wr) (fun _ i _ => ts.length - (intOf i).toNat)
    case atStart => exact ⟨0, left - ts.length, by omega, rfl, rfl, by omega, by omega, by simp [Tst.bulks], Below.refl _ _⟩
    case round =>
      obtain ⟨k, m, hk, rfl, rfl, hm0, hm1, he, hb⟩ := hrel
      have HE := Lib.hid he; clear he
      have HB := Lib.hid hb; clear hb
      by_cases hlt : k < ts.length
      · obtain ⟨b, off, x0, x1, x2, x3, x4, x5, x6, x7, x8, x9, x10, x11, rfl, hbl, hc0, hc1, hc2, hc3, hc4, hc5, hc6, hc7, hc8, hc9, hc10, hc11, ht⟩ := HAT.out k hlt
        have e0 : wr.cell? ⟨b, off + k * 12, none⟩ = some x0 := by rw [HB.out.cell (p := ⟨b, off + k * 12, none⟩) hbl]; exact hc0
        have e1 : wr.cell? ⟨b, off + k * 12 + 1, none⟩ = some x1 := by rw [HB.out.cell (p := ⟨b, off + k * 12 + 1, none⟩) hbl]; exact hc1
        have e2 : wr.cell? ⟨b, off + k * 12 + 2, none⟩ = some x2 := by rw [HB.out.cell (p := ⟨b, off + k * 12 + 2, none⟩) hbl]; exact hc2
        have e3 : wr.cell? ⟨b, off + k * 12 + 3, none⟩ = some x3 := by rw [HB.out.cell (p := ⟨b, off + k * 12 + 3, none⟩) hbl]; exact hc3
        have e4 : wr.cell? ⟨b, off + k * 12 + 4, none⟩ = some x4 := by rw [HB.out.cell (p := ⟨b, off + k * 12 + 4, none⟩) hbl]; exact hc4
        have e5 : wr.cell? ⟨b, off + k * 12 + 5, none⟩ = some x5 := by rw [HB.out.cell (p := ⟨b, off + k * 12 + 5, none⟩) hbl]; exact hc5
        have e6 : wr.cell? ⟨b, off + k * 12 + 6, none⟩ = some x6 := by rw [HB.out.cell (p := ⟨b, off + k * 12 + 6, none⟩) hbl]; exact hc6
        have e7 : wr.cell? ⟨b, off + k * 12 + 7, none⟩ = some x7 := by rw [HB.out.cell (p := ⟨b, off + k * 12 + 7, none⟩) hbl]; exact hc7
        have e8 : wr.cell? ⟨b, off + k * 12 + 8, none⟩ = some x8 := by rw [HB.out.cell (p := ⟨b, off + k * 12 + 8, none⟩) hbl]; exact hc8
        have e9 : wr.cell? ⟨b, off + k * 12 + 9, none⟩ = some x9 := by rw [HB.out.cell (p := ⟨b, off + k * 12 + 9, none⟩) hbl]; exact hc9
        have e10 : wr.cell? ⟨b, off + k * 12 + 10, none⟩ = some x10 := by rw [HB.out.cell (p := ⟨b, off + k * 12 + 10, none⟩) hbl]; exact hc10
        have e11 : wr.cell? ⟨b, off + k * 12 + 11, none⟩ = some x11 := by rw [HB.out.cell (p := ⟨b, off + k * 12 + 11, none⟩) hbl]; exact hc11
        have HT := Lib.hid (ht.below HB.out)
        have HS := Lib.hid (Tst.bulks_take ts k hlt)
        clear ht hc0 hc1 hc2 hc3 hc4 hc5 hc6 hc7 hc8 hc9 hc10 hc11
        go_wp2_with fail
        refine (szTst d _ _ m wr hm0 hm1 HT.out).mono ?_
        rintro e w' ⟨r, rfl, hb1, hr⟩
        have HN := Lib.hid (HB.out.trans (hb1.mono HB.out.size)); clear hb1
        have HL := Lib.hid (Tst.bulks_le ts (k + 1))
        rcases hr with ⟨hr, hr2⟩ | ⟨hr, hr2⟩
        · go_wp2_with fail
          go_ret
          exact ⟨-1, rfl, HN.out, Or.inl ⟨by omega, by have h1 := HE.out; have h2 := HS.out; have h3 := HL.out; omega⟩⟩
        · have HR := Lib.hid hr2; clear hr2
          have hr3 : r ≤ 1048576 := by have := HR.out; omega
          go_wp2_with fail
          exact ⟨⟨k + 1, r, by omega, by go_num, rfl, hr, hr3, by rw [HS.out]; have h1 := HE.out; have h2 := HR.out; omega, HN.out⟩, by simp [intOf]; omega⟩
      · obtain rfl : k = ts.length := by omega
        go_wp2_with fail
        go_ret
        refine ⟨m, rfl, HB.out, Or.inr ⟨hm0, ?_⟩⟩
        have := HE.out
        rw [List.take_length] at this; omega
end Go.Proofs.Ytmmnjdhmankieaa
