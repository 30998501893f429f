/-
  Proved: laws.szActionS says whether what the list holds fits into what is left; it leaves the memory that was there as it was.
-/
import Derived.Test.YtdgfkmnnjhlpbaaDoorAtActs
import Derived.Test.YtdgfkmnnjhlpbaaDoorSzAct
namespace Go.Proofs.YtdgfkmnnjhlpbaaDoor
open Go.RowKit

set_option maxRecDepth 100000 in
set_option maxHeartbeats 4000000 in
theorem szActs (d : Nat) (v : Value) (ts : List Act) (left : Int) (w : World) (hl0 : 0 ≤ left) (hl1 : left ≤ 1048576) (h : ActsAt w d v ts) :
    Calls Tryd.prog 16 #[v, .int .i64 left] w (SzTyEnd (Act.bulks ts) left w) := by
  obtain ⟨a, cap, rfl, hcap, hcap2, hat⟩ := h
  have HAT := Lib.hid hat; clear hat
  by_cases hneg : left - ts.length < 0
  · have HLN := Lib.hid (Act.length_le ts)
    go_enter Tryd.func16, Tryd.ntmps16
    go_wp2_with fail
    go_ret
    exact ⟨-1, rfl, Below.refl _ _, Or.inl ⟨by omega, by have := HLN.out; omega⟩⟩
  · go_enter Tryd.func16, Tryd.ntmps16
    go_wp2_with fail
    go_loopw [1, 5] (fun l i wr => ∃ (k : Nat) (m : Int), k ≤ ts.length ∧ i = .int .i64 k ∧ l = .int .i64 m ∧ 0 ≤ m ∧ m ≤ 1048576 ∧ m + (ts.length - k) + Act.bulks (ts.take k) = left ∧ Below w.heap.size w wr) (fun _ i _ => ts.length - (intOf i).toNat)
    case atStart => exact ⟨0, left - ts.length, by omega, rfl, rfl, by omega, by omega, by simp [Act.bulks], Below.refl _ _⟩
    case round =>
      obtain ⟨k, m, hk, rfl, rfl, hm0, hm1, he, hb⟩ := hrel
      have HE := Lib.hid he; clear he
      have HB := Lib.hid hb; clear hb
      by_cases hlt : k < ts.length
      · obtain ⟨b, off, x0, x1, x2, x3, x4, rfl, hbl, hc0, hc1, hc2, hc3, hc4, ht⟩ := HAT.out k hlt
        have e0 : wr.cell? ⟨b, off + k * 5, none⟩ = some x0 := by rw [HB.out.cell (p := ⟨b, off + k * 5, none⟩) hbl]; exact hc0
        have e1 : wr.cell? ⟨b, off + k * 5 + 1, none⟩ = some x1 := by rw [HB.out.cell (p := ⟨b, off + k * 5 + 1, none⟩) hbl]; exact hc1
        have e2 : wr.cell? ⟨b, off + k * 5 + 2, none⟩ = some x2 := by rw [HB.out.cell (p := ⟨b, off + k * 5 + 2, none⟩) hbl]; exact hc2
        have e3 : wr.cell? ⟨b, off + k * 5 + 3, none⟩ = some x3 := by rw [HB.out.cell (p := ⟨b, off + k * 5 + 3, none⟩) hbl]; exact hc3
        have e4 : wr.cell? ⟨b, off + k * 5 + 4, none⟩ = some x4 := by rw [HB.out.cell (p := ⟨b, off + k * 5 + 4, none⟩) hbl]; exact hc4
        have HT := Lib.hid (ht.below HB.out)
        have HS := Lib.hid (Act.bulks_take ts k hlt)
        clear ht hc0 hc1 hc2 hc3 hc4
        go_wp2_with fail
        refine (szAct d _ _ m wr hm0 hm1 HT.out).mono ?_
        rintro e w' ⟨r, rfl, hb1, hr⟩
        have HN := Lib.hid (HB.out.trans (hb1.mono HB.out.size)); clear hb1
        have HL := Lib.hid (Act.bulks_le ts (k + 1))
        rcases hr with ⟨hr, hr2⟩ | ⟨hr, hr2⟩
        · go_wp2_with fail
          go_ret
          exact ⟨-1, rfl, HN.out, Or.inl ⟨by omega, by have h1 := HE.out; have h2 := HS.out; have h3 := HL.out; omega⟩⟩
        · have HR := Lib.hid hr2; clear hr2
          have hr3 : r ≤ 1048576 := by have := HR.out; omega
          go_wp2_with fail
          exact ⟨⟨k + 1, r, by omega, by go_num, rfl, hr, hr3, by rw [HS.out]; have h1 := HE.out; have h2 := HR.out; omega, HN.out⟩, by simp [intOf]; omega⟩
      · obtain rfl : k = ts.length := by omega
        go_wp2_with fail
        go_ret
        refine ⟨m, rfl, HB.out, Or.inr ⟨hm0, ?_⟩⟩
        have := HE.out
        rw [List.take_length] at this; omega
end Go.Proofs.YtdgfkmnnjhlpbaaDoor
