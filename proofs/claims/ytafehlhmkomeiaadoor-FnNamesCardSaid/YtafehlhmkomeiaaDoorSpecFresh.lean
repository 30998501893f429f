/-
  Proved: spec.FreshName finds the first of the texts base, base1, base2 .. that is not in a list; the memory that was there stays as it was.
-/
import Derived.Test.YtafehlhmkomeiaaDoorFresh
import Derived.Test.YtafehlhmkomeiaaDoorSeen
import Derived.Test.YtafehlhmkomeiaaDoorFormat
namespace Go.Proofs.YtafehlhmkomeiaaDoor
open Go.RowKit

set_option maxRecDepth 100000 in
set_option maxHeartbeats 1000000 in
theorem specFresh (v : Value) (ss : List ByteArray) (base : ByteArray) (hn : ss.length ≤ 1048576) (hs : base.size ≤ 1048576) (w : World) (h : Strs w v ss) :
    Calls Tryd.prog 11 #[v, .string base] w fun e w' => ∃ m, e = .returned (.string (cand base m)) ∧ FreshAt ss base m ∧ Below w.heap.size w w' := by
  have HS := Lib.hid h; clear h
  go_enter Tryd.func11, Tryd.ntmps11
  go_wp2_with fail
  go_loopw [5, 6] (fun o i wr => ∃ m : Nat, i = .int .i64 ((m : Int) + 1) ∧ o = .string (cand base m) ∧ (∀ j, j < m → cand base j ∈ ss) ∧ Below w.heap.size w wr) (fun _ i _ => ss.length + 2 - (intOf i).toNat)
  case atStart => exact ⟨0, rfl, rfl, fun j hj => by omega, Below.refl _ _⟩
  case round =>
    obtain ⟨m, rfl, rfl, hm, hb⟩ := hrel
    have hfew := cand_few hm
    have HM := Lib.hid hm; clear hm
    have HB := Lib.hid hb; clear hb
    have hcs := cand_size (m := m) hs (by omega)
    go_wp2_with fail
    refine (specIndex v ss (cand base m) hn _ (HS.out.below HB.out)).mono ?_
    rintro e w1 ⟨rfl, hb1⟩
    have HB1 := Lib.hid (HB.out.trans (hb1.mono HB.out.size)); clear hb1
    have hmem := idx_mem ss (cand base m) 0
    by_cases q : cand base m ∈ ss
    · have hge : ¬ (idx ss (cand base m) 0 < 0) := by have := hmem.2 q; omega
      have HQ := Lib.hid q
      clear hmem q
      go_wp2_with fail
      refine (specFormat ((m : Int) + 1) (by omega) (by omega) _).mono ?_
      rintro e w2 ⟨rfl, hb2⟩
      have HB2 := Lib.hid (HB1.out.trans (hb2.mono HB1.out.size)); clear hb2
      have hle := itoa_short ((m : Int) + 1) (by omega) (by omega)
      have hcat : ¬ (9223372036854775807 < base.size + (ByteArray.mk (Lib.itoa ((m : Int) + 1)).toArray).size) := by
        show ¬ (_ < _ + (Lib.itoa ((m : Int) + 1)).toArray.size); simp; omega
      go_wp2_with fail
      refine ⟨⟨m + 1, by go_num, rfl, fun j hj => ?_, HB2.out⟩, by simp [intOf]; omega⟩
      by_cases e : j = m
      · rw [e]; exact HQ.out
      · exact HM.out j (by omega)
    · have hlt : idx ss (cand base m) 0 < 0 := by
        by_cases h : idx ss (cand base m) 0 < 0
        · exact h
        · exact absurd (hmem.1 (by omega)) q
      have HQ := Lib.hid q
      clear hmem q
      go_wp2_with fail
      go_ret
      exact ⟨m, rfl, ⟨HM.out, HQ.out⟩, HB1.out⟩
end Go.Proofs.YtafehlhmkomeiaaDoor
