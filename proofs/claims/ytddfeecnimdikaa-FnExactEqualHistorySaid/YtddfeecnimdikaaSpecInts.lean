/-
  Proved: spec.l11Ints says whether two lists of numbers are equal; it leaves the memory that was there as it was.
-/
import Derived.Test.YtddfeecnimdikaaSpecWithin
namespace Go.Proofs.Ytddfeecnimdikaa
open Go.RowKit

set_option maxRecDepth 100000 in
set_option maxHeartbeats 1000000 in
theorem specInts (v1 v2 : Value) (ps os : List Int) (_hn : ps.length ≤ 1048576) (hm : os.length ≤ 1048576) (w : World) (h1 : Ints w v1 ps) (h2 : Ints w v2 os) :
    Calls Try.prog 61 #[v1, v2] w fun e w' => e = .returned (.bool (decide (ps = os))) ∧ Below w.heap.size w w' := by
  have H1 := Lib.hid h1
  have H2 := Lib.hid h2
  obtain ⟨a1, cap1, rfl, hcap1, hat1⟩ := h1
  obtain ⟨a2, cap2, rfl, hcap2, hat2⟩ := h2
  clear hat1 hat2
  by_cases hl : ps.length = os.length
  case neg =>
    have HF : Hid (decide (ps = os) = false) := by show _ = _; rw [decide_eq_false_iff_not]; intro e; exact hl (congrArg List.length e)
    go_enter Try.func61, Try.ntmps61
    have qb : ((ps.length : Int) == (os.length : Int)) = false := by simp; omega
    go_wp2_with fail
    go_ret
    exact ⟨by rw [HF.out]; rfl, Below.refl _ _⟩
  case pos =>
    have HE : Hid (leads ps os = decide (ps = os)) := by
      show _ = _
      unfold leads
      rw [show ps.take os.length = ps from by rw [← hl]; exact List.take_length]
      by_cases e : ps = os
      · rw [decide_eq_true e, decide_eq_true e.symm]
      · rw [decide_eq_false e, decide_eq_false (fun h => e h.symm)]
    have qb0 : ((ps.length : Int) == (os.length : Int)) = true := by simp; omega
    clear hl
    go_enter Try.func61, Try.ntmps61
    go_wp2_with fail
    refine (specWithin _ _ ps os hm _ H1.out H2.out).mono ?_
    rintro e w' ⟨rfl, hb⟩
    have HB := Lib.hid hb; clear hb
    go_wp2_with fail
    go_ret
    exact ⟨by rw [HE.out]; rfl, HB.out⟩
end Go.Proofs.Ytddfeecnimdikaa
