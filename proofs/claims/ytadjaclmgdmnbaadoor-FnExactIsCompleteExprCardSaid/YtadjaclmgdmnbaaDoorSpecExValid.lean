/-
  Proved: spec.IsValidExpr says whether an expression is valid; the memory that was there stays as it was.
-/
import Derived.Test.YtadjaclmgdmnbaaDoorSpecExLeft
import Derived.Test.YtadjaclmgdmnbaaDoorSpecExDepth
namespace Go.Proofs.YtadjaclmgdmnbaaDoor
open Go.RowKit

theorem valid_left {t : Ex} {r : Int} (h : LeftsTo t 40 r) : t.valid = (decide (0 ≤ r) && (decide (t.high ≤ 12) && t.form)) := by
  obtain ⟨a0, a1, a2, a3⟩ := h
  by_cases hr : 0 ≤ r
  · have := a2 hr
    have hc : t.count ≤ 40 := by omega
    simp [Ex.valid, hc, hr]
  · cases hf : t.form with
    | false => simp [Ex.valid, hf]
    | true =>
      have hc : ¬ (t.count ≤ 40) := fun hc => hr (a3 hf (by omega))
      simp [Ex.valid, hc, hr]
set_option maxRecDepth 100000 in
set_option maxHeartbeats 2000000 in
theorem specExValid (d : Nat) (v : Value) (t : Ex) (w : World) (h : ExAt w d v t) (hsz : t.bulk ≤ 1048576) :
    Calls Tryd.prog 9 #[v] w fun e w' => e = .returned (.bool t.valid) ∧ Below w.heap.size w w' := by
  have HT := Lib.hid h
  obtain ⟨yk, ynm, yn, ytk, yta, ytn, ytc, ya, ym, yc, rfl⟩ := ex_parts h
  clear h
  have E0 : Below w.heap.size w (w.alloc (.cells #[.int .i64 yk, .string ynm, .int .i64 yn, .int .i64 ytk, .slice yta ytn ytc, .slice ya ym yc] 35)) := below_alloc _ _
  have HT0 := Lib.hid (HT.out.below E0)
  clear E0
  go_enter Tryd.func9, Tryd.ntmps9
  go_wp2_with fail
  refine (specExLeft d _ t 40 _ (by omega) (by omega) HT0.out hsz).mono ?_
  rintro e w1 ⟨r, rfl, hr, hb1⟩
  have B1 := Lib.hid (box_next (Below.refl _ _) hb1); clear hb1
  have hv := valid_left hr
  obtain ⟨hr0, hr1, _, _⟩ := hr
  have HV := Lib.hid hv; clear hv
  have c0 := box_cell B1.out 0
  have c1 := box_cell B1.out 1
  have c2 := box_cell B1.out 2
  have c3 := box_cell B1.out 3
  have c4 := box_cell B1.out 4
  have c5 := box_cell B1.out 5
  by_cases q1 : r < 0
  · go_wp2_with fail
    go_ret
    exact ⟨by rw [HV.out]; simp; omega, box_below B1.out⟩
  · go_wp2_with fail
    refine (specExDepth d _ t _ (HT.out.below (box_below B1.out)) hsz).mono ?_
    rintro e w2 ⟨rfl, hb2⟩
    have B2 := Lib.hid (box_next B1.out hb2); clear hb2 B1 c0 c1 c2 c3 c4 c5
    have c0 := box_cell B2.out 0
    have c1 := box_cell B2.out 1
    have c2 := box_cell B2.out 2
    have c3 := box_cell B2.out 3
    have c4 := box_cell B2.out 4
    have c5 := box_cell B2.out 5
    have hdl : t.high ≤ 1048577 := by have := t.high_le; omega
    by_cases q2 : t.high ≤ 12
    · go_wp2_with fail
      refine (specExForm d _ t _ (HT.out.below (box_below B2.out)) hsz).mono ?_
      rintro e w3 ⟨rfl, hb3⟩
      have B3 := Lib.hid (box_next B2.out hb3); clear hb3 B2 c0 c1 c2 c3 c4 c5
      go_wp2_with fail
      go_ret
      exact ⟨by rw [HV.out]; simp [q2, show 0 ≤ r by omega], box_below B3.out⟩
    · go_wp2_with fail
      go_ret
      exact ⟨by rw [HV.out]; simp [q2], box_below B2.out⟩
end Go.Proofs.YtadjaclmgdmnbaaDoor
