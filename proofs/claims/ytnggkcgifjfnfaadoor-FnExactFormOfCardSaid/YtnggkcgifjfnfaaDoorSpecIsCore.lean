/-
  Proved: spec.IsCore says whether a core expression is valid; the memory that was there stays as it was.
-/
import Derived.Test.YtnggkcgifjfnfaaDoorSpecCoLeft
import Derived.Test.YtnggkcgifjfnfaaDoorSpecCoForm
namespace Go.Proofs.YtnggkcgifjfnfaaDoor
open Go.RowKit

theorem co_valid {t : Co} {b : Bool} (h : b = decide (0 ≤ max ((600 : Int) - t.count) (-1))) : t.valid = (b && t.form) := by
  have e : decide (0 ≤ max ((600 : Int) - t.count) (-1)) = decide (t.count ≤ 600) := decide_eq_decide.2 (by omega)
  rw [h, e]; rfl
set_option maxRecDepth 100000 in
set_option maxHeartbeats 2000000 in
theorem specIsCore (d : Nat) (v : Value) (t : Co) (w : World) (h : CoAt w d v t) (hsz : t.bulk ≤ 1048576) :
    Calls Tryd.prog 15 #[v] w fun e w' => e = .returned (.bool t.valid) ∧ Below w.heap.size w w' := by
  have HT := Lib.hid h
  obtain ⟨yk, ynm, yn, yfk, yfa, yfn, yfc, ytk, yta, ytn, ytc, ya, ym, yc, za, zm, zc, rfl⟩ := co_parts h
  clear h
  have B0 : Hid (Below (w.heap.size + 1) (w.alloc (.cells #[.int .i64 yk, .string ynm, .int .i64 yn, .int .i64 yfk, .slice yfa yfn yfc, .int .i64 ytk, .slice yta ytn ytc, .slice ya ym yc, .slice za zm zc] 37)) (w.alloc (.cells #[.int .i64 yk, .string ynm, .int .i64 yn, .int .i64 yfk, .slice yfa yfn yfc, .int .i64 ytk, .slice yta ytn ytc, .slice ya ym yc, .slice za zm zc] 37))) := Below.refl _ _
  have HT0 := Lib.hid (HT.out.below (box_below B0.out))
  go_enter Tryd.func15, Tryd.ntmps15
  go_wp2_with fail
  refine (specCoLeft d _ t 600 _ (by omega) (by omega) HT0.out hsz).mono ?_
  rintro e w1 ⟨rfl, hb1⟩
  have B1 := Lib.hid (box_next B0.out hb1); clear hb1
  have hv := @co_valid t _ rfl
  obtain ⟨r, hr⟩ : ∃ r, r = max ((600 : Int) - t.count) (-1) := ⟨_, rfl⟩
  rw [← hr] at hv ⊢
  have HV := Lib.hid hv; clear hv hr
  have c0 := box_cell B1.out 0
  have c1 := box_cell B1.out 1
  have c2 := box_cell B1.out 2
  have c3 := box_cell B1.out 3
  have c4 := box_cell B1.out 4
  have c5 := box_cell B1.out 5
  have c6 := box_cell B1.out 6
  have c7 := box_cell B1.out 7
  have c8 := box_cell B1.out 8
  by_cases q1 : r < 0
  · go_wp2_with fail
    go_ret
    exact ⟨by rw [HV.out]; simp; omega, box_below B1.out⟩
  · go_wp2_with fail
    refine (specCoForm d _ t _ (HT.out.below (box_below B1.out)) hsz).mono ?_
    rintro e w3 ⟨rfl, hb3⟩
    have B3 := Lib.hid (box_next B1.out hb3); clear hb3 B1 c0 c1 c2 c3 c4 c5 c6 c7 c8
    go_wp2_with fail
    go_ret
    exact ⟨by rw [HV.out]; simp [show 0 ≤ r by omega], box_below B3.out⟩
end Go.Proofs.YtnggkcgifjfnfaaDoor
