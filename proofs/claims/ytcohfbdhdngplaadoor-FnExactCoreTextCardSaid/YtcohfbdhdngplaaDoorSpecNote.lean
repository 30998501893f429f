/-
  Proved: spec.IsNote says whether a type's tree is a note; it leaves the memory that was there as it was.
-/
import Derived.Test.YtcohfbdhdngplaaDoorSpecValid
import Derived.Test.YtcohfbdhdngplaaDoorSpecSize
import Derived.Test.YtcohfbdhdngplaaDoorPart
namespace Go.Proofs.YtcohfbdhdngplaaDoor
open Go.RowKit

/-- A note: a valid type of at most 15 nodes, at most 5 deep. -/
def Ty.note (t : Ty) : Bool := t.valid && (decide (t.size ≤ 15) && decide (t.depth ≤ 5))
set_option maxRecDepth 100000 in
set_option maxHeartbeats 1000000 in
theorem specNote' (d : Nat) (v : Value) (t : Ty) (w : World) (h : TyAt w d v t) (hsz : t.size ≤ 1048577) :
    Calls Tryd.prog 125 #[v] w fun e w' => e = .returned (.bool (t.valid && (decide (t.size ≤ 15) && decide (t.depth ≤ 5)))) ∧ Below w.heap.size w w' := by
  have HT := Lib.hid h
  obtain ⟨yk, ya, yn, yc, rfl⟩ := agg_parts h
  clear h
  have E0 : Below w.heap.size w (w.alloc (.cells #[.int .i64 yk, .slice ya yn yc] 32)) := (Below.refl _ _).alloc (Nat.le_refl _) _
  have HT0 := Lib.hid (HT.out.below E0)
  clear E0
  go_enter Tryd.func125, Tryd.ntmps125
  go_wp2_with fail
  refine (specValid d _ t _ HT0.out hsz).mono ?_
  rintro e w1 ⟨rfl, hb1⟩
  have B1 := Lib.hid (box_next (Below.refl _ _) hb1); clear hb1
  have c0 := box_cell B1.out 0
  have c1 := box_cell B1.out 1
  cases hv : t.valid with
  | false =>
    have HV := Lib.hid hv; clear hv
    go_wp2_with fail
    go_ret
    exact ⟨by simp [HV.out], box_below B1.out⟩
  | true =>
    have HV := Lib.hid hv; clear hv
    go_wp2_with fail
    refine (specSize d _ t _ (HT.out.below (box_below B1.out)) (by omega)).mono ?_
    rintro e w2 ⟨rfl, hb2⟩
    have B2 := Lib.hid (box_next B1.out hb2); clear hb2 B1 c0 c1
    have c0 := box_cell B2.out 0
    have c1 := box_cell B2.out 1
    by_cases q1 : t.size ≤ 15
    · go_wp2_with fail
      refine (specDepth d _ t _ (HT.out.below (box_below B2.out)) (by omega)).mono ?_
      rintro e w3 ⟨rfl, hb3⟩
      have B3 := Lib.hid (box_next B2.out hb3); clear hb3 B2
      by_cases q2 : t.depth ≤ 5
      · have q3 : (t.depth : Int) ≤ 5 := by omega
        go_wp2_with fail
        go_ret
        exact ⟨by simp [HV.out, q1, q2], box_below B3.out⟩
      · have q3 : ¬ ((t.depth : Int) ≤ 5) := by omega
        go_wp2_with fail
        go_ret
        exact ⟨by simp [q2, q3], box_below B3.out⟩
    · go_wp2_with fail
      go_ret
      exact ⟨rfl, box_below B2.out⟩
theorem specNote (d : Nat) (v : Value) (t : Ty) (w : World) (h : TyAt w d v t) (hsz : t.size ≤ 1048577) :
    Calls Tryd.prog 125 #[v] w fun e w' => e = .returned (.bool t.note) ∧ Below w.heap.size w w' :=
  (specNote' d v t w h hsz).mono fun _ _ h => h
end Go.Proofs.YtcohfbdhdngplaaDoor
