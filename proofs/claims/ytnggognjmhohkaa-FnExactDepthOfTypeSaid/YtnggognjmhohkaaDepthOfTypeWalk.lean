/-
  Proved: the law FnExactDepthOfType answers true for every type, and leaves the memory that was there as it was.
-/
import Derived.Test.YtnggognjmhohkaaToType
import Derived.Deep.RegionHeld3
import Derived.Deep.RegionWith
import Derived.Test.YtnggognjmhohkaaSzType
import Derived.Test.YtnggognjmhohkaaEqType
import Derived.Test.YtnggognjmhohkaaImplDepth
namespace Go.Proofs.Ytnggognjmhohkaa
open Go.RowKit

set_option maxRecDepth 100000 in
set_option maxHeartbeats 1000000 in
theorem depthOfTypeWalk (d : Nat) (v : Value) (t : Ty) (w : World) (h : TyAt w d v t) :
    Calls Try.prog 5 #[v] w fun e w' => e = .returned (.bool true) ∧ Below w.heap.size w w' := by
  have HT := Lib.hid h
  obtain ⟨q0, q1, rfl⟩ : ∃ q0 q1, v = .agg #[q0, q1] := by
    cases d with
    | zero => exact h.elim
    | succ d => cases t with | node k ts => obtain ⟨sl, rfl, _⟩ := h; exact ⟨_, _, rfl⟩
  clear h
  go_enter Try.func5, Try.ntmps5
  go_wp2_with fail
  have X0 : Below w.heap.size w (w.alloc (.cells #[q0, q1] 37)) := (Below.refl _ _).alloc (Nat.le_refl _) _
  refine (szTy_all d _ t 1048576 _ (by omega) (by omega) (HT.out.below X0)).mono ?_
  rintro e w1 ⟨r, rfl, hb1, hr⟩
  have B1 := Lib.hid (box_next (Below.refl _ _) hb1); clear hb1 X0
  rcases hr with ⟨hr, hr2⟩ | ⟨hr, hr2⟩
  · go_wp2_with fail
    go_ret
    exact ⟨rfl, box_below B1.out⟩
  · have hn : t.size ≤ 1048577 := by have := t.size_pos; omega
    clear hr2
    have c0 := box_cell B1.out 0
    have c1 := box_cell B1.out 1
    go_wp2_with fail
    refine ((toTy_all d).1 _ t _ hn (HT.out.below (box_below B1.out))).mono ?_
    rintro e w2 ⟨v2, fp2, rfl, ht2, hf2, hb2⟩
    have HT2 := Lib.hid ht2.at_; clear ht2 hf2
    have B2 := Lib.hid (box_next B1.out hb2); clear hb2 B1 c0 c1
    go_wp2_with fail
    refine (specDepth d v2 t _ HT2.out (by omega)).mono ?_
    rintro e w3 ⟨rfl, hb3⟩
    have B3 := Lib.hid (box_next B2.out hb3); clear hb3 B2
    have c0 := box_cell B3.out 0
    have c1 := box_cell B3.out 1
    go_wp2_with fail
    refine ((toTy_all d).1 _ t _ hn (HT.out.below (box_below B3.out))).mono ?_
    rintro e w4 ⟨v4, fp4, rfl, ht4, hf4, hb4⟩
    obtain ⟨yk, ya, yn, yc, rfl, HY4⟩ := ty_parts ht4
    have HT4 := Lib.hid HY4.out.at_; clear ht4 hf4 HY4
    have B4 := Lib.hid (box_next B3.out hb4); clear hb4 B3 c0 c1
    go_wp2_with fail
    have X4 : Below w4.heap.size w4 (w4.alloc (.cells #[.int .i64 yk, .slice ya yn yc] 26)) := (Below.refl _ _).alloc (Nat.le_refl _) _
    have B4a := Lib.hid (box_next B4.out X4); clear B4
    have HT4a := Lib.hid (HT4.out.below X4); clear HT4 X4
    refine (implDepth d _ t _ HT4a.out (by omega)).mono ?_
    rintro e w5 ⟨rfl, hb5⟩
    have HT5 := Lib.hid (HT4a.out.below hb5); clear HT4a
    have BX := Lib.hid (box_next (Below.refl _ _) hb5)
    have B5 := Lib.hid (box_next B4a.out hb5); clear hb5 B4a
    have c0 := box_cell B5.out 0
    have c1 := box_cell B5.out 1
    have x0 := box_cell BX.out 0
    have x1 := box_cell BX.out 1
    go_wp2_with fail
    have HTB : Hid (∀ w', Below w5.heap.size w5 w' → TyAt w' d (.agg #[q0, q1]) t) := fun w' hb => HT.out.below ((box_below B5.out).trans (hb.mono (box_below B5.out).size))
    have HXB : Hid (∀ w', Below w5.heap.size w5 w' → TyAt w' d (.agg #[.int .i64 yk, .slice ya yn yc]) t) := fun w' hb => HT5.out.below hb
    have hz5 : w4.heap.size < w5.heap.size := by have := BX.out.size; simp at this; omega
    go_region_with (first
      | (go_at_call 38; refine ((toTy_all d).1 _ t _ hn (HTB.out _ (by repeat (first | exact Below.refl _ _ | apply Below.drew)))).mono ?_; rintro e w6 ⟨v6, fp6, rfl, ht6, hf6, hb6⟩
         have y0 := (hb6.cell (p := ⟨w4.heap.size, 0, none⟩) hz5).trans x0
         have y1 := (hb6.cell (p := ⟨w4.heap.size, 1, none⟩) hz5).trans x1
         have B6 := Lib.hid ((show Below w5.heap.size w5 _ from (by repeat (first | exact Below.refl _ _ | apply Below.drew))).trans hb6)
         have H6 := Lib.hid ht6.at_
         clear ht6 hf6 hb6)
      | (go_at_call 39
         refine (eqTy_all d _ v6 t _ (HXB.out _ (by first | exact B6.out | exact B6.out.drew | exact B6.out.drew.drew)) (H6.out.below (by repeat (first | exact Below.refl _ _ | apply Below.drew)))).mono ?_
         rintro e w7 ⟨rfl, hb7⟩
         have B7 := Lib.hid (B6.out.trans (hb7.mono B6.out.size)); clear hb7))
    all_goals go_wp2_with fail
    all_goals go_ret
    all_goals exact ⟨rfl, (box_below B5.out).trans (B7.out.mono (box_below B5.out).size)⟩
end Go.Proofs.Ytnggognjmhohkaa
