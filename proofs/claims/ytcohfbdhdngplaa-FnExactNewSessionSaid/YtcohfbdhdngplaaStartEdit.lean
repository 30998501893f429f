/-
  Proved: spec.StartEdit and impl.StartEdit give the edit of one hole, without memory.
-/
import Derived.Test.YtcohfbdhdngplaaPut
import Derived.Test.YtcohfbdhdngplaaHold
import Derived.Test.YtcohfbdhdngplaaTwo
namespace Go.Proofs.Ytcohfbdhdngplaa
open Go.RowKit

set_option maxRecDepth 100000 in
theorem specHole (w : World) : Calls Try.prog 129 #[.int .i64 1] w fun e w' => e = .returned (.agg #[.int .i64 1, .string ⟨#[]⟩, .int .i64 1, .int .i64 0, .slice none 0 0, .slice none 0 0]) ∧ Below w.heap.size w w' := by
  go_enter Try.func129, Try.ntmps129
  go_wp2_with fail
  refine bodyPost_ret (v := .agg #[.int .i64 1, .string ⟨#[]⟩, .int .i64 1, .int .i64 0, .slice none 0 0, .slice none 0 0]) (by simp [results, Try.results129, go_sem]) rfl ?_
  exact ⟨rfl, below_alloc _ _⟩
set_option maxRecDepth 100000 in
theorem specStartEdit (w : World) : Calls Try.prog 102 #[] w fun e w' => e = .returned (.agg #[.int .i64 1, .string ⟨#[]⟩, .int .i64 1, .int .i64 0, .slice none 0 0, .slice none 0 0, .slice none 0 0]) ∧ Below w.heap.size w w' := by
  have hb0 := below_alloc w (.cells #[.int .i64 0, .string ⟨#[]⟩, .int .i64 0, .int .i64 0, .slice none 0 0, .slice none 0 0, .slice none 0 0] 53)
  have XR : Hid (BoxAt (w.alloc (.cells #[.int .i64 0, .string ⟨#[]⟩, .int .i64 0, .int .i64 0, .slice none 0 0, .slice none 0 0, .slice none 0 0] 53)) w.heap.size #[.int .i64 0, .string ⟨#[]⟩, .int .i64 0, .int .i64 0, .slice none 0 0, .slice none 0 0, .slice none 0 0]) := BoxAt.new _ _ _
  have FR : Hid (FreeAt (w.alloc (.cells #[.int .i64 0, .string ⟨#[]⟩, .int .i64 0, .int .i64 0, .slice none 0 0, .slice none 0 0, .slice none 0 0] 53)) w.heap.size) := FreeAt.new _ _ _
  have B := Lib.hid hb0; clear hb0
  go_enter Try.func102, Try.ntmps102
  go_wp2_with fail
  refine (specHole _).mono ?_
  rintro e w1 ⟨rfl, hb⟩
  replace B := Lib.hid (below_thru B.out (Nat.le_refl _) hb)
  replace XR := Lib.hid (XR.out.below hb)
  replace FR := Lib.hid (FR.out.below hb)
  clear hb
  have c0 := XR.out.2 0
  have f0 := FR.out.2 0
  have c1 := XR.out.2 1
  have f1 := FR.out.2 1
  have c2 := XR.out.2 2
  have f2 := FR.out.2 2
  have c3 := XR.out.2 3
  have f3 := FR.out.2 3
  have c4 := XR.out.2 4
  have f4 := FR.out.2 4
  have c5 := XR.out.2 5
  have f5 := FR.out.2 5
  have c6 := XR.out.2 6
  have f6 := FR.out.2 6
  go_wp2_with fail
  have XRF : BoxAt (((((((w1.setCell ⟨w.heap.size, 0, none⟩ (.int .i64 1)).setCell ⟨w.heap.size, 1, none⟩ (.string ⟨#[]⟩)).setCell ⟨w.heap.size, 2, none⟩ (.int .i64 1)).setCell ⟨w.heap.size, 3, none⟩ (.int .i64 0)).setCell ⟨w.heap.size, 4, none⟩ (.slice none 0 0)).setCell ⟨w.heap.size, 5, none⟩ (.slice none 0 0)).setCell ⟨w.heap.size, 6, none⟩ (.slice none 0 0)) w.heap.size #[.int .i64 1, .string ⟨#[]⟩, .int .i64 1, .int .i64 0, .slice none 0 0, .slice none 0 0, .slice none 0 0] := by
    have := (((((((XR.out.put (j := 0) (u := .int .i64 1) (by simp)).put (j := 1) (u := .string ⟨#[]⟩) (by simp)).put (j := 2) (u := .int .i64 1) (by simp)).put (j := 3) (u := .int .i64 0) (by simp)).put (j := 4) (u := .slice none 0 0) (by simp)).put (j := 5) (u := .slice none 0 0) (by simp)).put (j := 6) (u := .slice none 0 0) (by simp))
    exact this
  have hbF : Below w.heap.size w (((((((w1.setCell ⟨w.heap.size, 0, none⟩ (.int .i64 1)).setCell ⟨w.heap.size, 1, none⟩ (.string ⟨#[]⟩)).setCell ⟨w.heap.size, 2, none⟩ (.int .i64 1)).setCell ⟨w.heap.size, 3, none⟩ (.int .i64 0)).setCell ⟨w.heap.size, 4, none⟩ (.slice none 0 0)).setCell ⟨w.heap.size, 5, none⟩ (.slice none 0 0)).setCell ⟨w.heap.size, 6, none⟩ (.slice none 0 0)) := (((((((B.out.setCell (by simp) _).setCell (by simp) _).setCell (by simp) _).setCell (by simp) _).setCell (by simp) _).setCell (by simp) _).setCell (by simp) _)
  have g0 := XRF.2 0
  have g1 := XRF.2 1
  have g2 := XRF.2 2
  have g3 := XRF.2 3
  have g4 := XRF.2 4
  have g5 := XRF.2 5
  have g6 := XRF.2 6
  clear XRF
  generalize (((((((w1.setCell ⟨w.heap.size, 0, none⟩ (.int .i64 1)).setCell ⟨w.heap.size, 1, none⟩ (.string ⟨#[]⟩)).setCell ⟨w.heap.size, 2, none⟩ (.int .i64 1)).setCell ⟨w.heap.size, 3, none⟩ (.int .i64 0)).setCell ⟨w.heap.size, 4, none⟩ (.slice none 0 0)).setCell ⟨w.heap.size, 5, none⟩ (.slice none 0 0)).setCell ⟨w.heap.size, 6, none⟩ (.slice none 0 0)) = WX at g0 g1 g2 g3 g4 g5 g6 hbF ⊢
  refine bodyPost_ret (v := .agg #[.int .i64 1, .string ⟨#[]⟩, .int .i64 1, .int .i64 0, .slice none 0 0, .slice none 0 0, .slice none 0 0]) (by simp [results, Try.results102, go_sem, g0, g1, g2, g3, g4, g5, g6]) rfl ?_
  exact ⟨rfl, hbF⟩
set_option maxRecDepth 100000 in
theorem implStartEdit (w : World) : Calls Try.prog 104 #[] w fun e w' => e = .returned (.agg #[.int .i64 1, .string ⟨#[]⟩, .int .i64 1, .int .i64 0, .slice none 0 0, .slice none 0 0, .slice none 0 0]) ∧ Below w.heap.size w w' := by
  go_enter Try.func104, Try.ntmps104
  go_wp2_with fail
  refine bodyPost_ret (v := .agg #[.int .i64 1, .string ⟨#[]⟩, .int .i64 1, .int .i64 0, .slice none 0 0, .slice none 0 0, .slice none 0 0]) (by simp [results, Try.results104, go_sem]) rfl ?_
  exact ⟨rfl, below_alloc _ _⟩
end Go.Proofs.Ytcohfbdhdngplaa
