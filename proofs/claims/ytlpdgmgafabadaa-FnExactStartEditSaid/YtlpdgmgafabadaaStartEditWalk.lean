/-
  Proved: the law FnExactStartEdit answers true, and leaves the memory that was there as it was.
-/
import Derived.Test.YtlpdgmgafabadaaLeafEdit
import Derived.Test.YtlpdgmgafabadaaEqEdit
import Derived.Test.YtlpdgmgafabadaaPut
namespace Go.Proofs.Ytlpdgmgafabadaa
open Go.RowKit

set_option maxRecDepth 100000 in
theorem specHole (w : World) : Calls Try.prog 69 #[.int .i64 1] w fun e w' => e = .returned (.agg #[.int .i64 1, .string ⟨#[]⟩, .int .i64 1, .int .i64 0, .slice none 0 0, .slice none 0 0]) ∧ Below w.heap.size w w' := by
  go_enter Try.func69, Try.ntmps69
  go_wp2_with fail
  refine bodyPost_ret (v := .agg #[.int .i64 1, .string ⟨#[]⟩, .int .i64 1, .int .i64 0, .slice none 0 0, .slice none 0 0]) (by simp [results, Try.results69, go_sem]) rfl ?_
  exact ⟨rfl, below_alloc _ _⟩
set_option maxRecDepth 100000 in
theorem specStart (w : World) : Calls Try.prog 33 #[] w fun e w' => e = .returned (.agg #[.int .i64 1, .string ⟨#[]⟩, .int .i64 1, .int .i64 0, .slice none 0 0, .slice none 0 0, .slice none 0 0]) ∧ Below w.heap.size w w' := by
  have hb0 := below_alloc w (.cells #[.int .i64 0, .string ⟨#[]⟩, .int .i64 0, .int .i64 0, .slice none 0 0, .slice none 0 0, .slice none 0 0] 59)
  have XR : Hid (BoxAt (w.alloc (.cells #[.int .i64 0, .string ⟨#[]⟩, .int .i64 0, .int .i64 0, .slice none 0 0, .slice none 0 0, .slice none 0 0] 59)) w.heap.size #[.int .i64 0, .string ⟨#[]⟩, .int .i64 0, .int .i64 0, .slice none 0 0, .slice none 0 0, .slice none 0 0]) := BoxAt.new _ _ _
  have FR : Hid (FreeAt (w.alloc (.cells #[.int .i64 0, .string ⟨#[]⟩, .int .i64 0, .int .i64 0, .slice none 0 0, .slice none 0 0, .slice none 0 0] 59)) w.heap.size) := FreeAt.new _ _ _
  have B := Lib.hid hb0; clear hb0
  go_enter Try.func33, Try.ntmps33
  go_wp2_with fail
  refine (specHole _).mono ?_
  rintro e w1 ⟨rfl, hb⟩
  replace B := Lib.hid (below_thru B.out (Nat.le_refl _) hb)
  replace XR := Lib.hid (XR.out.below hb)
  replace FR := Lib.hid (FR.out.below hb)
  clear hb
  have c0 := XR.out.2 0
  have f0 := FR.out.2 0
  have c1 := XR.out.2 1
  have f1 := FR.out.2 1
  have c2 := XR.out.2 2
  have f2 := FR.out.2 2
  have c3 := XR.out.2 3
  have f3 := FR.out.2 3
  have c4 := XR.out.2 4
  have f4 := FR.out.2 4
  have c5 := XR.out.2 5
  have f5 := FR.out.2 5
  have c6 := XR.out.2 6
  have f6 := FR.out.2 6
  go_wp2_with fail
  have XRF : BoxAt (((((((w1.setCell ⟨w.heap.size, 0, none⟩ (.int .i64 1)).setCell ⟨w.heap.size, 1, none⟩ (.string ⟨#[]⟩)).setCell ⟨w.heap.size, 2, none⟩ (.int .i64 1)).setCell ⟨w.heap.size, 3, none⟩ (.int .i64 0)).setCell ⟨w.heap.size, 4, none⟩ (.slice none 0 0)).setCell ⟨w.heap.size, 5, none⟩ (.slice none 0 0)).setCell ⟨w.heap.size, 6, none⟩ (.slice none 0 0)) w.heap.size #[.int .i64 1, .string ⟨#[]⟩, .int .i64 1, .int .i64 0, .slice none 0 0, .slice none 0 0, .slice none 0 0] := by
    have := (((((((XR.out.put (j := 0) (u := .int .i64 1) (by simp)).put (j := 1) (u := .string ⟨#[]⟩) (by simp)).put (j := 2) (u := .int .i64 1) (by simp)).put (j := 3) (u := .int .i64 0) (by simp)).put (j := 4) (u := .slice none 0 0) (by simp)).put (j := 5) (u := .slice none 0 0) (by simp)).put (j := 6) (u := .slice none 0 0) (by simp))
    exact this
  have hbF : Below w.heap.size w (((((((w1.setCell ⟨w.heap.size, 0, none⟩ (.int .i64 1)).setCell ⟨w.heap.size, 1, none⟩ (.string ⟨#[]⟩)).setCell ⟨w.heap.size, 2, none⟩ (.int .i64 1)).setCell ⟨w.heap.size, 3, none⟩ (.int .i64 0)).setCell ⟨w.heap.size, 4, none⟩ (.slice none 0 0)).setCell ⟨w.heap.size, 5, none⟩ (.slice none 0 0)).setCell ⟨w.heap.size, 6, none⟩ (.slice none 0 0)) := (((((((B.out.setCell (by simp) _).setCell (by simp) _).setCell (by simp) _).setCell (by simp) _).setCell (by simp) _).setCell (by simp) _).setCell (by simp) _)
  have g0 := XRF.2 0
  have g1 := XRF.2 1
  have g2 := XRF.2 2
  have g3 := XRF.2 3
  have g4 := XRF.2 4
  have g5 := XRF.2 5
  have g6 := XRF.2 6
  clear XRF
  generalize (((((((w1.setCell ⟨w.heap.size, 0, none⟩ (.int .i64 1)).setCell ⟨w.heap.size, 1, none⟩ (.string ⟨#[]⟩)).setCell ⟨w.heap.size, 2, none⟩ (.int .i64 1)).setCell ⟨w.heap.size, 3, none⟩ (.int .i64 0)).setCell ⟨w.heap.size, 4, none⟩ (.slice none 0 0)).setCell ⟨w.heap.size, 5, none⟩ (.slice none 0 0)).setCell ⟨w.heap.size, 6, none⟩ (.slice none 0 0)) = WX at g0 g1 g2 g3 g4 g5 g6 hbF ⊢
  refine bodyPost_ret (v := .agg #[.int .i64 1, .string ⟨#[]⟩, .int .i64 1, .int .i64 0, .slice none 0 0, .slice none 0 0, .slice none 0 0]) (by simp [results, Try.results33, go_sem, g0, g1, g2, g3, g4, g5, g6]) rfl ?_
  exact ⟨rfl, hbF⟩
set_option maxRecDepth 100000 in
theorem implStart (w : World) : Calls Try.prog 34 #[] w fun e w' => e = .returned (.agg #[.int .i64 1, .string ⟨#[]⟩, .int .i64 1, .int .i64 0, .slice none 0 0, .slice none 0 0, .slice none 0 0]) ∧ Below w.heap.size w w' := by
  go_enter Try.func34, Try.ntmps34
  go_wp2_with fail
  refine bodyPost_ret (v := .agg #[.int .i64 1, .string ⟨#[]⟩, .int .i64 1, .int .i64 0, .slice none 0 0, .slice none 0 0, .slice none 0 0]) (by simp [results, Try.results34, go_sem]) rfl ?_
  exact ⟨rfl, below_alloc _ _⟩
set_option maxRecDepth 100000 in
set_option maxHeartbeats 1000000 in
theorem startEditWalk (w : World) : Calls Try.prog 8 #[] w fun e w' => e = .returned (.bool true) ∧ Below w.heap.size w w' := by
  have B := Lib.hid (Below.refl w.heap.size w)
  go_enter Try.func8, Try.ntmps8
  go_wp2_with fail
  refine (specStart _).mono ?_
  rintro e w1 ⟨rfl, hb⟩
  replace B := Lib.hid (below_thru B.out (Nat.le_refl _) hb)
  clear hb
  have X0 : Hid (BoxAt (w1.alloc (.cells #[.int .i64 1, .string ⟨#[]⟩, .int .i64 1, .int .i64 0, .slice none 0 0, .slice none 0 0, .slice none 0 0] 59)) w1.heap.size #[.int .i64 1, .string ⟨#[]⟩, .int .i64 1, .int .i64 0, .slice none 0 0, .slice none 0 0, .slice none 0 0]) := BoxAt.new _ _ _
  have hb := below_alloc w1 (.cells #[.int .i64 1, .string ⟨#[]⟩, .int .i64 1, .int .i64 0, .slice none 0 0, .slice none 0 0, .slice none 0 0] 59)
  replace B := Lib.hid (below_thru B.out (Nat.le_refl _) hb)
  clear hb
  have cX0_0 := X0.out.2 0
  have cX0_1 := X0.out.2 1
  have cX0_2 := X0.out.2 2
  have cX0_3 := X0.out.2 3
  have cX0_4 := X0.out.2 4
  have cX0_5 := X0.out.2 5
  have cX0_6 := X0.out.2 6
  go_wp2_with fail
  clear cX0_0 cX0_1 cX0_2 cX0_3 cX0_4 cX0_5 cX0_6
  refine (implStart _).mono ?_
  rintro e w2 ⟨rfl, hb⟩
  replace B := Lib.hid (below_thru B.out (Nat.le_refl _) hb)
  replace X0 := Lib.hid (X0.out.below hb)
  clear hb
  have X1 : Hid (BoxAt (w2.alloc (.cells #[.int .i64 1, .string ⟨#[]⟩, .int .i64 1, .int .i64 0, .slice none 0 0, .slice none 0 0, .slice none 0 0] 59)) w2.heap.size #[.int .i64 1, .string ⟨#[]⟩, .int .i64 1, .int .i64 0, .slice none 0 0, .slice none 0 0, .slice none 0 0]) := BoxAt.new _ _ _
  have hb := below_alloc w2 (.cells #[.int .i64 1, .string ⟨#[]⟩, .int .i64 1, .int .i64 0, .slice none 0 0, .slice none 0 0, .slice none 0 0] 59)
  replace B := Lib.hid (below_thru B.out (Nat.le_refl _) hb)
  replace X0 := Lib.hid (X0.out.below hb)
  clear hb
  have cX0_0 := X0.out.2 0
  have cX0_1 := X0.out.2 1
  have cX0_2 := X0.out.2 2
  have cX0_3 := X0.out.2 3
  have cX0_4 := X0.out.2 4
  have cX0_5 := X0.out.2 5
  have cX0_6 := X0.out.2 6
  have cX1_0 := X1.out.2 0
  have cX1_1 := X1.out.2 1
  have cX1_2 := X1.out.2 2
  have cX1_3 := X1.out.2 3
  have cX1_4 := X1.out.2 4
  have cX1_5 := X1.out.2 5
  have cX1_6 := X1.out.2 6
  go_wp2_with fail
  clear cX0_0 cX0_1 cX0_2 cX0_3 cX0_4 cX0_5 cX0_6 cX1_0 cX1_1 cX1_2 cX1_3 cX1_4 cX1_5 cX1_6
  refine (eqEdit 2 _ _ ⟨(.node 1 ⟨#[]⟩ 1 (.node 0 []) []), []⟩ _ (leaf_edit _) (leaf_edit _)).mono ?_
  rintro e w3 ⟨rfl, hb⟩
  replace B := Lib.hid (below_thru B.out (Nat.le_refl _) hb)
  replace X0 := Lib.hid (X0.out.below hb)
  replace X1 := Lib.hid (X1.out.below hb)
  clear hb
  have cX0_0 := X0.out.2 0
  have cX0_1 := X0.out.2 1
  have cX0_2 := X0.out.2 2
  have cX0_3 := X0.out.2 3
  have cX0_4 := X0.out.2 4
  have cX0_5 := X0.out.2 5
  have cX0_6 := X0.out.2 6
  have cX1_0 := X1.out.2 0
  have cX1_1 := X1.out.2 1
  have cX1_2 := X1.out.2 2
  have cX1_3 := X1.out.2 3
  have cX1_4 := X1.out.2 4
  have cX1_5 := X1.out.2 5
  have cX1_6 := X1.out.2 6
  go_wp2_with fail
  clear cX0_0 cX0_1 cX0_2 cX0_3 cX0_4 cX0_5 cX0_6 cX1_0 cX1_1 cX1_2 cX1_3 cX1_4 cX1_5 cX1_6
  refine (markLeaf _).mono ?_
  rintro e w4 ⟨rfl, hb⟩
  replace B := Lib.hid (below_thru B.out (Nat.le_refl _) hb)
  replace X0 := Lib.hid (X0.out.below hb)
  replace X1 := Lib.hid (X1.out.below hb)
  clear hb
  have cX0_0 := X0.out.2 0
  have cX0_1 := X0.out.2 1
  have cX0_2 := X0.out.2 2
  have cX0_3 := X0.out.2 3
  have cX0_4 := X0.out.2 4
  have cX0_5 := X0.out.2 5
  have cX0_6 := X0.out.2 6
  have cX1_0 := X1.out.2 0
  have cX1_1 := X1.out.2 1
  have cX1_2 := X1.out.2 2
  have cX1_3 := X1.out.2 3
  have cX1_4 := X1.out.2 4
  have cX1_5 := X1.out.2 5
  have cX1_6 := X1.out.2 6
  go_wp2_with fail
  clear cX0_0 cX0_1 cX0_2 cX0_3 cX0_4 cX0_5 cX0_6 cX1_0 cX1_1 cX1_2 cX1_3 cX1_4 cX1_5 cX1_6
  refine (heldLeaf _).mono ?_
  rintro e w5 ⟨rfl, hb⟩
  replace B := Lib.hid (below_thru B.out (Nat.le_refl _) hb)
  replace X0 := Lib.hid (X0.out.below hb)
  replace X1 := Lib.hid (X1.out.below hb)
  clear hb
  have cX0_0 := X0.out.2 0
  have cX0_1 := X0.out.2 1
  have cX0_2 := X0.out.2 2
  have cX0_3 := X0.out.2 3
  have cX0_4 := X0.out.2 4
  have cX0_5 := X0.out.2 5
  have cX0_6 := X0.out.2 6
  have cX1_0 := X1.out.2 0
  have cX1_1 := X1.out.2 1
  have cX1_2 := X1.out.2 2
  have cX1_3 := X1.out.2 3
  have cX1_4 := X1.out.2 4
  have cX1_5 := X1.out.2 5
  have cX1_6 := X1.out.2 6
  go_wp2_with fail
  clear cX0_0 cX0_1 cX0_2 cX0_3 cX0_4 cX0_5 cX0_6 cX1_0 cX1_1 cX1_2 cX1_3 cX1_4 cX1_5 cX1_6
  refine (implStart _).mono ?_
  rintro e w6 ⟨rfl, hb⟩
  replace B := Lib.hid (below_thru B.out (Nat.le_refl _) hb)
  replace X0 := Lib.hid (X0.out.below hb)
  replace X1 := Lib.hid (X1.out.below hb)
  clear hb
  have X2 : Hid (BoxAt (w6.alloc (.cells #[.int .i64 1, .string ⟨#[]⟩, .int .i64 1, .int .i64 0, .slice none 0 0, .slice none 0 0, .slice none 0 0] 59)) w6.heap.size #[.int .i64 1, .string ⟨#[]⟩, .int .i64 1, .int .i64 0, .slice none 0 0, .slice none 0 0, .slice none 0 0]) := BoxAt.new _ _ _
  have hb := below_alloc w6 (.cells #[.int .i64 1, .string ⟨#[]⟩, .int .i64 1, .int .i64 0, .slice none 0 0, .slice none 0 0, .slice none 0 0] 59)
  replace B := Lib.hid (below_thru B.out (Nat.le_refl _) hb)
  replace X0 := Lib.hid (X0.out.below hb)
  replace X1 := Lib.hid (X1.out.below hb)
  clear hb
  have cX0_0 := X0.out.2 0
  have cX0_1 := X0.out.2 1
  have cX0_2 := X0.out.2 2
  have cX0_3 := X0.out.2 3
  have cX0_4 := X0.out.2 4
  have cX0_5 := X0.out.2 5
  have cX0_6 := X0.out.2 6
  have cX1_0 := X1.out.2 0
  have cX1_1 := X1.out.2 1
  have cX1_2 := X1.out.2 2
  have cX1_3 := X1.out.2 3
  have cX1_4 := X1.out.2 4
  have cX1_5 := X1.out.2 5
  have cX1_6 := X1.out.2 6
  have cX2_0 := X2.out.2 0
  have cX2_1 := X2.out.2 1
  have cX2_2 := X2.out.2 2
  have cX2_3 := X2.out.2 3
  have cX2_4 := X2.out.2 4
  have cX2_5 := X2.out.2 5
  have cX2_6 := X2.out.2 6
  go_wp2_with fail
  clear cX0_0 cX0_1 cX0_2 cX0_3 cX0_4 cX0_5 cX0_6 cX1_0 cX1_1 cX1_2 cX1_3 cX1_4 cX1_5 cX1_6 cX2_0 cX2_1 cX2_2 cX2_3 cX2_4 cX2_5 cX2_6
  refine (eqEdit 2 _ _ ⟨(.node 1 ⟨#[]⟩ 1 (.node 0 []) []), []⟩ _ (leaf_edit _) (leaf_edit _)).mono ?_
  rintro e w7 ⟨rfl, hb⟩
  replace B := Lib.hid (below_thru B.out (Nat.le_refl _) hb)
  replace X0 := Lib.hid (X0.out.below hb)
  replace X1 := Lib.hid (X1.out.below hb)
  replace X2 := Lib.hid (X2.out.below hb)
  clear hb
  have cX0_0 := X0.out.2 0
  have cX0_1 := X0.out.2 1
  have cX0_2 := X0.out.2 2
  have cX0_3 := X0.out.2 3
  have cX0_4 := X0.out.2 4
  have cX0_5 := X0.out.2 5
  have cX0_6 := X0.out.2 6
  have cX1_0 := X1.out.2 0
  have cX1_1 := X1.out.2 1
  have cX1_2 := X1.out.2 2
  have cX1_3 := X1.out.2 3
  have cX1_4 := X1.out.2 4
  have cX1_5 := X1.out.2 5
  have cX1_6 := X1.out.2 6
  have cX2_0 := X2.out.2 0
  have cX2_1 := X2.out.2 1
  have cX2_2 := X2.out.2 2
  have cX2_3 := X2.out.2 3
  have cX2_4 := X2.out.2 4
  have cX2_5 := X2.out.2 5
  have cX2_6 := X2.out.2 6
  go_wp2_with fail
  clear cX0_0 cX0_1 cX0_2 cX0_3 cX0_4 cX0_5 cX0_6 cX1_0 cX1_1 cX1_2 cX1_3 cX1_4 cX1_5 cX1_6 cX2_0 cX2_1 cX2_2 cX2_3 cX2_4 cX2_5 cX2_6
  refine (heldLeaf _).mono ?_
  rintro e w8 ⟨rfl, hb⟩
  replace B := Lib.hid (below_thru B.out (Nat.le_refl _) hb)
  replace X0 := Lib.hid (X0.out.below hb)
  replace X1 := Lib.hid (X1.out.below hb)
  replace X2 := Lib.hid (X2.out.below hb)
  clear hb
  have cX0_0 := X0.out.2 0
  have cX0_1 := X0.out.2 1
  have cX0_2 := X0.out.2 2
  have cX0_3 := X0.out.2 3
  have cX0_4 := X0.out.2 4
  have cX0_5 := X0.out.2 5
  have cX0_6 := X0.out.2 6
  have cX1_0 := X1.out.2 0
  have cX1_1 := X1.out.2 1
  have cX1_2 := X1.out.2 2
  have cX1_3 := X1.out.2 3
  have cX1_4 := X1.out.2 4
  have cX1_5 := X1.out.2 5
  have cX1_6 := X1.out.2 6
  have cX2_0 := X2.out.2 0
  have cX2_1 := X2.out.2 1
  have cX2_2 := X2.out.2 2
  have cX2_3 := X2.out.2 3
  have cX2_4 := X2.out.2 4
  have cX2_5 := X2.out.2 5
  have cX2_6 := X2.out.2 6
  go_wp2_with fail
  clear cX0_0 cX0_1 cX0_2 cX0_3 cX0_4 cX0_5 cX0_6 cX1_0 cX1_1 cX1_2 cX1_3 cX1_4 cX1_5 cX1_6 cX2_0 cX2_1 cX2_2 cX2_3 cX2_4 cX2_5 cX2_6
  go_ret
  exact ⟨rfl, B.out⟩
end Go.Proofs.Ytlpdgmgafabadaa
