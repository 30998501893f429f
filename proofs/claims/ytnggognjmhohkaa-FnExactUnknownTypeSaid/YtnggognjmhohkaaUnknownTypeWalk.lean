/-
  Proved: the law FnExactUnknownType answers true, and leaves the memory that was there as it was.
-/
import Derived.Test.YtnggognjmhohkaaHold
import Derived.Test.YtnggognjmhohkaaEqType
import Derived.Test.YtnggognjmhohkaaHeldType
namespace Go.Proofs.Ytnggognjmhohkaa
open Go.RowKit

set_option maxRecDepth 100000 in
theorem specUnknownType (w : World) : Calls Try.prog 35 #[] w fun e w' => e = .returned (.agg #[.int .i64 1, .slice none 0 0]) ∧ Below w.heap.size w w' := by
  go_enter Try.func35, Try.ntmps35
  go_wp2_with fail
  refine bodyPost_ret (v := .agg #[.int .i64 1, .slice none 0 0]) (by simp [results, Try.results35, go_sem]) rfl ?_
  exact ⟨rfl, below_alloc _ _⟩
set_option maxRecDepth 100000 in
theorem implUnknownType (w : World) : Calls Try.prog 34 #[] w fun e w' => e = .returned (.agg #[.int .i64 1, .slice none 0 0]) ∧ Below w.heap.size w w' := by
  go_enter Try.func34, Try.ntmps34
  go_wp2_with fail
  refine bodyPost_ret (v := .agg #[.int .i64 1, .slice none 0 0]) (by simp [results, Try.results34, go_sem]) rfl ?_
  exact ⟨rfl, below_alloc _ _⟩
theorem own_leaf1 (w : World) : TyOwn w 1 (.agg #[.int .i64 1, .slice none 0 0]) (.node 1 []) [] :=
  ⟨_, rfl, by omega, by omega, none, 0, [], [], rfl, Nat.le_refl _, by omega, rfl, rfl, (fun b hb => by cases hb), fun j hj => by simp at hj⟩
set_option maxRecDepth 100000 in
set_option maxHeartbeats 1000000 in
theorem unknownTypeWalk (w : World) : Calls Try.prog 10 #[] w fun e w' => e = .returned (.bool true) ∧ Below w.heap.size w w' := by
  have B := Lib.hid (Below.refl w.heap.size w)
  go_enter Try.func10, Try.ntmps10
  go_wp2_with fail
  refine (specUnknownType _).mono ?_
  rintro e w1 ⟨rfl, hb⟩
  replace B := Lib.hid (below_thru B.out (Nat.le_refl _) hb)
  clear hb
  have X0 : Hid (BoxAt (w1.alloc (.cells #[.int .i64 1, .slice none 0 0] 26)) w1.heap.size #[.int .i64 1, .slice none 0 0]) := BoxAt.new _ _ _
  have hb := below_alloc w1 (.cells #[.int .i64 1, .slice none 0 0] 26)
  replace B := Lib.hid (below_thru B.out (Nat.le_refl _) hb)
  clear hb
  have cX0_0 := X0.out.2 0
  have cX0_1 := X0.out.2 1
  go_wp2_with fail
  clear cX0_0 cX0_1
  refine (implUnknownType _).mono ?_
  rintro e w2 ⟨rfl, hb⟩
  replace B := Lib.hid (below_thru B.out (Nat.le_refl _) hb)
  replace X0 := Lib.hid (X0.out.below hb)
  clear hb
  have X1 : Hid (BoxAt (w2.alloc (.cells #[.int .i64 1, .slice none 0 0] 26)) w2.heap.size #[.int .i64 1, .slice none 0 0]) := BoxAt.new _ _ _
  have hb := below_alloc w2 (.cells #[.int .i64 1, .slice none 0 0] 26)
  replace B := Lib.hid (below_thru B.out (Nat.le_refl _) hb)
  replace X0 := Lib.hid (X0.out.below hb)
  clear hb
  have cX0_0 := X0.out.2 0
  have cX0_1 := X0.out.2 1
  have cX1_0 := X1.out.2 0
  have cX1_1 := X1.out.2 1
  go_wp2_with fail
  clear cX0_0 cX0_1 cX1_0 cX1_1
  refine (eqTy_all 1 _ _ (.node 1 []) _ (own_leaf1 _).at_ (own_leaf1 _).at_).mono ?_
  rintro e w3 ⟨rfl, hb⟩
  replace B := Lib.hid (below_thru B.out (Nat.le_refl _) hb)
  replace X0 := Lib.hid (X0.out.below hb)
  replace X1 := Lib.hid (X1.out.below hb)
  clear hb
  have cX0_0 := X0.out.2 0
  have cX0_1 := X0.out.2 1
  have cX1_0 := X1.out.2 0
  have cX1_1 := X1.out.2 1
  go_wp2_with fail
  clear cX0_0 cX0_1 cX1_0 cX1_1
  refine (markTy w.heap.size 1 _ (.node 1 []) [] 1 _ B.out.size (fun b hb => by cases hb) List.nodup_nil (by omega) (by simp [Ty.size, Ty.sizes]) (own_leaf1 _)).mono ?_
  rintro e w4 ⟨rfl, _, hb0, hout⟩
  have hb : Below w3.heap.size w3 w4 := ⟨hb0.os, hb0.tape, hb0.output, hb0.size, fun b hb => hout b hb (by simp)⟩
  clear hb0 hout
  replace B := Lib.hid (below_thru B.out (Nat.le_refl _) hb)
  replace X0 := Lib.hid (X0.out.below hb)
  replace X1 := Lib.hid (X1.out.below hb)
  clear hb
  rw [show (1 : Int) + ((Ty.size (.node 1 []) - 1 : Nat) : Int) = 1 from by simp [Ty.size, Ty.sizes]]
  have cX0_0 := X0.out.2 0
  have cX0_1 := X0.out.2 1
  have cX1_0 := X1.out.2 0
  have cX1_1 := X1.out.2 1
  go_wp2_with fail
  clear cX0_0 cX0_1 cX1_0 cX1_1
  refine (heldTy 1 _ (.node 1 []) 1 _ (by omega) (by simp [Ty.size, Ty.sizes]) (own_leaf1 _).at_).mono ?_
  rintro e w5 ⟨rfl, hb⟩
  replace B := Lib.hid (below_thru B.out (Nat.le_refl _) hb)
  replace X0 := Lib.hid (X0.out.below hb)
  replace X1 := Lib.hid (X1.out.below hb)
  clear hb
  rw [show (1 : Int) + ((Ty.size (.node 1 []) - 1 : Nat) : Int) = 1 from by simp [Ty.size, Ty.sizes]]
  have cX0_0 := X0.out.2 0
  have cX0_1 := X0.out.2 1
  have cX1_0 := X1.out.2 0
  have cX1_1 := X1.out.2 1
  go_wp2_with fail
  clear cX0_0 cX0_1 cX1_0 cX1_1
  refine (implUnknownType _).mono ?_
  rintro e w6 ⟨rfl, hb⟩
  replace B := Lib.hid (below_thru B.out (Nat.le_refl _) hb)
  replace X0 := Lib.hid (X0.out.below hb)
  replace X1 := Lib.hid (X1.out.below hb)
  clear hb
  have X2 : Hid (BoxAt (w6.alloc (.cells #[.int .i64 1, .slice none 0 0] 26)) w6.heap.size #[.int .i64 1, .slice none 0 0]) := BoxAt.new _ _ _
  have hb := below_alloc w6 (.cells #[.int .i64 1, .slice none 0 0] 26)
  replace B := Lib.hid (below_thru B.out (Nat.le_refl _) hb)
  replace X0 := Lib.hid (X0.out.below hb)
  replace X1 := Lib.hid (X1.out.below hb)
  clear hb
  have cX0_0 := X0.out.2 0
  have cX0_1 := X0.out.2 1
  have cX1_0 := X1.out.2 0
  have cX1_1 := X1.out.2 1
  have cX2_0 := X2.out.2 0
  have cX2_1 := X2.out.2 1
  go_wp2_with fail
  clear cX0_0 cX0_1 cX1_0 cX1_1 cX2_0 cX2_1
  refine (eqTy_all 1 _ _ (.node 1 []) _ (own_leaf1 _).at_ (own_leaf1 _).at_).mono ?_
  rintro e w7 ⟨rfl, hb⟩
  replace B := Lib.hid (below_thru B.out (Nat.le_refl _) hb)
  replace X0 := Lib.hid (X0.out.below hb)
  replace X1 := Lib.hid (X1.out.below hb)
  replace X2 := Lib.hid (X2.out.below hb)
  clear hb
  have cX0_0 := X0.out.2 0
  have cX0_1 := X0.out.2 1
  have cX1_0 := X1.out.2 0
  have cX1_1 := X1.out.2 1
  have cX2_0 := X2.out.2 0
  have cX2_1 := X2.out.2 1
  go_wp2_with fail
  clear cX0_0 cX0_1 cX1_0 cX1_1 cX2_0 cX2_1
  refine (heldTy 1 _ (.node 1 []) 1 _ (by omega) (by simp [Ty.size, Ty.sizes]) (own_leaf1 _).at_).mono ?_
  rintro e w8 ⟨rfl, hb⟩
  replace B := Lib.hid (below_thru B.out (Nat.le_refl _) hb)
  replace X0 := Lib.hid (X0.out.below hb)
  replace X1 := Lib.hid (X1.out.below hb)
  replace X2 := Lib.hid (X2.out.below hb)
  clear hb
  rw [show (1 : Int) + ((Ty.size (.node 1 []) - 1 : Nat) : Int) = 1 from by simp [Ty.size, Ty.sizes]]
  have cX0_0 := X0.out.2 0
  have cX0_1 := X0.out.2 1
  have cX1_0 := X1.out.2 0
  have cX1_1 := X1.out.2 1
  have cX2_0 := X2.out.2 0
  have cX2_1 := X2.out.2 1
  go_wp2_with fail
  go_ret
  exact ⟨rfl, B.out⟩
end Go.Proofs.Ytnggognjmhohkaa
