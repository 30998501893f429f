/-
  Proved: what laws.markEdit and laws.heldEdit do to an edit without memory: they hand the number back and change no memory that was there.
-/
import Derived.Test.YtcohfbdhdngplaaEditAt
import Derived.Test.YtcohfbdhdngplaaMarkExIn
import Derived.Test.YtcohfbdhdngplaaHeldEx
import Derived.Test.YtcohfbdhdngplaaIntsIn
import Derived.Test.YtcohfbdhdngplaaHold
namespace Go.Proofs.Ytcohfbdhdngplaa
open Go.RowKit

theorem leaf_own (w : World) : ExOwn w 2 (.agg #[.int .i64 1, .string ⟨#[]⟩, .int .i64 1, .int .i64 0, .slice none 0 0, .slice none 0 0]) (.node 1 ⟨#[]⟩ 1 (.node 0 []) []) [] := by
  refine ⟨.int .i64 0, .slice none 0 0, .slice none 0 0, [], [], rfl, by omega, by omega, by omega, by omega, by decide, rfl, ?_, ?_⟩
  · exact ⟨_, rfl, by omega, by omega, none, 0, [], [], rfl, Nat.le_refl _, by omega, rfl, rfl, (fun b hb => by cases hb), fun j hj => by simp at hj⟩
  · exact ⟨none, 0, [], [], rfl, Nat.le_refl _, by omega, rfl, rfl, (fun b hb => by cases hb), fun j hj => by simp at hj⟩
theorem leaf_wt : Ex.wt (.node 1 ⟨#[]⟩ 1 (.node 0 []) []) = 0 := by simp [Ex.wt, Ex.wts, Ty.size, Ty.sizes]
theorem leaf_mark (k : Int) : Ex.markIn (.node 1 ⟨#[]⟩ 1 (.node 0 []) []) k = (.node 1 ⟨#[]⟩ 1 (.node 0 []) []) := by simp [Ex.markIn, Ty.markIn, Ty.marks, Ex.marks]
theorem leaf_ints (w : World) : IntsIn w (.slice none 0 0) [] 0 0 := ⟨⟨by simp, Or.inl ⟨rfl, rfl⟩⟩, (fun k hk => by cases hk), Nat.zero_le _⟩
theorem leaf_edit (w : World) : EditAt w 2 (.agg #[.int .i64 1, .string ⟨#[]⟩, .int .i64 1, .int .i64 0, .slice none 0 0, .slice none 0 0, .slice none 0 0]) ⟨(.node 1 ⟨#[]⟩ 1 (.node 0 []) []), []⟩ :=
  ⟨_, _, _, _, _, _, _, _, _, _, _, _, _, rfl, (leaf_own w).at_, Ints.nil _ _, by simp⟩
set_option maxRecDepth 100000 in
set_option maxHeartbeats 1000000 in
theorem markLeaf (w : World) : Calls Try.prog 79 #[.agg #[.int .i64 1, .string ⟨#[]⟩, .int .i64 1, .int .i64 0, .slice none 0 0, .slice none 0 0, .slice none 0 0], .int .i64 1] w fun e w' => e = .returned (.int .i64 1) ∧ Below w.heap.size w w' := by
  have B : Hid (Below w.heap.size w (w.alloc (.cells #[.int .i64 1, .string ⟨#[]⟩, .int .i64 1, .int .i64 0, .slice none 0 0, .slice none 0 0, .slice none 0 0] 53))) := below_alloc _ _
  have XA : Hid (BoxAt (w.alloc (.cells #[.int .i64 1, .string ⟨#[]⟩, .int .i64 1, .int .i64 0, .slice none 0 0, .slice none 0 0, .slice none 0 0] 53)) w.heap.size #[.int .i64 1, .string ⟨#[]⟩, .int .i64 1, .int .i64 0, .slice none 0 0, .slice none 0 0, .slice none 0 0]) := BoxAt.new _ _ _
  go_enter Try.func79, Try.ntmps79
  go_wp2_with fail
  refine (markEx (w.heap.size + 1) 2 _ (.node 1 ⟨#[]⟩ 1 (.node 0 []) []) [] 1 _ (by simp) (fun b hb => by cases hb) List.nodup_nil (by omega) (by rw [leaf_wt]; omega) (leaf_own _)).mono ?_
  rintro e w1 ⟨rfl, _, hb0, hout⟩
  have hb : Below (w.alloc (.cells #[.int .i64 1, .string ⟨#[]⟩, .int .i64 1, .int .i64 0, .slice none 0 0, .slice none 0 0, .slice none 0 0] 53)).heap.size (w.alloc (.cells #[.int .i64 1, .string ⟨#[]⟩, .int .i64 1, .int .i64 0, .slice none 0 0, .slice none 0 0, .slice none 0 0] 53)) w1 := ⟨hb0.os, hb0.tape, hb0.output, hb0.size, fun b hb => hout b hb (by simp)⟩
  clear hb0 hout
  replace B := Lib.hid (below_thru B.out (Nat.le_refl _) hb)
  replace XA := Lib.hid (XA.out.below hb)
  clear hb
  rw [leaf_wt]
  have c6 := XA.out.2 6
  go_wp2_with fail
  clear c6
  refine (markIntsIn 0 _ [] 0 0 _ _ (Nat.le_refl _) (by omega) (by omega) (by simp) (leaf_ints _)).mono ?_
  rintro e w2 ⟨rfl, _, hb0, hk⟩
  have hb : Below w1.heap.size w1 w2 := ⟨hb0.os, hb0.tape, hb0.output, hb0.size, fun b hb => hk.2 b hb (by omega)⟩
  clear hb0 hk
  replace B := Lib.hid (below_thru B.out (Nat.le_refl _) hb)
  clear hb
  go_wp2_with fail
  go_ret
  exact ⟨by simp, B.out⟩
set_option maxRecDepth 100000 in
set_option maxHeartbeats 1000000 in
theorem heldLeaf (w : World) : Calls Try.prog 81 #[.agg #[.int .i64 1, .string ⟨#[]⟩, .int .i64 1, .int .i64 0, .slice none 0 0, .slice none 0 0, .slice none 0 0], .int .i64 1] w fun e w' => e = .returned (.int .i64 1) ∧ Below w.heap.size w w' := by
  have B : Hid (Below w.heap.size w (w.alloc (.cells #[.int .i64 1, .string ⟨#[]⟩, .int .i64 1, .int .i64 0, .slice none 0 0, .slice none 0 0, .slice none 0 0] 53))) := below_alloc _ _
  have XA : Hid (BoxAt (w.alloc (.cells #[.int .i64 1, .string ⟨#[]⟩, .int .i64 1, .int .i64 0, .slice none 0 0, .slice none 0 0, .slice none 0 0] 53)) w.heap.size #[.int .i64 1, .string ⟨#[]⟩, .int .i64 1, .int .i64 0, .slice none 0 0, .slice none 0 0, .slice none 0 0]) := BoxAt.new _ _ _
  go_enter Try.func81, Try.ntmps81
  go_wp2_with fail
  refine (heldEx 2 _ (.node 1 ⟨#[]⟩ 1 (.node 0 []) []) 1 _ (by omega) (by rw [leaf_wt]; omega) (by rw [leaf_mark]; exact (leaf_own _).at_)).mono ?_
  rintro e w1 ⟨rfl, hb⟩
  replace B := Lib.hid (below_thru B.out (Nat.le_refl _) hb)
  replace XA := Lib.hid (XA.out.below hb)
  clear hb
  rw [leaf_wt]
  have c6 := XA.out.2 6
  go_wp2_with fail
  clear c6
  refine (heldIntsIn _ [] 0 0 _ _ (by omega) (by omega) (by simp) (leaf_ints _)).mono ?_
  rintro e w2 ⟨rfl, hb⟩
  replace B := Lib.hid (below_thru B.out (Nat.le_refl _) hb)
  clear hb
  go_wp2_with fail
  go_ret
  exact ⟨by simp, B.out⟩
end Go.Proofs.Ytcohfbdhdngplaa
