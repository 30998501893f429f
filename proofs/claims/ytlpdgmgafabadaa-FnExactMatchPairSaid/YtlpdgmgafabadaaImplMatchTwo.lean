/-
  Proved: impl.MatchArrow and impl.MatchPair give the two parts of a type; the memory that was there stays as it was.
-/
import Derived.Test.YtlpdgmgafabadaaImplMatch
import Derived.Test.YtlpdgmgafabadaaMatchSize
import Derived.Deep.RegionHeld3
namespace Go.Proofs.Ytlpdgmgafabadaa
open Go.RowKit

set_option maxRecDepth 100000 in
set_option maxHeartbeats 2000000 in
theorem implMatchArrow (d : Nat) (v : Value) (t : Ty) (w : World) (h : TyAt w d v t) (hsz : t.size ≤ 1048577) :
    Calls Try.prog 14 #[v] w (MatchEnd d (t.parts 4) w) := by
  obtain ⟨tk, a, n, cap, rfl⟩ := agg_parts h
  have B : Hid (Below w.heap.size w (((w.alloc (.cells #[.int .i64 tk, .slice a n cap] 28)).alloc (.cells #[.int .i64 0, .slice none 0 0] 28)).alloc (.cells #[.int .i64 0, .slice none 0 0] 28))) := (((Below.refl _ _).alloc (Nat.le_refl _) _).alloc (by simp) _).alloc (by simp; omega) _
  have HA := Lib.hid (h.below B.out)
  have XR1 : Hid (BoxAt (((w.alloc (.cells #[.int .i64 tk, .slice a n cap] 28)).alloc (.cells #[.int .i64 0, .slice none 0 0] 28)).alloc (.cells #[.int .i64 0, .slice none 0 0] 28)) (w.heap.size + 1) #[.int .i64 0, .slice none 0 0]) := (box_at (BoxAt.new _ _ _) (by simp)).below (below_alloc _ _)
  have XR2 : Hid (BoxAt (((w.alloc (.cells #[.int .i64 tk, .slice a n cap] 28)).alloc (.cells #[.int .i64 0, .slice none 0 0] 28)).alloc (.cells #[.int .i64 0, .slice none 0 0] 28)) (w.heap.size + 1 + 1) #[.int .i64 0, .slice none 0 0]) := box_at (BoxAt.new _ _ _) (by simp)
  have XF1 : Hid (FreeAt (((w.alloc (.cells #[.int .i64 tk, .slice a n cap] 28)).alloc (.cells #[.int .i64 0, .slice none 0 0] 28)).alloc (.cells #[.int .i64 0, .slice none 0 0] 28)) (w.heap.size + 1)) := (free_at (FreeAt.new _ _ _) (by simp)).below (below_alloc _ _)
  have XF2 : Hid (FreeAt (((w.alloc (.cells #[.int .i64 tk, .slice a n cap] 28)).alloc (.cells #[.int .i64 0, .slice none 0 0] 28)).alloc (.cells #[.int .i64 0, .slice none 0 0] 28)) (w.heap.size + 1 + 1)) := free_at (FreeAt.new _ _ _) (by simp)
  have hz0 : (((w.alloc (.cells #[.int .i64 tk, .slice a n cap] 28)).alloc (.cells #[.int .i64 0, .slice none 0 0] 28)).alloc (.cells #[.int .i64 0, .slice none 0 0] 28)).heap.size = w.heap.size + 3 := by simp
  clear h
  go_enter Try.func14, Try.ntmps14
  go_wp2_with fail
  refine (implMatch d _ t 4 _ (by omega) HA.out hsz).mono ?_
  rintro e w1 ⟨v1, v2, mid, rfl, hmid, ho1, ho2, hb⟩
  have hz1 := hb.size
  rw [hz0] at hz1 ho1 hmid
  obtain ⟨u1, ua1, un1, uc1, rfl⟩ := agg_parts ho1.at_
  obtain ⟨u2, ua2, un2, uc2, rfl⟩ := agg_parts ho2.at_
  have O1 := Lib.hid ho1
  have O2 := Lib.hid ho2
  have HM : Hid (mid ≤ w1.heap.size) := by obtain ⟨_, _, _, hh⟩ := ho1; exact hh
  replace B := Lib.hid (below_thru B.out (Nat.le_refl _) hb)
  replace XR1 := Lib.hid (XR1.out.below hb)
  replace XR2 := Lib.hid (XR2.out.below hb)
  replace XF1 := Lib.hid (XF1.out.below hb)
  replace XF2 := Lib.hid (XF2.out.below hb)
  clear hb ho1 ho2 HA
  have r0 := XR1.out.2 0
  have r1 := XR1.out.2 1
  have r2 := XR2.out.2 0
  have r3 := XR2.out.2 1
  have q0 := XF1.out.2 0
  have q1 := XF1.out.2 1
  have q2 := XF2.out.2 0
  have q3 := XF2.out.2 1
  go_wp2_with fail
  clear q0 q1 q2 q3
  refine bodyPost_ret (v := .tuple #[.agg #[.int .i64 u1, .slice ua1 un1 uc1], .agg #[.int .i64 u2, .slice ua2 un2 uc2], .bool (t.parts 4).2.2]) (by simp [results, Try.results14, go_sem, r0, r1, r2, r3]) rfl ?_
  have HF : Below w.heap.size w ((((w1.setCell ⟨w.heap.size + 1, 0, none⟩ (.int .i64 u1)).setCell ⟨w.heap.size + 1, 1, none⟩ (.slice ua1 un1 uc1)).setCell ⟨w.heap.size + 1 + 1, 0, none⟩ (.int .i64 u2)).setCell ⟨w.heap.size + 1 + 1, 1, none⟩ (.slice ua2 un2 uc2)) := (((B.out.setCell (by dsimp only; omega) _).setCell (by dsimp only; omega) _).setCell (by dsimp only; omega) _).setCell (by dsimp only; omega) _
  exact match_any (p := t.parts 4) (((((O1.out.stored (by omega)).stored (by omega)).stored (by omega)).stored (by omega))) (((((O2.out.stored (by omega)).stored (by omega)).stored (by omega)).stored (by omega))) (by omega) (by omega) (Nat.le_refl _) HF
set_option maxRecDepth 100000 in
set_option maxHeartbeats 2000000 in
theorem implMatchPair (d : Nat) (v : Value) (t : Ty) (w : World) (h : TyAt w d v t) (hsz : t.size ≤ 1048577) :
    Calls Try.prog 19 #[v] w (MatchEnd d (t.parts 5) w) := by
  obtain ⟨tk, a, n, cap, rfl⟩ := agg_parts h
  have B : Hid (Below w.heap.size w (((w.alloc (.cells #[.int .i64 tk, .slice a n cap] 28)).alloc (.cells #[.int .i64 0, .slice none 0 0] 28)).alloc (.cells #[.int .i64 0, .slice none 0 0] 28))) := (((Below.refl _ _).alloc (Nat.le_refl _) _).alloc (by simp) _).alloc (by simp; omega) _
  have HA := Lib.hid (h.below B.out)
  have XR1 : Hid (BoxAt (((w.alloc (.cells #[.int .i64 tk, .slice a n cap] 28)).alloc (.cells #[.int .i64 0, .slice none 0 0] 28)).alloc (.cells #[.int .i64 0, .slice none 0 0] 28)) (w.heap.size + 1) #[.int .i64 0, .slice none 0 0]) := (box_at (BoxAt.new _ _ _) (by simp)).below (below_alloc _ _)
  have XR2 : Hid (BoxAt (((w.alloc (.cells #[.int .i64 tk, .slice a n cap] 28)).alloc (.cells #[.int .i64 0, .slice none 0 0] 28)).alloc (.cells #[.int .i64 0, .slice none 0 0] 28)) (w.heap.size + 1 + 1) #[.int .i64 0, .slice none 0 0]) := box_at (BoxAt.new _ _ _) (by simp)
  have XF1 : Hid (FreeAt (((w.alloc (.cells #[.int .i64 tk, .slice a n cap] 28)).alloc (.cells #[.int .i64 0, .slice none 0 0] 28)).alloc (.cells #[.int .i64 0, .slice none 0 0] 28)) (w.heap.size + 1)) := (free_at (FreeAt.new _ _ _) (by simp)).below (below_alloc _ _)
  have XF2 : Hid (FreeAt (((w.alloc (.cells #[.int .i64 tk, .slice a n cap] 28)).alloc (.cells #[.int .i64 0, .slice none 0 0] 28)).alloc (.cells #[.int .i64 0, .slice none 0 0] 28)) (w.heap.size + 1 + 1)) := free_at (FreeAt.new _ _ _) (by simp)
  have hz0 : (((w.alloc (.cells #[.int .i64 tk, .slice a n cap] 28)).alloc (.cells #[.int .i64 0, .slice none 0 0] 28)).alloc (.cells #[.int .i64 0, .slice none 0 0] 28)).heap.size = w.heap.size + 3 := by simp
  clear h
  go_enter Try.func19, Try.ntmps19
  go_wp2_with fail
  refine (implMatch d _ t 5 _ (by omega) HA.out hsz).mono ?_
  rintro e w1 ⟨v1, v2, mid, rfl, hmid, ho1, ho2, hb⟩
  have hz1 := hb.size
  rw [hz0] at hz1 ho1 hmid
  obtain ⟨u1, ua1, un1, uc1, rfl⟩ := agg_parts ho1.at_
  obtain ⟨u2, ua2, un2, uc2, rfl⟩ := agg_parts ho2.at_
  have O1 := Lib.hid ho1
  have O2 := Lib.hid ho2
  have HM : Hid (mid ≤ w1.heap.size) := by obtain ⟨_, _, _, hh⟩ := ho1; exact hh
  replace B := Lib.hid (below_thru B.out (Nat.le_refl _) hb)
  replace XR1 := Lib.hid (XR1.out.below hb)
  replace XR2 := Lib.hid (XR2.out.below hb)
  replace XF1 := Lib.hid (XF1.out.below hb)
  replace XF2 := Lib.hid (XF2.out.below hb)
  clear hb ho1 ho2 HA
  have r0 := XR1.out.2 0
  have r1 := XR1.out.2 1
  have r2 := XR2.out.2 0
  have r3 := XR2.out.2 1
  have q0 := XF1.out.2 0
  have q1 := XF1.out.2 1
  have q2 := XF2.out.2 0
  have q3 := XF2.out.2 1
  go_wp2_with fail
  clear q0 q1 q2 q3
  refine bodyPost_ret (v := .tuple #[.agg #[.int .i64 u1, .slice ua1 un1 uc1], .agg #[.int .i64 u2, .slice ua2 un2 uc2], .bool (t.parts 5).2.2]) (by simp [results, Try.results19, go_sem, r0, r1, r2, r3]) rfl ?_
  have HF : Below w.heap.size w ((((w1.setCell ⟨w.heap.size + 1, 0, none⟩ (.int .i64 u1)).setCell ⟨w.heap.size + 1, 1, none⟩ (.slice ua1 un1 uc1)).setCell ⟨w.heap.size + 1 + 1, 0, none⟩ (.int .i64 u2)).setCell ⟨w.heap.size + 1 + 1, 1, none⟩ (.slice ua2 un2 uc2)) := (((B.out.setCell (by dsimp only; omega) _).setCell (by dsimp only; omega) _).setCell (by dsimp only; omega) _).setCell (by dsimp only; omega) _
  exact match_any (p := t.parts 5) (((((O1.out.stored (by omega)).stored (by omega)).stored (by omega)).stored (by omega))) (((((O2.out.stored (by omega)).stored (by omega)).stored (by omega)).stored (by omega))) (by omega) (by omega) (Nat.le_refl _) HF
end Go.Proofs.Ytlpdgmgafabadaa
