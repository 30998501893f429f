/-
  Proved: spec.MatchArrow and spec.MatchPair give the two parts of a type; the memory that was there stays as it was.
-/
import Derived.Test.YteffjeejbdjjpaaGreatDoorWellG25
import Derived.Test.YteffjeejbdjjpaaGreatDoorWellG14
import Derived.Test.YteffjeejbdjjpaaGreatDoorWellG4
import Derived.Deep.RegionHeld3
namespace Go.Proofs.YteffjeejbdjjpaaGreatDoor
open Go.RowKit

set_option maxRecDepth 100000 in
set_option maxHeartbeats 2000000 in
theorem specMatchArrow (d : Nat) (v : Value) (t : Ty) (w : World) (h : TyAt w d v t) (hsz : t.size ≤ 1048577) :
    Calls Tryz.prog 87 #[v] w (MatchEnd d (t.parts 4) w) := by
  obtain ⟨tk, a, n, cap, rfl⟩ := agg_parts h
  have B : Hid (Below w.heap.size w (((w.alloc (.cells #[.int .i64 tk, .slice a n cap] 33)).alloc (.cells #[.int .i64 0, .slice none 0 0] 33)).alloc (.cells #[.int .i64 0, .slice none 0 0] 33))) := (((Below.refl _ _).alloc (Nat.le_refl _) _).alloc (by simp) _).alloc (by simp; omega) _
  have HA := Lib.hid (h.below B.out)
  have XR1 : Hid (BoxAt (((w.alloc (.cells #[.int .i64 tk, .slice a n cap] 33)).alloc (.cells #[.int .i64 0, .slice none 0 0] 33)).alloc (.cells #[.int .i64 0, .slice none 0 0] 33)) (w.heap.size + 1) #[.int .i64 0, .slice none 0 0]) := (box_at (BoxAt.new _ _ _) (by simp)).below (below_alloc _ _)
  have XR2 : Hid (BoxAt (((w.alloc (.cells #[.int .i64 tk, .slice a n cap] 33)).alloc (.cells #[.int .i64 0, .slice none 0 0] 33)).alloc (.cells #[.int .i64 0, .slice none 0 0] 33)) (w.heap.size + 1 + 1) #[.int .i64 0, .slice none 0 0]) := box_at (BoxAt.new _ _ _) (by simp)
  have XF1 : Hid (FreeAt (((w.alloc (.cells #[.int .i64 tk, .slice a n cap] 33)).alloc (.cells #[.int .i64 0, .slice none 0 0] 33)).alloc (.cells #[.int .i64 0, .slice none 0 0] 33)) (w.heap.size + 1)) := (free_at (FreeAt.new _ _ _) (by simp)).below (below_alloc _ _)
  have XF2 : Hid (FreeAt (((w.alloc (.cells #[.int .i64 tk, .slice a n cap] 33)).alloc (.cells #[.int .i64 0, .slice none 0 0] 33)).alloc (.cells #[.int .i64 0, .slice none 0 0] 33)) (w.heap.size + 1 + 1)) := free_at (FreeAt.new _ _ _) (by simp)
  have hz0 : (((w.alloc (.cells #[.int .i64 tk, .slice a n cap] 33)).alloc (.cells #[.int .i64 0, .slice none 0 0] 33)).alloc (.cells #[.int .i64 0, .slice none 0 0] 33)).heap.size = w.heap.size + 3 := by simp
  clear h
  go_enter Tryz.func87, Tryz.ntmps87
  go_wp2_with fail
  refine (specMatch d _ t 4 _ (by omega) HA.out hsz).mono ?_
  rintro e w1 ⟨v1, v2, mid, rfl, hmid, ho1, ho2, hb⟩
  have hz1 := hb.size
  rw [hz0] at hz1 ho1 hmid
  obtain ⟨u1, ua1, un1, uc1, rfl⟩ := agg_parts ho1.at_
  obtain ⟨u2, ua2, un2, uc2, rfl⟩ := agg_parts ho2.at_
  have O1 := Lib.hid ho1
  have O2 := Lib.hid ho2
  have HM : Hid (mid ≤ w1.heap.size) := by obtain ⟨_, _, _, hh⟩ := ho1; exact hh
  replace B := Lib.hid (below_thru B.out (Nat.le_refl _) hb)
  replace XR1 := Lib.hid (XR1.out.below hb)
  replace XR2 := Lib.hid (XR2.out.below hb)
  replace XF1 := Lib.hid (XF1.out.below hb)
  replace XF2 := Lib.hid (XF2.out.below hb)
  clear hb ho1 ho2 HA
  go_wp2_with fail
  have hb2 : Below w1.heap.size w1 ((w1.alloc (.cells #[.int .i64 u1, .slice ua1 un1 uc1] 33)).alloc (.cells #[.int .i64 u2, .slice ua2 un2 uc2] 33)) := ((Below.refl _ _).alloc (Nat.le_refl _) _).alloc (by simp) _
  have XA2 : Hid (BoxAt ((w1.alloc (.cells #[.int .i64 u1, .slice ua1 un1 uc1] 33)).alloc (.cells #[.int .i64 u2, .slice ua2 un2 uc2] 33)) w1.heap.size #[.int .i64 u1, .slice ua1 un1 uc1]) := (BoxAt.new _ _ _).below (below_alloc _ _)
  have XB2 : Hid (BoxAt ((w1.alloc (.cells #[.int .i64 u1, .slice ua1 un1 uc1] 33)).alloc (.cells #[.int .i64 u2, .slice ua2 un2 uc2] 33)) (w1.heap.size + 1) #[.int .i64 u2, .slice ua2 un2 uc2]) := box_at (BoxAt.new _ _ _) (by simp)
  replace B := Lib.hid (below_thru B.out (Nat.le_refl _) hb2)
  replace XR1 := Lib.hid (XR1.out.below hb2)
  replace XR2 := Lib.hid (XR2.out.below hb2)
  replace XF1 := Lib.hid (XF1.out.below hb2)
  replace XF2 := Lib.hid (XF2.out.below hb2)
  replace O1 := Lib.hid (O1.out.below hb2)
  replace O2 := Lib.hid (O2.out.below hb2)
  have hz2 : w1.heap.size + 2 = ((w1.alloc (.cells #[.int .i64 u1, .slice ua1 un1 uc1] 33)).alloc (.cells #[.int .i64 u2, .slice ua2 un2 uc2] 33)).heap.size := by simp
  clear hb2
  generalize ((w1.alloc (.cells #[.int .i64 u1, .slice ua1 un1 uc1] 33)).alloc (.cells #[.int .i64 u2, .slice ua2 un2 uc2] 33)) = wq at B XR1 XR2 XF1 XF2 O1 O2 XA2 XB2 hz2 ⊢
  have r0 := XR1.out.2 0
  have r1 := XR1.out.2 1
  have r2 := XR2.out.2 0
  have r3 := XR2.out.2 1
  have q0 := XF1.out.2 0
  have q1 := XF1.out.2 1
  have q2 := XF2.out.2 0
  have q3 := XF2.out.2 1
  have x0 := XA2.out.2 0
  have x1 := XA2.out.2 1
  have x2 := XB2.out.2 0
  have x3 := XB2.out.2 1
  go_region
  clear r0 r1 r2 r3 q0 q1 q2 q3 x0 x1 x2 x3 XA2 XB2 XF1 XF2
  have HF : Hid (Below w.heap.size w ((((wq.setCell ⟨w.heap.size + 1, 0, none⟩ (.int .i64 u1)).setCell ⟨w.heap.size + 1, 1, none⟩ (.slice ua1 un1 uc1)).setCell ⟨w.heap.size + 1 + 1, 0, none⟩ (.int .i64 u2)).setCell ⟨w.heap.size + 1 + 1, 1, none⟩ (.slice ua2 un2 uc2))) := (((B.out.setCell (by dsimp only; omega) _).setCell (by dsimp only; omega) _).setCell (by dsimp only; omega) _).setCell (by dsimp only; omega) _
  have R1 : Hid (BoxAt ((((wq.setCell ⟨w.heap.size + 1, 0, none⟩ (.int .i64 u1)).setCell ⟨w.heap.size + 1, 1, none⟩ (.slice ua1 un1 uc1)).setCell ⟨w.heap.size + 1 + 1, 0, none⟩ (.int .i64 u2)).setCell ⟨w.heap.size + 1 + 1, 1, none⟩ (.slice ua2 un2 uc2)) (w.heap.size + 1) #[.int .i64 u1, .slice ua1 un1 uc1]) := by
    have := (((XR1.out.put (j := 0) (u := .int .i64 u1) (by simp)).put (j := 1) (u := .slice ua1 un1 uc1) (by simp)).stored (q := w.heap.size + 1 + 1) (j := 0) (u := .int .i64 u2) (by omega)).stored (q := w.heap.size + 1 + 1) (j := 1) (u := .slice ua2 un2 uc2) (by omega)
    exact this
  have R2 : Hid (BoxAt ((((wq.setCell ⟨w.heap.size + 1, 0, none⟩ (.int .i64 u1)).setCell ⟨w.heap.size + 1, 1, none⟩ (.slice ua1 un1 uc1)).setCell ⟨w.heap.size + 1 + 1, 0, none⟩ (.int .i64 u2)).setCell ⟨w.heap.size + 1 + 1, 1, none⟩ (.slice ua2 un2 uc2)) (w.heap.size + 1 + 1) #[.int .i64 u2, .slice ua2 un2 uc2]) := by
    have := (((XR2.out.stored (q := w.heap.size + 1) (j := 0) (u := .int .i64 u1) (by omega)).stored (q := w.heap.size + 1) (j := 1) (u := .slice ua1 un1 uc1) (by omega)).put (j := 0) (u := .int .i64 u2) (by simp)).put (j := 1) (u := .slice ua2 un2 uc2) (by simp)
    exact this
  have P1 : Hid (OwnIn ((((wq.setCell ⟨w.heap.size + 1, 0, none⟩ (.int .i64 u1)).setCell ⟨w.heap.size + 1, 1, none⟩ (.slice ua1 un1 uc1)).setCell ⟨w.heap.size + 1 + 1, 0, none⟩ (.int .i64 u2)).setCell ⟨w.heap.size + 1 + 1, 1, none⟩ (.slice ua2 un2 uc2)) d _ (t.parts 4).1 _ _) := (((O1.out.stored (by omega)).stored (by omega)).stored (by omega)).stored (by omega)
  have P2 : Hid (OwnIn ((((wq.setCell ⟨w.heap.size + 1, 0, none⟩ (.int .i64 u1)).setCell ⟨w.heap.size + 1, 1, none⟩ (.slice ua1 un1 uc1)).setCell ⟨w.heap.size + 1 + 1, 0, none⟩ (.int .i64 u2)).setCell ⟨w.heap.size + 1 + 1, 1, none⟩ (.slice ua2 un2 uc2)) d _ (t.parts 4).2.1 _ _) := (((O2.out.stored (by omega)).stored (by omega)).stored (by omega)).stored (by omega)
  generalize ((((wq.setCell ⟨w.heap.size + 1, 0, none⟩ (.int .i64 u1)).setCell ⟨w.heap.size + 1, 1, none⟩ (.slice ua1 un1 uc1)).setCell ⟨w.heap.size + 1 + 1, 0, none⟩ (.int .i64 u2)).setCell ⟨w.heap.size + 1 + 1, 1, none⟩ (.slice ua2 un2 uc2)) = wf at HF R1 R2 P1 P2 ⊢
  have hb3 := below_drew wf
  replace HF := Lib.hid (below_thru HF.out (Nat.le_refl _) hb3)
  replace R1 := Lib.hid (R1.out.below hb3)
  replace R2 := Lib.hid (R2.out.below hb3)
  replace P1 := Lib.hid (P1.out.below hb3)
  replace P2 := Lib.hid (P2.out.below hb3)
  clear hb3
  generalize wf.drew = wz at HF R1 R2 P1 P2 ⊢
  have r0 := R1.out.2 0
  have r1 := R1.out.2 1
  have r2 := R2.out.2 0
  have r3 := R2.out.2 1
  go_wp2_with fail
  refine bodyPost_ret (v := .tuple #[.agg #[.int .i64 u1, .slice ua1 un1 uc1], .agg #[.int .i64 u2, .slice ua2 un2 uc2], .bool (t.parts 4).2.2]) (by simp [results, Tryz.results87, go_sem, r0, r1, r2, r3]) rfl ?_
  exact match_any (p := t.parts 4) P1.out P2.out (by omega) (by omega) (Nat.le_refl _) HF.out
set_option maxRecDepth 100000 in
set_option maxHeartbeats 2000000 in
theorem specMatchPair (d : Nat) (v : Value) (t : Ty) (w : World) (h : TyAt w d v t) (hsz : t.size ≤ 1048577) :
    Calls Tryz.prog 90 #[v] w (MatchEnd d (t.parts 5) w) := by
  obtain ⟨tk, a, n, cap, rfl⟩ := agg_parts h
  have B : Hid (Below w.heap.size w (((w.alloc (.cells #[.int .i64 tk, .slice a n cap] 33)).alloc (.cells #[.int .i64 0, .slice none 0 0] 33)).alloc (.cells #[.int .i64 0, .slice none 0 0] 33))) := (((Below.refl _ _).alloc (Nat.le_refl _) _).alloc (by simp) _).alloc (by simp; omega) _
  have HA := Lib.hid (h.below B.out)
  have XR1 : Hid (BoxAt (((w.alloc (.cells #[.int .i64 tk, .slice a n cap] 33)).alloc (.cells #[.int .i64 0, .slice none 0 0] 33)).alloc (.cells #[.int .i64 0, .slice none 0 0] 33)) (w.heap.size + 1) #[.int .i64 0, .slice none 0 0]) := (box_at (BoxAt.new _ _ _) (by simp)).below (below_alloc _ _)
  have XR2 : Hid (BoxAt (((w.alloc (.cells #[.int .i64 tk, .slice a n cap] 33)).alloc (.cells #[.int .i64 0, .slice none 0 0] 33)).alloc (.cells #[.int .i64 0, .slice none 0 0] 33)) (w.heap.size + 1 + 1) #[.int .i64 0, .slice none 0 0]) := box_at (BoxAt.new _ _ _) (by simp)
  have XF1 : Hid (FreeAt (((w.alloc (.cells #[.int .i64 tk, .slice a n cap] 33)).alloc (.cells #[.int .i64 0, .slice none 0 0] 33)).alloc (.cells #[.int .i64 0, .slice none 0 0] 33)) (w.heap.size + 1)) := (free_at (FreeAt.new _ _ _) (by simp)).below (below_alloc _ _)
  have XF2 : Hid (FreeAt (((w.alloc (.cells #[.int .i64 tk, .slice a n cap] 33)).alloc (.cells #[.int .i64 0, .slice none 0 0] 33)).alloc (.cells #[.int .i64 0, .slice none 0 0] 33)) (w.heap.size + 1 + 1)) := free_at (FreeAt.new _ _ _) (by simp)
  have hz0 : (((w.alloc (.cells #[.int .i64 tk, .slice a n cap] 33)).alloc (.cells #[.int .i64 0, .slice none 0 0] 33)).alloc (.cells #[.int .i64 0, .slice none 0 0] 33)).heap.size = w.heap.size + 3 := by simp
  clear h
  go_enter Tryz.func90, Tryz.ntmps90
  go_wp2_with fail
  refine (specMatch d _ t 5 _ (by omega) HA.out hsz).mono ?_
  rintro e w1 ⟨v1, v2, mid, rfl, hmid, ho1, ho2, hb⟩
  have hz1 := hb.size
  rw [hz0] at hz1 ho1 hmid
  obtain ⟨u1, ua1, un1, uc1, rfl⟩ := agg_parts ho1.at_
  obtain ⟨u2, ua2, un2, uc2, rfl⟩ := agg_parts ho2.at_
  have O1 := Lib.hid ho1
  have O2 := Lib.hid ho2
  have HM : Hid (mid ≤ w1.heap.size) := by obtain ⟨_, _, _, hh⟩ := ho1; exact hh
  replace B := Lib.hid (below_thru B.out (Nat.le_refl _) hb)
  replace XR1 := Lib.hid (XR1.out.below hb)
  replace XR2 := Lib.hid (XR2.out.below hb)
  replace XF1 := Lib.hid (XF1.out.below hb)
  replace XF2 := Lib.hid (XF2.out.below hb)
  clear hb ho1 ho2 HA
  go_wp2_with fail
  have hb2 : Below w1.heap.size w1 ((w1.alloc (.cells #[.int .i64 u1, .slice ua1 un1 uc1] 33)).alloc (.cells #[.int .i64 u2, .slice ua2 un2 uc2] 33)) := ((Below.refl _ _).alloc (Nat.le_refl _) _).alloc (by simp) _
  have XA2 : Hid (BoxAt ((w1.alloc (.cells #[.int .i64 u1, .slice ua1 un1 uc1] 33)).alloc (.cells #[.int .i64 u2, .slice ua2 un2 uc2] 33)) w1.heap.size #[.int .i64 u1, .slice ua1 un1 uc1]) := (BoxAt.new _ _ _).below (below_alloc _ _)
  have XB2 : Hid (BoxAt ((w1.alloc (.cells #[.int .i64 u1, .slice ua1 un1 uc1] 33)).alloc (.cells #[.int .i64 u2, .slice ua2 un2 uc2] 33)) (w1.heap.size + 1) #[.int .i64 u2, .slice ua2 un2 uc2]) := box_at (BoxAt.new _ _ _) (by simp)
  replace B := Lib.hid (below_thru B.out (Nat.le_refl _) hb2)
  replace XR1 := Lib.hid (XR1.out.below hb2)
  replace XR2 := Lib.hid (XR2.out.below hb2)
  replace XF1 := Lib.hid (XF1.out.below hb2)
  replace XF2 := Lib.hid (XF2.out.below hb2)
  replace O1 := Lib.hid (O1.out.below hb2)
  replace O2 := Lib.hid (O2.out.below hb2)
  have hz2 : w1.heap.size + 2 = ((w1.alloc (.cells #[.int .i64 u1, .slice ua1 un1 uc1] 33)).alloc (.cells #[.int .i64 u2, .slice ua2 un2 uc2] 33)).heap.size := by simp
  clear hb2
  generalize ((w1.alloc (.cells #[.int .i64 u1, .slice ua1 un1 uc1] 33)).alloc (.cells #[.int .i64 u2, .slice ua2 un2 uc2] 33)) = wq at B XR1 XR2 XF1 XF2 O1 O2 XA2 XB2 hz2 ⊢
  have r0 := XR1.out.2 0
  have r1 := XR1.out.2 1
  have r2 := XR2.out.2 0
  have r3 := XR2.out.2 1
  have q0 := XF1.out.2 0
  have q1 := XF1.out.2 1
  have q2 := XF2.out.2 0
  have q3 := XF2.out.2 1
  have x0 := XA2.out.2 0
  have x1 := XA2.out.2 1
  have x2 := XB2.out.2 0
  have x3 := XB2.out.2 1
  go_region
  clear r0 r1 r2 r3 q0 q1 q2 q3 x0 x1 x2 x3 XA2 XB2 XF1 XF2
  have HF : Hid (Below w.heap.size w ((((wq.setCell ⟨w.heap.size + 1, 0, none⟩ (.int .i64 u1)).setCell ⟨w.heap.size + 1, 1, none⟩ (.slice ua1 un1 uc1)).setCell ⟨w.heap.size + 1 + 1, 0, none⟩ (.int .i64 u2)).setCell ⟨w.heap.size + 1 + 1, 1, none⟩ (.slice ua2 un2 uc2))) := (((B.out.setCell (by dsimp only; omega) _).setCell (by dsimp only; omega) _).setCell (by dsimp only; omega) _).setCell (by dsimp only; omega) _
  have R1 : Hid (BoxAt ((((wq.setCell ⟨w.heap.size + 1, 0, none⟩ (.int .i64 u1)).setCell ⟨w.heap.size + 1, 1, none⟩ (.slice ua1 un1 uc1)).setCell ⟨w.heap.size + 1 + 1, 0, none⟩ (.int .i64 u2)).setCell ⟨w.heap.size + 1 + 1, 1, none⟩ (.slice ua2 un2 uc2)) (w.heap.size + 1) #[.int .i64 u1, .slice ua1 un1 uc1]) := by
    have := (((XR1.out.put (j := 0) (u := .int .i64 u1) (by simp)).put (j := 1) (u := .slice ua1 un1 uc1) (by simp)).stored (q := w.heap.size + 1 + 1) (j := 0) (u := .int .i64 u2) (by omega)).stored (q := w.heap.size + 1 + 1) (j := 1) (u := .slice ua2 un2 uc2) (by omega)
    exact this
  have R2 : Hid (BoxAt ((((wq.setCell ⟨w.heap.size + 1, 0, none⟩ (.int .i64 u1)).setCell ⟨w.heap.size + 1, 1, none⟩ (.slice ua1 un1 uc1)).setCell ⟨w.heap.size + 1 + 1, 0, none⟩ (.int .i64 u2)).setCell ⟨w.heap.size + 1 + 1, 1, none⟩ (.slice ua2 un2 uc2)) (w.heap.size + 1 + 1) #[.int .i64 u2, .slice ua2 un2 uc2]) := by
    have := (((XR2.out.stored (q := w.heap.size + 1) (j := 0) (u := .int .i64 u1) (by omega)).stored (q := w.heap.size + 1) (j := 1) (u := .slice ua1 un1 uc1) (by omega)).put (j := 0) (u := .int .i64 u2) (by simp)).put (j := 1) (u := .slice ua2 un2 uc2) (by simp)
    exact this
  have P1 : Hid (OwnIn ((((wq.setCell ⟨w.heap.size + 1, 0, none⟩ (.int .i64 u1)).setCell ⟨w.heap.size + 1, 1, none⟩ (.slice ua1 un1 uc1)).setCell ⟨w.heap.size + 1 + 1, 0, none⟩ (.int .i64 u2)).setCell ⟨w.heap.size + 1 + 1, 1, none⟩ (.slice ua2 un2 uc2)) d _ (t.parts 5).1 _ _) := (((O1.out.stored (by omega)).stored (by omega)).stored (by omega)).stored (by omega)
  have P2 : Hid (OwnIn ((((wq.setCell ⟨w.heap.size + 1, 0, none⟩ (.int .i64 u1)).setCell ⟨w.heap.size + 1, 1, none⟩ (.slice ua1 un1 uc1)).setCell ⟨w.heap.size + 1 + 1, 0, none⟩ (.int .i64 u2)).setCell ⟨w.heap.size + 1 + 1, 1, none⟩ (.slice ua2 un2 uc2)) d _ (t.parts 5).2.1 _ _) := (((O2.out.stored (by omega)).stored (by omega)).stored (by omega)).stored (by omega)
  generalize ((((wq.setCell ⟨w.heap.size + 1, 0, none⟩ (.int .i64 u1)).setCell ⟨w.heap.size + 1, 1, none⟩ (.slice ua1 un1 uc1)).setCell ⟨w.heap.size + 1 + 1, 0, none⟩ (.int .i64 u2)).setCell ⟨w.heap.size + 1 + 1, 1, none⟩ (.slice ua2 un2 uc2)) = wf at HF R1 R2 P1 P2 ⊢
  have hb3 := below_drew wf
  replace HF := Lib.hid (below_thru HF.out (Nat.le_refl _) hb3)
  replace R1 := Lib.hid (R1.out.below hb3)
  replace R2 := Lib.hid (R2.out.below hb3)
  replace P1 := Lib.hid (P1.out.below hb3)
  replace P2 := Lib.hid (P2.out.below hb3)
  clear hb3
  generalize wf.drew = wz at HF R1 R2 P1 P2 ⊢
  have r0 := R1.out.2 0
  have r1 := R1.out.2 1
  have r2 := R2.out.2 0
  have r3 := R2.out.2 1
  go_wp2_with fail
  refine bodyPost_ret (v := .tuple #[.agg #[.int .i64 u1, .slice ua1 un1 uc1], .agg #[.int .i64 u2, .slice ua2 un2 uc2], .bool (t.parts 5).2.2]) (by simp [results, Tryz.results90, go_sem, r0, r1, r2, r3]) rfl ?_
  exact match_any (p := t.parts 5) P1.out P2.out (by omega) (by omega) (Nat.le_refl _) HF.out
end Go.Proofs.YteffjeejbdjjpaaGreatDoor
