/-
  Proved: spec.MeetType gives the meet of two types where they agree; the memory that was there stays as it was.
-/
import Derived.Test.YtimigpdbegfjaaaDoorSpecMeet
import Derived.Test.YtimigpdbegfjaaaDoorSpecCons
import Derived.Test.YtimigpdbegfjaaaDoorImplMeetTop
namespace Go.Proofs.YtimigpdbegfjaaaDoor
open Go.RowKit

set_option maxRecDepth 100000 in
set_option maxHeartbeats 2000000 in
theorem specMeetType (d : Nat) (v1 v2 : Value) (t1 t2 : Ty) (w : World) (h1 : TyAt w d v1 t1) (h2 : TyAt w d v2 t2) (hn1 : t1.size ≤ 1048577) (hn2 : t2.size ≤ 1048577) :
    Calls Tryd.prog 6 #[v1, v2] w (MeetTop d t1 t2 w) := by
  obtain ⟨ak, aa, an, ac, rfl⟩ := agg_parts h1
  obtain ⟨bk, ba, bn, bc, rfl⟩ := agg_parts h2
  obtain ⟨W0, hW0⟩ : ∃ W0, W0 = (((w.alloc (.cells #[.int .i64 ak, .slice aa an ac] 28)).alloc (.cells #[.int .i64 bk, .slice ba bn bc] 28)).alloc (.cells #[.int .i64 0, .slice none 0 0] 28)) := ⟨_, rfl⟩
  have hz0 : W0.heap.size = w.heap.size + 3 := by rw [hW0]; simp
  have B : Hid (Below w.heap.size w W0) := by show Below _ _ _; rw [hW0]; exact (((Below.refl _ _).alloc (Nat.le_refl _) _).alloc (by simp) _).alloc (by simp; omega) _
  have XA : Hid (BoxAt W0 w.heap.size #[.int .i64 ak, .slice aa an ac]) := by show BoxAt _ _ _; rw [hW0]; exact ((BoxAt.new _ _ _).below (below_alloc _ _)).below (below_alloc _ _)
  have XB : Hid (BoxAt W0 (w.heap.size + 1) #[.int .i64 bk, .slice ba bn bc]) := by show BoxAt _ _ _; rw [hW0]; exact (box_at (BoxAt.new _ _ _) (by simp)).below (below_alloc _ _)
  have XR : Hid (BoxAt W0 (w.heap.size + 1 + 1) #[.int .i64 0, .slice none 0 0]) := by show BoxAt _ _ _; rw [hW0]; exact box_at (BoxAt.new _ _ _) (by simp)
  have XF : Hid (FreeAt W0 (w.heap.size + 1 + 1)) := by show FreeAt _ _; rw [hW0]; exact free_at (FreeAt.new _ _ _) (by simp)
  have HA := Lib.hid (h1.below B.out)
  have HB := Lib.hid (h2.below B.out)
  clear h1 h2
  go_enter Tryd.func6, Tryd.ntmps6
  go_wp2_with fail
  rw [← hW0]
  clear hW0
  refine (specConsistent d _ _ t1 t2 _ HA.out HB.out hn1 hn2).mono ?_
  rintro e w1 ⟨rfl, hb⟩
  have hzb := hb.size
  replace B := Lib.hid (B.out.trans (hb.mono B.out.size))
  replace HA := Lib.hid (HA.out.below hb)
  replace HB := Lib.hid (HB.out.below hb)
  replace XA := Lib.hid (XA.out.below hb)
  replace XB := Lib.hid (XB.out.below hb)
  replace XR := Lib.hid (XR.out.below hb)
  replace XF := Lib.hid (XF.out.below hb)
  clear hb
  cases hok : t1.valid && (t2.valid && t1.cons t2) with
  | false =>
    have r0 := XR.out.2 0
    have r1 := XR.out.2 1
    have q0 := XF.out.2 0
    have q1 := XF.out.2 1
    go_wp2_with fail
    refine bodyPost_ret (v := .tuple #[.agg #[.int .i64 0, .slice none 0 0], .bool false]) (by simp [results, Tryd.results6, go_sem, r0, r1]) rfl ?_
    exact top_no hok ((B.out.setCell (by dsimp only; omega) _).setCell (by dsimp only; omega) _)
  | true =>
    have HOK : Hid (t1.okay t2 = true) := hok
    simp only [Bool.and_eq_true] at hok
    obtain ⟨hv1, hv2, hc⟩ := hok
    have hf1 : Hid (t1.form = true) := by simp only [Ty.valid, Bool.and_eq_true] at hv1; exact hv1.2
    have hf2 : Hid (t2.form = true) := by simp only [Ty.valid, Bool.and_eq_true] at hv2; exact hv2.2
    have HC := Lib.hid hc
    clear hv1 hv2 hc
    have a0 := XA.out.2 0
    have a1 := XA.out.2 1
    have b0 := XB.out.2 0
    have b1 := XB.out.2 1
    go_wp2_with fail
    clear a0 a1 b0 b1
    refine (specMeet d _ _ t1 t2 _ HA.out HB.out hf1.out hf2.out hn1 hn2 HC.out).mono ?_
    rintro e w3 ⟨v', fp, rfl, ht, hfp, hb⟩
    obtain ⟨zk, za, zn, zc, rfl, HY⟩ := ty_parts ht
    clear HY
    have hzb3 := hb.size
    have r0 := (XR.out.below hb).2 0
    have r1 := (XR.out.below hb).2 1
    have q0 := (XF.out.below hb).2 0
    have q1 := (XF.out.below hb).2 1
    have HT := Lib.hid ht
    have HFP := Lib.hid hfp
    have B3 := Lib.hid (B.out.trans (hb.mono B.out.size))
    clear hb ht hfp
    go_wp2_with fail
    refine bodyPost_ret (v := .tuple #[.agg #[.int .i64 zk, .slice za zn zc], .bool true]) (by simp [results, Tryd.results6, go_sem, r0, r1]) rfl ?_
    exact ⟨zk, za, zn, zc, fp, by rw [HOK.out], fun _ => ⟨own_put (own_put HT.out HFP.out (by omega)) HFP.out (by omega), HFP.out.mono (by omega) (by simp)⟩, fun h => (by rw [HOK.out] at h; cases h), (B3.out.setCell (by dsimp only; omega) _).setCell (by dsimp only; omega) _⟩
end Go.Proofs.YtimigpdbegfjaaaDoor
