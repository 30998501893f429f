/-
  Proved: impl.MeetType gives the meet of two types where they agree; the memory that was there stays as it was.
-/
import Derived.Test.YtimigpdbegfjaaaDoorImplMeetParts
import Derived.Test.YtimigpdbegfjaaaDoorImplValid
namespace Go.Proofs.YtimigpdbegfjaaaDoor
open Go.RowKit

def Ty.okay (t1 t2 : Ty) : Bool := t1.valid && (t2.valid && t1.cons t2)
def MeetTop (d : Nat) (t1 t2 : Ty) (w : World) (e : Ending) (w' : World) : Prop :=
  ∃ k a n c fp, e = .returned (.tuple #[.agg #[.int .i64 k, .slice a n c], .bool (t1.okay t2)]) ∧ (t1.okay t2 = true → TyOwn w' d (.agg #[.int .i64 k, .slice a n c]) (t1.meet t2) fp ∧ Fp w.heap.size w'.heap.size fp) ∧ (t1.okay t2 = false → k = 0 ∧ a = none ∧ n = 0 ∧ c = 0) ∧ Below w.heap.size w w'
theorem top_no {d : Nat} {t1 t2 : Ty} {w w' : World} (h : t1.okay t2 = false) (hb : Below w.heap.size w w') : MeetTop d t1 t2 w (.returned (.tuple #[.agg #[.int .i64 0, .slice none 0 0], .bool false])) w' :=
  ⟨0, none, 0, 0, [], by rw [h], fun h' => (by rw [h] at h'; cases h'), fun _ => ⟨rfl, rfl, rfl, rfl⟩, hb⟩
set_option maxRecDepth 100000 in
set_option maxHeartbeats 2000000 in
theorem implMeetType (d : Nat) (v1 v2 : Value) (t1 t2 : Ty) (w : World) (h1 : TyAt w d v1 t1) (h2 : TyAt w d v2 t2) (hn1 : t1.size ≤ 1048577) (hn2 : t2.size ≤ 1048577) (htab : MeetTab w) :
    Calls Tryd.prog 8 #[v1, v2] w (MeetTop d t1 t2 w) := by
  obtain ⟨ak, aa, an, ac, rfl⟩ := agg_parts h1
  obtain ⟨bk, ba, bn, bc, rfl⟩ := agg_parts h2
  obtain ⟨W0, hW0⟩ : ∃ W0, W0 = (((w.alloc (.cells #[.int .i64 ak, .slice aa an ac] 28)).alloc (.cells #[.int .i64 bk, .slice ba bn bc] 28)).alloc (.cells #[.int .i64 0, .slice none 0 0] 28)) := ⟨_, rfl⟩
  have hz0 : W0.heap.size = w.heap.size + 3 := by rw [hW0]; simp
  have B : Hid (Below w.heap.size w W0) := by show Below _ _ _; rw [hW0]; exact (((Below.refl _ _).alloc (Nat.le_refl _) _).alloc (by simp) _).alloc (by simp; omega) _
  have XA : Hid (BoxAt W0 w.heap.size #[.int .i64 ak, .slice aa an ac]) := by show BoxAt _ _ _; rw [hW0]; exact ((BoxAt.new _ _ _).below (below_alloc _ _)).below (below_alloc _ _)
  have XB : Hid (BoxAt W0 (w.heap.size + 1) #[.int .i64 bk, .slice ba bn bc]) := by show BoxAt _ _ _; rw [hW0]; exact (box_at (BoxAt.new _ _ _) (by simp)).below (below_alloc _ _)
  have XR : Hid (BoxAt W0 (w.heap.size + 1 + 1) #[.int .i64 0, .slice none 0 0]) := by show BoxAt _ _ _; rw [hW0]; exact box_at (BoxAt.new _ _ _) (by simp)
  have XF : Hid (FreeAt W0 (w.heap.size + 1 + 1)) := by show FreeAt _ _; rw [hW0]; exact free_at (FreeAt.new _ _ _) (by simp)
  have HA := Lib.hid (h1.below B.out)
  have HB := Lib.hid (h2.below B.out)
  have HG := Lib.hid (htab.below B.out)
  clear h1 h2 htab
  go_enter Tryd.func8, Tryd.ntmps8
  go_wp2_with fail
  rw [← hW0]
  clear hW0
  refine (implValid d _ t1 _ HA.out hn1).mono ?_
  rintro e w1 ⟨rfl, hb⟩
  have hzb := hb.size
  replace B := Lib.hid (B.out.trans (hb.mono B.out.size))
  replace HA := Lib.hid (HA.out.below hb)
  replace HB := Lib.hid (HB.out.below hb)
  replace HG := Lib.hid (HG.out.below hb)
  replace XA := Lib.hid (XA.out.below hb)
  replace XB := Lib.hid (XB.out.below hb)
  replace XR := Lib.hid (XR.out.below hb)
  replace XF := Lib.hid (XF.out.below hb)
  clear hb
  cases hv1 : t1.valid with
  | false =>
    have r0 := XR.out.2 0
    have r1 := XR.out.2 1
    have q0 := XF.out.2 0
    have q1 := XF.out.2 1
    go_wp2_with fail
    refine bodyPost_ret (v := .tuple #[.agg #[.int .i64 0, .slice none 0 0], .bool false]) (by simp [results, Tryd.results8, go_sem, r0, r1]) rfl ?_
    exact top_no (by simp [Ty.okay, hv1]) ((B.out.setCell (by dsimp only; omega) _).setCell (by dsimp only; omega) _)
  | true =>
    have a0 := XA.out.2 0
    have a1 := XA.out.2 1
    have b0 := XB.out.2 0
    have b1 := XB.out.2 1
    go_wp2_with fail
    clear a0 a1 b0 b1
    refine (implValid d _ t2 _ HB.out hn2).mono ?_
    rintro e w2 ⟨rfl, hb⟩
    have hzb2 := hb.size
    replace B := Lib.hid (B.out.trans (hb.mono B.out.size))
    replace HA := Lib.hid (HA.out.below hb)
    replace HB := Lib.hid (HB.out.below hb)
    replace HG := Lib.hid (HG.out.below hb)
    replace XA := Lib.hid (XA.out.below hb)
    replace XB := Lib.hid (XB.out.below hb)
    replace XR := Lib.hid (XR.out.below hb)
    replace XF := Lib.hid (XF.out.below hb)
    clear hb
    cases hv2 : t2.valid with
    | false =>
      have r0 := XR.out.2 0
      have r1 := XR.out.2 1
      have q0 := XF.out.2 0
      have q1 := XF.out.2 1
      go_wp2_with fail
      refine bodyPost_ret (v := .tuple #[.agg #[.int .i64 0, .slice none 0 0], .bool false]) (by simp [results, Tryd.results8, go_sem, r0, r1]) rfl ?_
      exact top_no (by simp [Ty.okay, hv1, hv2]) ((B.out.setCell (by dsimp only; omega) _).setCell (by dsimp only; omega) _)
    | true =>
      have hf1 : Hid (t1.form = true) := by simp only [Ty.valid, Bool.and_eq_true] at hv1; exact hv1.2
      have hf2 : Hid (t2.form = true) := by simp only [Ty.valid, Bool.and_eq_true] at hv2; exact hv2.2
      have HOK : Hid (t1.okay t2 = t1.cons t2) := by show _ = _; simp [Ty.okay, hv1, hv2]
      have a0 := XA.out.2 0
      have a1 := XA.out.2 1
      have b0 := XB.out.2 0
      have b1 := XB.out.2 1
      go_wp2_with fail
      clear a0 a1 b0 b1
      refine (implMeetOf d _ _ t1 t2 _ HA.out HB.out hf1.out hf2.out hn1 hn2 HG.out).mono ?_
      rintro e w3 ⟨zk, za, zn, zc, fp, rfl, hyes, hnot, hb⟩
      have hzb3 := hb.size
      have r0 := (XR.out.below hb).2 0
      have r1 := (XR.out.below hb).2 1
      have q0 := (XF.out.below hb).2 0
      have q1 := (XF.out.below hb).2 1
      have HYES := Lib.hid hyes
      have HNOT := Lib.hid hnot
      have B3 := Lib.hid (B.out.trans (hb.mono B.out.size))
      clear hb hyes hnot
      go_wp2_with fail
      refine bodyPost_ret (v := .tuple #[.agg #[.int .i64 zk, .slice za zn zc], .bool (t1.cons t2)]) (by simp [results, Tryd.results8, go_sem, r0, r1]) rfl ?_
      refine ⟨zk, za, zn, zc, fp, by rw [HOK.out], fun h => ?_, fun h => HNOT.out (by rw [← HOK.out]; exact h), (B3.out.setCell (by dsimp only; omega) _).setCell (by dsimp only; omega) _⟩
      obtain ⟨ht, hfp⟩ := HYES.out (by rw [← HOK.out]; exact h)
      exact ⟨own_put (own_put ht hfp (by omega)) hfp (by omega), hfp.mono (by omega) (by simp)⟩
end Go.Proofs.YtimigpdbegfjaaaDoor
