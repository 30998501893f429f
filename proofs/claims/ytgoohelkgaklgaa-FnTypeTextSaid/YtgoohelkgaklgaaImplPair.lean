/-
  Proved: impl.PairType makes a type of two copied parts in new memory; the memory that was there stays as it was.
-/
import Derived.Test.YtgoohelkgaklgaaHold
import Derived.Test.YtgoohelkgaklgaaPart
import Derived.Test.YtgoohelkgaklgaaTwo
import Derived.Deep.RegionHeld3
import Derived.Test.YtgoohelkgaklgaaImplCopy
namespace Go.Proofs.Ytgoohelkgaklgaa
open Go.RowKit

set_option maxRecDepth 100000 in
set_option maxHeartbeats 2000000 in
theorem implPairType (d : Nat) (v1 v2 : Value) (t1 t2 : Ty) (w : World) (hn1 : t1.size ≤ 1048577) (hn2 : t2.size ≤ 1048577) (h1 : TyAt w d v1 t1) (h2 : TyAt w d v2 t2) :
    Calls Try.prog 41 #[v1, v2] w (ToTyEnd (d + 1) (.node 5 [t1, t2]) w) := by
  obtain ⟨ak, aa, an, ac, rfl⟩ := agg_parts h1
  obtain ⟨bk, ba, bn, bc, rfl⟩ := agg_parts h2
  have B : Hid (Below w.heap.size w (((w.alloc (.cells #[.int .i64 ak, .slice aa an ac] 26)).alloc (.cells #[.int .i64 bk, .slice ba bn bc] 26)).alloc (.cells #[.int .i64 0, .slice none 0 0] 26))) := (((Below.refl _ _).alloc (Nat.le_refl _) _).alloc (by simp) _).alloc (by simp; omega) _
  have XA : Hid (BoxAt (((w.alloc (.cells #[.int .i64 ak, .slice aa an ac] 26)).alloc (.cells #[.int .i64 bk, .slice ba bn bc] 26)).alloc (.cells #[.int .i64 0, .slice none 0 0] 26)) w.heap.size #[.int .i64 ak, .slice aa an ac]) := ((BoxAt.new _ _ _).below (below_alloc _ _)).below (below_alloc _ _)
  have XB : Hid (BoxAt (((w.alloc (.cells #[.int .i64 ak, .slice aa an ac] 26)).alloc (.cells #[.int .i64 bk, .slice ba bn bc] 26)).alloc (.cells #[.int .i64 0, .slice none 0 0] 26)) (w.heap.size + 1) #[.int .i64 bk, .slice ba bn bc]) := (box_at (BoxAt.new _ _ _) (by simp)).below (below_alloc _ _)
  have XR : Hid (BoxAt (((w.alloc (.cells #[.int .i64 ak, .slice aa an ac] 26)).alloc (.cells #[.int .i64 bk, .slice ba bn bc] 26)).alloc (.cells #[.int .i64 0, .slice none 0 0] 26)) (w.heap.size + 1 + 1) #[.int .i64 0, .slice none 0 0]) := box_at (BoxAt.new _ _ _) (by simp)
  have XF : Hid (FreeAt (((w.alloc (.cells #[.int .i64 ak, .slice aa an ac] 26)).alloc (.cells #[.int .i64 bk, .slice ba bn bc] 26)).alloc (.cells #[.int .i64 0, .slice none 0 0] 26)) (w.heap.size + 1 + 1)) := free_at (FreeAt.new _ _ _) (by simp)
  have HA := Lib.hid (h1.below B.out)
  have HB := Lib.hid (h2.below B.out)
  clear h1 h2
  go_enter Try.func41, Try.ntmps41
  go_wp2_with fail
  have hb := below_drew (((w.alloc (.cells #[.int .i64 ak, .slice aa an ac] 26)).alloc (.cells #[.int .i64 bk, .slice ba bn bc] 26)).alloc (.cells #[.int .i64 0, .slice none 0 0] 26))
  replace B := Lib.hid (below_thru B.out (Nat.le_refl _) hb)
  replace HA := Lib.hid (HA.out.below hb)
  replace HB := Lib.hid (HB.out.below hb)
  replace XA := Lib.hid (XA.out.below hb)
  replace XB := Lib.hid (XB.out.below hb)
  replace XR := Lib.hid (XR.out.below hb)
  replace XF := Lib.hid (XF.out.below hb)
  clear hb
  have hzs : (((w.alloc (.cells #[.int .i64 ak, .slice aa an ac] 26)).alloc (.cells #[.int .i64 bk, .slice ba bn bc] 26)).alloc (.cells #[.int .i64 0, .slice none 0 0] 26)).drew.heap.size = w.heap.size + 3 := by simp
  go_region_held3 (fun w' => w'.cell? ⟨w.heap.size, 0, none⟩ = some (.int .i64 ak) ∧ w'.cell? ⟨w.heap.size, 1, none⟩ = some (.slice aa an ac) ∧ w'.cell? ⟨w.heap.size + 1, 0, none⟩ = some (.int .i64 bk) ∧ w'.cell? ⟨w.heap.size + 1, 1, none⟩ = some (.slice ba bn bc))
    (first | exact ⟨XA.out.2 0, XA.out.2 1, XB.out.2 0, XB.out.2 1⟩ | exact ⟨(XA.out.below (below_alloc _ _)).2 0, (XA.out.below (below_alloc _ _)).2 1, (XB.out.below (below_alloc _ _)).2 0, (XB.out.below (below_alloc _ _)).2 1⟩ | exact ⟨(((XA.out.stored (by omega)).stored (by omega)).below (below_alloc _ _)).2 0, (((XA.out.stored (by omega)).stored (by omega)).below (below_alloc _ _)).2 1, (((XB.out.stored (by omega)).stored (by omega)).below (below_alloc _ _)).2 0, (((XB.out.stored (by omega)).stored (by omega)).below (below_alloc _ _)).2 1⟩)
    (first
     | (go_at_call_of 55 (Value.agg #[Value.int IntKind.i64 ak, Value.slice aa an ac])
        refine (implCopy d _ t1 _ hn1 HA.out).mono ?_
        rintro e w1 ⟨x1, f1, rfl, ht, hf1, hb⟩
        obtain ⟨ck, ca, cn, cc, rfl, HC⟩ := ty_parts ht
        have hz1 := hb.size
        rw [hzs] at hz1 hf1
        have F1 := Lib.hid hf1
        clear ht hf1
        replace B := Lib.hid (below_thru B.out (Nat.le_refl _) hb)
        replace HA := Lib.hid (HA.out.below hb)
        replace HB := Lib.hid (HB.out.below hb)
        replace XA := Lib.hid (XA.out.below hb)
        replace XB := Lib.hid (XB.out.below hb)
        replace XR := Lib.hid (XR.out.below hb)
        replace XF := Lib.hid (XF.out.below hb)
        clear hb)
     | (go_at_call_of 55 (Value.agg #[Value.int IntKind.i64 bk, Value.slice ba bn bc])
        refine (implCopy d _ t2 _ hn2 HB.out).mono ?_
        rintro e w2 ⟨x2, f2, rfl, ht, hf2, hb⟩
        obtain ⟨dk, da, dn, dc, rfl, HD⟩ := ty_parts ht
        have hz2 := hb.size
        have F2 := Lib.hid hf2
        clear ht hf2
        replace B := Lib.hid (below_thru B.out (Nat.le_refl _) hb)
        replace HA := Lib.hid (HA.out.below hb)
        replace HB := Lib.hid (HB.out.below hb)
        replace XA := Lib.hid (XA.out.below hb)
        replace XB := Lib.hid (XB.out.below hb)
        replace XR := Lib.hid (XR.out.below hb)
        replace XF := Lib.hid (XF.out.below hb)
        replace HC := Lib.hid (HC.out.below hb)
        clear hb
        have r0 := XR.out.2 0
        have r1 := XR.out.2 1
        have q0 := XF.out.2 0
        have q1 := XF.out.2 1
        have hr := XR.out.1))
  go_wp2_with fail
  have hkeep : ∀ b, w.heap.size + 3 ≤ b → ((w2.setCell ⟨w.heap.size + 1 + 1, 0, none⟩ (.int .i64 5)).setCell ⟨w.heap.size + 1 + 1, 1, none⟩ (.slice (some ⟨w2.heap.size, 0, none⟩) 2 2)).heap[b]? = w2.heap[b]? := fun b hb => by
    rw [heap_setCell_other _ _ _ _ (by simp; omega), heap_setCell_other _ _ _ _ (by simp; omega)]
  have hxz : ((w2.setCell ⟨w.heap.size + 1 + 1, 0, none⟩ (.int .i64 5)).setCell ⟨w.heap.size + 1 + 1, 1, none⟩ (.slice (some ⟨w2.heap.size, 0, none⟩) 2 2)).heap.size = w2.heap.size := by simp
  obtain ⟨fp, hown, hfp⟩ := own_two (X := ((w2.setCell ⟨w.heap.size + 1 + 1, 0, none⟩ (.int .i64 5)).setCell ⟨w.heap.size + 1 + 1, 1, none⟩ (.slice (some ⟨w2.heap.size, 0, none⟩) 2 2))) (k := 5) (by omega) (by omega) hxz.symm (HC.out.kept (by simp) fun b hb => hkeep b (F1.out.2 b hb).1) (HD.out.kept (by simp) fun b hb => hkeep b (by have := (F2.out.2 b hb).1; omega)) F1.out F2.out hz1 hz2
  have g0 : (((w2.setCell ⟨w.heap.size + 1 + 1, 0, none⟩ (.int .i64 5)).setCell ⟨w.heap.size + 1 + 1, 1, none⟩ (.slice (some ⟨w2.heap.size, 0, none⟩) 2 2)).alloc (.cells #[.int .i64 ck, .slice ca cn cc, .int .i64 dk, .slice da dn dc] 26)).cell? ⟨w.heap.size + 1 + 1, 0, none⟩ = some (.int .i64 5) := by
    rw [World.cell?_of_block (heap_alloc_old _ _ (by rw [hxz]; exact hr))]; simp [go_sem, r0]
  have g1 : (((w2.setCell ⟨w.heap.size + 1 + 1, 0, none⟩ (.int .i64 5)).setCell ⟨w.heap.size + 1 + 1, 1, none⟩ (.slice (some ⟨w2.heap.size, 0, none⟩) 2 2)).alloc (.cells #[.int .i64 ck, .slice ca cn cc, .int .i64 dk, .slice da dn dc] 26)).cell? ⟨w.heap.size + 1 + 1, 1, none⟩ = some (.slice (some ⟨w2.heap.size, 0, none⟩) 2 2) := by
    rw [World.cell?_of_block (heap_alloc_old _ _ (by rw [hxz]; exact hr))]; simp [go_sem, r1]
  have hbF : Below w.heap.size w (((w2.setCell ⟨w.heap.size + 1 + 1, 0, none⟩ (.int .i64 5)).setCell ⟨w.heap.size + 1 + 1, 1, none⟩ (.slice (some ⟨w2.heap.size, 0, none⟩) 2 2)).alloc (.cells #[.int .i64 ck, .slice ca cn cc, .int .i64 dk, .slice da dn dc] 26)) := ((B.out.setCell (by simp; omega) _).setCell (by simp; omega) _).alloc (by rw [hxz]; omega) _
  have hzF : w2.heap.size + 1 ≤ (((w2.setCell ⟨w.heap.size + 1 + 1, 0, none⟩ (.int .i64 5)).setCell ⟨w.heap.size + 1 + 1, 1, none⟩ (.slice (some ⟨w2.heap.size, 0, none⟩) 2 2)).alloc (.cells #[.int .i64 ck, .slice ca cn cc, .int .i64 dk, .slice da dn dc] 26)).heap.size := by simp
  generalize ((w2.setCell ⟨w.heap.size + 1 + 1, 0, none⟩ (.int .i64 5)).setCell ⟨w.heap.size + 1 + 1, 1, none⟩ (.slice (some ⟨w2.heap.size, 0, none⟩) 2 2)).alloc (.cells #[.int .i64 ck, .slice ca cn cc, .int .i64 dk, .slice da dn dc] 26) = WF at g0 g1 hown hbF hzF ⊢
  refine bodyPost_ret (v := .agg #[.int .i64 5, .slice (some ⟨w2.heap.size, 0, none⟩) 2 2]) (by simp [results, Try.results41, go_sem, g0, g1]) rfl ?_
  exact ⟨_, fp, rfl, hown, hfp.mono (by omega) hzF, hbF⟩
end Go.Proofs.Ytgoohelkgaklgaa
