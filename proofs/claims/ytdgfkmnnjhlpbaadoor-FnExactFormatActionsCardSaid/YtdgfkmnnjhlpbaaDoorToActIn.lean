/-
  Proved: laws.toAction copies an action into new memory; it leaves the memory that was there as it was.
-/
import Derived.Test.YtdgfkmnnjhlpbaaDoorActIn
import Derived.Test.YtdgfkmnnjhlpbaaDoorToType
import Derived.Test.YtdgfkmnnjhlpbaaDoorTwo
import Derived.Test.YtdgfkmnnjhlpbaaDoorPut
namespace Go.Proofs.YtdgfkmnnjhlpbaaDoor
open Go.RowKit

set_option maxRecDepth 100000 in
set_option maxHeartbeats 2000000 in
theorem toActIn (d : Nat) (v : Value) (t : Act) (w : World) (hn : t.bulk ≤ 1048576) (h : ActAt w d v t) :
    Calls Tryd.prog 13 #[v] w fun e w' => ∃ v' fp, e = .returned v' ∧ ActIn w' d v' t w.heap.size w'.heap.size ∧ fp = ([] : List Nat) ∧ Below w.heap.size w w' := by
  cases t with
  | mk kd nm n ty =>
    obtain ⟨tk, ta, tn, tc, rfl, hk0, hk1, hn0, hn1, hnm, hty⟩ := h
    dsimp only at hk0 hk1 hn0 hn1 hnm hty ⊢
    have hsz1 : ty.size ≤ 1048577 := by have : (Act.mk kd nm n ty).bulk = nm.size + (ty.size - 1) := rfl; omega
    clear hn
    have B : Hid (Below w.heap.size w (((w.alloc (.cells #[.int .i64 kd, .string nm, .int .i64 n, .int .i64 tk, .slice ta tn tc] 26)).alloc (.cells #[.int .i64 0, .string ⟨#[]⟩, .int .i64 0, .int .i64 0, .slice none 0 0] 33)).alloc (.cells #[.int .i64 kd, .string nm, .int .i64 n, .int .i64 0, .slice none 0 0] 33))) := (((Below.refl _ _).alloc (Nat.le_refl _) _).alloc (by simp) _).alloc (by simp; omega) _
    have HTY := Lib.hid (hty.below B.out)
    have XA : Hid (BoxAt (((w.alloc (.cells #[.int .i64 kd, .string nm, .int .i64 n, .int .i64 tk, .slice ta tn tc] 26)).alloc (.cells #[.int .i64 0, .string ⟨#[]⟩, .int .i64 0, .int .i64 0, .slice none 0 0] 33)).alloc (.cells #[.int .i64 kd, .string nm, .int .i64 n, .int .i64 0, .slice none 0 0] 33)) w.heap.size #[.int .i64 kd, .string nm, .int .i64 n, .int .i64 tk, .slice ta tn tc]) := ((BoxAt.new _ _ _).below (below_alloc _ _)).below (below_alloc _ _)
    have XR : Hid (BoxAt (((w.alloc (.cells #[.int .i64 kd, .string nm, .int .i64 n, .int .i64 tk, .slice ta tn tc] 26)).alloc (.cells #[.int .i64 0, .string ⟨#[]⟩, .int .i64 0, .int .i64 0, .slice none 0 0] 33)).alloc (.cells #[.int .i64 kd, .string nm, .int .i64 n, .int .i64 0, .slice none 0 0] 33)) (w.heap.size + 1) #[.int .i64 0, .string ⟨#[]⟩, .int .i64 0, .int .i64 0, .slice none 0 0]) := (box_at (BoxAt.new _ _ _) (by simp)).below (below_alloc _ _)
    have XO : Hid (BoxAt (((w.alloc (.cells #[.int .i64 kd, .string nm, .int .i64 n, .int .i64 tk, .slice ta tn tc] 26)).alloc (.cells #[.int .i64 0, .string ⟨#[]⟩, .int .i64 0, .int .i64 0, .slice none 0 0] 33)).alloc (.cells #[.int .i64 kd, .string nm, .int .i64 n, .int .i64 0, .slice none 0 0] 33)) (w.heap.size + 1 + 1) #[.int .i64 kd, .string nm, .int .i64 n, .int .i64 0, .slice none 0 0]) := box_at (BoxAt.new _ _ _) (by simp)
    have FR : Hid (FreeAt (((w.alloc (.cells #[.int .i64 kd, .string nm, .int .i64 n, .int .i64 tk, .slice ta tn tc] 26)).alloc (.cells #[.int .i64 0, .string ⟨#[]⟩, .int .i64 0, .int .i64 0, .slice none 0 0] 33)).alloc (.cells #[.int .i64 kd, .string nm, .int .i64 n, .int .i64 0, .slice none 0 0] 33)) (w.heap.size + 1)) := (free_at (FreeAt.new _ _ _) (by simp)).below (below_alloc _ _)
    have FO : Hid (FreeAt (((w.alloc (.cells #[.int .i64 kd, .string nm, .int .i64 n, .int .i64 tk, .slice ta tn tc] 26)).alloc (.cells #[.int .i64 0, .string ⟨#[]⟩, .int .i64 0, .int .i64 0, .slice none 0 0] 33)).alloc (.cells #[.int .i64 kd, .string nm, .int .i64 n, .int .i64 0, .slice none 0 0] 33)) (w.heap.size + 1 + 1)) := free_at (FreeAt.new _ _ _) (by simp)
    have hz0 : (((w.alloc (.cells #[.int .i64 kd, .string nm, .int .i64 n, .int .i64 tk, .slice ta tn tc] 26)).alloc (.cells #[.int .i64 0, .string ⟨#[]⟩, .int .i64 0, .int .i64 0, .slice none 0 0] 33)).alloc (.cells #[.int .i64 kd, .string nm, .int .i64 n, .int .i64 0, .slice none 0 0] 33)).heap.size = w.heap.size + 3 := by simp
    clear hty
    go_enter Tryd.func13, Tryd.ntmps13
    go_wp2_with fail
    refine ((toTy_all d).1 _ ty _ hsz1 HTY.out).mono ?_
    rintro e w1 ⟨v1, f1, rfl, ht, hf1, hb⟩
    have hz1 := hb.size
    rw [hz0] at hz1 hf1
    obtain ⟨gk, ga, gn, gc, rfl, HG⟩ := ty_parts ht
    have F1 := Lib.hid hf1
    replace B := Lib.hid (below_thru B.out (Nat.le_refl _) hb)
    replace XA := Lib.hid (XA.out.below hb)
    replace XR := Lib.hid (XR.out.below hb)
    replace XO := Lib.hid (XO.out.below hb)
    replace FR := Lib.hid (FR.out.below hb)
    replace FO := Lib.hid (FO.out.below hb)
    clear ht hf1 hb HTY
    have o0 := XO.out.2 0
    have o1 := XO.out.2 1
    have o2 := XO.out.2 2
    have o3 := XO.out.2 3
    have o4 := XO.out.2 4
    have u0 := FO.out.2 0
    have u1 := FO.out.2 1
    have u2 := FO.out.2 2
    have u3 := FO.out.2 3
    have u4 := FO.out.2 4
    have r0 := XR.out.2 0
    have r1 := XR.out.2 1
    have r2 := XR.out.2 2
    have r3 := XR.out.2 3
    have r4 := XR.out.2 4
    have s0 := FR.out.2 0
    have s1 := FR.out.2 1
    have s2 := FR.out.2 2
    have s3 := FR.out.2 3
    have s4 := FR.out.2 4
    go_wp2_with fail
    clear o0 o1 o2 o3 o4 u0 u1 u2 u3 u4 r0 r1 r2 r3 r4 s0 s1 s2 s3 s4
    have XRF : BoxAt (((((((w1.setCell ⟨w.heap.size + 1 + 1, 3, none⟩ (.int .i64 gk)).setCell ⟨w.heap.size + 1 + 1, 4, none⟩ (.slice ga gn gc)).setCell ⟨w.heap.size + 1, 0, none⟩ (.int .i64 kd)).setCell ⟨w.heap.size + 1, 1, none⟩ (.string nm)).setCell ⟨w.heap.size + 1, 2, none⟩ (.int .i64 n)).setCell ⟨w.heap.size + 1, 3, none⟩ (.int .i64 gk)).setCell ⟨w.heap.size + 1, 4, none⟩ (.slice ga gn gc)) (w.heap.size + 1) #[.int .i64 kd, .string nm, .int .i64 n, .int .i64 gk, .slice ga gn gc] := by
      have := (((((XR.out.stored (q := w.heap.size + 1 + 1) (j := 3) (u := .int .i64 gk) (by omega)).stored (q := w.heap.size + 1 + 1) (j := 4) (u := .slice ga gn gc) (by omega)).put (j := 0) (u := .int .i64 kd) (by simp)).put (j := 1) (u := .string nm) (by simp)).put (j := 2) (u := .int .i64 n) (by simp)).put (j := 3) (u := .int .i64 gk) (by simp) |>.put (j := 4) (u := .slice ga gn gc) (by simp)
      exact this
    have K3 : ∀ b, w.heap.size + 3 ≤ b → (((((((w1.setCell ⟨w.heap.size + 1 + 1, 3, none⟩ (.int .i64 gk)).setCell ⟨w.heap.size + 1 + 1, 4, none⟩ (.slice ga gn gc)).setCell ⟨w.heap.size + 1, 0, none⟩ (.int .i64 kd)).setCell ⟨w.heap.size + 1, 1, none⟩ (.string nm)).setCell ⟨w.heap.size + 1, 2, none⟩ (.int .i64 n)).setCell ⟨w.heap.size + 1, 3, none⟩ (.int .i64 gk)).setCell ⟨w.heap.size + 1, 4, none⟩ (.slice ga gn gc)).heap[b]? = w1.heap[b]? := fun b hb => by
      rw [heap_setCell_other _ _ _ _ (by simp; omega), heap_setCell_other _ _ _ _ (by simp; omega), heap_setCell_other _ _ _ _ (by simp; omega), heap_setCell_other _ _ _ _ (by simp; omega), heap_setCell_other _ _ _ _ (by simp; omega), heap_setCell_other _ _ _ _ (by simp; omega), heap_setCell_other _ _ _ _ (by simp; omega)]
    have hzf : (((((((w1.setCell ⟨w.heap.size + 1 + 1, 3, none⟩ (.int .i64 gk)).setCell ⟨w.heap.size + 1 + 1, 4, none⟩ (.slice ga gn gc)).setCell ⟨w.heap.size + 1, 0, none⟩ (.int .i64 kd)).setCell ⟨w.heap.size + 1, 1, none⟩ (.string nm)).setCell ⟨w.heap.size + 1, 2, none⟩ (.int .i64 n)).setCell ⟨w.heap.size + 1, 3, none⟩ (.int .i64 gk)).setCell ⟨w.heap.size + 1, 4, none⟩ (.slice ga gn gc)).heap.size = w1.heap.size := by simp
    have hbF : Below w.heap.size w (((((((w1.setCell ⟨w.heap.size + 1 + 1, 3, none⟩ (.int .i64 gk)).setCell ⟨w.heap.size + 1 + 1, 4, none⟩ (.slice ga gn gc)).setCell ⟨w.heap.size + 1, 0, none⟩ (.int .i64 kd)).setCell ⟨w.heap.size + 1, 1, none⟩ (.string nm)).setCell ⟨w.heap.size + 1, 2, none⟩ (.int .i64 n)).setCell ⟨w.heap.size + 1, 3, none⟩ (.int .i64 gk)).setCell ⟨w.heap.size + 1, 4, none⟩ (.slice ga gn gc)) := ((((((B.out.setCell (by simp; omega) _).setCell (by simp; omega) _).setCell (by simp) _).setCell (by simp) _).setCell (by simp) _).setCell (by simp) _).setCell (by simp) _
    have g0 := XRF.2 0
    have g1 := XRF.2 1
    have g2 := XRF.2 2
    have g3 := XRF.2 3
    have g4 := XRF.2 4
    clear XRF
    have HY : TyOwn (((((((w1.setCell ⟨w.heap.size + 1 + 1, 3, none⟩ (.int .i64 gk)).setCell ⟨w.heap.size + 1 + 1, 4, none⟩ (.slice ga gn gc)).setCell ⟨w.heap.size + 1, 0, none⟩ (.int .i64 kd)).setCell ⟨w.heap.size + 1, 1, none⟩ (.string nm)).setCell ⟨w.heap.size + 1, 2, none⟩ (.int .i64 n)).setCell ⟨w.heap.size + 1, 3, none⟩ (.int .i64 gk)).setCell ⟨w.heap.size + 1, 4, none⟩ (.slice ga gn gc)) d (.agg #[.int .i64 gk, .slice ga gn gc]) ty f1 := HG.out.kept (by rw [hzf]; exact Nat.le_refl _) fun b hb => K3 b (F1.out.2 b hb).1
    generalize (((((((w1.setCell ⟨w.heap.size + 1 + 1, 3, none⟩ (.int .i64 gk)).setCell ⟨w.heap.size + 1 + 1, 4, none⟩ (.slice ga gn gc)).setCell ⟨w.heap.size + 1, 0, none⟩ (.int .i64 kd)).setCell ⟨w.heap.size + 1, 1, none⟩ (.string nm)).setCell ⟨w.heap.size + 1, 2, none⟩ (.int .i64 n)).setCell ⟨w.heap.size + 1, 3, none⟩ (.int .i64 gk)).setCell ⟨w.heap.size + 1, 4, none⟩ (.slice ga gn gc)) = WX at g0 g1 g2 g3 g4 HY hbF hzf ⊢
    refine bodyPost_ret (v := .agg #[.int .i64 kd, .string nm, .int .i64 n, .int .i64 gk, .slice ga gn gc]) (by simp [results, Tryd.results13, go_sem, g0, g1, g2, g3, g4]) rfl ?_
    exact ⟨_, [], rfl, ⟨_, _, _, _, rfl, hk0, hk1, hn0, hn1, hnm, f1, HY, F1.out.mono (by omega) (by omega), Nat.le_refl _⟩, rfl, hbF⟩
end Go.Proofs.YtdgfkmnnjhlpbaaDoor
