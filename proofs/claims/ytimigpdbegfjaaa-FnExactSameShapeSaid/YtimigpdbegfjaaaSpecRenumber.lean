/-
  Proved: spec.RenumberHoles numbers the holes and marks of an expression from one on, in new memory; the memory that was there stays as it was.
-/
import Derived.Test.YtimigpdbegfjaaaSpecNumber
namespace Go.Proofs.Ytimigpdbegfjaaa
open Go.RowKit

set_option maxRecDepth 100000 in
set_option maxHeartbeats 2000000 in
theorem specRenumber (d : Nat) (v : Value) (t : Ex) (w : World) (hsz : t.bulk ≤ 1048576) (h : ExAt w d v t) :
    Calls Try.prog 31 #[v] w (ToExEnd d (t.ren 1) w) := by
  obtain ⟨k, nm, n, tk, ta, tn, tc, sa, sn, sc, rfl⟩ := ex_parts h
  obtain ⟨W, hW⟩ : ∃ W, W = (w.alloc (.cells #[.int .i64 k, .string nm, .int .i64 n, .int .i64 tk, .slice ta tn tc, .slice sa sn sc] 37)).alloc (.cells #[.int .i64 0, .string ⟨#[]⟩, .int .i64 0, .int .i64 0, .slice none 0 0, .slice none 0 0] 37) := ⟨_, rfl⟩
  have BW : Hid (Below w.heap.size w W) := by rw [hW]; exact ((Below.refl _ _).alloc (Nat.le_refl _) _).alloc (by simp) _
  have XR : Hid (BoxAt W (w.heap.size + 1) #[.int .i64 0, .string ⟨#[]⟩, .int .i64 0, .int .i64 0, .slice none 0 0, .slice none 0 0]) := by rw [hW]; exact box_at (BoxAt.new _ _ _) (by simp)
  have FR : Hid (FreeAt W (w.heap.size + 1)) := by rw [hW]; exact free_at (FreeAt.new _ _ _) (by simp)
  have HWS : Hid (W.heap.size = w.heap.size + 1 + 1) := by show _ = _; rw [hW]; simp
  have HC := Lib.hid (specNumber d _ t 1 W hsz (by omega) (by omega) (h.below BW.out))
  clear h
  go_enter Try.func31, Try.ntmps31
  go_wp2_with fail
  rw [← hW]
  clear hW
  refine HC.out.mono ?_
  rintro e w1 ⟨o, fp, rfl, ht, hfp, hb⟩
  obtain ⟨yk, ynm, yn, ytk, yta, ytn, ytc, ya, ym, yc, rfl⟩ := ex_parts ht.at_
  obtain ⟨WA, hWA⟩ : ∃ WA, WA = w1.alloc (.cells #[.int .i64 yk, .string ynm, .int .i64 yn, .int .i64 ytk, .slice yta ytn ytc, .slice ya ym yc] 37) := ⟨_, rfl⟩
  have hba : Below w1.heap.size w1 WA := by rw [hWA]; exact below_alloc _ _
  have XA : Hid (BoxAt WA w1.heap.size #[.int .i64 yk, .string ynm, .int .i64 yn, .int .i64 ytk, .slice yta ytn ytc, .slice ya ym yc]) := by rw [hWA]; exact BoxAt.new _ _ _
  have hb2 := hb.trans (hba.mono hb.size)
  have HT : Hid (ExOwn WA d (.agg #[.int .i64 yk, .string ynm, .int .i64 yn, .int .i64 ytk, .slice yta ytn ytc, .slice ya ym yc]) (t.ren 1) fp) := ht.kept hba.size fun b hb => hba.block b (hfp.2 b hb).2
  have HF : Hid (Fp W.heap.size WA.heap.size fp) := hfp.mono (Nat.le_refl _) hba.size
  replace XR := Lib.hid (XR.out.below hb2)
  replace FR := Lib.hid (FR.out.below hb2)
  have HB := Lib.hid (BW.out.trans (hb2.mono BW.out.size))
  clear ht hfp hb hba hb2
  go_upto_region 2 with fail
  rw [← hWA]
  clear hWA
  obtain ⟨o0, o1, o2, o3, o4, o5⟩ := box_six XA.out
  obtain ⟨r0, r1, r2, r3, r4, r5⟩ := box_six XR.out
  obtain ⟨s0, s1, s2, s3, s4, s5⟩ := free_six FR.out
  go_wp2_with fail
  have hRF : BoxAt ((((((WA.setCell ⟨w.heap.size + 1, 0, none⟩ (.int .i64 yk)).setCell ⟨w.heap.size + 1, 1, none⟩ (.string ynm)).setCell ⟨w.heap.size + 1, 2, none⟩ (.int .i64 yn)).setCell ⟨w.heap.size + 1, 3, none⟩ (.int .i64 ytk)).setCell ⟨w.heap.size + 1, 4, none⟩ (.slice yta ytn ytc)).setCell ⟨w.heap.size + 1, 5, none⟩ (.slice ya ym yc)) (w.heap.size + 1) #[.int .i64 yk, .string ynm, .int .i64 yn, .int .i64 ytk, .slice yta ytn ytc, .slice ya ym yc] := by
    have := ((((((XR.out.put (j := 0) (u := .int .i64 yk) (by simp)).put (j := 1) (u := .string ynm) (by simp)).put (j := 2) (u := .int .i64 yn) (by simp)).put (j := 3) (u := .int .i64 ytk) (by simp)).put (j := 4) (u := .slice yta ytn ytc) (by simp)).put (j := 5) (u := .slice ya ym yc) (by simp))
    exact this
  have hTF : ExOwn ((((((WA.setCell ⟨w.heap.size + 1, 0, none⟩ (.int .i64 yk)).setCell ⟨w.heap.size + 1, 1, none⟩ (.string ynm)).setCell ⟨w.heap.size + 1, 2, none⟩ (.int .i64 yn)).setCell ⟨w.heap.size + 1, 3, none⟩ (.int .i64 ytk)).setCell ⟨w.heap.size + 1, 4, none⟩ (.slice yta ytn ytc)).setCell ⟨w.heap.size + 1, 5, none⟩ (.slice ya ym yc)) d (.agg #[.int .i64 yk, .string ynm, .int .i64 yn, .int .i64 ytk, .slice yta ytn ytc, .slice ya ym yc]) (t.ren 1) fp := HT.out.kept (by simp) fun b hb => by
    have h1 := (HF.out.2 b hb).1
    have h2 := HWS.out
    rw [heap_setCell_other _ _ _ _ (by simp; omega), heap_setCell_other _ _ _ _ (by simp; omega), heap_setCell_other _ _ _ _ (by simp; omega), heap_setCell_other _ _ _ _ (by simp; omega), heap_setCell_other _ _ _ _ (by simp; omega), heap_setCell_other _ _ _ _ (by simp; omega)]
  have hBF : Below w.heap.size w ((((((WA.setCell ⟨w.heap.size + 1, 0, none⟩ (.int .i64 yk)).setCell ⟨w.heap.size + 1, 1, none⟩ (.string ynm)).setCell ⟨w.heap.size + 1, 2, none⟩ (.int .i64 yn)).setCell ⟨w.heap.size + 1, 3, none⟩ (.int .i64 ytk)).setCell ⟨w.heap.size + 1, 4, none⟩ (.slice yta ytn ytc)).setCell ⟨w.heap.size + 1, 5, none⟩ (.slice ya ym yc)) := ((((((HB.out.setCell (by simp) _).setCell (by simp) _).setCell (by simp) _).setCell (by simp) _).setCell (by simp) _).setCell (by simp) _)
  have hFF : Fp w.heap.size ((((((WA.setCell ⟨w.heap.size + 1, 0, none⟩ (.int .i64 yk)).setCell ⟨w.heap.size + 1, 1, none⟩ (.string ynm)).setCell ⟨w.heap.size + 1, 2, none⟩ (.int .i64 yn)).setCell ⟨w.heap.size + 1, 3, none⟩ (.int .i64 ytk)).setCell ⟨w.heap.size + 1, 4, none⟩ (.slice yta ytn ytc)).setCell ⟨w.heap.size + 1, 5, none⟩ (.slice ya ym yc)).heap.size fp := HF.out.mono (by have := HWS.out; omega) (by simp)
  have g0 := hRF.2 0
  have g1 := hRF.2 1
  have g2 := hRF.2 2
  have g3 := hRF.2 3
  have g4 := hRF.2 4
  have g5 := hRF.2 5
  clear hRF
  generalize ((((((WA.setCell ⟨w.heap.size + 1, 0, none⟩ (.int .i64 yk)).setCell ⟨w.heap.size + 1, 1, none⟩ (.string ynm)).setCell ⟨w.heap.size + 1, 2, none⟩ (.int .i64 yn)).setCell ⟨w.heap.size + 1, 3, none⟩ (.int .i64 ytk)).setCell ⟨w.heap.size + 1, 4, none⟩ (.slice yta ytn ytc)).setCell ⟨w.heap.size + 1, 5, none⟩ (.slice ya ym yc)) = WX at g0 g1 g2 g3 g4 g5 hTF hBF hFF ⊢
  refine bodyPost_ret (v := .agg #[.int .i64 yk, .string ynm, .int .i64 yn, .int .i64 ytk, .slice yta ytn ytc, .slice ya ym yc]) (by simp [results, Try.results31, go_sem, g0, g1, g2, g3, g4, g5]) rfl ?_
  exact ⟨_, fp, rfl, hTF, hFF, hBF⟩
end Go.Proofs.Ytimigpdbegfjaaa
