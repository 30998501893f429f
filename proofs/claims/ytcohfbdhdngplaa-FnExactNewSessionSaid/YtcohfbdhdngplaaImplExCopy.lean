/-
  Proved: impl.copyExpr copies an expression into new memory; the memory that was there stays as it was.
-/
import Derived.Test.YtcohfbdhdngplaaImplDetach
import Derived.Test.YtcohfbdhdngplaaPut
namespace Go.Proofs.Ytcohfbdhdngplaa
open Go.RowKit

set_option maxRecDepth 100000 in
set_option maxHeartbeats 4000000 in
theorem implExCopy (d : Nat) (v : Value) (t : Ex) (w : World) (hsz : t.bulk ≤ 1048576) (h : ExAt w d v t) :
    Calls Try.prog 62 #[v] w (ToExEnd d t w) := by
  obtain ⟨k, nm, n, tk, ta, tn, tc, sa, sn, sc, rfl⟩ := ex_parts h
  have B : Hid (Below w.heap.size w ((w.alloc (.cells #[.int .i64 k, .string nm, .int .i64 n, .int .i64 tk, .slice ta tn tc, .slice sa sn sc] 36)).alloc (.cells #[.int .i64 0, .string ⟨#[]⟩, .int .i64 0, .int .i64 0, .slice none 0 0, .slice none 0 0] 36))) := ((Below.refl _ _).alloc (Nat.le_refl _) _).alloc (by simp) _
  have XA : Hid (BoxAt ((w.alloc (.cells #[.int .i64 k, .string nm, .int .i64 n, .int .i64 tk, .slice ta tn tc, .slice sa sn sc] 36)).alloc (.cells #[.int .i64 0, .string ⟨#[]⟩, .int .i64 0, .int .i64 0, .slice none 0 0, .slice none 0 0] 36)) w.heap.size #[.int .i64 k, .string nm, .int .i64 n, .int .i64 tk, .slice ta tn tc, .slice sa sn sc]) := (BoxAt.new _ _ _).below (below_alloc _ _)
  have FA : Hid (FreeAt ((w.alloc (.cells #[.int .i64 k, .string nm, .int .i64 n, .int .i64 tk, .slice ta tn tc, .slice sa sn sc] 36)).alloc (.cells #[.int .i64 0, .string ⟨#[]⟩, .int .i64 0, .int .i64 0, .slice none 0 0, .slice none 0 0] 36)) w.heap.size) := (FreeAt.new _ _ _).below (below_alloc _ _)
  have XR : Hid (BoxAt ((w.alloc (.cells #[.int .i64 k, .string nm, .int .i64 n, .int .i64 tk, .slice ta tn tc, .slice sa sn sc] 36)).alloc (.cells #[.int .i64 0, .string ⟨#[]⟩, .int .i64 0, .int .i64 0, .slice none 0 0, .slice none 0 0] 36)) (w.heap.size + 1) #[.int .i64 0, .string ⟨#[]⟩, .int .i64 0, .int .i64 0, .slice none 0 0, .slice none 0 0]) := box_at (BoxAt.new _ _ _) (by simp)
  have FR : Hid (FreeAt ((w.alloc (.cells #[.int .i64 k, .string nm, .int .i64 n, .int .i64 tk, .slice ta tn tc, .slice sa sn sc] 36)).alloc (.cells #[.int .i64 0, .string ⟨#[]⟩, .int .i64 0, .int .i64 0, .slice none 0 0, .slice none 0 0] 36)) (w.heap.size + 1)) := free_at (FreeAt.new _ _ _) (by simp)
  have hz : ((w.alloc (.cells #[.int .i64 k, .string nm, .int .i64 n, .int .i64 tk, .slice ta tn tc, .slice sa sn sc] 36)).alloc (.cells #[.int .i64 0, .string ⟨#[]⟩, .int .i64 0, .int .i64 0, .slice none 0 0, .slice none 0 0] 36)).heap.size = w.heap.size + 2 := by simp
  have H := Lib.hid h; clear h
  go_enter Try.func62, Try.ntmps62
  go_wp2_with fail
  refine (detach_all d w.heap.size 0 _ _ _ _ _ _ t w _ hsz H.out B.out (Nat.le_refl _) XA.out.1 (XA.out.2 0) (XA.out.2 1) (XA.out.2 2) (XA.out.2 3) (XA.out.2 4) (XA.out.2 5) FA.out.2).mono ?_
  rintro e w1 ⟨d3, d4, d5, fp, rfl, q0, q1, q2, q3, q4, q5, hown, hfp, hkb, hkx, hkc, hkf⟩
  obtain ⟨_, _, _, zk, za, zn, zc, ya, ym, yc, e0, e1, e2, rfl, rfl, rfl⟩ := ex_cells hown.at_
  injection e0 with _ e0
  injection e1 with e1
  injection e2 with _ e2
  subst e0 e1 e2
  have HO := Lib.hid hown
  have HF := Lib.hid hfp
  have KX := Lib.hid hkx
  have Q0 := Lib.hid q0
  have Q1 := Lib.hid q1
  have Q2 := Lib.hid q2
  have Q3 := Lib.hid q3
  have Q4 := Lib.hid q4
  have Q5 := Lib.hid q5
  have hz1 := hkb.size
  rw [hz] at hz1
  have B1 : Hid (Below w.heap.size w w1) := B.out.trans hkb
  have XR1 : Hid (BoxAt w1 (w.heap.size + 1) #[.int .i64 0, .string ⟨#[]⟩, .int .i64 0, .int .i64 0, .slice none 0 0, .slice none 0 0]) := XR.out.kept hkb.size (hkx _ XR.out.1 (by omega))
  have FR1 : Hid (FreeAt w1 (w.heap.size + 1)) := ⟨by omega, fun j => (World.frozen?_of_block (a := ⟨w.heap.size + 1, j, none⟩) (hkx (w.heap.size + 1) XR.out.1 (by omega))).trans (FR.out.2 j)⟩
  clear hown hfp hkb hkx hkc hkf q0 q1 q2 q3 q4 q5 XA FA XR FR B H
  have p0 := Q0.out
  have p1 := Q1.out
  have p2 := Q2.out
  have p3 := Q3.out
  have p4 := Q4.out
  have p5 := Q5.out
  have r0 := XR1.out.2 0
  have s0 := FR1.out.2 0
  have r1 := XR1.out.2 1
  have s1 := FR1.out.2 1
  have r2 := XR1.out.2 2
  have s2 := FR1.out.2 2
  have r3 := XR1.out.2 3
  have s3 := FR1.out.2 3
  have r4 := XR1.out.2 4
  have s4 := FR1.out.2 4
  have r5 := XR1.out.2 5
  have s5 := FR1.out.2 5
  go_wp2_with fail
  have XRF : BoxAt ((((((w1.setCell ⟨w.heap.size + 1, 0, none⟩ (.int .i64 k)).setCell ⟨w.heap.size + 1, 1, none⟩ (.string nm)).setCell ⟨w.heap.size + 1, 2, none⟩ (.int .i64 n)).setCell ⟨w.heap.size + 1, 3, none⟩ (.int .i64 zk)).setCell ⟨w.heap.size + 1, 4, none⟩ (.slice za zn zc)).setCell ⟨w.heap.size + 1, 5, none⟩ (.slice ya ym yc)) (w.heap.size + 1) #[.int .i64 k, .string nm, .int .i64 n, .int .i64 zk, .slice za zn zc, .slice ya ym yc] := by
    have := ((((((XR1.out.put (j := 0) (u := .int .i64 k) (by simp)).put (j := 1) (u := .string nm) (by simp)).put (j := 2) (u := .int .i64 n) (by simp)).put (j := 3) (u := .int .i64 zk) (by simp)).put (j := 4) (u := .slice za zn zc) (by simp)).put (j := 5) (u := .slice ya ym yc) (by simp))
    exact this
  have K1 : ∀ b, b ≠ w.heap.size + 1 → ((((((w1.setCell ⟨w.heap.size + 1, 0, none⟩ (.int .i64 k)).setCell ⟨w.heap.size + 1, 1, none⟩ (.string nm)).setCell ⟨w.heap.size + 1, 2, none⟩ (.int .i64 n)).setCell ⟨w.heap.size + 1, 3, none⟩ (.int .i64 zk)).setCell ⟨w.heap.size + 1, 4, none⟩ (.slice za zn zc)).setCell ⟨w.heap.size + 1, 5, none⟩ (.slice ya ym yc)).heap[b]? = w1.heap[b]? := fun b hb => by rw [heap_setCell_other _ _ _ _ (by simpa using hb), heap_setCell_other _ _ _ _ (by simpa using hb), heap_setCell_other _ _ _ _ (by simpa using hb), heap_setCell_other _ _ _ _ (by simpa using hb), heap_setCell_other _ _ _ _ (by simpa using hb), heap_setCell_other _ _ _ _ (by simpa using hb)]
  have hzf : ((((((w1.setCell ⟨w.heap.size + 1, 0, none⟩ (.int .i64 k)).setCell ⟨w.heap.size + 1, 1, none⟩ (.string nm)).setCell ⟨w.heap.size + 1, 2, none⟩ (.int .i64 n)).setCell ⟨w.heap.size + 1, 3, none⟩ (.int .i64 zk)).setCell ⟨w.heap.size + 1, 4, none⟩ (.slice za zn zc)).setCell ⟨w.heap.size + 1, 5, none⟩ (.slice ya ym yc)).heap.size = w1.heap.size := by simp
  have hbF : Below w.heap.size w ((((((w1.setCell ⟨w.heap.size + 1, 0, none⟩ (.int .i64 k)).setCell ⟨w.heap.size + 1, 1, none⟩ (.string nm)).setCell ⟨w.heap.size + 1, 2, none⟩ (.int .i64 n)).setCell ⟨w.heap.size + 1, 3, none⟩ (.int .i64 zk)).setCell ⟨w.heap.size + 1, 4, none⟩ (.slice za zn zc)).setCell ⟨w.heap.size + 1, 5, none⟩ (.slice ya ym yc)) := ((((((B1.out.setCell (by simp) _).setCell (by simp) _).setCell (by simp) _).setCell (by simp) _).setCell (by simp) _).setCell (by simp) _)
  have g0 := XRF.2 0
  have g1 := XRF.2 1
  have g2 := XRF.2 2
  have g3 := XRF.2 3
  have g4 := XRF.2 4
  have g5 := XRF.2 5
  clear XRF
  have HOF : ExOwn ((((((w1.setCell ⟨w.heap.size + 1, 0, none⟩ (.int .i64 k)).setCell ⟨w.heap.size + 1, 1, none⟩ (.string nm)).setCell ⟨w.heap.size + 1, 2, none⟩ (.int .i64 n)).setCell ⟨w.heap.size + 1, 3, none⟩ (.int .i64 zk)).setCell ⟨w.heap.size + 1, 4, none⟩ (.slice za zn zc)).setCell ⟨w.heap.size + 1, 5, none⟩ (.slice ya ym yc)) d (.agg #[.int .i64 k, .string nm, .int .i64 n, .int .i64 zk, .slice za zn zc, .slice ya ym yc]) t fp := HO.out.kept (by rw [hzf]; omega) fun b hb => K1 b (by have := (HF.out.2 b hb).1; rw [hz] at this; omega)
  have hfpF : Fp w.heap.size ((((((w1.setCell ⟨w.heap.size + 1, 0, none⟩ (.int .i64 k)).setCell ⟨w.heap.size + 1, 1, none⟩ (.string nm)).setCell ⟨w.heap.size + 1, 2, none⟩ (.int .i64 n)).setCell ⟨w.heap.size + 1, 3, none⟩ (.int .i64 zk)).setCell ⟨w.heap.size + 1, 4, none⟩ (.slice za zn zc)).setCell ⟨w.heap.size + 1, 5, none⟩ (.slice ya ym yc)).heap.size fp := by rw [hzf]; exact HF.out.mono (by rw [hz]; omega) (Nat.le_refl _)
  generalize ((((((w1.setCell ⟨w.heap.size + 1, 0, none⟩ (.int .i64 k)).setCell ⟨w.heap.size + 1, 1, none⟩ (.string nm)).setCell ⟨w.heap.size + 1, 2, none⟩ (.int .i64 n)).setCell ⟨w.heap.size + 1, 3, none⟩ (.int .i64 zk)).setCell ⟨w.heap.size + 1, 4, none⟩ (.slice za zn zc)).setCell ⟨w.heap.size + 1, 5, none⟩ (.slice ya ym yc)) = WX at g0 g1 g2 g3 g4 g5 HOF hfpF hbF ⊢
  refine bodyPost_ret (v := .agg #[.int .i64 k, .string nm, .int .i64 n, .int .i64 zk, .slice za zn zc, .slice ya ym yc]) (by simp [results, Try.results62, go_sem, g0, g1, g2, g3, g4, g5]) rfl ?_
  exact ⟨_, fp, rfl, HOF, hfpF, hbF⟩
end Go.Proofs.Ytcohfbdhdngplaa
