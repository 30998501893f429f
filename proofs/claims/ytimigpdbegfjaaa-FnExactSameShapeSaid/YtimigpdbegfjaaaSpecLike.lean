/-
  Proved: spec.l10Like gives a node with other parts, its type in new memory; the memory that was there stays as it was.
-/
import Derived.Test.YtimigpdbegfjaaaRowOk
namespace Go.Proofs.Ytimigpdbegfjaaa
open Go.RowKit

/-- The node with the parts sl. -/
def LikeEnd (d : Nat) (k : Int) (nm : ByteArray) (n : Int) (ty : Ty) (sl : Value) (w : World) (e : Ending) (w' : World) : Prop :=
  ∃ zk za zn zc f1, e = .returned (.agg #[.int .i64 k, .string nm, .int .i64 n, .int .i64 zk, .slice za zn zc, sl]) ∧ TyOwn w' d (.agg #[.int .i64 zk, .slice za zn zc]) ty f1 ∧ Fp w.heap.size w'.heap.size f1 ∧ Below w.heap.size w w'
set_option maxRecDepth 100000 in
set_option maxHeartbeats 4000000 in
theorem specLike (d : Nat) (k : Int) (nm : ByteArray) (n tk : Int) (ta : Option Addr) (tn tc : Nat) (sa : Option Addr) (sn sc : Nat) (a : Option Addr) (m c : Nat) (ty : Ty) (w : World) (hty : TyAt w d (.agg #[.int .i64 tk, .slice ta tn tc]) ty) (hsz : ty.size ≤ 1048577) :
    Calls Try.prog 68 #[.agg #[.int .i64 k, .string nm, .int .i64 n, .int .i64 tk, .slice ta tn tc, .slice sa sn sc], .slice a m c] w (LikeEnd d k nm n ty (.slice a m c) w) := by
  obtain ⟨W, hW⟩ : ∃ W, W = (w.alloc (.cells #[.int .i64 k, .string nm, .int .i64 n, .int .i64 tk, .slice ta tn tc, .slice sa sn sc] 37)).alloc (.cells #[.int .i64 0, .string ⟨#[]⟩, .int .i64 0, .int .i64 0, .slice none 0 0, .slice none 0 0] 37) := ⟨_, rfl⟩
  have XB : Hid (BoxAt W w.heap.size #[.int .i64 k, .string nm, .int .i64 n, .int .i64 tk, .slice ta tn tc, .slice sa sn sc]) := by rw [hW]; exact (BoxAt.new _ _ _).below (below_alloc _ _)
  have XR : Hid (BoxAt W (w.heap.size + 1) #[.int .i64 0, .string ⟨#[]⟩, .int .i64 0, .int .i64 0, .slice none 0 0, .slice none 0 0]) := by rw [hW]; exact box_at (BoxAt.new _ _ _) (by simp)
  have FR : Hid (FreeAt W (w.heap.size + 1)) := by rw [hW]; exact free_at (FreeAt.new _ _ _) (by simp)
  have BW : Hid (Below w.heap.size w W) := by rw [hW]; exact ((Below.refl _ _).alloc (Nat.le_refl _) _).alloc (by simp) _
  have hWs : W.heap.size = w.heap.size + 1 + 1 := by rw [hW]; simp
  have HTY := Lib.hid ((hty.below BW.out).below (below_drew W)); clear hty
  replace XB := Lib.hid (XB.out.below (below_drew W))
  replace XR := Lib.hid (XR.out.below (below_drew W))
  replace FR := Lib.hid (FR.out.below (below_drew W))
  replace BW := Lib.hid BW.out.drew
  have HWS := Lib.hid hWs
  go_enter Try.func68, Try.ntmps68
  go_wp2_with fail
  rw [← hW]
  clear hW hWs
  obtain ⟨r0, r1, r2, r3, r4, r5⟩ := box_six XR.out
  obtain ⟨q0, q1, q2, q3, q4, q5⟩ := free_six FR.out
  go_region_held3 (fun w' => w'.cell? ⟨w.heap.size, 0, none⟩ = some (.int .i64 k) ∧ w'.cell? ⟨w.heap.size, 1, none⟩ = some (.string nm) ∧ w'.cell? ⟨w.heap.size, 2, none⟩ = some (.int .i64 n) ∧ w'.cell? ⟨w.heap.size, 3, none⟩ = some (.int .i64 tk) ∧ w'.cell? ⟨w.heap.size, 4, none⟩ = some (.slice ta tn tc))
    (refine ⟨(by (repeat (rw [World.cell?_setCell_other _ _ _ _ (by simp)])); with_reducible exact (box_five XB.out).1), (by (repeat (rw [World.cell?_setCell_other _ _ _ _ (by simp)])); with_reducible exact (box_five XB.out).2.1), (by (repeat (rw [World.cell?_setCell_other _ _ _ _ (by simp)])); with_reducible exact (box_five XB.out).2.2.1), (by (repeat (rw [World.cell?_setCell_other _ _ _ _ (by simp)])); with_reducible exact (box_five XB.out).2.2.2.1), (by (repeat (rw [World.cell?_setCell_other _ _ _ _ (by simp)])); with_reducible exact (box_five XB.out).2.2.2.2)⟩)
    (first
     | (go_at_call 110
        refine (specCopy d _ ty _ hsz HTY.out).mono ?_
        rintro e w1 ⟨o, f1, rfl, ht, hf, hb⟩
        obtain ⟨zk, za, zn, zc, rfl, HY⟩ := ty_parts ht
        have HF := Lib.hid hf
        have hz1 := hb.size
        replace XB := Lib.hid (XB.out.below hb)
        replace XR := Lib.hid (XR.out.below hb)
        replace FR := Lib.hid (FR.out.below hb)
        replace BW := Lib.hid (below_thru BW.out (Nat.le_refl _) hb)
        clear ht hf hb r0 r1 r2 r3 r4 r5 q0 q1 q2 q3 q4 q5
        obtain ⟨r0, r1, r2, r3, r4, r5⟩ := box_six XR.out
        obtain ⟨q0, q1, q2, q3, q4, q5⟩ := free_six FR.out))
  clear r0 r1 r2 r3 r4 r5 q0 q1 q2 q3 q4 q5
  have hws := HWS.out
  have hz1' : w.heap.size + 1 + 1 ≤ w1.heap.size := by rw [← hws]; exact hz1
  have XRF : BoxAt ((((((w1.setCell ⟨w.heap.size + 1, 0, none⟩ (.int .i64 k)).setCell ⟨w.heap.size + 1, 1, none⟩ (.string nm)).setCell ⟨w.heap.size + 1, 2, none⟩ (.int .i64 n)).setCell ⟨w.heap.size + 1, 3, none⟩ (.int .i64 zk)).setCell ⟨w.heap.size + 1, 4, none⟩ (.slice za zn zc)).setCell ⟨w.heap.size + 1, 5, none⟩ (.slice a m c)) (w.heap.size + 1) #[.int .i64 k, .string nm, .int .i64 n, .int .i64 zk, .slice za zn zc, .slice a m c] := by
    have := ((((((XR.out.put (j := 0) (u := .int .i64 k) (by simp)).put (j := 1) (u := .string nm) (by simp)).put (j := 2) (u := .int .i64 n) (by simp)).put (j := 3) (u := .int .i64 zk) (by simp)).put (j := 4) (u := .slice za zn zc) (by simp)).put (j := 5) (u := .slice a m c) (by simp))
    exact this
  have hBF : Below w.heap.size w ((((((w1.setCell ⟨w.heap.size + 1, 0, none⟩ (.int .i64 k)).setCell ⟨w.heap.size + 1, 1, none⟩ (.string nm)).setCell ⟨w.heap.size + 1, 2, none⟩ (.int .i64 n)).setCell ⟨w.heap.size + 1, 3, none⟩ (.int .i64 zk)).setCell ⟨w.heap.size + 1, 4, none⟩ (.slice za zn zc)).setCell ⟨w.heap.size + 1, 5, none⟩ (.slice a m c)) := ((((((BW.out.setCell (by simp) _).setCell (by simp) _).setCell (by simp) _).setCell (by simp) _).setCell (by simp) _).setCell (by simp) _)
  have hTF : TyOwn ((((((w1.setCell ⟨w.heap.size + 1, 0, none⟩ (.int .i64 k)).setCell ⟨w.heap.size + 1, 1, none⟩ (.string nm)).setCell ⟨w.heap.size + 1, 2, none⟩ (.int .i64 n)).setCell ⟨w.heap.size + 1, 3, none⟩ (.int .i64 zk)).setCell ⟨w.heap.size + 1, 4, none⟩ (.slice za zn zc)).setCell ⟨w.heap.size + 1, 5, none⟩ (.slice a m c)) d (.agg #[.int .i64 zk, .slice za zn zc]) ty f1 := HY.out.kept (by simp) fun b hb => by
    have h1 : W.heap.size ≤ b := (HF.out.2 b hb).1
    rw [heap_setCell_other _ _ _ _ (by simp; omega), heap_setCell_other _ _ _ _ (by simp; omega), heap_setCell_other _ _ _ _ (by simp; omega), heap_setCell_other _ _ _ _ (by simp; omega), heap_setCell_other _ _ _ _ (by simp; omega), heap_setCell_other _ _ _ _ (by simp; omega)]
  have hFF : Fp w.heap.size ((((((w1.setCell ⟨w.heap.size + 1, 0, none⟩ (.int .i64 k)).setCell ⟨w.heap.size + 1, 1, none⟩ (.string nm)).setCell ⟨w.heap.size + 1, 2, none⟩ (.int .i64 n)).setCell ⟨w.heap.size + 1, 3, none⟩ (.int .i64 zk)).setCell ⟨w.heap.size + 1, 4, none⟩ (.slice za zn zc)).setCell ⟨w.heap.size + 1, 5, none⟩ (.slice a m c)).heap.size f1 := HF.out.mono (by show w.heap.size ≤ W.heap.size; omega) (by simp)
  have g0 := XRF.2 0
  have g1 := XRF.2 1
  have g2 := XRF.2 2
  have g3 := XRF.2 3
  have g4 := XRF.2 4
  have g5 := XRF.2 5
  clear XRF
  generalize ((((((w1.setCell ⟨w.heap.size + 1, 0, none⟩ (.int .i64 k)).setCell ⟨w.heap.size + 1, 1, none⟩ (.string nm)).setCell ⟨w.heap.size + 1, 2, none⟩ (.int .i64 n)).setCell ⟨w.heap.size + 1, 3, none⟩ (.int .i64 zk)).setCell ⟨w.heap.size + 1, 4, none⟩ (.slice za zn zc)).setCell ⟨w.heap.size + 1, 5, none⟩ (.slice a m c)) = WX at g0 g1 g2 g3 g4 g5 hTF hFF hBF ⊢
  go_wp2_with fail
  refine bodyPost_ret (v := .agg #[.int .i64 k, .string nm, .int .i64 n, .int .i64 zk, .slice za zn zc, .slice a m c]) (by simp [results, Try.results68, go_sem, g0, g1, g2, g3, g4, g5]) rfl ?_
  exact ⟨zk, za, zn, zc, f1, rfl, hTF, hFF, hBF⟩
end Go.Proofs.Ytimigpdbegfjaaa
