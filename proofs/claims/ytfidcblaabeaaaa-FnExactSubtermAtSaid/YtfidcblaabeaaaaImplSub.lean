/-
  Proved: impl.SubtermAt gives a copy of the node at a path, in memory of its own; the memory that was there stays as it was.
-/
import Derived.Test.YtfidcblaabeaaaaSpecSub
import Derived.Test.YtfidcblaabeaaaaImplNode
import Derived.Test.YtfidcblaabeaaaaImplExCopy
namespace Go.Proofs.Ytfidcblaabeaaaa
open Go.RowKit

/-- A node's part holds no more than the node. -/
theorem sub_bulk : ∀ (ps : List Int) (e x : Ex), e.sub ps = some x → x.bulk ≤ e.bulk
  | [], e, x, h => by rw [sub_nil] at h; cases h; exact Nat.le_refl _
  | p :: r, e, x, h => by
    by_cases q0 : p < 0
    · rw [sub_low q0] at h; cases h
    by_cases q1 : (e.parts.length : Int) ≤ p
    · rw [sub_high q1] at h; cases h
    have hp : p.toNat < e.parts.length := by omega
    rw [sub_step (by omega) hp] at h
    have h1 := sub_bulk r _ x h
    cases e with
    | node k nm n ty es =>
      have h2 := Ex.bulk_get es p.toNat hp
      have h3 : (Ex.node k nm n ty es).bulk = nm.size + (ty.size - 1) + Ex.bulks es := rfl
      have h4 : (Ex.node k nm n ty es).parts[p.toNat] = es[p.toNat] := rfl
      rw [h4] at h1
      omega
set_option maxRecDepth 100000 in
set_option maxHeartbeats 4000000 in
theorem implSub (d : Nat) (v1 v2 : Value) (e : Ex) (ps : List Int) (w : World) (h : ExAt w d v1 e) (hp : Ints w v2 ps) (hsz : e.bulk ≤ 1048576) (hn : ps.length ≤ 1048576) :
    Calls Try.prog 15 #[v1, v2] w (SubEnd d (e.sub ps) w) := by
  obtain ⟨c, rfl⟩ := ex_deep h
  obtain ⟨xk, xnm, xn, xtk, xta, xtn, xtc, xa, xm, xc, rfl⟩ := ex_parts h
  have B : Hid (Below w.heap.size w ((w.alloc (.cells #[.int .i64 xk, .string xnm, .int .i64 xn, .int .i64 xtk, .slice xta xtn xtc, .slice xa xm xc] 35)).alloc (.cells #[.int .i64 0, .string ⟨#[]⟩, .int .i64 0, .int .i64 0, .slice none 0 0, .slice none 0 0] 35))) := ((Below.refl _ _).alloc (Nat.le_refl _) _).alloc (by simp) _
  have XA : Hid (BoxAt ((w.alloc (.cells #[.int .i64 xk, .string xnm, .int .i64 xn, .int .i64 xtk, .slice xta xtn xtc, .slice xa xm xc] 35)).alloc (.cells #[.int .i64 0, .string ⟨#[]⟩, .int .i64 0, .int .i64 0, .slice none 0 0, .slice none 0 0] 35)) w.heap.size #[.int .i64 xk, .string xnm, .int .i64 xn, .int .i64 xtk, .slice xta xtn xtc, .slice xa xm xc]) := (BoxAt.new _ _ _).below (below_alloc _ _)
  have XR : Hid (BoxAt ((w.alloc (.cells #[.int .i64 xk, .string xnm, .int .i64 xn, .int .i64 xtk, .slice xta xtn xtc, .slice xa xm xc] 35)).alloc (.cells #[.int .i64 0, .string ⟨#[]⟩, .int .i64 0, .int .i64 0, .slice none 0 0, .slice none 0 0] 35)) (w.heap.size + 1) #[.int .i64 0, .string ⟨#[]⟩, .int .i64 0, .int .i64 0, .slice none 0 0, .slice none 0 0]) := box_at (BoxAt.new _ _ _) (by simp)
  have FR : Hid (FreeAt ((w.alloc (.cells #[.int .i64 xk, .string xnm, .int .i64 xn, .int .i64 xtk, .slice xta xtn xtc, .slice xa xm xc] 35)).alloc (.cells #[.int .i64 0, .string ⟨#[]⟩, .int .i64 0, .int .i64 0, .slice none 0 0, .slice none 0 0] 35)) (w.heap.size + 1)) := free_at (FreeAt.new _ _ _) (by simp)
  have hz0 : ((w.alloc (.cells #[.int .i64 xk, .string xnm, .int .i64 xn, .int .i64 xtk, .slice xta xtn xtc, .slice xa xm xc] 35)).alloc (.cells #[.int .i64 0, .string ⟨#[]⟩, .int .i64 0, .int .i64 0, .slice none 0 0, .slice none 0 0] 35)).heap.size = w.heap.size + 2 := by simp
  have HPT : Hid (PtrAt ((w.alloc (.cells #[.int .i64 xk, .string xnm, .int .i64 xn, .int .i64 xtk, .slice xta xtn xtc, .slice xa xm xc] 35)).alloc (.cells #[.int .i64 0, .string ⟨#[]⟩, .int .i64 0, .int .i64 0, .slice none 0 0, .slice none 0 0] 35)) (c + 2) (.pointer (some ⟨w.heap.size, 0, none⟩)) e) := ⟨_, _, _, _, _, _, _, _, _, _, _, _, rfl, XA.out.1, XA.out.2 0, XA.out.2 1, XA.out.2 2, XA.out.2 3, XA.out.2 4, XA.out.2 5, h.below B.out⟩
  have HP := Lib.hid (hp.below B.out)
  obtain ⟨pa, pc, rfl, _, _⟩ := hp
  clear h XA
  go_enter Try.func15, Try.ntmps15
  go_wp2_with fail
  refine (implNodeAt (c + 2) _ _ e ps _ HPT.out HP.out hn).mono ?_
  rintro e' w0 ⟨hw, hr⟩
  subst hw
  cases hq : e.sub ps with
  | none =>
    rw [hq] at hr
    dsimp only at hr
    subst hr
    clear HPT HP
    generalize ((w.alloc (.cells #[.int .i64 xk, .string xnm, .int .i64 xn, .int .i64 xtk, .slice xta xtn xtc, .slice xa xm xc] 35)).alloc (.cells #[.int .i64 0, .string ⟨#[]⟩, .int .i64 0, .int .i64 0, .slice none 0 0, .slice none 0 0] 35)) = wq at B XR FR hz0 ⊢
    have r0 := XR.out.2 0
    have s0 := FR.out.2 0
    have r1 := XR.out.2 1
    have s1 := FR.out.2 1
    have r2 := XR.out.2 2
    have s2 := FR.out.2 2
    have r3 := XR.out.2 3
    have s3 := FR.out.2 3
    have r4 := XR.out.2 4
    have s4 := FR.out.2 4
    have r5 := XR.out.2 5
    have s5 := FR.out.2 5
    go_wp2_with fail
    have XRF : BoxAt ((((((wq.setCell ⟨w.heap.size + 1, 0, none⟩ (.int .i64 0)).setCell ⟨w.heap.size + 1, 1, none⟩ (.string ⟨#[]⟩)).setCell ⟨w.heap.size + 1, 2, none⟩ (.int .i64 0)).setCell ⟨w.heap.size + 1, 3, none⟩ (.int .i64 0)).setCell ⟨w.heap.size + 1, 4, none⟩ (.slice none 0 0)).setCell ⟨w.heap.size + 1, 5, none⟩ (.slice none 0 0)) (w.heap.size + 1) #[.int .i64 0, .string ⟨#[]⟩, .int .i64 0, .int .i64 0, .slice none 0 0, .slice none 0 0] := by
      have := ((((((XR.out.put (j := 0) (u := .int .i64 0) (by simp)).put (j := 1) (u := .string ⟨#[]⟩) (by simp)).put (j := 2) (u := .int .i64 0) (by simp)).put (j := 3) (u := .int .i64 0) (by simp)).put (j := 4) (u := .slice none 0 0) (by simp)).put (j := 5) (u := .slice none 0 0) (by simp))
      exact this
    have hBF : Below w.heap.size w ((((((wq.setCell ⟨w.heap.size + 1, 0, none⟩ (.int .i64 0)).setCell ⟨w.heap.size + 1, 1, none⟩ (.string ⟨#[]⟩)).setCell ⟨w.heap.size + 1, 2, none⟩ (.int .i64 0)).setCell ⟨w.heap.size + 1, 3, none⟩ (.int .i64 0)).setCell ⟨w.heap.size + 1, 4, none⟩ (.slice none 0 0)).setCell ⟨w.heap.size + 1, 5, none⟩ (.slice none 0 0)) := ((((((B.out.setCell (by simp) _).setCell (by simp) _).setCell (by simp) _).setCell (by simp) _).setCell (by simp) _).setCell (by simp) _)
    have h0 := XRF.2 0
    have h1 := XRF.2 1
    have h2 := XRF.2 2
    have h3 := XRF.2 3
    have h4 := XRF.2 4
    have h5 := XRF.2 5
    clear XRF
    generalize ((((((wq.setCell ⟨w.heap.size + 1, 0, none⟩ (.int .i64 0)).setCell ⟨w.heap.size + 1, 1, none⟩ (.string ⟨#[]⟩)).setCell ⟨w.heap.size + 1, 2, none⟩ (.int .i64 0)).setCell ⟨w.heap.size + 1, 3, none⟩ (.int .i64 0)).setCell ⟨w.heap.size + 1, 4, none⟩ (.slice none 0 0)).setCell ⟨w.heap.size + 1, 5, none⟩ (.slice none 0 0)) = WX at h0 h1 h2 h3 h4 h5 hBF ⊢
    refine bodyPost_ret (v := .tuple #[.agg #[.int .i64 0, .string ⟨#[]⟩, .int .i64 0, .int .i64 0, .slice none 0 0, .slice none 0 0], .bool false]) (by simp [results, Try.results15, go_sem, h0, h1, h2, h3, h4, h5]) rfl ?_
    rw [hq]
    exact ⟨_, rfl, ⟨[], nil_own _ c, Fp.nil _ _, Nat.le_refl _⟩, hBF⟩
  | some x =>
    rw [hq] at hr
    obtain ⟨s, rfl, hs⟩ := hr
    have hxs := Nat.le_trans (sub_bulk ps e x hq) hsz
    obtain ⟨b, off, yk, ynm, yn, ytk, yta, ytn, ytc, ya, ym, yc, rfl, hbl, e0, e1, e2, e3, e4, e5, hex⟩ := hs
    have HX := Lib.hid hex
    clear hex
    go_wp2_with fail
    clear e0 e1 e2 e3 e4 e5
    refine (implExCopy (c + 2) _ x _ hxs HX.out).mono ?_
    rintro e1 w1 ⟨v1, fp, rfl, ht, hf, hb⟩
    obtain ⟨zk, znm, zn, ztk, zta, ztn, ztc, za, zm, zc, rfl⟩ := ex_parts ht.at_
    have hz1 := hb.size
    rw [hz0] at hz1 hf
    have HO : Hid (ExIn w1 (c + 2) (.agg #[.int .i64 zk, .string znm, .int .i64 zn, .int .i64 ztk, .slice zta ztn ztc, .slice za zm zc]) x (w.heap.size + 2) w1.heap.size) := ⟨fp, ht, hf, Nat.le_refl _⟩
    replace B := Lib.hid (below_thru B.out (Nat.le_refl _) hb)
    replace XR := Lib.hid (XR.out.below hb)
    replace FR := Lib.hid (FR.out.below hb)
    clear ht hf hb HX HPT HP
    have r0 := XR.out.2 0
    have s0 := FR.out.2 0
    have r1 := XR.out.2 1
    have s1 := FR.out.2 1
    have r2 := XR.out.2 2
    have s2 := FR.out.2 2
    have r3 := XR.out.2 3
    have s3 := FR.out.2 3
    have r4 := XR.out.2 4
    have s4 := FR.out.2 4
    have r5 := XR.out.2 5
    have s5 := FR.out.2 5
    go_wp2_with fail
    have XRF : BoxAt ((((((w1.setCell ⟨w.heap.size + 1, 0, none⟩ (.int .i64 zk)).setCell ⟨w.heap.size + 1, 1, none⟩ (.string znm)).setCell ⟨w.heap.size + 1, 2, none⟩ (.int .i64 zn)).setCell ⟨w.heap.size + 1, 3, none⟩ (.int .i64 ztk)).setCell ⟨w.heap.size + 1, 4, none⟩ (.slice zta ztn ztc)).setCell ⟨w.heap.size + 1, 5, none⟩ (.slice za zm zc)) (w.heap.size + 1) #[.int .i64 zk, .string znm, .int .i64 zn, .int .i64 ztk, .slice zta ztn ztc, .slice za zm zc] := by
      have := ((((((XR.out.put (j := 0) (u := .int .i64 zk) (by simp)).put (j := 1) (u := .string znm) (by simp)).put (j := 2) (u := .int .i64 zn) (by simp)).put (j := 3) (u := .int .i64 ztk) (by simp)).put (j := 4) (u := .slice zta ztn ztc) (by simp)).put (j := 5) (u := .slice za zm zc) (by simp))
      exact this
    have hBF : Below w.heap.size w ((((((w1.setCell ⟨w.heap.size + 1, 0, none⟩ (.int .i64 zk)).setCell ⟨w.heap.size + 1, 1, none⟩ (.string znm)).setCell ⟨w.heap.size + 1, 2, none⟩ (.int .i64 zn)).setCell ⟨w.heap.size + 1, 3, none⟩ (.int .i64 ztk)).setCell ⟨w.heap.size + 1, 4, none⟩ (.slice zta ztn ztc)).setCell ⟨w.heap.size + 1, 5, none⟩ (.slice za zm zc)) := ((((((B.out.setCell (by simp) _).setCell (by simp) _).setCell (by simp) _).setCell (by simp) _).setCell (by simp) _).setCell (by simp) _)
    have HOF : ExIn ((((((w1.setCell ⟨w.heap.size + 1, 0, none⟩ (.int .i64 zk)).setCell ⟨w.heap.size + 1, 1, none⟩ (.string znm)).setCell ⟨w.heap.size + 1, 2, none⟩ (.int .i64 zn)).setCell ⟨w.heap.size + 1, 3, none⟩ (.int .i64 ztk)).setCell ⟨w.heap.size + 1, 4, none⟩ (.slice zta ztn ztc)).setCell ⟨w.heap.size + 1, 5, none⟩ (.slice za zm zc)) (c + 2) (.agg #[.int .i64 zk, .string znm, .int .i64 zn, .int .i64 ztk, .slice zta ztn ztc, .slice za zm zc]) x (w.heap.size + 2) w1.heap.size := ((((((HO.out.stored (by omega)).stored (by omega)).stored (by omega)).stored (by omega)).stored (by omega)).stored (by omega))
    have hzF : ((((((w1.setCell ⟨w.heap.size + 1, 0, none⟩ (.int .i64 zk)).setCell ⟨w.heap.size + 1, 1, none⟩ (.string znm)).setCell ⟨w.heap.size + 1, 2, none⟩ (.int .i64 zn)).setCell ⟨w.heap.size + 1, 3, none⟩ (.int .i64 ztk)).setCell ⟨w.heap.size + 1, 4, none⟩ (.slice zta ztn ztc)).setCell ⟨w.heap.size + 1, 5, none⟩ (.slice za zm zc)).heap.size = w1.heap.size := by simp
    have h0 := XRF.2 0
    have h1 := XRF.2 1
    have h2 := XRF.2 2
    have h3 := XRF.2 3
    have h4 := XRF.2 4
    have h5 := XRF.2 5
    clear XRF
    generalize ((((((w1.setCell ⟨w.heap.size + 1, 0, none⟩ (.int .i64 zk)).setCell ⟨w.heap.size + 1, 1, none⟩ (.string znm)).setCell ⟨w.heap.size + 1, 2, none⟩ (.int .i64 zn)).setCell ⟨w.heap.size + 1, 3, none⟩ (.int .i64 ztk)).setCell ⟨w.heap.size + 1, 4, none⟩ (.slice zta ztn ztc)).setCell ⟨w.heap.size + 1, 5, none⟩ (.slice za zm zc)) = WX at h0 h1 h2 h3 h4 h5 hBF HOF hzF ⊢
    refine bodyPost_ret (v := .tuple #[.agg #[.int .i64 zk, .string znm, .int .i64 zn, .int .i64 ztk, .slice zta ztn ztc, .slice za zm zc], .bool true]) (by simp [results, Try.results15, go_sem, h0, h1, h2, h3, h4, h5]) rfl ?_
    rw [hq]
    exact ⟨_, rfl, HOF.wide (by omega) (by omega) (Nat.le_refl _), hBF⟩
end Go.Proofs.Ytfidcblaabeaaaa
