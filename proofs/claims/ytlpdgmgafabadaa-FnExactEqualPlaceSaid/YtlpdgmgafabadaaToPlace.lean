/-
  Proved: laws.toPlace copies a place into new memory; it leaves the memory that was there as it was.
-/
import Derived.Test.YtlpdgmgafabadaaPlMem
import Derived.Test.YtlpdgmgafabadaaToBinds
namespace Go.Proofs.Ytlpdgmgafabadaa
open Go.RowKit

set_option maxRecDepth 100000 in
set_option maxHeartbeats 2000000 in
theorem toPlace (d : Nat) (v : Value) (t : Pl) (w : World) (hn : t.bulk ≤ 1048576) (h : PlAt w d v t) :
    Calls Try.prog 30 #[v] w fun e w' => ∃ v', e = .returned v' ∧ PlAt w' d v' t ∧ Below w.heap.size w w' := by
  cases t with
  | mk cs ana ty =>
    obtain ⟨ca, cn, cc, tk, ta, tn, tc, rfl, hc, ht⟩ := h
    dsimp only at hc ht ⊢
    have hbk : (Pl.mk cs ana ty).bulk = Bi.bulks cs + (ty.size - 1) := rfl
    have hn1 : Bi.bulks cs ≤ 1048576 := by omega
    have hn2 : ty.size ≤ 1048577 := by omega
    clear hn hbk
    have B : Hid (Below w.heap.size w (((w.alloc (.cells #[.slice ca cn cc, .bool ana, .int .i64 tk, .slice ta tn tc] 47)).alloc (.cells #[.slice none 0 0, .bool false, .int .i64 0, .slice none 0 0] 51)).alloc (.cells #[.slice none 0 0, .bool false, .int .i64 0, .slice none 0 0] 51))) := (((Below.refl _ _).alloc (Nat.le_refl _) _).alloc (by simp) _).alloc (by simp; omega) _
    have HC := Lib.hid (hc.below B.out)
    have HT0 := Lib.hid ht
    have XA : Hid (BoxAt (((w.alloc (.cells #[.slice ca cn cc, .bool ana, .int .i64 tk, .slice ta tn tc] 47)).alloc (.cells #[.slice none 0 0, .bool false, .int .i64 0, .slice none 0 0] 51)).alloc (.cells #[.slice none 0 0, .bool false, .int .i64 0, .slice none 0 0] 51)) w.heap.size #[.slice ca cn cc, .bool ana, .int .i64 tk, .slice ta tn tc]) := ((BoxAt.new _ _ _).below (below_alloc _ _)).below (below_alloc _ _)
    have XR : Hid (BoxAt (((w.alloc (.cells #[.slice ca cn cc, .bool ana, .int .i64 tk, .slice ta tn tc] 47)).alloc (.cells #[.slice none 0 0, .bool false, .int .i64 0, .slice none 0 0] 51)).alloc (.cells #[.slice none 0 0, .bool false, .int .i64 0, .slice none 0 0] 51)) (w.heap.size + 1) #[.slice none 0 0, .bool false, .int .i64 0, .slice none 0 0]) := (box_at (BoxAt.new _ _ _) (by simp)).below (below_alloc _ _)
    have XO : Hid (BoxAt (((w.alloc (.cells #[.slice ca cn cc, .bool ana, .int .i64 tk, .slice ta tn tc] 47)).alloc (.cells #[.slice none 0 0, .bool false, .int .i64 0, .slice none 0 0] 51)).alloc (.cells #[.slice none 0 0, .bool false, .int .i64 0, .slice none 0 0] 51)) (w.heap.size + 1 + 1) #[.slice none 0 0, .bool false, .int .i64 0, .slice none 0 0]) := box_at (BoxAt.new _ _ _) (by simp)
    have FR : Hid (FreeAt (((w.alloc (.cells #[.slice ca cn cc, .bool ana, .int .i64 tk, .slice ta tn tc] 47)).alloc (.cells #[.slice none 0 0, .bool false, .int .i64 0, .slice none 0 0] 51)).alloc (.cells #[.slice none 0 0, .bool false, .int .i64 0, .slice none 0 0] 51)) (w.heap.size + 1)) := (free_at (FreeAt.new _ _ _) (by simp)).below (below_alloc _ _)
    have FO : Hid (FreeAt (((w.alloc (.cells #[.slice ca cn cc, .bool ana, .int .i64 tk, .slice ta tn tc] 47)).alloc (.cells #[.slice none 0 0, .bool false, .int .i64 0, .slice none 0 0] 51)).alloc (.cells #[.slice none 0 0, .bool false, .int .i64 0, .slice none 0 0] 51)) (w.heap.size + 1 + 1)) := free_at (FreeAt.new _ _ _) (by simp)
    have hz0 : (((w.alloc (.cells #[.slice ca cn cc, .bool ana, .int .i64 tk, .slice ta tn tc] 47)).alloc (.cells #[.slice none 0 0, .bool false, .int .i64 0, .slice none 0 0] 51)).alloc (.cells #[.slice none 0 0, .bool false, .int .i64 0, .slice none 0 0] 51)).heap.size = w.heap.size + 3 := by simp
    clear hc ht
    go_enter Try.func30, Try.ntmps30
    go_wp2_with fail
    refine (toBisOwn d _ cs _ hn1 HC.out).mono ?_
    rintro e w1 ⟨v1, f1, rfl, hc, hf1, hb⟩
    have hz1 := hb.size
    rw [hz0] at hz1 hf1
    have HG := Lib.hid hc
    obtain ⟨ea, ec, hd9, fps9, rfl, _⟩ := hc
    have F1 := Lib.hid hf1
    replace B := Lib.hid (below_thru B.out (Nat.le_refl _) hb)
    replace XA := Lib.hid (XA.out.below hb)
    replace XR := Lib.hid (XR.out.below hb)
    replace XO := Lib.hid (XO.out.below hb)
    replace FR := Lib.hid (FR.out.below hb)
    replace FO := Lib.hid (FO.out.below hb)
    clear hf1 hb HC
    have BS : Hid (Below w.heap.size w ((w1.setCell ⟨w.heap.size + 1 + 1, 0, none⟩ (.slice ea cs.length ec)).setCell ⟨w.heap.size + 1 + 1, 1, none⟩ (.bool ana))) := ((B.out.setCell (by simp; omega) _).setCell (by simp; omega) _)
    have XO1 : Hid (BoxAt ((w1.setCell ⟨w.heap.size + 1 + 1, 0, none⟩ (.slice ea cs.length ec)).setCell ⟨w.heap.size + 1 + 1, 1, none⟩ (.bool ana)) (w.heap.size + 1 + 1) #[.slice ea cs.length ec, .bool ana, .int .i64 0, .slice none 0 0]) := by
      have := ((XO.out.put (j := 0) (u := .slice ea cs.length ec) (by simp)).put (j := 1) (u := .bool ana) (by simp))
      exact this
    have XR1 : Hid (BoxAt ((w1.setCell ⟨w.heap.size + 1 + 1, 0, none⟩ (.slice ea cs.length ec)).setCell ⟨w.heap.size + 1 + 1, 1, none⟩ (.bool ana)) (w.heap.size + 1) #[.slice none 0 0, .bool false, .int .i64 0, .slice none 0 0]) := (XR.out.stored (by omega)).stored (by omega)
    have XA1 : Hid (BoxAt ((w1.setCell ⟨w.heap.size + 1 + 1, 0, none⟩ (.slice ea cs.length ec)).setCell ⟨w.heap.size + 1 + 1, 1, none⟩ (.bool ana)) w.heap.size #[.slice ca cn cc, .bool ana, .int .i64 tk, .slice ta tn tc]) := (XA.out.stored (by omega)).stored (by omega)
    have FR1 : Hid (FreeAt ((w1.setCell ⟨w.heap.size + 1 + 1, 0, none⟩ (.slice ea cs.length ec)).setCell ⟨w.heap.size + 1 + 1, 1, none⟩ (.bool ana)) (w.heap.size + 1)) := FR.out.put.put
    have FO1 : Hid (FreeAt ((w1.setCell ⟨w.heap.size + 1 + 1, 0, none⟩ (.slice ea cs.length ec)).setCell ⟨w.heap.size + 1 + 1, 1, none⟩ (.bool ana)) (w.heap.size + 1 + 1)) := FO.out.put.put
    have hs1 : ((w1.setCell ⟨w.heap.size + 1 + 1, 0, none⟩ (.slice ea cs.length ec)).setCell ⟨w.heap.size + 1 + 1, 1, none⟩ (.bool ana)).heap.size = w1.heap.size := by simp
    have K1 : Hid (∀ b, w.heap.size + 3 ≤ b → ((w1.setCell ⟨w.heap.size + 1 + 1, 0, none⟩ (.slice ea cs.length ec)).setCell ⟨w.heap.size + 1 + 1, 1, none⟩ (.bool ana)).heap[b]? = w1.heap[b]?) := fun b hb => by rw [heap_setCell_other _ _ _ _ (by simp; omega), heap_setCell_other _ _ _ _ (by simp; omega)]
    have HTS := Lib.hid (HT0.out.below BS.out)
    have o0 := XO.out.2 0
    have u0 := FO.out.2 0
    have o1 := XO.out.2 1
    have u1 := FO.out.2 1
    have a1 := XA.out.2 1
    have b1 := XA1.out.2 1
    have a2 := XA.out.2 2
    have b2 := XA1.out.2 2
    have a3 := XA.out.2 3
    have b3 := XA1.out.2 3
    go_wp2_with fail
    clear o0 u0 o1 u1 a1 b1 a2 b2 a3 b3 XA XA1 XR XO FR FO
    refine ((toTy_all d).1 _ ty _ hn2 HTS.out).mono ?_
    rintro e w2 ⟨v2, f2, rfl, ht, hf2, hb⟩
    have hz2 := hb.size
    rw [hs1] at hz2 hf2
    obtain ⟨gk, ga, gn, gc, rfl, HQ⟩ := ty_parts ht
    have F2 := Lib.hid hf2
    have BF := Lib.hid (below_thru BS.out (Nat.le_refl _) hb)
    have XO2 := Lib.hid (XO1.out.below hb)
    have XR2 := Lib.hid (XR1.out.below hb)
    have FR2 := Lib.hid (FR1.out.below hb)
    have FO2 := Lib.hid (FO1.out.below hb)
    have K2 : Hid (∀ b, b < w1.heap.size → w2.heap[b]? = ((w1.setCell ⟨w.heap.size + 1 + 1, 0, none⟩ (.slice ea cs.length ec)).setCell ⟨w.heap.size + 1 + 1, 1, none⟩ (.bool ana)).heap[b]?) := fun b h1 => hb.block b (by rw [hs1]; exact h1)
    clear ht hf2 hb XO1 XR1 FR1 FO1 HTS
    have o0 := XO2.out.2 0
    have u0 := FO2.out.2 0
    have r0 := XR2.out.2 0
    have s0 := FR2.out.2 0
    have o1 := XO2.out.2 1
    have u1 := FO2.out.2 1
    have r1 := XR2.out.2 1
    have s1 := FR2.out.2 1
    have o2 := XO2.out.2 2
    have u2 := FO2.out.2 2
    have r2 := XR2.out.2 2
    have s2 := FR2.out.2 2
    have o3 := XO2.out.2 3
    have u3 := FO2.out.2 3
    have r3 := XR2.out.2 3
    have s3 := FR2.out.2 3
    go_wp2_with fail
    have XRF : BoxAt ((((((w2.setCell ⟨w.heap.size + 1 + 1, 2, none⟩ (.int .i64 gk)).setCell ⟨w.heap.size + 1 + 1, 3, none⟩ (.slice ga gn gc)).setCell ⟨w.heap.size + 1, 0, none⟩ (.slice ea cs.length ec)).setCell ⟨w.heap.size + 1, 1, none⟩ (.bool ana)).setCell ⟨w.heap.size + 1, 2, none⟩ (.int .i64 gk)).setCell ⟨w.heap.size + 1, 3, none⟩ (.slice ga gn gc)) (w.heap.size + 1) #[.slice ea cs.length ec, .bool ana, .int .i64 gk, .slice ga gn gc] := by
      have := (((((XR2.out.stored (q := w.heap.size + 1 + 1) (j := 2) (u := .int .i64 gk) (by omega)).stored (q := w.heap.size + 1 + 1) (j := 3) (u := .slice ga gn gc) (by omega)).put (j := 0) (u := .slice ea cs.length ec) (by simp)).put (j := 1) (u := .bool ana) (by simp)).put (j := 2) (u := .int .i64 gk) (by simp)).put (j := 3) (u := .slice ga gn gc) (by simp)
      exact this
    have K3 : ∀ b, w.heap.size + 3 ≤ b → ((((((w2.setCell ⟨w.heap.size + 1 + 1, 2, none⟩ (.int .i64 gk)).setCell ⟨w.heap.size + 1 + 1, 3, none⟩ (.slice ga gn gc)).setCell ⟨w.heap.size + 1, 0, none⟩ (.slice ea cs.length ec)).setCell ⟨w.heap.size + 1, 1, none⟩ (.bool ana)).setCell ⟨w.heap.size + 1, 2, none⟩ (.int .i64 gk)).setCell ⟨w.heap.size + 1, 3, none⟩ (.slice ga gn gc)).heap[b]? = w2.heap[b]? := fun b hb => by
      rw [heap_setCell_other _ _ _ _ (by simp; omega), heap_setCell_other _ _ _ _ (by simp; omega), heap_setCell_other _ _ _ _ (by simp; omega), heap_setCell_other _ _ _ _ (by simp; omega), heap_setCell_other _ _ _ _ (by simp; omega), heap_setCell_other _ _ _ _ (by simp; omega)]
    have hzf : ((((((w2.setCell ⟨w.heap.size + 1 + 1, 2, none⟩ (.int .i64 gk)).setCell ⟨w.heap.size + 1 + 1, 3, none⟩ (.slice ga gn gc)).setCell ⟨w.heap.size + 1, 0, none⟩ (.slice ea cs.length ec)).setCell ⟨w.heap.size + 1, 1, none⟩ (.bool ana)).setCell ⟨w.heap.size + 1, 2, none⟩ (.int .i64 gk)).setCell ⟨w.heap.size + 1, 3, none⟩ (.slice ga gn gc)).heap.size = w2.heap.size := by simp
    have hbF : Below w.heap.size w ((((((w2.setCell ⟨w.heap.size + 1 + 1, 2, none⟩ (.int .i64 gk)).setCell ⟨w.heap.size + 1 + 1, 3, none⟩ (.slice ga gn gc)).setCell ⟨w.heap.size + 1, 0, none⟩ (.slice ea cs.length ec)).setCell ⟨w.heap.size + 1, 1, none⟩ (.bool ana)).setCell ⟨w.heap.size + 1, 2, none⟩ (.int .i64 gk)).setCell ⟨w.heap.size + 1, 3, none⟩ (.slice ga gn gc)) := ((((((BF.out.setCell (by simp; omega) _).setCell (by simp; omega) _).setCell (by simp) _).setCell (by simp) _).setCell (by simp) _).setCell (by simp) _)
    have g0 := XRF.2 0
    have g1 := XRF.2 1
    have g2 := XRF.2 2
    have g3 := XRF.2 3
    clear XRF
    have HY : BisOwn ((((((w2.setCell ⟨w.heap.size + 1 + 1, 2, none⟩ (.int .i64 gk)).setCell ⟨w.heap.size + 1 + 1, 3, none⟩ (.slice ga gn gc)).setCell ⟨w.heap.size + 1, 0, none⟩ (.slice ea cs.length ec)).setCell ⟨w.heap.size + 1, 1, none⟩ (.bool ana)).setCell ⟨w.heap.size + 1, 2, none⟩ (.int .i64 gk)).setCell ⟨w.heap.size + 1, 3, none⟩ (.slice ga gn gc)) d (.slice ea cs.length ec) cs f1 := HG.out.kept (by rw [hzf]; exact hz2) fun b hb => by
      have hq := F1.out.2 b hb
      rw [K3 b hq.1, K2.out b hq.2, K1.out b hq.1]
    have HQ2 : TyOwn ((((((w2.setCell ⟨w.heap.size + 1 + 1, 2, none⟩ (.int .i64 gk)).setCell ⟨w.heap.size + 1 + 1, 3, none⟩ (.slice ga gn gc)).setCell ⟨w.heap.size + 1, 0, none⟩ (.slice ea cs.length ec)).setCell ⟨w.heap.size + 1, 1, none⟩ (.bool ana)).setCell ⟨w.heap.size + 1, 2, none⟩ (.int .i64 gk)).setCell ⟨w.heap.size + 1, 3, none⟩ (.slice ga gn gc)) d (.agg #[.int .i64 gk, .slice ga gn gc]) ty f2 := HQ.kept (by rw [hzf]; exact Nat.le_refl _) fun b hb => K3 b (by have := (F2.out.2 b hb).1; omega)
    generalize ((((((w2.setCell ⟨w.heap.size + 1 + 1, 2, none⟩ (.int .i64 gk)).setCell ⟨w.heap.size + 1 + 1, 3, none⟩ (.slice ga gn gc)).setCell ⟨w.heap.size + 1, 0, none⟩ (.slice ea cs.length ec)).setCell ⟨w.heap.size + 1, 1, none⟩ (.bool ana)).setCell ⟨w.heap.size + 1, 2, none⟩ (.int .i64 gk)).setCell ⟨w.heap.size + 1, 3, none⟩ (.slice ga gn gc)) = WX at g0 g1 g2 g3 HY HQ2 hbF ⊢
    refine bodyPost_ret (v := .agg #[.slice ea cs.length ec, .bool ana, .int .i64 gk, .slice ga gn gc]) (by simp [results, Try.results30, go_sem, g0, g1, g2, g3]) rfl ?_
    exact ⟨_, rfl, ⟨_, _, _, _, _, _, _, rfl, HY.at_, HQ2.at_⟩, hbF⟩
end Go.Proofs.Ytlpdgmgafabadaa
