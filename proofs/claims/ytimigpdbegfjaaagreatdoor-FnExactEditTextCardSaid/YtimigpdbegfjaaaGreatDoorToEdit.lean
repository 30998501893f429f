/-
  Proved: laws.toEdit copies an edit into new memory; it leaves the memory that was there as it was.
-/
import Derived.Test.YtimigpdbegfjaaaGreatDoorEditAt
import Derived.Test.YtimigpdbegfjaaaGreatDoorToExpr
import Derived.Test.YtimigpdbegfjaaaGreatDoorToInts
import Derived.Test.YtimigpdbegfjaaaGreatDoorIntsRow
import Derived.Test.YtimigpdbegfjaaaGreatDoorTwo
import Derived.Test.YtimigpdbegfjaaaGreatDoorPut
namespace Go.Proofs.YtimigpdbegfjaaaGreatDoor
open Go.RowKit

set_option maxRecDepth 100000 in
set_option maxHeartbeats 2000000 in
theorem toEdit (d : Nat) (v : Value) (t : Edi) (w : World) (hn : t.bulk ≤ 1048576) (h : EditAt w d v t) :
    Calls Tryz.prog 6 #[v] w fun e w' => ∃ v', e = .returned v' ∧ EditAt w' d v' t ∧ Below w.heap.size w w' := by
  cases t with
  | mk ex ps =>
    obtain ⟨k, nm, n, tk, ta, tn, tc, sa, sn, sc, pa, pn, pc, rfl, he, hp, hl⟩ := h
    dsimp only at he hp hl ⊢
    have hbk : (Edi.mk ex ps).bulk = ex.bulk + ps.length := rfl
    have hn1 : ex.bulk ≤ 1048576 := by omega
    have hn2 : ps.length ≤ 1048576 := by omega
    clear hn hbk
    have B : Hid (Below w.heap.size w (((w.alloc (.cells #[.int .i64 k, .string nm, .int .i64 n, .int .i64 tk, .slice ta tn tc, .slice sa sn sc, .slice pa pn pc] 30)).alloc (.cells #[.int .i64 0, .string ⟨#[]⟩, .int .i64 0, .int .i64 0, .slice none 0 0, .slice none 0 0, .slice none 0 0] 40)).alloc (.cells #[.int .i64 0, .string ⟨#[]⟩, .int .i64 0, .int .i64 0, .slice none 0 0, .slice none 0 0, .slice none 0 0] 40))) := (((Below.refl _ _).alloc (Nat.le_refl _) _).alloc (by simp) _).alloc (by simp; omega) _
    have HEX := Lib.hid (he.below B.out)
    have HP0 := Lib.hid hp
    have XA : Hid (BoxAt (((w.alloc (.cells #[.int .i64 k, .string nm, .int .i64 n, .int .i64 tk, .slice ta tn tc, .slice sa sn sc, .slice pa pn pc] 30)).alloc (.cells #[.int .i64 0, .string ⟨#[]⟩, .int .i64 0, .int .i64 0, .slice none 0 0, .slice none 0 0, .slice none 0 0] 40)).alloc (.cells #[.int .i64 0, .string ⟨#[]⟩, .int .i64 0, .int .i64 0, .slice none 0 0, .slice none 0 0, .slice none 0 0] 40)) w.heap.size #[.int .i64 k, .string nm, .int .i64 n, .int .i64 tk, .slice ta tn tc, .slice sa sn sc, .slice pa pn pc]) := ((BoxAt.new _ _ _).below (below_alloc _ _)).below (below_alloc _ _)
    have XR : Hid (BoxAt (((w.alloc (.cells #[.int .i64 k, .string nm, .int .i64 n, .int .i64 tk, .slice ta tn tc, .slice sa sn sc, .slice pa pn pc] 30)).alloc (.cells #[.int .i64 0, .string ⟨#[]⟩, .int .i64 0, .int .i64 0, .slice none 0 0, .slice none 0 0, .slice none 0 0] 40)).alloc (.cells #[.int .i64 0, .string ⟨#[]⟩, .int .i64 0, .int .i64 0, .slice none 0 0, .slice none 0 0, .slice none 0 0] 40)) (w.heap.size + 1) #[.int .i64 0, .string ⟨#[]⟩, .int .i64 0, .int .i64 0, .slice none 0 0, .slice none 0 0, .slice none 0 0]) := (box_at (BoxAt.new _ _ _) (by simp)).below (below_alloc _ _)
    have XO : Hid (BoxAt (((w.alloc (.cells #[.int .i64 k, .string nm, .int .i64 n, .int .i64 tk, .slice ta tn tc, .slice sa sn sc, .slice pa pn pc] 30)).alloc (.cells #[.int .i64 0, .string ⟨#[]⟩, .int .i64 0, .int .i64 0, .slice none 0 0, .slice none 0 0, .slice none 0 0] 40)).alloc (.cells #[.int .i64 0, .string ⟨#[]⟩, .int .i64 0, .int .i64 0, .slice none 0 0, .slice none 0 0, .slice none 0 0] 40)) (w.heap.size + 1 + 1) #[.int .i64 0, .string ⟨#[]⟩, .int .i64 0, .int .i64 0, .slice none 0 0, .slice none 0 0, .slice none 0 0]) := box_at (BoxAt.new _ _ _) (by simp)
    have FR : Hid (FreeAt (((w.alloc (.cells #[.int .i64 k, .string nm, .int .i64 n, .int .i64 tk, .slice ta tn tc, .slice sa sn sc, .slice pa pn pc] 30)).alloc (.cells #[.int .i64 0, .string ⟨#[]⟩, .int .i64 0, .int .i64 0, .slice none 0 0, .slice none 0 0, .slice none 0 0] 40)).alloc (.cells #[.int .i64 0, .string ⟨#[]⟩, .int .i64 0, .int .i64 0, .slice none 0 0, .slice none 0 0, .slice none 0 0] 40)) (w.heap.size + 1)) := (free_at (FreeAt.new _ _ _) (by simp)).below (below_alloc _ _)
    have FO : Hid (FreeAt (((w.alloc (.cells #[.int .i64 k, .string nm, .int .i64 n, .int .i64 tk, .slice ta tn tc, .slice sa sn sc, .slice pa pn pc] 30)).alloc (.cells #[.int .i64 0, .string ⟨#[]⟩, .int .i64 0, .int .i64 0, .slice none 0 0, .slice none 0 0, .slice none 0 0] 40)).alloc (.cells #[.int .i64 0, .string ⟨#[]⟩, .int .i64 0, .int .i64 0, .slice none 0 0, .slice none 0 0, .slice none 0 0] 40)) (w.heap.size + 1 + 1)) := free_at (FreeAt.new _ _ _) (by simp)
    have hz0 : (((w.alloc (.cells #[.int .i64 k, .string nm, .int .i64 n, .int .i64 tk, .slice ta tn tc, .slice sa sn sc, .slice pa pn pc] 30)).alloc (.cells #[.int .i64 0, .string ⟨#[]⟩, .int .i64 0, .int .i64 0, .slice none 0 0, .slice none 0 0, .slice none 0 0] 40)).alloc (.cells #[.int .i64 0, .string ⟨#[]⟩, .int .i64 0, .int .i64 0, .slice none 0 0, .slice none 0 0, .slice none 0 0] 40)).heap.size = w.heap.size + 3 := by simp
    clear he hp
    go_enter Tryz.func6, Tryz.ntmps6
    go_wp2_with fail
    refine ((toEx_all d).1 _ ex _ hn1 HEX.out).mono ?_
    rintro e w1 ⟨v1, f1, rfl, ht, hf1, hb⟩
    have hz1 := hb.size
    rw [hz0] at hz1 hf1
    obtain ⟨gk, gnm, gn, gtk, gta, gtn, gtc, gsa, gsn, gsc, rfl⟩ := ex_parts ht.at_
    have HG := Lib.hid ht
    have F1 := Lib.hid hf1
    replace B := Lib.hid (below_thru B.out (Nat.le_refl _) hb)
    replace XA := Lib.hid (XA.out.below hb)
    replace XR := Lib.hid (XR.out.below hb)
    replace XO := Lib.hid (XO.out.below hb)
    replace FR := Lib.hid (FR.out.below hb)
    replace FO := Lib.hid (FO.out.below hb)
    clear ht hf1 hb HEX
    have BS : Hid (Below w.heap.size w ((((((w1.setCell ⟨w.heap.size + 1 + 1, 0, none⟩ (.int .i64 gk)).setCell ⟨w.heap.size + 1 + 1, 1, none⟩ (.string gnm)).setCell ⟨w.heap.size + 1 + 1, 2, none⟩ (.int .i64 gn)).setCell ⟨w.heap.size + 1 + 1, 3, none⟩ (.int .i64 gtk)).setCell ⟨w.heap.size + 1 + 1, 4, none⟩ (.slice gta gtn gtc)).setCell ⟨w.heap.size + 1 + 1, 5, none⟩ (.slice gsa gsn gsc))) := ((((((B.out.setCell (by simp; omega) _).setCell (by simp; omega) _).setCell (by simp; omega) _).setCell (by simp; omega) _).setCell (by simp; omega) _).setCell (by simp; omega) _)
    have XO1 : Hid (BoxAt ((((((w1.setCell ⟨w.heap.size + 1 + 1, 0, none⟩ (.int .i64 gk)).setCell ⟨w.heap.size + 1 + 1, 1, none⟩ (.string gnm)).setCell ⟨w.heap.size + 1 + 1, 2, none⟩ (.int .i64 gn)).setCell ⟨w.heap.size + 1 + 1, 3, none⟩ (.int .i64 gtk)).setCell ⟨w.heap.size + 1 + 1, 4, none⟩ (.slice gta gtn gtc)).setCell ⟨w.heap.size + 1 + 1, 5, none⟩ (.slice gsa gsn gsc)) (w.heap.size + 1 + 1) #[.int .i64 gk, .string gnm, .int .i64 gn, .int .i64 gtk, .slice gta gtn gtc, .slice gsa gsn gsc, .slice none 0 0]) := by
      have := ((((((XO.out.put (j := 0) (u := .int .i64 gk) (by simp)).put (j := 1) (u := .string gnm) (by simp)).put (j := 2) (u := .int .i64 gn) (by simp)).put (j := 3) (u := .int .i64 gtk) (by simp)).put (j := 4) (u := .slice gta gtn gtc) (by simp)).put (j := 5) (u := .slice gsa gsn gsc) (by simp))
      exact this
    have XR1 : Hid (BoxAt ((((((w1.setCell ⟨w.heap.size + 1 + 1, 0, none⟩ (.int .i64 gk)).setCell ⟨w.heap.size + 1 + 1, 1, none⟩ (.string gnm)).setCell ⟨w.heap.size + 1 + 1, 2, none⟩ (.int .i64 gn)).setCell ⟨w.heap.size + 1 + 1, 3, none⟩ (.int .i64 gtk)).setCell ⟨w.heap.size + 1 + 1, 4, none⟩ (.slice gta gtn gtc)).setCell ⟨w.heap.size + 1 + 1, 5, none⟩ (.slice gsa gsn gsc)) (w.heap.size + 1) #[.int .i64 0, .string ⟨#[]⟩, .int .i64 0, .int .i64 0, .slice none 0 0, .slice none 0 0, .slice none 0 0]) := ((((((XR.out.stored (by omega)).stored (by omega)).stored (by omega)).stored (by omega)).stored (by omega)).stored (by omega))
    have XA1 : Hid (BoxAt ((((((w1.setCell ⟨w.heap.size + 1 + 1, 0, none⟩ (.int .i64 gk)).setCell ⟨w.heap.size + 1 + 1, 1, none⟩ (.string gnm)).setCell ⟨w.heap.size + 1 + 1, 2, none⟩ (.int .i64 gn)).setCell ⟨w.heap.size + 1 + 1, 3, none⟩ (.int .i64 gtk)).setCell ⟨w.heap.size + 1 + 1, 4, none⟩ (.slice gta gtn gtc)).setCell ⟨w.heap.size + 1 + 1, 5, none⟩ (.slice gsa gsn gsc)) w.heap.size #[.int .i64 k, .string nm, .int .i64 n, .int .i64 tk, .slice ta tn tc, .slice sa sn sc, .slice pa pn pc]) := ((((((XA.out.stored (by omega)).stored (by omega)).stored (by omega)).stored (by omega)).stored (by omega)).stored (by omega))
    have FR1 : Hid (FreeAt ((((((w1.setCell ⟨w.heap.size + 1 + 1, 0, none⟩ (.int .i64 gk)).setCell ⟨w.heap.size + 1 + 1, 1, none⟩ (.string gnm)).setCell ⟨w.heap.size + 1 + 1, 2, none⟩ (.int .i64 gn)).setCell ⟨w.heap.size + 1 + 1, 3, none⟩ (.int .i64 gtk)).setCell ⟨w.heap.size + 1 + 1, 4, none⟩ (.slice gta gtn gtc)).setCell ⟨w.heap.size + 1 + 1, 5, none⟩ (.slice gsa gsn gsc)) (w.heap.size + 1)) := FR.out.put.put.put.put.put.put
    have FO1 : Hid (FreeAt ((((((w1.setCell ⟨w.heap.size + 1 + 1, 0, none⟩ (.int .i64 gk)).setCell ⟨w.heap.size + 1 + 1, 1, none⟩ (.string gnm)).setCell ⟨w.heap.size + 1 + 1, 2, none⟩ (.int .i64 gn)).setCell ⟨w.heap.size + 1 + 1, 3, none⟩ (.int .i64 gtk)).setCell ⟨w.heap.size + 1 + 1, 4, none⟩ (.slice gta gtn gtc)).setCell ⟨w.heap.size + 1 + 1, 5, none⟩ (.slice gsa gsn gsc)) (w.heap.size + 1 + 1)) := FO.out.put.put.put.put.put.put
    have hs1 : ((((((w1.setCell ⟨w.heap.size + 1 + 1, 0, none⟩ (.int .i64 gk)).setCell ⟨w.heap.size + 1 + 1, 1, none⟩ (.string gnm)).setCell ⟨w.heap.size + 1 + 1, 2, none⟩ (.int .i64 gn)).setCell ⟨w.heap.size + 1 + 1, 3, none⟩ (.int .i64 gtk)).setCell ⟨w.heap.size + 1 + 1, 4, none⟩ (.slice gta gtn gtc)).setCell ⟨w.heap.size + 1 + 1, 5, none⟩ (.slice gsa gsn gsc)).heap.size = w1.heap.size := by simp
    have K1 : Hid (∀ b, w.heap.size + 3 ≤ b → ((((((w1.setCell ⟨w.heap.size + 1 + 1, 0, none⟩ (.int .i64 gk)).setCell ⟨w.heap.size + 1 + 1, 1, none⟩ (.string gnm)).setCell ⟨w.heap.size + 1 + 1, 2, none⟩ (.int .i64 gn)).setCell ⟨w.heap.size + 1 + 1, 3, none⟩ (.int .i64 gtk)).setCell ⟨w.heap.size + 1 + 1, 4, none⟩ (.slice gta gtn gtc)).setCell ⟨w.heap.size + 1 + 1, 5, none⟩ (.slice gsa gsn gsc)).heap[b]? = w1.heap[b]?) := fun b hb => by rw [heap_setCell_other _ _ _ _ (by simp; omega), heap_setCell_other _ _ _ _ (by simp; omega), heap_setCell_other _ _ _ _ (by simp; omega), heap_setCell_other _ _ _ _ (by simp; omega), heap_setCell_other _ _ _ _ (by simp; omega), heap_setCell_other _ _ _ _ (by simp; omega)]
    have HPS := Lib.hid (HP0.out.below BS.out)
    have o0 := XO.out.2 0
    have u0 := FO.out.2 0
    have o1 := XO.out.2 1
    have u1 := FO.out.2 1
    have o2 := XO.out.2 2
    have u2 := FO.out.2 2
    have o3 := XO.out.2 3
    have u3 := FO.out.2 3
    have o4 := XO.out.2 4
    have u4 := FO.out.2 4
    have o5 := XO.out.2 5
    have u5 := FO.out.2 5
    have a6 := XA.out.2 6
    have a6' := XA1.out.2 6
    go_wp2_with fail
    clear o0 u0 o1 u1 o2 u2 o3 u3 o4 u4 o5 u5 a6 a6' XA XA1 XR XO FR FO
    refine (toInts _ ps hn2 _ HPS.out).mono ?_
    rintro e w2 ⟨v2, rfl, hrow, hb⟩
    have hz2 := hb.size
    rw [hs1] at hz2
    have HQ := Lib.hid hrow
    obtain ⟨qa, qc, rfl, hqc, _⟩ := Ints.of_own hrow
    have BF := Lib.hid (below_thru BS.out (Nat.le_refl _) hb)
    have XO2 := Lib.hid (XO1.out.below hb)
    have XR2 := Lib.hid (XR1.out.below hb)
    have FR2 := Lib.hid (FR1.out.below hb)
    have FO2 := Lib.hid (FO1.out.below hb)
    have K2 : Hid (∀ b, b < w1.heap.size → w2.heap[b]? = ((((((w1.setCell ⟨w.heap.size + 1 + 1, 0, none⟩ (.int .i64 gk)).setCell ⟨w.heap.size + 1 + 1, 1, none⟩ (.string gnm)).setCell ⟨w.heap.size + 1 + 1, 2, none⟩ (.int .i64 gn)).setCell ⟨w.heap.size + 1 + 1, 3, none⟩ (.int .i64 gtk)).setCell ⟨w.heap.size + 1 + 1, 4, none⟩ (.slice gta gtn gtc)).setCell ⟨w.heap.size + 1 + 1, 5, none⟩ (.slice gsa gsn gsc)).heap[b]?) := fun b h1 => hb.block b (by rw [hs1]; exact h1)
    clear hrow hb XO1 XR1 FR1 FO1 HPS
    have o0 := XO2.out.2 0
    have u0 := FO2.out.2 0
    have r0 := XR2.out.2 0
    have s0 := FR2.out.2 0
    have o1 := XO2.out.2 1
    have u1 := FO2.out.2 1
    have r1 := XR2.out.2 1
    have s1 := FR2.out.2 1
    have o2 := XO2.out.2 2
    have u2 := FO2.out.2 2
    have r2 := XR2.out.2 2
    have s2 := FR2.out.2 2
    have o3 := XO2.out.2 3
    have u3 := FO2.out.2 3
    have r3 := XR2.out.2 3
    have s3 := FR2.out.2 3
    have o4 := XO2.out.2 4
    have u4 := FO2.out.2 4
    have r4 := XR2.out.2 4
    have s4 := FR2.out.2 4
    have o5 := XO2.out.2 5
    have u5 := FO2.out.2 5
    have r5 := XR2.out.2 5
    have s5 := FR2.out.2 5
    have o6 := XO2.out.2 6
    have u6 := FO2.out.2 6
    have r6 := XR2.out.2 6
    have s6 := FR2.out.2 6
    go_wp2_with fail
    have XRF : BoxAt ((((((((w2.setCell ⟨w.heap.size + 1 + 1, 6, none⟩ (.slice qa ps.length qc)).setCell ⟨w.heap.size + 1, 0, none⟩ (.int .i64 gk)).setCell ⟨w.heap.size + 1, 1, none⟩ (.string gnm)).setCell ⟨w.heap.size + 1, 2, none⟩ (.int .i64 gn)).setCell ⟨w.heap.size + 1, 3, none⟩ (.int .i64 gtk)).setCell ⟨w.heap.size + 1, 4, none⟩ (.slice gta gtn gtc)).setCell ⟨w.heap.size + 1, 5, none⟩ (.slice gsa gsn gsc)).setCell ⟨w.heap.size + 1, 6, none⟩ (.slice qa ps.length qc)) (w.heap.size + 1) #[.int .i64 gk, .string gnm, .int .i64 gn, .int .i64 gtk, .slice gta gtn gtc, .slice gsa gsn gsc, .slice qa ps.length qc] := by
      have := ((((((((XR2.out.stored (q := w.heap.size + 1 + 1) (j := 6) (u := .slice qa ps.length qc) (by omega)).put (j := 0) (u := .int .i64 gk) (by simp)).put (j := 1) (u := .string gnm) (by simp)).put (j := 2) (u := .int .i64 gn) (by simp)).put (j := 3) (u := .int .i64 gtk) (by simp)).put (j := 4) (u := .slice gta gtn gtc) (by simp)).put (j := 5) (u := .slice gsa gsn gsc) (by simp)).put (j := 6) (u := .slice qa ps.length qc) (by simp))
      exact this
    have K3 : ∀ b, w.heap.size + 3 ≤ b → ((((((((w2.setCell ⟨w.heap.size + 1 + 1, 6, none⟩ (.slice qa ps.length qc)).setCell ⟨w.heap.size + 1, 0, none⟩ (.int .i64 gk)).setCell ⟨w.heap.size + 1, 1, none⟩ (.string gnm)).setCell ⟨w.heap.size + 1, 2, none⟩ (.int .i64 gn)).setCell ⟨w.heap.size + 1, 3, none⟩ (.int .i64 gtk)).setCell ⟨w.heap.size + 1, 4, none⟩ (.slice gta gtn gtc)).setCell ⟨w.heap.size + 1, 5, none⟩ (.slice gsa gsn gsc)).setCell ⟨w.heap.size + 1, 6, none⟩ (.slice qa ps.length qc)).heap[b]? = w2.heap[b]? := fun b hb => by
      rw [heap_setCell_other _ _ _ _ (by simp; omega), heap_setCell_other _ _ _ _ (by simp; omega), heap_setCell_other _ _ _ _ (by simp; omega), heap_setCell_other _ _ _ _ (by simp; omega), heap_setCell_other _ _ _ _ (by simp; omega), heap_setCell_other _ _ _ _ (by simp; omega), heap_setCell_other _ _ _ _ (by simp; omega), heap_setCell_other _ _ _ _ (by simp; omega)]
    have hzf : ((((((((w2.setCell ⟨w.heap.size + 1 + 1, 6, none⟩ (.slice qa ps.length qc)).setCell ⟨w.heap.size + 1, 0, none⟩ (.int .i64 gk)).setCell ⟨w.heap.size + 1, 1, none⟩ (.string gnm)).setCell ⟨w.heap.size + 1, 2, none⟩ (.int .i64 gn)).setCell ⟨w.heap.size + 1, 3, none⟩ (.int .i64 gtk)).setCell ⟨w.heap.size + 1, 4, none⟩ (.slice gta gtn gtc)).setCell ⟨w.heap.size + 1, 5, none⟩ (.slice gsa gsn gsc)).setCell ⟨w.heap.size + 1, 6, none⟩ (.slice qa ps.length qc)).heap.size = w2.heap.size := by simp
    have hbF : Below w.heap.size w ((((((((w2.setCell ⟨w.heap.size + 1 + 1, 6, none⟩ (.slice qa ps.length qc)).setCell ⟨w.heap.size + 1, 0, none⟩ (.int .i64 gk)).setCell ⟨w.heap.size + 1, 1, none⟩ (.string gnm)).setCell ⟨w.heap.size + 1, 2, none⟩ (.int .i64 gn)).setCell ⟨w.heap.size + 1, 3, none⟩ (.int .i64 gtk)).setCell ⟨w.heap.size + 1, 4, none⟩ (.slice gta gtn gtc)).setCell ⟨w.heap.size + 1, 5, none⟩ (.slice gsa gsn gsc)).setCell ⟨w.heap.size + 1, 6, none⟩ (.slice qa ps.length qc)) := ((((((((BF.out.setCell (by simp; omega) _).setCell (by simp) _).setCell (by simp) _).setCell (by simp) _).setCell (by simp) _).setCell (by simp) _).setCell (by simp) _).setCell (by simp) _)
    have g0 := XRF.2 0
    have g1 := XRF.2 1
    have g2 := XRF.2 2
    have g3 := XRF.2 3
    have g4 := XRF.2 4
    have g5 := XRF.2 5
    have g6 := XRF.2 6
    clear XRF
    have HY : ExOwn ((((((((w2.setCell ⟨w.heap.size + 1 + 1, 6, none⟩ (.slice qa ps.length qc)).setCell ⟨w.heap.size + 1, 0, none⟩ (.int .i64 gk)).setCell ⟨w.heap.size + 1, 1, none⟩ (.string gnm)).setCell ⟨w.heap.size + 1, 2, none⟩ (.int .i64 gn)).setCell ⟨w.heap.size + 1, 3, none⟩ (.int .i64 gtk)).setCell ⟨w.heap.size + 1, 4, none⟩ (.slice gta gtn gtc)).setCell ⟨w.heap.size + 1, 5, none⟩ (.slice gsa gsn gsc)).setCell ⟨w.heap.size + 1, 6, none⟩ (.slice qa ps.length qc)) d (.agg #[.int .i64 gk, .string gnm, .int .i64 gn, .int .i64 gtk, .slice gta gtn gtc, .slice gsa gsn gsc]) ex f1 := HG.out.kept (by rw [hzf]; exact hz2) fun b hb => by
      have hq := F1.out.2 b hb
      rw [K3 b hq.1, K2.out b hq.2, K1.out b hq.1]
    have HI : Ints ((((((((w2.setCell ⟨w.heap.size + 1 + 1, 6, none⟩ (.slice qa ps.length qc)).setCell ⟨w.heap.size + 1, 0, none⟩ (.int .i64 gk)).setCell ⟨w.heap.size + 1, 1, none⟩ (.string gnm)).setCell ⟨w.heap.size + 1, 2, none⟩ (.int .i64 gn)).setCell ⟨w.heap.size + 1, 3, none⟩ (.int .i64 gtk)).setCell ⟨w.heap.size + 1, 4, none⟩ (.slice gta gtn gtc)).setCell ⟨w.heap.size + 1, 5, none⟩ (.slice gsa gsn gsc)).setCell ⟨w.heap.size + 1, 6, none⟩ (.slice qa ps.length qc)) (.slice qa ps.length qc) ps := Ints.of_own (own_keeps HQ.out fun k hk => K3 k (by have := (HQ.out.lt k hk).1; rw [hs1] at this; omega))
    generalize ((((((((w2.setCell ⟨w.heap.size + 1 + 1, 6, none⟩ (.slice qa ps.length qc)).setCell ⟨w.heap.size + 1, 0, none⟩ (.int .i64 gk)).setCell ⟨w.heap.size + 1, 1, none⟩ (.string gnm)).setCell ⟨w.heap.size + 1, 2, none⟩ (.int .i64 gn)).setCell ⟨w.heap.size + 1, 3, none⟩ (.int .i64 gtk)).setCell ⟨w.heap.size + 1, 4, none⟩ (.slice gta gtn gtc)).setCell ⟨w.heap.size + 1, 5, none⟩ (.slice gsa gsn gsc)).setCell ⟨w.heap.size + 1, 6, none⟩ (.slice qa ps.length qc)) = WX at g0 g1 g2 g3 g4 g5 g6 HY HI hbF ⊢
    refine bodyPost_ret (v := .agg #[.int .i64 gk, .string gnm, .int .i64 gn, .int .i64 gtk, .slice gta gtn gtc, .slice gsa gsn gsc, .slice qa ps.length qc]) (by simp [results, Tryz.results6, go_sem, g0, g1, g2, g3, g4, g5, g6]) rfl ?_
    exact ⟨_, rfl, ⟨_, _, _, _, _, _, _, _, _, _, _, _, _, rfl, HY.at_, HI, hl⟩, hbF⟩
end Go.Proofs.YtimigpdbegfjaaaGreatDoor
