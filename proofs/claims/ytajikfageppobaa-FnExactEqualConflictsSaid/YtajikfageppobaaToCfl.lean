/-
  Proved: laws.toConflict copies the value into new memory of its own; it leaves the memory that was there as it was.
-/
import Derived.Test.YtajikfageppobaaAtCfl
import Derived.Test.YtajikfageppobaaRecBase
namespace Go.Proofs.Ytajikfageppobaa
open Go.RowKit

set_option maxRecDepth 100000 in
set_option maxHeartbeats 4000000 in
theorem toCfl (d : Nat) (v : Value) (x : Cfl) (w : World) (hn : x.bulk ≤ 1048576) (h : CflAt w d v x) :
    Calls Try.prog 67 #[v] w fun e w' => ∃ v' fp, e = .returned v' ∧ CflIn w' d v' x w.heap.size w'.heap.size ∧ fp = ([] : List Nat) ∧ Below w.heap.size w w' := by
  cases x with
  | mk x1 x2 =>
    obtain ⟨pba, pbn, pbc, pca, pcn, pcc, rfl, h1, h2⟩ := h
    dsimp only at h1 h2 ⊢
    have hbk : (Cfl.mk x1 x2).bulk = x1.length + x2.length := rfl
    have hn1 : x1.length ≤ 1048576 := by omega
    have hn2 : x2.length ≤ 1048576 := by omega
    clear hn hbk
    have B : Hid (Below w.heap.size w (((w.alloc (.cells #[.slice pba pbn pbc, .slice pca pcn pcc] 100)).alloc (.cells #[.slice none 0 0, .slice none 0 0] 101)).alloc (.cells #[.slice none 0 0, .slice none 0 0] 101))) := (((Below.refl _ _).alloc (Nat.le_refl _) _).alloc (by simp) _).alloc (by simp; omega) _
    have H1 := Lib.hid (h1.below B.out)
    have HP2 := Lib.hid h2
    have XA : Hid (BoxAt (((w.alloc (.cells #[.slice pba pbn pbc, .slice pca pcn pcc] 100)).alloc (.cells #[.slice none 0 0, .slice none 0 0] 101)).alloc (.cells #[.slice none 0 0, .slice none 0 0] 101)) w.heap.size #[.slice pba pbn pbc, .slice pca pcn pcc]) := ((BoxAt.new _ _ _).below (below_alloc _ _)).below (below_alloc _ _)
    have XR : Hid (BoxAt (((w.alloc (.cells #[.slice pba pbn pbc, .slice pca pcn pcc] 100)).alloc (.cells #[.slice none 0 0, .slice none 0 0] 101)).alloc (.cells #[.slice none 0 0, .slice none 0 0] 101)) (w.heap.size + 1) #[.slice none 0 0, .slice none 0 0]) := (box_at (BoxAt.new _ _ _) (by simp)).below (below_alloc _ _)
    have XO : Hid (BoxAt (((w.alloc (.cells #[.slice pba pbn pbc, .slice pca pcn pcc] 100)).alloc (.cells #[.slice none 0 0, .slice none 0 0] 101)).alloc (.cells #[.slice none 0 0, .slice none 0 0] 101)) (w.heap.size + 1 + 1) #[.slice none 0 0, .slice none 0 0]) := box_at (BoxAt.new _ _ _) (by simp)
    have FR : Hid (FreeAt (((w.alloc (.cells #[.slice pba pbn pbc, .slice pca pcn pcc] 100)).alloc (.cells #[.slice none 0 0, .slice none 0 0] 101)).alloc (.cells #[.slice none 0 0, .slice none 0 0] 101)) (w.heap.size + 1)) := (free_at (FreeAt.new _ _ _) (by simp)).below (below_alloc _ _)
    have FO : Hid (FreeAt (((w.alloc (.cells #[.slice pba pbn pbc, .slice pca pcn pcc] 100)).alloc (.cells #[.slice none 0 0, .slice none 0 0] 101)).alloc (.cells #[.slice none 0 0, .slice none 0 0] 101)) (w.heap.size + 1 + 1)) := free_at (FreeAt.new _ _ _) (by simp)
    have hz0 : (((w.alloc (.cells #[.slice pba pbn pbc, .slice pca pcn pcc] 100)).alloc (.cells #[.slice none 0 0, .slice none 0 0] 101)).alloc (.cells #[.slice none 0 0, .slice none 0 0] 101)).heap.size = w.heap.size + 3 := by simp
    clear h1 h2
    go_enter Try.func67, Try.ntmps67
    go_wp2_with fail
    generalize (((w.alloc (.cells #[.slice pba pbn pbc, .slice pca pcn pcc] 100)).alloc (.cells #[.slice none 0 0, .slice none 0 0] 101)).alloc (.cells #[.slice none 0 0, .slice none 0 0] 101)) = y0 at B H1 XA XR XO FR FO hz0 ⊢
    refine (toPath d _ x1 y0 hn1 H1.out).mono ?_
    rintro e w1 ⟨v1, fp, rfl, ht, hf, hb⟩
    have hz1 := hb.size
    rw [hz0] at hz1
    obtain ⟨gba, gbn, gbc, rfl⟩ := path_parts ht.at_
    have G1 : Hid (Wi (w.heap.size + 3) w1.heap.size (PathIn w1 d (.slice gba gbn gbc) x1)) := ⟨_, _, (by omega), Nat.le_refl _, ht⟩
    replace B := Lib.hid (below_thru B.out (Nat.le_refl _) hb)
    replace XA := Lib.hid (XA.out.below hb)
    replace XR := Lib.hid (XR.out.below hb)
    replace XO := Lib.hid (XO.out.below hb)
    replace FR := Lib.hid (FR.out.below hb)
    replace FO := Lib.hid (FO.out.below hb)
    clear ht hf hb H1
    have B' : Hid (Below w.heap.size w (w1.setCell ⟨w.heap.size + 1 + 1, 0, none⟩ (.slice gba gbn gbc))) := (B.out.setCell (by simp; omega) _)
    have KP : Hid (Rest w.heap.size (w.heap.size + 3) w1 (w1.setCell ⟨w.heap.size + 1 + 1, 0, none⟩ (.slice gba gbn gbc))) := (Rest.refl _ _ _).set (by omega) (by omega)
    have XO' : Hid (BoxAt (w1.setCell ⟨w.heap.size + 1 + 1, 0, none⟩ (.slice gba gbn gbc)) (w.heap.size + 1 + 1) #[.slice gba gbn gbc, .slice none 0 0]) := by
      have := (XO.out.put (j := 0) (u := .slice gba gbn gbc) (by simp))
      exact this
    have XR' : Hid (BoxAt (w1.setCell ⟨w.heap.size + 1 + 1, 0, none⟩ (.slice gba gbn gbc)) (w.heap.size + 1) #[.slice none 0 0, .slice none 0 0]) := (XR.out.stored (q := w.heap.size + 1 + 1) (j := 0) (u := .slice gba gbn gbc) (by omega))
    have XA' : Hid (BoxAt (w1.setCell ⟨w.heap.size + 1 + 1, 0, none⟩ (.slice gba gbn gbc)) w.heap.size #[.slice pba pbn pbc, .slice pca pcn pcc]) := (XA.out.stored (q := w.heap.size + 1 + 1) (j := 0) (u := .slice gba gbn gbc) (by omega))
    have FR' : Hid (FreeAt (w1.setCell ⟨w.heap.size + 1 + 1, 0, none⟩ (.slice gba gbn gbc)) (w.heap.size + 1)) := FR.out.put
    have FO' : Hid (FreeAt (w1.setCell ⟨w.heap.size + 1 + 1, 0, none⟩ (.slice gba gbn gbc)) (w.heap.size + 1 + 1)) := FO.out.put
    have hs1 : (w1.setCell ⟨w.heap.size + 1 + 1, 0, none⟩ (.slice gba gbn gbc)).heap.size = w1.heap.size := by simp
    replace G1 := Lib.hid (G1.out.map fun _ _ ha _ h => h.rest KP.out (Or.inr ha))
    have H2 := Lib.hid (HP2.out.below B'.out)
    have o0 := XO.out.2 0
    have u0 := FO.out.2 0
    have a1 := XA.out.2 1
    have a1' := XA'.out.2 1
    go_wp2_with fail
    clear o0 u0 a1 a1' XA XR XO FR FO B KP
    generalize (w1.setCell ⟨w.heap.size + 1 + 1, 0, none⟩ (.slice gba gbn gbc)) = y1 at B' XO' XR' XA' FR' FO' G1 H2 hs1 ⊢
    have B := B'; clear B'
    have XA := XA'; clear XA'
    have XR := XR'; clear XR'
    have XO := XO'; clear XO'
    have FR := FR'; clear FR'
    have FO := FO'; clear FO'
    refine (toPath d _ x2 y1 hn2 H2.out).mono ?_
    rintro e w2 ⟨v2, fp, rfl, ht, hf, hb⟩
    have hz2 := hb.size
    rw [hs1] at hz2
    obtain ⟨gca, gcn, gcc, rfl⟩ := path_parts ht.at_
    have G2 : Hid (Wi (w.heap.size + 3) w2.heap.size (PathIn w2 d (.slice gca gcn gcc) x2)) := ⟨_, _, (by omega), Nat.le_refl _, ht⟩
    replace B := Lib.hid (below_thru B.out (Nat.le_refl _) hb)
    replace XA := Lib.hid (XA.out.below hb)
    replace XR := Lib.hid (XR.out.below hb)
    replace XO := Lib.hid (XO.out.below hb)
    replace FR := Lib.hid (FR.out.below hb)
    replace FO := Lib.hid (FO.out.below hb)
    replace G1 := Lib.hid (G1.out.map fun _ _ _ _ h => h.below hb)
    clear ht hf hb H2
    have o0 := XO.out.2 0
    have u0 := FO.out.2 0
    have r0 := XR.out.2 0
    have s0 := FR.out.2 0
    have o1 := XO.out.2 1
    have u1 := FO.out.2 1
    have r1 := XR.out.2 1
    have s1 := FR.out.2 1
    go_wp2_with fail
    clear o0 u0 r0 s0 o1 u1 r1 s1
    have XRF : BoxAt (((w2.setCell ⟨w.heap.size + 1 + 1, 1, none⟩ (.slice gca gcn gcc)).setCell ⟨w.heap.size + 1, 0, none⟩ (.slice gba gbn gbc)).setCell ⟨w.heap.size + 1, 1, none⟩ (.slice gca gcn gcc)) (w.heap.size + 1) #[.slice gba gbn gbc, .slice gca gcn gcc] := by
      have := (((XR.out.stored (q := w.heap.size + 1 + 1) (j := 1) (u := .slice gca gcn gcc) (by omega)).put (j := 0) (u := .slice gba gbn gbc) (by simp)).put (j := 1) (u := .slice gca gcn gcc) (by simp))
      exact this
    have hbF : Below w.heap.size w (((w2.setCell ⟨w.heap.size + 1 + 1, 1, none⟩ (.slice gca gcn gcc)).setCell ⟨w.heap.size + 1, 0, none⟩ (.slice gba gbn gbc)).setCell ⟨w.heap.size + 1, 1, none⟩ (.slice gca gcn gcc)) := (((B.out.setCell (by simp; omega) _).setCell (by simp) _).setCell (by simp) _)
    have KP : Rest w.heap.size (w.heap.size + 3) w2 (((w2.setCell ⟨w.heap.size + 1 + 1, 1, none⟩ (.slice gca gcn gcc)).setCell ⟨w.heap.size + 1, 0, none⟩ (.slice gba gbn gbc)).setCell ⟨w.heap.size + 1, 1, none⟩ (.slice gca gcn gcc)) := (((Rest.refl _ _ _).set (by omega) (by omega)).set (by omega) (by omega)).set (by omega) (by omega)
    have hzf : (((w2.setCell ⟨w.heap.size + 1 + 1, 1, none⟩ (.slice gca gcn gcc)).setCell ⟨w.heap.size + 1, 0, none⟩ (.slice gba gbn gbc)).setCell ⟨w.heap.size + 1, 1, none⟩ (.slice gca gcn gcc)).heap.size = w2.heap.size := by simp
    replace G1 := Lib.hid (G1.out.map fun _ _ ha _ h => h.rest KP (Or.inr ha))
    replace G2 := Lib.hid (G2.out.map fun _ _ ha _ h => h.rest KP (Or.inr ha))
    have g0 := XRF.2 0
    have g1 := XRF.2 1
    clear XRF KP B XA XR XO FR FO
    generalize (((w2.setCell ⟨w.heap.size + 1 + 1, 1, none⟩ (.slice gca gcn gcc)).setCell ⟨w.heap.size + 1, 0, none⟩ (.slice gba gbn gbc)).setCell ⟨w.heap.size + 1, 1, none⟩ (.slice gca gcn gcc)) = WX at g0 g1 hzf hbF G1 G2 ⊢
    refine bodyPost_ret (v := .agg #[.slice gba gbn gbc, .slice gca gcn gcc]) (by simp [results, Try.results67, go_sem, g0, g1]) rfl ?_
    exact ⟨_, [], rfl, ⟨gba, gbn, gbc, gca, gcn, gcc, rfl, G1.out.wide (by omega) (by omega), G2.out.wide (by omega) (by omega)⟩, rfl, hbF⟩
end Go.Proofs.Ytajikfageppobaa
