/-
  Proved: the reference's draws of types, of one and of two, give types of few parts; the memory that was there stays as it was.
-/
import Derived.Test.YtmkifhfdpnlhnaaBentTy
import Derived.Deep.RegionLaw
namespace Go.Proofs.Ytmkifhfdpnlhnaa
open Go.RowKit

theorem Code.later {B : Nat} {w w' : World} {v : Value} {n : Nat} (h : Code B w v n) (hB : B ≤ w.heap.size) (hb : Below w.heap.size w w') : Code B w' v n := by
  obtain ⟨a, cap, rfl, hn, h⟩ := h
  refine ⟨a, cap, rfl, hn, fun j hj => ?_⟩
  obtain ⟨b, off, x, ha, hlt, h0, h1, hc⟩ := h j hj
  exact ⟨b, off, x, ha, hlt, h0, h1, by rw [hb.cell (p := ⟨b, off + j, none⟩) (Nat.lt_of_lt_of_le hlt hB)]; exact hc⟩
/-- What drawing one type ends in. -/
def OneTyEnd (w : World) (e : Ending) (w' : World) : Prop :=
  ∃ d v t, e = .returned v ∧ t.size ≤ 65536 ∧ TyAt w' d v t ∧ Below w.heap.size w w'
/-- What drawing two types ends in. -/
def TwoTyEnd (w : World) (e : Ending) (w' : World) : Prop :=
  ∃ d1 v1 t1 d2 v2 t2, e = .returned (.tuple #[v1, v2]) ∧ t1.size ≤ 65536 ∧ t2.size ≤ 65536 ∧ TyAt w' d1 v1 t1 ∧ TyAt w' d2 v2 t2 ∧ Below w.heap.size w w'
theorem own_far {w : World} {d : Nat} {v : Value} {t : Ty} {fp : List Nat} {lo hi p j : Nat} {u : Value} (h : TyOwn w d v t fp) (hf : Fp lo hi fp) (hp : p < lo) : TyOwn (w.setCell ⟨p, j, none⟩ u) d v t fp :=
  h.kept (by simp) fun b hb => heap_setCell_other _ _ _ _ (by have := (hf.2 b hb).1; show b ≠ p; omega)
set_option maxRecDepth 100000 in
set_option maxHeartbeats 2000000 in
theorem drawIsValidType (v : Value) (n : Nat) (w : World) (h : Code w.heap.size w v n) :
    Calls Try.prog 5 #[v] w (OneTyEnd w) := by
  have XR : Hid (BoxAt (w.alloc (.cells #[.int .i64 0, .slice none 0 0] 26)) w.heap.size #[.int .i64 0, .slice none 0 0]) := BoxAt.new _ _ _
  have XF : Hid (FreeAt (w.alloc (.cells #[.int .i64 0, .slice none 0 0] 26)) w.heap.size) := FreeAt.new _ _ _
  have HC := Lib.hid (h.later (Nat.le_refl _) (below_alloc w (.cells #[.int .i64 0, .slice none 0 0] 26)))
  have B0 := Lib.hid (below_alloc w (.cells #[.int .i64 0, .slice none 0 0] 26))
  clear h
  go_enter Try.func5, Try.ntmps5
  go_wp2_with fail
  refine (curNew w.heap.size v n _ (by simp) HC.out).mono ?_
  rintro e w1 ⟨rfl, hc1, hb1⟩
  simp only [World.size_alloc] at hc1 ⊢
  have H1 := Lib.hid hc1
  replace XR := Lib.hid (XR.out.below hb1)
  replace XF := Lib.hid (XF.out.below hb1)
  have B1 := Lib.hid (below_thru B0.out (Nat.le_refl _) hb1)
  have hz1 := hb1.size
  simp only [World.size_alloc] at hz1
  clear hc1 hb1 HC B0
  go_wp2_with fail
  refine (bentTy w.heap.size (w.heap.size + 1) _ H1.out).mono ?_
  rintro e w2 ⟨d, v2, t, rfl, hs, hbt, hc2, hg2⟩
  obtain ⟨ak, aa, an, ac, rfl⟩ := hbt.form
  have HT := Lib.hid hbt
  have B2 := Lib.hid (B1.out.grown hg2 (by omega) (fun k e => by cases e; omega))
  have XR2 := XR.out.grownPast hg2 (by omega)
  have XF2 := XF.out.grownPast hg2 (by omega)
  have r0 := XR2.2 0
  have r1 := XR2.2 1
  have q0 := XF2.2 0
  have q1 := XF2.2 1
  have XRH := Lib.hid XR2
  clear XR2 XF2 hbt hc2 hg2
  go_wp2_with fail
  refine bodyPost_ret (v := .agg #[.int .i64 ak, .slice aa an ac]) (by simp [results, Try.results5, go_sem, r0, r1]) rfl ?_
  exact ⟨_, _, t, rfl, hs, ((HT.out.far (grown_set _ w.heap.size 0 _) (by omega)).far (grown_set _ w.heap.size 1 _) (by omega)).at_, (B2.out.setCell (Nat.le_refl _) _).setCell (Nat.le_refl _) _⟩
set_option maxRecDepth 100000 in
set_option maxHeartbeats 4000000 in
theorem drawArrowType (v : Value) (n : Nat) (w : World) (h : Code w.heap.size w v n) :
    Calls Try.prog 8 #[v] w (TwoTyEnd w) := by
  have XR : Hid (BoxAt ((w.alloc (.cells #[.int .i64 0, .slice none 0 0] 26)).alloc (.cells #[.int .i64 0, .slice none 0 0] 26)) w.heap.size #[.int .i64 0, .slice none 0 0]) := (BoxAt.new _ _ _).below (below_alloc _ _)
  have XF : Hid (FreeAt ((w.alloc (.cells #[.int .i64 0, .slice none 0 0] 26)).alloc (.cells #[.int .i64 0, .slice none 0 0] 26)) w.heap.size) := (FreeAt.new _ _ _).below (below_alloc _ _)
  have XS : Hid (BoxAt ((w.alloc (.cells #[.int .i64 0, .slice none 0 0] 26)).alloc (.cells #[.int .i64 0, .slice none 0 0] 26)) (w.heap.size + 1) #[.int .i64 0, .slice none 0 0]) := box_at (BoxAt.new _ _ _) (by simp)
  have XG : Hid (FreeAt ((w.alloc (.cells #[.int .i64 0, .slice none 0 0] 26)).alloc (.cells #[.int .i64 0, .slice none 0 0] 26)) (w.heap.size + 1)) := free_at (FreeAt.new _ _ _) (by simp)
  have B0 := Lib.hid (below_thru (below_alloc w (.cells #[.int .i64 0, .slice none 0 0] 26)) (Nat.le_refl _) (below_alloc (w.alloc (.cells #[.int .i64 0, .slice none 0 0] 26)) (.cells #[.int .i64 0, .slice none 0 0] 26)))
  have HC := Lib.hid (h.later (Nat.le_refl _) B0.out)
  clear h
  go_enter Try.func8, Try.ntmps8
  go_wp2_with fail
  refine (curNew w.heap.size v n _ (by simp; omega) HC.out).mono ?_
  rintro e w1 ⟨rfl, hc1, hb1⟩
  simp only [World.size_alloc] at hc1 ⊢
  have H1 := Lib.hid hc1
  replace XR := Lib.hid (XR.out.below hb1)
  replace XF := Lib.hid (XF.out.below hb1)
  replace XS := Lib.hid (XS.out.below hb1)
  replace XG := Lib.hid (XG.out.below hb1)
  have B := Lib.hid (below_thru B0.out (Nat.le_refl _) hb1)
  have hz1 := hb1.size
  simp only [World.size_alloc] at hz1
  have hin := hc1.inside
  clear hc1 hb1 HC B0
  go_wp2_with fail
  refine (drawTy w.heap.size (w.heap.size + 2) 2 3 _ (by omega) (by omega) H1.out).mono ?_
  rintro e w2 ⟨v2, t1, rfl, hn1, hbt, hc2, hg2⟩
  obtain ⟨ak, aa, an, ac, rfl⟩ := hbt.form
  have hz2 := hg2.size
  have HA := below_alloc w2 (.cells #[.int .i64 ak, .slice aa an ac] 26)
  have hs1 : t1.size ≤ 65536 := by simp at hn1; omega
  have HT := Lib.hid (hbt.below HA)
  have XA : Hid (BoxAt (w2.alloc (.cells #[.int .i64 ak, .slice aa an ac] 26)) w2.heap.size #[.int .i64 ak, .slice aa an ac]) := BoxAt.new _ _ _
  replace H1 := Lib.hid (hc2.beside HA)
  replace B := Lib.hid (below_thru (B.out.grown hg2 (by omega) (fun k e => by cases e; omega)) (by omega) HA)
  replace XR := Lib.hid ((XR.out.grownPast hg2 (by omega)).below HA)
  replace XF := Lib.hid ((XF.out.grownPast hg2 (by omega)).below HA)
  replace XS := Lib.hid ((XS.out.grownPast hg2 (by omega)).below HA)
  replace XG := Lib.hid ((XG.out.grownPast hg2 (by omega)).below HA)
  clear hbt hc2 hg2 HA
  go_wp2_with fail
  have a0 := XA.out.2 0
  have a1 := XA.out.2 1
  have HD := below_drew (w2.alloc (.cells #[.int .i64 ak, .slice aa an ac] 26))
  have hzd : w2.heap.size + 1 = (w2.alloc (.cells #[.int .i64 ak, .slice aa an ac] 26)).drew.heap.size := by simp
  replace HT := Lib.hid (HT.out.below HD)
  replace H1 := Lib.hid (H1.out.beside HD)
  replace B := Lib.hid (below_thru B.out (by simp) HD)
  replace XA := Lib.hid (XA.out.below HD)
  replace XR := Lib.hid (XR.out.below HD)
  replace XF := Lib.hid (XF.out.below HD)
  replace XS := Lib.hid (XS.out.below HD)
  replace XG := Lib.hid (XG.out.below HD)
  clear HD
  go_region_law (first
    | (go_simp
       go_at_call 28
       refine (drawTy w.heap.size (w.heap.size + 2) 2 3 _ (by omega) (by omega) H1.out).mono ?_
       rintro e w9 ⟨v3, t2, rfl, hn2, hb9, hc9, hg9⟩
       obtain ⟨bk, ba, bn, bc, rfl⟩ := hb9.form
       have hz9 := hg9.size
       rw [← hzd] at hz9
       have hs2 : t2.size ≤ 65536 := by simp at hn2; omega
       have HU := Lib.hid hb9
       have HT3 := Lib.hid (HT.out.far hg9 (by omega))
       have XR3 := XR.out.grownPast hg9 (by omega)
       have XF3 := XF.out.grownPast hg9 (by omega)
       have XS3 := XS.out.grownPast hg9 (by omega)
       have XG3 := XG.out.grownPast hg9 (by omega)
       have XA3 := XA.out.grownPast hg9 (by omega)
       have B9 := Lib.hid (B.out.grown hg9 (by first | omega | (simp; done) | (simp; omega)) (fun k e => by cases e; omega))
       clear hg9 hc9 hb9
       have r0 := XR3.2 0
       have r1 := XR3.2 1
       have q0 := XF3.2 0
       have q1 := XF3.2 1
       have s0 := XS3.2 0
       have s1 := XS3.2 1
       have p0 := XG3.2 0
       have p1 := XG3.2 1
       have b0 := XA3.2 0
       have b1 := XA3.2 1
       have XRH := Lib.hid XR3
       have XSH := Lib.hid XS3
       have XAH := Lib.hid XA3
       have XFH := Lib.hid XF3
       have XGH := Lib.hid XG3
       clear XR3 XS3 XF3 XG3 XA3))
  all_goals go_wp2_with fail
  all_goals
    refine bodyPost_ret (v := .tuple #[.agg #[.int .i64 ak, .slice aa an ac], .agg #[.int .i64 bk, .slice ba bn bc]]) (by simp [results, Try.results8, go_sem, r0, r1, s0, s1]) rfl ?_
    exact ⟨_, _, t1, _, _, t2, rfl, hs1, hs2, ((((HT3.out.far (grown_set _ w.heap.size 0 _) (by omega)).far (grown_set _ w.heap.size 1 _) (by omega)).far (grown_set _ (w.heap.size + 1) 0 _) (by omega)).far (grown_set _ (w.heap.size + 1) 1 _) (by omega)).at_, ((((HU.out.far (grown_set _ w.heap.size 0 _) (by omega)).far (grown_set _ w.heap.size 1 _) (by omega)).far (grown_set _ (w.heap.size + 1) 0 _) (by omega)).far (grown_set _ (w.heap.size + 1) 1 _) (by omega)).at_, (((B9.out.setCell (Nat.le_refl _) _).setCell (Nat.le_refl _) _).setCell (by simp) _).setCell (by simp) _⟩
set_option maxRecDepth 100000 in
set_option maxHeartbeats 4000000 in
theorem drawEqualType (v : Value) (n : Nat) (w : World) (h : Code w.heap.size w v n) :
    Calls Try.prog 9 #[v] w (TwoTyEnd w) := by
  have XR : Hid (BoxAt ((w.alloc (.cells #[.int .i64 0, .slice none 0 0] 26)).alloc (.cells #[.int .i64 0, .slice none 0 0] 26)) w.heap.size #[.int .i64 0, .slice none 0 0]) := (BoxAt.new _ _ _).below (below_alloc _ _)
  have XF : Hid (FreeAt ((w.alloc (.cells #[.int .i64 0, .slice none 0 0] 26)).alloc (.cells #[.int .i64 0, .slice none 0 0] 26)) w.heap.size) := (FreeAt.new _ _ _).below (below_alloc _ _)
  have XS : Hid (BoxAt ((w.alloc (.cells #[.int .i64 0, .slice none 0 0] 26)).alloc (.cells #[.int .i64 0, .slice none 0 0] 26)) (w.heap.size + 1) #[.int .i64 0, .slice none 0 0]) := box_at (BoxAt.new _ _ _) (by simp)
  have XG : Hid (FreeAt ((w.alloc (.cells #[.int .i64 0, .slice none 0 0] 26)).alloc (.cells #[.int .i64 0, .slice none 0 0] 26)) (w.heap.size + 1)) := free_at (FreeAt.new _ _ _) (by simp)
  have B0 := Lib.hid (below_thru (below_alloc w (.cells #[.int .i64 0, .slice none 0 0] 26)) (Nat.le_refl _) (below_alloc (w.alloc (.cells #[.int .i64 0, .slice none 0 0] 26)) (.cells #[.int .i64 0, .slice none 0 0] 26)))
  have HC := Lib.hid (h.later (Nat.le_refl _) B0.out)
  clear h
  go_enter Try.func9, Try.ntmps9
  go_wp2_with fail
  refine (curNew w.heap.size v n _ (by simp; omega) HC.out).mono ?_
  rintro e w1 ⟨rfl, hc1, hb1⟩
  simp only [World.size_alloc] at hc1 ⊢
  have H1 := Lib.hid hc1
  replace XR := Lib.hid (XR.out.below hb1)
  replace XF := Lib.hid (XF.out.below hb1)
  replace XS := Lib.hid (XS.out.below hb1)
  replace XG := Lib.hid (XG.out.below hb1)
  have B := Lib.hid (below_thru B0.out (Nat.le_refl _) hb1)
  have hz1 := hb1.size
  simp only [World.size_alloc] at hz1
  have hin := hc1.inside
  clear hc1 hb1 HC B0
  go_wp2_with fail
  refine (bentTy w.heap.size (w.heap.size + 2) _ H1.out).mono ?_
  rintro e w2 ⟨d1, v2, t1, rfl, hn1, hbt, hc2, hg2⟩
  obtain ⟨ak, aa, an, ac, rfl⟩ := hbt.form
  have hz2 := hg2.size
  have HA := below_alloc w2 (.cells #[.int .i64 ak, .slice aa an ac] 26)
  have hs1 : t1.size ≤ 65536 := hn1
  have HT := Lib.hid (hbt.below HA)
  have XA : Hid (BoxAt (w2.alloc (.cells #[.int .i64 ak, .slice aa an ac] 26)) w2.heap.size #[.int .i64 ak, .slice aa an ac]) := BoxAt.new _ _ _
  replace H1 := Lib.hid (hc2.beside HA)
  replace B := Lib.hid (below_thru (B.out.grown hg2 (by omega) (fun k e => by cases e; omega)) (by omega) HA)
  replace XR := Lib.hid ((XR.out.grownPast hg2 (by omega)).below HA)
  replace XF := Lib.hid ((XF.out.grownPast hg2 (by omega)).below HA)
  replace XS := Lib.hid ((XS.out.grownPast hg2 (by omega)).below HA)
  replace XG := Lib.hid ((XG.out.grownPast hg2 (by omega)).below HA)
  clear hbt hc2 hg2 HA
  go_wp2_with fail
  refine (curOnce w.heap.size (w.heap.size + 2) 2 (by omega) (by omega) _ H1.out).mono ?_
  rintro e w3 ⟨ho, hc3, hg3⟩
  have hz3 := hg3.size
  simp only [World.size_alloc] at hz3
  replace H1 := Lib.hid hc3
  replace B := Lib.hid (B.out.grown hg3 (by first | omega | (simp; done) | (simp; omega)) (fun k e => by cases e; omega))
  replace HT := Lib.hid (HT.out.far hg3 (by omega))
  replace XA := Lib.hid (XA.out.grownPast hg3 (by omega))
  replace XR := Lib.hid (XR.out.grownPast hg3 (by omega))
  replace XF := Lib.hid (XF.out.grownPast hg3 (by omega))
  replace XS := Lib.hid (XS.out.grownPast hg3 (by omega))
  replace XG := Lib.hid (XG.out.grownPast hg3 (by omega))
  clear hc3 hg3
  rcases ho with rfl | rfl
  · have a0 := XA.out.2 0
    have a1 := XA.out.2 1
    have HD := below_drew w3
    have hzd : w3.heap.size = w3.drew.heap.size := by simp
    replace HT := Lib.hid (HT.out.below HD)
    replace H1 := Lib.hid (H1.out.beside HD)
    replace B := Lib.hid (below_thru B.out (by omega) HD)
    replace XA := Lib.hid (XA.out.below HD)
    replace XR := Lib.hid (XR.out.below HD)
    replace XF := Lib.hid (XF.out.below HD)
    replace XS := Lib.hid (XS.out.below HD)
    replace XG := Lib.hid (XG.out.below HD)
    clear HD
    go_wp2_with fail
    go_region_law (first
      | (go_simp
         go_at_call 30
         refine (specCopy (d1 + 1) _ t1 _ (by omega) HT.out.at_).mono ?_
         rintro e w9 ⟨v9, fp, rfl, hb9, hf9, hl9⟩
         obtain ⟨bk, ba, bn, bc, rfl, HU⟩ := ty_parts hb9
         have HFP := Lib.hid hf9
         have hz9 := hl9.size
         rw [← hzd] at hz9
         have hs2 : t1.size ≤ 65536 := hs1
         have HT3 := Lib.hid (HT.out.below hl9)
         have XR3 := XR.out.below hl9
         have XF3 := XF.out.below hl9
         have XS3 := XS.out.below hl9
         have XG3 := XG.out.below hl9
         have XA3 := XA.out.below hl9
         have B9 := Lib.hid (below_thru B.out (by first | omega | (simp; done) | (simp; omega)) hl9)
         clear hl9 hb9 hf9
         have r0 := XR3.2 0
         have r1 := XR3.2 1
         have q0 := XF3.2 0
         have q1 := XF3.2 1
         have s0 := XS3.2 0
         have s1 := XS3.2 1
         have p0 := XG3.2 0
         have p1 := XG3.2 1
         have b0 := XA3.2 0
         have b1 := XA3.2 1
         have XRH := Lib.hid XR3
         have XSH := Lib.hid XS3
         have XAH := Lib.hid XA3
         have XFH := Lib.hid XF3
         have XGH := Lib.hid XG3
         clear XR3 XS3 XF3 XG3 XA3))
    all_goals go_wp2_with fail
    all_goals
      refine bodyPost_ret (v := .tuple #[.agg #[.int .i64 ak, .slice aa an ac], .agg #[.int .i64 bk, .slice ba bn bc]]) (by simp [results, Try.results9, go_sem, r0, r1, s0, s1]) rfl ?_
      exact ⟨_, _, t1, _, _, _, rfl, hs1, hs2, ((((HT3.out.far (grown_set _ w.heap.size 0 _) (by omega)).far (grown_set _ w.heap.size 1 _) (by omega)).far (grown_set _ (w.heap.size + 1) 0 _) (by omega)).far (grown_set _ (w.heap.size + 1) 1 _) (by omega)).at_, (own_far (own_far (own_far (own_far HU.out HFP.out (by omega)) HFP.out (by omega)) HFP.out (by omega)) HFP.out (by omega)).at_, (((B9.out.setCell (Nat.le_refl _) _).setCell (Nat.le_refl _) _).setCell (by simp) _).setCell (by simp) _⟩
  · have a0 := XA.out.2 0
    have a1 := XA.out.2 1
    have HD := below_drew w3
    have hzd : w3.heap.size = w3.drew.heap.size := by simp
    replace HT := Lib.hid (HT.out.below HD)
    replace H1 := Lib.hid (H1.out.beside HD)
    replace B := Lib.hid (below_thru B.out (by omega) HD)
    replace XA := Lib.hid (XA.out.below HD)
    replace XR := Lib.hid (XR.out.below HD)
    replace XF := Lib.hid (XF.out.below HD)
    replace XS := Lib.hid (XS.out.below HD)
    replace XG := Lib.hid (XG.out.below HD)
    clear HD
    go_wp2_with fail
    go_region_law (first
      | (go_simp
         go_at_call 26
         refine (bentTy w.heap.size (w.heap.size + 2) _ H1.out).mono ?_
         rintro e w9 ⟨d2, v9, t2, rfl, hs2, hb9, hc9, hg9⟩
         obtain ⟨bk, ba, bn, bc, rfl⟩ := hb9.form
         have hz9 := hg9.size
         rw [← hzd] at hz9
         have HU := Lib.hid hb9
         have HT3 := Lib.hid (HT.out.far hg9 (by omega))
         have XR3 := XR.out.grownPast hg9 (by omega)
         have XF3 := XF.out.grownPast hg9 (by omega)
         have XS3 := XS.out.grownPast hg9 (by omega)
         have XG3 := XG.out.grownPast hg9 (by omega)
         have XA3 := XA.out.grownPast hg9 (by omega)
         have B9 := Lib.hid (B.out.grown hg9 (by first | omega | (simp; done) | (simp; omega)) (fun k e => by cases e; omega))
         clear hg9 hc9 hb9
         have r0 := XR3.2 0
         have r1 := XR3.2 1
         have q0 := XF3.2 0
         have q1 := XF3.2 1
         have s0 := XS3.2 0
         have s1 := XS3.2 1
         have p0 := XG3.2 0
         have p1 := XG3.2 1
         have b0 := XA3.2 0
         have b1 := XA3.2 1
         have XRH := Lib.hid XR3
         have XSH := Lib.hid XS3
         have XAH := Lib.hid XA3
         have XFH := Lib.hid XF3
         have XGH := Lib.hid XG3
         clear XR3 XS3 XF3 XG3 XA3))
    all_goals go_wp2_with fail
    all_goals
      refine bodyPost_ret (v := .tuple #[.agg #[.int .i64 ak, .slice aa an ac], .agg #[.int .i64 bk, .slice ba bn bc]]) (by simp [results, Try.results9, go_sem, r0, r1, s0, s1]) rfl ?_
      exact ⟨_, _, t1, _, _, _, rfl, hs1, hs2, ((((HT3.out.far (grown_set _ w.heap.size 0 _) (by omega)).far (grown_set _ w.heap.size 1 _) (by omega)).far (grown_set _ (w.heap.size + 1) 0 _) (by omega)).far (grown_set _ (w.heap.size + 1) 1 _) (by omega)).at_, ((((HU.out.far (grown_set _ w.heap.size 0 _) (by omega)).far (grown_set _ w.heap.size 1 _) (by omega)).far (grown_set _ (w.heap.size + 1) 0 _) (by omega)).far (grown_set _ (w.heap.size + 1) 1 _) (by omega)).at_, (((B9.out.setCell (Nat.le_refl _) _).setCell (Nat.le_refl _) _).setCell (by simp) _).setCell (by simp) _⟩
end Go.Proofs.Ytmkifhfdpnlhnaa
