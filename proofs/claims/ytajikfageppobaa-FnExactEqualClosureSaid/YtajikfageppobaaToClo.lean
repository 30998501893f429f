/-
  Proved: laws.toClosure copies the value into new memory of its own; it leaves the memory that was there as it was.
-/
import Derived.Test.YtajikfageppobaaAtClo
import Derived.Test.YtajikfageppobaaEnvBase
namespace Go.Proofs.Ytajikfageppobaa
open Go.RowKit

set_option maxRecDepth 100000 in
set_option maxHeartbeats 4000000 in
theorem toClo (d : Nat) (v : Value) (x : Clo) (w : World) (hn : x.bulk ≤ 1048576) (h : CloAt w d v x) :
    Calls Try.prog 26 #[v] w fun e w' => ∃ v' fp, e = .returned v' ∧ CloIn w' d v' x w.heap.size w'.heap.size ∧ fp = ([] : List Nat) ∧ Below w.heap.size w w' := by
  cases x with
  | mk x1 x2 x3 =>
    obtain ⟨pbi, pcb, pda, pdn, pdc, rfl, h1, h2, h3⟩ := h
    dsimp only at h1 h2 h3 ⊢
    have hbk : (Clo.mk x1 x2 x3).bulk = x3.bulk := rfl
    have hn3 : x3.bulk ≤ 1048576 := by omega
    clear hn hbk
    unfold IntAt at h1
    simp only [Value.int.injEq, true_and] at h1
    have h1' := h1.symm
    subst h1'
    unfold BoolAt at h2
    simp only [Value.bool.injEq] at h2
    have h2' := h2.symm
    subst h2'
    have HP3 := Lib.hid h3
    have B : Hid (Below w.heap.size w (((w.alloc (.cells #[.int .i64 x1, .bool x2, .slice pda pdn pdc] 48)).alloc (.cells #[.int .i64 0, .bool false, .slice none 0 0] 53)).alloc (.cells #[.int .i64 x1, .bool x2, .slice none 0 0] 53))) := (((Below.refl _ _).alloc (Nat.le_refl _) _).alloc (by simp) _).alloc (by simp; omega) _
    have XA : Hid (BoxAt (((w.alloc (.cells #[.int .i64 x1, .bool x2, .slice pda pdn pdc] 48)).alloc (.cells #[.int .i64 0, .bool false, .slice none 0 0] 53)).alloc (.cells #[.int .i64 x1, .bool x2, .slice none 0 0] 53)) w.heap.size #[.int .i64 x1, .bool x2, .slice pda pdn pdc]) := ((BoxAt.new _ _ _).below (below_alloc _ _)).below (below_alloc _ _)
    have XR : Hid (BoxAt (((w.alloc (.cells #[.int .i64 x1, .bool x2, .slice pda pdn pdc] 48)).alloc (.cells #[.int .i64 0, .bool false, .slice none 0 0] 53)).alloc (.cells #[.int .i64 x1, .bool x2, .slice none 0 0] 53)) (w.heap.size + 1) #[.int .i64 0, .bool false, .slice none 0 0]) := (box_at (BoxAt.new _ _ _) (by simp)).below (below_alloc _ _)
    have XO : Hid (BoxAt (((w.alloc (.cells #[.int .i64 x1, .bool x2, .slice pda pdn pdc] 48)).alloc (.cells #[.int .i64 0, .bool false, .slice none 0 0] 53)).alloc (.cells #[.int .i64 x1, .bool x2, .slice none 0 0] 53)) (w.heap.size + 1 + 1) #[.int .i64 x1, .bool x2, .slice none 0 0]) := box_at (BoxAt.new _ _ _) (by simp)
    have FR : Hid (FreeAt (((w.alloc (.cells #[.int .i64 x1, .bool x2, .slice pda pdn pdc] 48)).alloc (.cells #[.int .i64 0, .bool false, .slice none 0 0] 53)).alloc (.cells #[.int .i64 x1, .bool x2, .slice none 0 0] 53)) (w.heap.size + 1)) := (free_at (FreeAt.new _ _ _) (by simp)).below (below_alloc _ _)
    have FO : Hid (FreeAt (((w.alloc (.cells #[.int .i64 x1, .bool x2, .slice pda pdn pdc] 48)).alloc (.cells #[.int .i64 0, .bool false, .slice none 0 0] 53)).alloc (.cells #[.int .i64 x1, .bool x2, .slice none 0 0] 53)) (w.heap.size + 1 + 1)) := free_at (FreeAt.new _ _ _) (by simp)
    have hz0 : (((w.alloc (.cells #[.int .i64 x1, .bool x2, .slice pda pdn pdc] 48)).alloc (.cells #[.int .i64 0, .bool false, .slice none 0 0] 53)).alloc (.cells #[.int .i64 x1, .bool x2, .slice none 0 0] 53)).heap.size = w.heap.size + 3 := by simp
    clear h3
    go_enter Try.func26, Try.ntmps26
    go_wp2_with fail
    have H3 := Lib.hid (HP3.out.below B.out)
    generalize (((w.alloc (.cells #[.int .i64 x1, .bool x2, .slice pda pdn pdc] 48)).alloc (.cells #[.int .i64 0, .bool false, .slice none 0 0] 53)).alloc (.cells #[.int .i64 x1, .bool x2, .slice none 0 0] 53)) = y0 at B H3 XA XR XO FR FO hz0 ⊢
    refine (toEnv d _ x3 y0 hn3 H3.out).mono ?_
    rintro e w3 ⟨v3, fp, rfl, ht, hf, hb⟩
    have hz3 := hb.size
    rw [hz0] at hz3
    obtain ⟨gda, gdn, gdc, rfl⟩ := env_parts ht.at_
    have G3 : Hid (Wi (w.heap.size + 3) w3.heap.size (EnvIn w3 d (.slice gda gdn gdc) x3)) := ⟨_, _, (by omega), Nat.le_refl _, ht⟩
    replace B := Lib.hid (below_thru B.out (Nat.le_refl _) hb)
    replace XA := Lib.hid (XA.out.below hb)
    replace XR := Lib.hid (XR.out.below hb)
    replace XO := Lib.hid (XO.out.below hb)
    replace FR := Lib.hid (FR.out.below hb)
    replace FO := Lib.hid (FO.out.below hb)
    clear ht hf hb H3
    have o0 := XO.out.2 0
    have u0 := FO.out.2 0
    have r0 := XR.out.2 0
    have s0 := FR.out.2 0
    have o1 := XO.out.2 1
    have u1 := FO.out.2 1
    have r1 := XR.out.2 1
    have s1 := FR.out.2 1
    have o2 := XO.out.2 2
    have u2 := FO.out.2 2
    have r2 := XR.out.2 2
    have s2 := FR.out.2 2
    go_wp2_with fail
    clear o0 u0 r0 s0 o1 u1 r1 s1 o2 u2 r2 s2
    have XRF : BoxAt ((((w3.setCell ⟨w.heap.size + 1 + 1, 2, none⟩ (.slice gda gdn gdc)).setCell ⟨w.heap.size + 1, 0, none⟩ (.int .i64 x1)).setCell ⟨w.heap.size + 1, 1, none⟩ (.bool x2)).setCell ⟨w.heap.size + 1, 2, none⟩ (.slice gda gdn gdc)) (w.heap.size + 1) #[.int .i64 x1, .bool x2, .slice gda gdn gdc] := by
      have := ((((XR.out.stored (q := w.heap.size + 1 + 1) (j := 2) (u := .slice gda gdn gdc) (by omega)).put (j := 0) (u := .int .i64 x1) (by simp)).put (j := 1) (u := .bool x2) (by simp)).put (j := 2) (u := .slice gda gdn gdc) (by simp))
      exact this
    have hbF : Below w.heap.size w ((((w3.setCell ⟨w.heap.size + 1 + 1, 2, none⟩ (.slice gda gdn gdc)).setCell ⟨w.heap.size + 1, 0, none⟩ (.int .i64 x1)).setCell ⟨w.heap.size + 1, 1, none⟩ (.bool x2)).setCell ⟨w.heap.size + 1, 2, none⟩ (.slice gda gdn gdc)) := ((((B.out.setCell (by simp; omega) _).setCell (by simp) _).setCell (by simp) _).setCell (by simp) _)
    have KP : Rest w.heap.size (w.heap.size + 3) w3 ((((w3.setCell ⟨w.heap.size + 1 + 1, 2, none⟩ (.slice gda gdn gdc)).setCell ⟨w.heap.size + 1, 0, none⟩ (.int .i64 x1)).setCell ⟨w.heap.size + 1, 1, none⟩ (.bool x2)).setCell ⟨w.heap.size + 1, 2, none⟩ (.slice gda gdn gdc)) := ((((Rest.refl _ _ _).set (by omega) (by omega)).set (by omega) (by omega)).set (by omega) (by omega)).set (by omega) (by omega)
    have hzf : ((((w3.setCell ⟨w.heap.size + 1 + 1, 2, none⟩ (.slice gda gdn gdc)).setCell ⟨w.heap.size + 1, 0, none⟩ (.int .i64 x1)).setCell ⟨w.heap.size + 1, 1, none⟩ (.bool x2)).setCell ⟨w.heap.size + 1, 2, none⟩ (.slice gda gdn gdc)).heap.size = w3.heap.size := by simp
    replace G3 := Lib.hid (G3.out.map fun _ _ ha _ h => h.rest KP (Or.inr ha))
    have g0 := XRF.2 0
    have g1 := XRF.2 1
    have g2 := XRF.2 2
    clear XRF KP B XA XR XO FR FO
    generalize ((((w3.setCell ⟨w.heap.size + 1 + 1, 2, none⟩ (.slice gda gdn gdc)).setCell ⟨w.heap.size + 1, 0, none⟩ (.int .i64 x1)).setCell ⟨w.heap.size + 1, 1, none⟩ (.bool x2)).setCell ⟨w.heap.size + 1, 2, none⟩ (.slice gda gdn gdc)) = WX at g0 g1 g2 hzf hbF G3 ⊢
    refine bodyPost_ret (v := .agg #[.int .i64 x1, .bool x2, .slice gda gdn gdc]) (by simp [results, Try.results26, go_sem, g0, g1, g2]) rfl ?_
    exact ⟨_, [], rfl, ⟨_, _, _, _, _, rfl, Wi.of (fun _ _ => rfl) (by omega), Wi.of (fun _ _ => rfl) (by omega), G3.out.wide (by omega) (by omega)⟩, rfl, hbF⟩
end Go.Proofs.Ytajikfageppobaa
