/-
  Proved: spec.GroundOf makes the ground type of a type; the memory that was there stays as it was.
-/
import Derived.Test.YtnggkcgifjfnfaaDoorGround
import Derived.Test.YtnggkcgifjfnfaaDoorSpecUnknown
import Derived.Test.YtnggkcgifjfnfaaDoorTwo
import Derived.Test.YtnggkcgifjfnfaaDoorPart
import Derived.Test.YtnggkcgifjfnfaaDoorNodeOf
import Derived.Deep.RegionHeld3
namespace Go.Proofs.YtnggkcgifjfnfaaDoor
open Go.RowKit

theorem ret_leaf' {w w' : World} {t : Ty} {k : Int} (ht : t.ground = .node k []) (h0 : -9223372036854775808 ≤ k) (h1 : k ≤ 9223372036854775807) (hb : Below w.heap.size w w') : ToTyEnd 2 t.ground w (.returned (.agg #[.int .i64 k, .slice none 0 0])) w' := by
  rw [ht]
  exact ⟨_, [], rfl, own_zero _ _ _ h0 h1, Fp.nil _ _, hb⟩
set_option maxRecDepth 100000 in
set_option maxHeartbeats 4000000 in
theorem specGround (d : Nat) (v : Value) (t : Ty) (w : World) (h : TyAt w d v t) (hsz : t.size ≤ 1048577) :
    Calls Tryd.prog 77 #[v] w (ToTyEnd 2 t.ground w) := by
  cases d with
  | zero => exact h.elim
  | succ d =>
  cases t with
  | node kd ts =>
  obtain ⟨sl, rfl, hk0, hk1, a, cap, rfl, hcap, hcap2, hat⟩ := h
  have HAT := Lib.hid hat; clear hat
  have hlen : ts.length ≤ 1152921504606846976 := by have := Ty.length_le ts; simp [Ty.size] at hsz; omega
  have HT : Hid (TyAt w (d + 1) (.agg #[.int .i64 kd, .slice a ts.length cap]) (.node kd ts)) := ⟨_, rfl, hk0, hk1, _, _, rfl, hcap, hcap2, HAT.out⟩
  obtain ⟨n, hn⟩ : ∃ n, n = ts.length := ⟨_, rfl⟩
  have HN := Lib.hid hn
  rw [← hn] at HT hlen ⊢
  clear hn HAT hcap hcap2 hk0 hk1
  have B : Hid (Below w.heap.size w ((w.alloc (.cells #[.int .i64 kd, .slice a n cap] 33)).alloc (.cells #[.int .i64 0, .slice none 0 0] 33))) := ((Below.refl _ _).alloc (Nat.le_refl _) _).alloc (by simp) _
  have HA := Lib.hid (HT.out.below B.out)
  have XA : Hid (BoxAt ((w.alloc (.cells #[.int .i64 kd, .slice a n cap] 33)).alloc (.cells #[.int .i64 0, .slice none 0 0] 33)) w.heap.size #[.int .i64 kd, .slice a n cap]) := (BoxAt.new _ _ _).below (below_alloc _ _)
  have XR : Hid (BoxAt ((w.alloc (.cells #[.int .i64 kd, .slice a n cap] 33)).alloc (.cells #[.int .i64 0, .slice none 0 0] 33)) (w.heap.size + 1) #[.int .i64 0, .slice none 0 0]) := box_at (BoxAt.new _ _ _) (by simp)
  have XF : Hid (FreeAt ((w.alloc (.cells #[.int .i64 kd, .slice a n cap] 33)).alloc (.cells #[.int .i64 0, .slice none 0 0] 33)) (w.heap.size + 1)) := free_at (FreeAt.new _ _ _) (by simp)
  have hz0 : ((w.alloc (.cells #[.int .i64 kd, .slice a n cap] 33)).alloc (.cells #[.int .i64 0, .slice none 0 0] 33)).heap.size = w.heap.size + 2 := by simp
  go_enter Tryd.func77, Tryd.ntmps77
  go_wp2_with fail
  refine (specValid (d + 1) _ (.node kd ts) _ HA.out hsz).mono ?_
  rintro e w1 ⟨rfl, hb⟩
  have hz1 := hb.size
  rw [hz0] at hz1
  replace B := Lib.hid (below_thru B.out (Nat.le_refl _) hb)
  replace XA := Lib.hid (XA.out.below hb)
  replace XR := Lib.hid (XR.out.below hb)
  replace XF := Lib.hid (XF.out.below hb)
  clear hb
  cases hv : (Ty.node kd ts).valid with
  | false =>
    have a0 := XA.out.2 0
    have a1 := XA.out.2 1
    have r0 := XR.out.2 0
    have r1 := XR.out.2 1
    have q0 := XF.out.2 0
    have q1 := XF.out.2 1
    have hr := XR.out.1
    go_wp2_with fail
    refine bodyPost_ret (v := .agg #[.int .i64 0, .slice none 0 0]) (by simp [results, Tryd.results77, go_sem, r0, r1]) rfl ?_
    exact ret_leaf' (by simp [Ty.ground, hv]) (by omega) (by omega) ((B.out.setCell (by simp) _).setCell (by simp) _)
  | true =>
    have hko : kindOk kd ts.length = true := by simp only [Ty.valid, Ty.form, Bool.and_eq_true] at hv; exact hv.2.2
    rw [← HN.out] at hko
    have HV := Lib.hid hv
    have HKO := Lib.hid hko
    clear hv hko
    have lf : ∀ k : Int, kd = k → (k = 1 ∨ k = 2 ∨ k = 3) → n = 0 := fun k e hk => by have := HKO.out; rw [e] at this; unfold kindOk at this; rw [if_pos (by omega)] at this; simpa using this
    have lt2 : ∀ k : Int, kd = k → (k = 4 ∨ k = 5) → n = 2 := fun k e hk => by have := HKO.out; rw [e] at this; unfold kindOk at this; rw [if_neg (by omega), if_pos (by omega)] at this; simpa using this
    have LF := Lib.hid lf
    have LT := Lib.hid lt2
    clear lf lt2
    have a0 := XA.out.2 0
    have a1 := XA.out.2 1
    have r0 := XR.out.2 0
    have r1 := XR.out.2 1
    have q0 := XF.out.2 0
    have q1 := XF.out.2 1
    have hr := XR.out.1
    have HG : Hid (∀ g : Ty, (kd = 1 → Ty.node 0 [] = g) → (kd = 2 → Ty.node 2 [] = g) → (kd = 3 → Ty.node 3 [] = g) → (kd = 4 → Ty.node 4 [.node 1 [], .node 1 []] = g) → (kd = 5 → Ty.node 5 [.node 1 [], .node 1 []] = g) → (Ty.node kd ts).ground = g) := fun g h1 h2 h3 h4 h5 => by
      have hk := HKO.out
      simp only [Ty.ground]
      rw [if_pos HV.out]
      unfold kindOk at hk
      by_cases q1 : kd = 1
      · rw [if_neg (by omega), if_neg (by omega), if_neg (by omega), if_neg (by omega)]; exact h1 q1
      · by_cases q2 : kd = 2
        · rw [if_pos q2]; exact h2 q2
        · by_cases q3 : kd = 3
          · rw [if_neg q2, if_pos q3]; exact h3 q3
          · by_cases q4 : kd = 4
            · rw [if_neg q2, if_neg q3, if_pos q4]; exact h4 q4
            · by_cases q5 : kd = 5
              · rw [if_neg q2, if_neg q3, if_neg q4, if_pos q5]; exact h5 q5
              · rw [if_neg (by omega), if_neg (by omega)] at hk; cases hk
    by_cases q1 : kd = 1
    · have hn := LF.out 1 q1 (by omega)
      subst q1 hn
      go_wp2_with fail
      refine bodyPost_ret (v := .agg #[.int .i64 0, .slice none 0 0]) (by simp [results, Tryd.results77, go_sem, r0, r1]) rfl ?_
      exact ret_leaf' (HG.out _ (fun h => rfl) (fun h => by omega) (fun h => by omega) (fun h => by omega) (fun h => by omega)) (by omega) (by omega) ((B.out.setCell (by simp) _).setCell (by simp) _)
    by_cases q2 : kd = 2
    · have hn := LF.out 2 q2 (by omega)
      subst q2 hn
      go_wp2_with fail
      refine bodyPost_ret (v := .agg #[.int .i64 2, .slice none 0 0]) (by simp [results, Tryd.results77, go_sem, r0, r1]) rfl ?_
      exact ret_leaf' (HG.out _ (fun h => by omega) (fun h => rfl) (fun h => by omega) (fun h => by omega) (fun h => by omega)) (by omega) (by omega) ((B.out.setCell (by simp) _).setCell (by simp) _)
    by_cases q3 : kd = 3
    · have hn := LF.out 3 q3 (by omega)
      subst q3 hn
      go_wp2_with fail
      refine bodyPost_ret (v := .agg #[.int .i64 3, .slice none 0 0]) (by simp [results, Tryd.results77, go_sem, r0, r1]) rfl ?_
      exact ret_leaf' (HG.out _ (fun h => by omega) (fun h => by omega) (fun h => rfl) (fun h => by omega) (fun h => by omega)) (by omega) (by omega) ((B.out.setCell (by simp) _).setCell (by simp) _)
    by_cases q4k : kd = 4
    · have hn := LT.out 4 q4k (by omega)
      subst q4k hn
      have n0 : True := trivial
      go_wp2_with fail
      clear a0 a1 r0 r1 q0 q1 hr
      have hb := below_drew w1
      replace B := Lib.hid (below_thru B.out (Nat.le_refl _) hb)
      replace XA := Lib.hid (XA.out.below hb)
      replace XR := Lib.hid (XR.out.below hb)
      replace XF := Lib.hid (XF.out.below hb)
      clear hb
      go_region_held3 (fun w' => w'.cell? ⟨w.heap.size, 0, none⟩ = some (.int .i64 4))
        (first | exact XA.out.2 0 | exact (XA.out.below (below_alloc _ _)).2 0 | exact (((XA.out.stored (by omega)).stored (by omega)).below (below_alloc _ _)).2 0)
        (first
         | (go_at_call 75
            have _n := n0
            clear n0
            refine (specUnknownType _).mono ?_
            rintro e w2 ⟨rfl, hb⟩
            have hz2 := hb.size
            try simp only [World.size_drew] at hz2
            replace B := Lib.hid (below_thru B.out (Nat.le_refl _) hb)
            replace XA := Lib.hid (XA.out.below hb)
            replace XR := Lib.hid (XR.out.below hb)
            replace XF := Lib.hid (XF.out.below hb)
            clear hb)
         | (go_at_call 75
            refine (specUnknownType _).mono ?_
            rintro e w3 ⟨rfl, hb⟩
            have hz3 := hb.size
            replace B := Lib.hid (below_thru B.out (Nat.le_refl _) hb)
            replace XA := Lib.hid (XA.out.below hb)
            replace XR := Lib.hid (XR.out.below hb)
            replace XF := Lib.hid (XF.out.below hb)
            clear hb
            have r0 := XR.out.2 0
            have r1 := XR.out.2 1
            have q0 := XF.out.2 0
            have q1 := XF.out.2 1
            have hr := XR.out.1))
      go_wp2_with fail
      have hxz : ((w3.setCell ⟨w.heap.size + 1, 0, none⟩ (.int .i64 4)).setCell ⟨w.heap.size + 1, 1, none⟩ (.slice (some ⟨w3.heap.size, 0, none⟩) 2 2)).heap.size = w3.heap.size := by simp
      obtain ⟨fp, hown, hfp⟩ := own_two (X := ((w3.setCell ⟨w.heap.size + 1, 0, none⟩ (.int .i64 4)).setCell ⟨w.heap.size + 1, 1, none⟩ (.slice (some ⟨w3.heap.size, 0, none⟩) 2 2))) (lo := w3.heap.size) (mid := w3.heap.size) (k := 4) (by omega) (by omega) hxz.symm (own_zero _ 0 1 (by omega) (by omega)) (own_zero _ 0 1 (by omega) (by omega)) (Fp.nil _ _) (Fp.nil _ _) (Nat.le_refl _) (Nat.le_refl _)
      have g0 : (((w3.setCell ⟨w.heap.size + 1, 0, none⟩ (.int .i64 4)).setCell ⟨w.heap.size + 1, 1, none⟩ (.slice (some ⟨w3.heap.size, 0, none⟩) 2 2)).alloc (.cells #[.int .i64 1, .slice none 0 0, .int .i64 1, .slice none 0 0] 33)).cell? ⟨w.heap.size + 1, 0, none⟩ = some (.int .i64 4) := by
        rw [World.cell?_of_block (heap_alloc_old _ _ (by rw [hxz]; exact hr))]; simp [go_sem, r0]
      have g1 : (((w3.setCell ⟨w.heap.size + 1, 0, none⟩ (.int .i64 4)).setCell ⟨w.heap.size + 1, 1, none⟩ (.slice (some ⟨w3.heap.size, 0, none⟩) 2 2)).alloc (.cells #[.int .i64 1, .slice none 0 0, .int .i64 1, .slice none 0 0] 33)).cell? ⟨w.heap.size + 1, 1, none⟩ = some (.slice (some ⟨w3.heap.size, 0, none⟩) 2 2) := by
        rw [World.cell?_of_block (heap_alloc_old _ _ (by rw [hxz]; exact hr))]; simp [go_sem, r1]
      have hbF : Below w.heap.size w (((w3.setCell ⟨w.heap.size + 1, 0, none⟩ (.int .i64 4)).setCell ⟨w.heap.size + 1, 1, none⟩ (.slice (some ⟨w3.heap.size, 0, none⟩) 2 2)).alloc (.cells #[.int .i64 1, .slice none 0 0, .int .i64 1, .slice none 0 0] 33)) := ((B.out.setCell (by simp) _).setCell (by simp) _).alloc (by rw [hxz]; omega) _
      have hzF : w3.heap.size + 1 ≤ (((w3.setCell ⟨w.heap.size + 1, 0, none⟩ (.int .i64 4)).setCell ⟨w.heap.size + 1, 1, none⟩ (.slice (some ⟨w3.heap.size, 0, none⟩) 2 2)).alloc (.cells #[.int .i64 1, .slice none 0 0, .int .i64 1, .slice none 0 0] 33)).heap.size := by simp
      generalize ((w3.setCell ⟨w.heap.size + 1, 0, none⟩ (.int .i64 4)).setCell ⟨w.heap.size + 1, 1, none⟩ (.slice (some ⟨w3.heap.size, 0, none⟩) 2 2)).alloc (.cells #[.int .i64 1, .slice none 0 0, .int .i64 1, .slice none 0 0] 33) = WF at g0 g1 hown hbF hzF ⊢
      refine bodyPost_ret (v := .agg #[.int .i64 4, .slice (some ⟨w3.heap.size, 0, none⟩) 2 2]) (by simp [results, Tryd.results77, go_sem, g0, g1]) rfl ?_
      rw [HG.out _ (fun h => by omega) (fun h => by omega) (fun h => by omega) (fun h => rfl) (fun h => by omega)]
      exact ⟨_, fp, rfl, hown, hfp.mono (by omega) hzF, hbF⟩
    by_cases q5k : kd = 5
    · have hn := LT.out 5 q5k (by omega)
      subst q5k hn
      have n0 : True := trivial
      go_wp2_with fail
      clear a0 a1 r0 r1 q0 q1 hr
      have hb := below_drew w1
      replace B := Lib.hid (below_thru B.out (Nat.le_refl _) hb)
      replace XA := Lib.hid (XA.out.below hb)
      replace XR := Lib.hid (XR.out.below hb)
      replace XF := Lib.hid (XF.out.below hb)
      clear hb
      go_region_held3 (fun w' => w'.cell? ⟨w.heap.size, 0, none⟩ = some (.int .i64 5))
        (first | exact XA.out.2 0 | exact (XA.out.below (below_alloc _ _)).2 0 | exact (((XA.out.stored (by omega)).stored (by omega)).below (below_alloc _ _)).2 0)
        (first
         | (go_at_call 75
            have _n := n0
            clear n0
            refine (specUnknownType _).mono ?_
            rintro e w2 ⟨rfl, hb⟩
            have hz2 := hb.size
            try simp only [World.size_drew] at hz2
            replace B := Lib.hid (below_thru B.out (Nat.le_refl _) hb)
            replace XA := Lib.hid (XA.out.below hb)
            replace XR := Lib.hid (XR.out.below hb)
            replace XF := Lib.hid (XF.out.below hb)
            clear hb)
         | (go_at_call 75
            refine (specUnknownType _).mono ?_
            rintro e w3 ⟨rfl, hb⟩
            have hz3 := hb.size
            replace B := Lib.hid (below_thru B.out (Nat.le_refl _) hb)
            replace XA := Lib.hid (XA.out.below hb)
            replace XR := Lib.hid (XR.out.below hb)
            replace XF := Lib.hid (XF.out.below hb)
            clear hb
            have r0 := XR.out.2 0
            have r1 := XR.out.2 1
            have q0 := XF.out.2 0
            have q1 := XF.out.2 1
            have hr := XR.out.1))
      go_wp2_with fail
      have hxz : ((w3.setCell ⟨w.heap.size + 1, 0, none⟩ (.int .i64 5)).setCell ⟨w.heap.size + 1, 1, none⟩ (.slice (some ⟨w3.heap.size, 0, none⟩) 2 2)).heap.size = w3.heap.size := by simp
      obtain ⟨fp, hown, hfp⟩ := own_two (X := ((w3.setCell ⟨w.heap.size + 1, 0, none⟩ (.int .i64 5)).setCell ⟨w.heap.size + 1, 1, none⟩ (.slice (some ⟨w3.heap.size, 0, none⟩) 2 2))) (lo := w3.heap.size) (mid := w3.heap.size) (k := 5) (by omega) (by omega) hxz.symm (own_zero _ 0 1 (by omega) (by omega)) (own_zero _ 0 1 (by omega) (by omega)) (Fp.nil _ _) (Fp.nil _ _) (Nat.le_refl _) (Nat.le_refl _)
      have g0 : (((w3.setCell ⟨w.heap.size + 1, 0, none⟩ (.int .i64 5)).setCell ⟨w.heap.size + 1, 1, none⟩ (.slice (some ⟨w3.heap.size, 0, none⟩) 2 2)).alloc (.cells #[.int .i64 1, .slice none 0 0, .int .i64 1, .slice none 0 0] 33)).cell? ⟨w.heap.size + 1, 0, none⟩ = some (.int .i64 5) := by
        rw [World.cell?_of_block (heap_alloc_old _ _ (by rw [hxz]; exact hr))]; simp [go_sem, r0]
      have g1 : (((w3.setCell ⟨w.heap.size + 1, 0, none⟩ (.int .i64 5)).setCell ⟨w.heap.size + 1, 1, none⟩ (.slice (some ⟨w3.heap.size, 0, none⟩) 2 2)).alloc (.cells #[.int .i64 1, .slice none 0 0, .int .i64 1, .slice none 0 0] 33)).cell? ⟨w.heap.size + 1, 1, none⟩ = some (.slice (some ⟨w3.heap.size, 0, none⟩) 2 2) := by
        rw [World.cell?_of_block (heap_alloc_old _ _ (by rw [hxz]; exact hr))]; simp [go_sem, r1]
      have hbF : Below w.heap.size w (((w3.setCell ⟨w.heap.size + 1, 0, none⟩ (.int .i64 5)).setCell ⟨w.heap.size + 1, 1, none⟩ (.slice (some ⟨w3.heap.size, 0, none⟩) 2 2)).alloc (.cells #[.int .i64 1, .slice none 0 0, .int .i64 1, .slice none 0 0] 33)) := ((B.out.setCell (by simp) _).setCell (by simp) _).alloc (by rw [hxz]; omega) _
      have hzF : w3.heap.size + 1 ≤ (((w3.setCell ⟨w.heap.size + 1, 0, none⟩ (.int .i64 5)).setCell ⟨w.heap.size + 1, 1, none⟩ (.slice (some ⟨w3.heap.size, 0, none⟩) 2 2)).alloc (.cells #[.int .i64 1, .slice none 0 0, .int .i64 1, .slice none 0 0] 33)).heap.size := by simp
      generalize ((w3.setCell ⟨w.heap.size + 1, 0, none⟩ (.int .i64 5)).setCell ⟨w.heap.size + 1, 1, none⟩ (.slice (some ⟨w3.heap.size, 0, none⟩) 2 2)).alloc (.cells #[.int .i64 1, .slice none 0 0, .int .i64 1, .slice none 0 0] 33) = WF at g0 g1 hown hbF hzF ⊢
      refine bodyPost_ret (v := .agg #[.int .i64 5, .slice (some ⟨w3.heap.size, 0, none⟩) 2 2]) (by simp [results, Tryd.results77, go_sem, g0, g1]) rfl ?_
      rw [HG.out _ (fun h => by omega) (fun h => by omega) (fun h => by omega) (fun h => by omega) (fun h => rfl)]
      exact ⟨_, fp, rfl, hown, hfp.mono (by omega) hzF, hbF⟩
    exfalso
    have hk := HKO.out
    unfold kindOk at hk
    rw [if_neg (by omega), if_neg (by omega)] at hk
    cases hk
end Go.Proofs.YtnggkcgifjfnfaaDoor
