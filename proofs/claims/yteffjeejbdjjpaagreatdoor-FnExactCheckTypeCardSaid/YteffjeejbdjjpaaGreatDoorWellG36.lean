/-
  Proved: impl.MatchArrow and impl.MatchPair give the two parts of a type; the memory that was there stays as it was.
-/
import Derived.Test.YteffjeejbdjjpaaGreatDoorWellG14
import Derived.Test.YteffjeejbdjjpaaGreatDoorWellG17
import Derived.Test.YteffjeejbdjjpaaGreatDoorWellG3
import Derived.Test.YteffjeejbdjjpaaGreatDoorWellG15
import Derived.Test.YteffjeejbdjjpaaGreatDoorWellG13
import Derived.Deep.RegionHeld3
/-
  Proved: impl.matchKind gives the two parts of a type; the memory that was there stays as it was.
-/
namespace Go.Proofs.YteffjeejbdjjpaaGreatDoor
open Go.RowKit

set_option maxRecDepth 100000 in
set_option maxHeartbeats 4000000 in
theorem implMatch (d : Nat) (v : Value) (t : Ty) (k : Int) (w : World) (hk : k = 4 ∨ k = 5) (h : TyAt w d v t) (hsz : t.size ≤ 1048577) :
    Calls Tryz.prog 111 #[v, .int .i64 k] w (MatchEnd d (t.parts k) w) := by
  cases d with
  | zero => exact h.elim
  | succ d =>
  cases t with
  | node kd ts =>
  have HT := Lib.hid h
  obtain ⟨sl, rfl, hk0, hk1, a, cap, rfl, hcap, hcap2, hat⟩ := TyAt.succ h
  clear h
  have HAT := Lib.hid hat; clear hat
  have HS := Lib.hid hsz
  obtain ⟨n, hn⟩ : ∃ n, n = ts.length := ⟨_, rfl⟩
  have HN := Lib.hid hn
  rw [← hn] at HT ⊢
  clear hn hcap hcap2 hk0 hk1
  have B : Hid (Below w.heap.size w (((w.alloc (.cells #[.int .i64 kd, .slice a n cap] 33)).alloc (.cells #[.int .i64 0, .slice none 0 0] 33)).alloc (.cells #[.int .i64 0, .slice none 0 0] 33))) := (((Below.refl _ _).alloc (Nat.le_refl _) _).alloc (by simp) _).alloc (by simp; omega) _
  have HA := Lib.hid (HT.out.below B.out)
  have XA : Hid (BoxAt (((w.alloc (.cells #[.int .i64 kd, .slice a n cap] 33)).alloc (.cells #[.int .i64 0, .slice none 0 0] 33)).alloc (.cells #[.int .i64 0, .slice none 0 0] 33)) w.heap.size #[.int .i64 kd, .slice a n cap]) := ((BoxAt.new _ _ _).below (below_alloc _ _)).below (below_alloc _ _)
  have XR1 : Hid (BoxAt (((w.alloc (.cells #[.int .i64 kd, .slice a n cap] 33)).alloc (.cells #[.int .i64 0, .slice none 0 0] 33)).alloc (.cells #[.int .i64 0, .slice none 0 0] 33)) (w.heap.size + 1) #[.int .i64 0, .slice none 0 0]) := (box_at (BoxAt.new _ _ _) (by simp)).below (below_alloc _ _)
  have XR2 : Hid (BoxAt (((w.alloc (.cells #[.int .i64 kd, .slice a n cap] 33)).alloc (.cells #[.int .i64 0, .slice none 0 0] 33)).alloc (.cells #[.int .i64 0, .slice none 0 0] 33)) (w.heap.size + 1 + 1) #[.int .i64 0, .slice none 0 0]) := box_at (BoxAt.new _ _ _) (by simp)
  have XF1 : Hid (FreeAt (((w.alloc (.cells #[.int .i64 kd, .slice a n cap] 33)).alloc (.cells #[.int .i64 0, .slice none 0 0] 33)).alloc (.cells #[.int .i64 0, .slice none 0 0] 33)) (w.heap.size + 1)) := (free_at (FreeAt.new _ _ _) (by simp)).below (below_alloc _ _)
  have XF2 : Hid (FreeAt (((w.alloc (.cells #[.int .i64 kd, .slice a n cap] 33)).alloc (.cells #[.int .i64 0, .slice none 0 0] 33)).alloc (.cells #[.int .i64 0, .slice none 0 0] 33)) (w.heap.size + 1 + 1)) := free_at (FreeAt.new _ _ _) (by simp)
  clear HT
  go_enter Tryz.func111, Tryz.ntmps111
  go_wp2_with fail
  refine (implValid (d + 1) _ (.node kd ts) _ HA.out hsz).mono ?_
  rintro e w1 ⟨rfl, hb⟩
  have hz1 := hb.size
  simp only [World.size_alloc] at hz1
  replace XA := Lib.hid (XA.out.below hb)
  replace XR1 := Lib.hid (XR1.out.below hb)
  replace XR2 := Lib.hid (XR2.out.below hb)
  replace XF1 := Lib.hid (XF1.out.below hb)
  replace XF2 := Lib.hid (XF2.out.below hb)
  replace B := Lib.hid (below_thru B.out (Nat.le_refl _) hb)
  clear hb hsz HA
  cases hv : (Ty.node kd ts).valid with
  | false =>
    have HV := Lib.hid hv; clear hv
    have a0 := XA.out.2 0
    have a1 := XA.out.2 1
    have r0 := XR1.out.2 0
    have r1 := XR1.out.2 1
    have r2 := XR2.out.2 0
    have r3 := XR2.out.2 1
    have q0 := XF1.out.2 0
    have q1 := XF1.out.2 1
    have q2 := XF2.out.2 0
    have q3 := XF2.out.2 1
    go_wp2_with fail
    refine bodyPost_ret (v := .tuple #[.agg #[.int .i64 0, .slice none 0 0], .agg #[.int .i64 0, .slice none 0 0], .bool false]) (by simp [results, Tryz.results111, go_sem, r0, r1, r2, r3]) rfl ?_
    exact match_leaf (parts_bad HV.out) (by omega) (by omega) ((((B.out.setCell (by dsimp only; omega) _).setCell (by dsimp only; omega) _).setCell (by dsimp only; omega) _).setCell (by dsimp only; omega) _)
  | true =>
    have hko : kindOk kd ts.length = true := by simp only [Ty.valid, Ty.form, Bool.and_eq_true] at hv; exact hv.2.2
    rw [← HN.out] at hko
    have HV := Lib.hid hv
    clear hv
    rcases kind_cases hko with ⟨z1, z2⟩ | ⟨z1, z2⟩ | ⟨z1, z2⟩ | ⟨z1, z2⟩ | ⟨z1, z2⟩ <;> clear hko <;> subst z1 <;> subst z2
    · skip
      have a0 := XA.out.2 0
      have a1 := XA.out.2 1
      have r0 := XR1.out.2 0
      have r1 := XR1.out.2 1
      have r2 := XR2.out.2 0
      have r3 := XR2.out.2 1
      have q0 := XF1.out.2 0
      have q1 := XF1.out.2 1
      have q2 := XF2.out.2 0
      have q3 := XF2.out.2 1
      go_wp2_with fail
      clear a0 a1 r0 r1 r2 r3 q0 q1 q2 q3
      refine (implUnknownType _).mono ?_
      rintro e w2 ⟨rfl, hb⟩
      have hz2 := hb.size
      replace XA := Lib.hid (XA.out.below hb)
      replace XR1 := Lib.hid (XR1.out.below hb)
      replace XR2 := Lib.hid (XR2.out.below hb)
      replace XF1 := Lib.hid (XF1.out.below hb)
      replace XF2 := Lib.hid (XF2.out.below hb)
      replace B := Lib.hid (below_thru B.out (Nat.le_refl _) hb)
      clear hb
      have a0 := XA.out.2 0
      have a1 := XA.out.2 1
      have r0 := XR1.out.2 0
      have r1 := XR1.out.2 1
      have r2 := XR2.out.2 0
      have r3 := XR2.out.2 1
      have q0 := XF1.out.2 0
      have q1 := XF1.out.2 1
      have q2 := XF2.out.2 0
      have q3 := XF2.out.2 1
      go_wp2_with fail
      clear a0 a1 r0 r1 r2 r3 q0 q1 q2 q3
      refine (implUnknownType _).mono ?_
      rintro e w3 ⟨rfl, hb⟩
      have hz3 := hb.size
      replace XA := Lib.hid (XA.out.below hb)
      replace XR1 := Lib.hid (XR1.out.below hb)
      replace XR2 := Lib.hid (XR2.out.below hb)
      replace XF1 := Lib.hid (XF1.out.below hb)
      replace XF2 := Lib.hid (XF2.out.below hb)
      replace B := Lib.hid (below_thru B.out (Nat.le_refl _) hb)
      clear hb
      have a0 := XA.out.2 0
      have a1 := XA.out.2 1
      have r0 := XR1.out.2 0
      have r1 := XR1.out.2 1
      have r2 := XR2.out.2 0
      have r3 := XR2.out.2 1
      have q0 := XF1.out.2 0
      have q1 := XF1.out.2 1
      have q2 := XF2.out.2 0
      have q3 := XF2.out.2 1
      go_wp2_with fail
      refine bodyPost_ret (v := .tuple #[.agg #[.int .i64 1, .slice none 0 0], .agg #[.int .i64 1, .slice none 0 0], .bool true]) (by simp [results, Tryz.results111, go_sem, r0, r1, r2, r3]) rfl ?_
      exact match_leaf (parts_unknown_ HV.out) (by omega) (by omega) ((((B.out.setCell (by dsimp only; omega) _).setCell (by dsimp only; omega) _).setCell (by dsimp only; omega) _).setCell (by dsimp only; omega) _)
    · have e4 : ¬ ((2 : Int) = k) := by omega
      have e5 : ((2 : Int) == k) = false := by simp [e4]
      have a0 := XA.out.2 0
      have a1 := XA.out.2 1
      have r0 := XR1.out.2 0
      have r1 := XR1.out.2 1
      have r2 := XR2.out.2 0
      have r3 := XR2.out.2 1
      have q0 := XF1.out.2 0
      have q1 := XF1.out.2 1
      have q2 := XF2.out.2 0
      have q3 := XF2.out.2 1
      go_wp2_with fail
      refine bodyPost_ret (v := .tuple #[.agg #[.int .i64 0, .slice none 0 0], .agg #[.int .i64 0, .slice none 0 0], .bool false]) (by simp [results, Tryz.results111, go_sem, r0, r1, r2, r3]) rfl ?_
      exact match_leaf (parts_else (by omega) (by omega)) (by omega) (by omega) ((((B.out.setCell (by dsimp only; omega) _).setCell (by dsimp only; omega) _).setCell (by dsimp only; omega) _).setCell (by dsimp only; omega) _)
    · have e4 : ¬ ((3 : Int) = k) := by omega
      have e5 : ((3 : Int) == k) = false := by simp [e4]
      have a0 := XA.out.2 0
      have a1 := XA.out.2 1
      have r0 := XR1.out.2 0
      have r1 := XR1.out.2 1
      have r2 := XR2.out.2 0
      have r3 := XR2.out.2 1
      have q0 := XF1.out.2 0
      have q1 := XF1.out.2 1
      have q2 := XF2.out.2 0
      have q3 := XF2.out.2 1
      go_wp2_with fail
      refine bodyPost_ret (v := .tuple #[.agg #[.int .i64 0, .slice none 0 0], .agg #[.int .i64 0, .slice none 0 0], .bool false]) (by simp [results, Tryz.results111, go_sem, r0, r1, r2, r3]) rfl ?_
      exact match_leaf (parts_else (by omega) (by omega)) (by omega) (by omega) ((((B.out.setCell (by dsimp only; omega) _).setCell (by dsimp only; omega) _).setCell (by dsimp only; omega) _).setCell (by dsimp only; omega) _)
    · rcases hk with rfl | rfl
      · obtain ⟨t1, t2, k1, s1, n1, c1, k2, s2, n2, c2, b, off, hts, rfl, hbl0, g0, g1, g2, g3, ht1, ht2⟩ := two_of HN.out.symm HAT.out
        subst hts
        have X0 : Hid (FourAt w b off (.int .i64 k1) (.slice s1 n1 c1) (.int .i64 k2) (.slice s2 n2 c2)) := ⟨hbl0, g0, g1, g2, g3⟩
        have Z1 := Lib.hid (show t1.size ≤ 1048577 by have := HS.out; simp only [Ty.size, Ty.sizes] at this; omega)
        have Z2 := Lib.hid (show t2.size ≤ 1048577 by have := HS.out; simp only [Ty.size, Ty.sizes] at this; omega)
        have hbw : b < w.heap.size := hbl0
        have hbn : ¬ (b = w.heap.size + 1) := by omega
        have hbm : ¬ (b = w.heap.size + 1 + 1) := by omega
        clear HAT HN hbl0 g0 g1 g2 g3
        have H1 := Lib.hid (ht1.below B.out)
        have H2 := Lib.hid (ht2.below B.out)
        have X4 := Lib.hid (X0.out.below B.out)
        clear ht1 ht2 X0
        have a0 := XA.out.2 0
        have a1 := XA.out.2 1
        go_wp2_with fail
        clear a0 a1
        have hb := below_drew w1
        replace XA := Lib.hid (XA.out.below hb)
        replace XR1 := Lib.hid (XR1.out.below hb)
        replace XR2 := Lib.hid (XR2.out.below hb)
        replace XF1 := Lib.hid (XF1.out.below hb)
        replace XF2 := Lib.hid (XF2.out.below hb)
        replace H1 := Lib.hid (H1.out.below hb)
        replace H2 := Lib.hid (H2.out.below hb)
        replace X4 := Lib.hid (X4.out.below hb)
        replace B := Lib.hid (below_thru B.out (Nat.le_refl _) hb)
        clear hb
        go_region_held3 (fun w' => w'.cell? ⟨w.heap.size, 1, none⟩ = some (.slice (some ⟨b, off, none⟩) 2 cap) ∧ w'.cell? ⟨b, off, none⟩ = some (.int .i64 k1) ∧ w'.cell? ⟨b, off + 1, none⟩ = some (.slice s1 n1 c1) ∧ w'.cell? ⟨b, off + 2, none⟩ = some (.int .i64 k2) ∧ w'.cell? ⟨b, off + 3, none⟩ = some (.slice s2 n2 c2))
          (refine ⟨by (repeat (rw [World.cell?_setCell_other _ _ _ _ (by first | (simp; omega) | simp)])); exact XA.out.2 1, by (repeat (rw [World.cell?_setCell_other _ _ _ _ (by first | (simp; omega) | simp)])); exact X4.out.2.1, by (repeat (rw [World.cell?_setCell_other _ _ _ _ (by first | (simp; omega) | simp)])); exact X4.out.2.2.1, by (repeat (rw [World.cell?_setCell_other _ _ _ _ (by first | (simp; omega) | simp)])); exact X4.out.2.2.2.1, by (repeat (rw [World.cell?_setCell_other _ _ _ _ (by first | (simp; omega) | simp)])); exact X4.out.2.2.2.2⟩)
          (first
           | (go_at_call_of 80 (Value.agg #[Value.int IntKind.i64 k1, Value.slice s1 n1 c1])
              refine (implCopy (d + 1) _ t1 _ Z1.out H1.out).mono ?_
              rintro e w2 ⟨x1, f1, rfl, ht, hf, hb⟩
              obtain ⟨u1, ua1, un1, uc1, rfl, HY⟩ := ty_parts ht
              have O1 := Lib.hid (OwnIn.of HY.out hf (Nat.le_refl _))
              have hz2 := hb.size
              try simp only [World.size_drew] at hz2
              replace XA := Lib.hid (XA.out.below hb)
              replace XR1 := Lib.hid (XR1.out.below hb)
              replace XR2 := Lib.hid (XR2.out.below hb)
              replace XF1 := Lib.hid (XF1.out.below hb)
              replace XF2 := Lib.hid (XF2.out.below hb)
              replace H1 := Lib.hid (H1.out.below hb)
              replace H2 := Lib.hid (H2.out.below hb)
              replace X4 := Lib.hid (X4.out.below hb)
              replace B := Lib.hid (below_thru B.out (Nat.le_refl _) hb)
              clear hb ht hf HY)
           | (go_at_call_of 80 (Value.agg #[Value.int IntKind.i64 k2, Value.slice s2 n2 c2])
              refine (implCopy (d + 1) _ t2 _ Z2.out H2.out).mono ?_
              rintro e w3 ⟨x2, f2, rfl, ht, hf, hb⟩
              obtain ⟨u2, ua2, un2, uc2, rfl, HY⟩ := ty_parts ht
              have O2 := Lib.hid (OwnIn.of HY.out hf (Nat.le_refl _))
              have hz3 := hb.size
              try simp only [World.size_drew] at hz3
              replace XA := Lib.hid (XA.out.below hb)
              replace XR1 := Lib.hid (XR1.out.below hb)
              replace XR2 := Lib.hid (XR2.out.below hb)
              replace XF1 := Lib.hid (XF1.out.below hb)
              replace XF2 := Lib.hid (XF2.out.below hb)
              replace H1 := Lib.hid (H1.out.below hb)
              replace H2 := Lib.hid (H2.out.below hb)
              replace X4 := Lib.hid (X4.out.below hb)
              replace O1 := Lib.hid (O1.out.below hb)
              replace B := Lib.hid (below_thru B.out (Nat.le_refl _) hb)
              clear hb ht hf HY
              have r0 := XR1.out.2 0
              have r1 := XR1.out.2 1
              have r2 := XR2.out.2 0
              have r3 := XR2.out.2 1
              have q0 := XF1.out.2 0
              have q1 := XF1.out.2 1
              have q2 := XF2.out.2 0
              have q3 := XF2.out.2 1
              have x1 := XA.out.2 1
              have y0 := X4.out.2.1
              have y1 := X4.out.2.2.1
              have y2 := X4.out.2.2.2.1
              have y3 := X4.out.2.2.2.2))
        all_goals go_wp2_with fail
        all_goals refine bodyPost_ret (v := .tuple #[.agg #[.int .i64 u1, .slice ua1 un1 uc1], .agg #[.int .i64 u2, .slice ua2 un2 uc2], .bool true]) (by simp [results, Tryz.results111, go_sem, r0, r1, r2, r3]) rfl ?_
        all_goals have HF : Below w.heap.size w ((((w3.setCell ⟨w.heap.size + 1, 0, none⟩ (.int .i64 u1)).setCell ⟨w.heap.size + 1, 1, none⟩ (.slice ua1 un1 uc1)).setCell ⟨w.heap.size + 1 + 1, 0, none⟩ (.int .i64 u2)).setCell ⟨w.heap.size + 1 + 1, 1, none⟩ (.slice ua2 un2 uc2)) := (((B.out.setCell (by dsimp only; omega) _).setCell (by dsimp only; omega) _).setCell (by dsimp only; omega) _).setCell (by dsimp only; omega) _
        all_goals have hdz : w1.drew.heap.size = w1.heap.size := rfl
        all_goals exact match_two (parts_two HV.out (by omega)) (((((O1.out.stored (by omega)).stored (by omega)).stored (by omega)).stored (by omega))) (((((O2.out.stored (by omega)).stored (by omega)).stored (by omega)).stored (by omega))) (by omega) (by omega) (by omega) HF
      · skip
        have a0 := XA.out.2 0
        have a1 := XA.out.2 1
        have r0 := XR1.out.2 0
        have r1 := XR1.out.2 1
        have r2 := XR2.out.2 0
        have r3 := XR2.out.2 1
        have q0 := XF1.out.2 0
        have q1 := XF1.out.2 1
        have q2 := XF2.out.2 0
        have q3 := XF2.out.2 1
        go_wp2_with fail
        refine bodyPost_ret (v := .tuple #[.agg #[.int .i64 0, .slice none 0 0], .agg #[.int .i64 0, .slice none 0 0], .bool false]) (by simp [results, Tryz.results111, go_sem, r0, r1, r2, r3]) rfl ?_
        exact match_leaf (parts_else (by omega) (by omega)) (by omega) (by omega) ((((B.out.setCell (by dsimp only; omega) _).setCell (by dsimp only; omega) _).setCell (by dsimp only; omega) _).setCell (by dsimp only; omega) _)
    · rcases hk with rfl | rfl
      · skip
        have a0 := XA.out.2 0
        have a1 := XA.out.2 1
        have r0 := XR1.out.2 0
        have r1 := XR1.out.2 1
        have r2 := XR2.out.2 0
        have r3 := XR2.out.2 1
        have q0 := XF1.out.2 0
        have q1 := XF1.out.2 1
        have q2 := XF2.out.2 0
        have q3 := XF2.out.2 1
        go_wp2_with fail
        refine bodyPost_ret (v := .tuple #[.agg #[.int .i64 0, .slice none 0 0], .agg #[.int .i64 0, .slice none 0 0], .bool false]) (by simp [results, Tryz.results111, go_sem, r0, r1, r2, r3]) rfl ?_
        exact match_leaf (parts_else (by omega) (by omega)) (by omega) (by omega) ((((B.out.setCell (by dsimp only; omega) _).setCell (by dsimp only; omega) _).setCell (by dsimp only; omega) _).setCell (by dsimp only; omega) _)
      · obtain ⟨t1, t2, k1, s1, n1, c1, k2, s2, n2, c2, b, off, hts, rfl, hbl0, g0, g1, g2, g3, ht1, ht2⟩ := two_of HN.out.symm HAT.out
        subst hts
        have X0 : Hid (FourAt w b off (.int .i64 k1) (.slice s1 n1 c1) (.int .i64 k2) (.slice s2 n2 c2)) := ⟨hbl0, g0, g1, g2, g3⟩
        have Z1 := Lib.hid (show t1.size ≤ 1048577 by have := HS.out; simp only [Ty.size, Ty.sizes] at this; omega)
        have Z2 := Lib.hid (show t2.size ≤ 1048577 by have := HS.out; simp only [Ty.size, Ty.sizes] at this; omega)
        have hbw : b < w.heap.size := hbl0
        have hbn : ¬ (b = w.heap.size + 1) := by omega
        have hbm : ¬ (b = w.heap.size + 1 + 1) := by omega
        clear HAT HN hbl0 g0 g1 g2 g3
        have H1 := Lib.hid (ht1.below B.out)
        have H2 := Lib.hid (ht2.below B.out)
        have X4 := Lib.hid (X0.out.below B.out)
        clear ht1 ht2 X0
        have a0 := XA.out.2 0
        have a1 := XA.out.2 1
        go_wp2_with fail
        clear a0 a1
        have hb := below_drew w1
        replace XA := Lib.hid (XA.out.below hb)
        replace XR1 := Lib.hid (XR1.out.below hb)
        replace XR2 := Lib.hid (XR2.out.below hb)
        replace XF1 := Lib.hid (XF1.out.below hb)
        replace XF2 := Lib.hid (XF2.out.below hb)
        replace H1 := Lib.hid (H1.out.below hb)
        replace H2 := Lib.hid (H2.out.below hb)
        replace X4 := Lib.hid (X4.out.below hb)
        replace B := Lib.hid (below_thru B.out (Nat.le_refl _) hb)
        clear hb
        go_region_held3 (fun w' => w'.cell? ⟨w.heap.size, 1, none⟩ = some (.slice (some ⟨b, off, none⟩) 2 cap) ∧ w'.cell? ⟨b, off, none⟩ = some (.int .i64 k1) ∧ w'.cell? ⟨b, off + 1, none⟩ = some (.slice s1 n1 c1) ∧ w'.cell? ⟨b, off + 2, none⟩ = some (.int .i64 k2) ∧ w'.cell? ⟨b, off + 3, none⟩ = some (.slice s2 n2 c2))
          (refine ⟨by (repeat (rw [World.cell?_setCell_other _ _ _ _ (by first | (simp; omega) | simp)])); exact XA.out.2 1, by (repeat (rw [World.cell?_setCell_other _ _ _ _ (by first | (simp; omega) | simp)])); exact X4.out.2.1, by (repeat (rw [World.cell?_setCell_other _ _ _ _ (by first | (simp; omega) | simp)])); exact X4.out.2.2.1, by (repeat (rw [World.cell?_setCell_other _ _ _ _ (by first | (simp; omega) | simp)])); exact X4.out.2.2.2.1, by (repeat (rw [World.cell?_setCell_other _ _ _ _ (by first | (simp; omega) | simp)])); exact X4.out.2.2.2.2⟩)
          (first
           | (go_at_call_of 80 (Value.agg #[Value.int IntKind.i64 k1, Value.slice s1 n1 c1])
              refine (implCopy (d + 1) _ t1 _ Z1.out H1.out).mono ?_
              rintro e w2 ⟨x1, f1, rfl, ht, hf, hb⟩
              obtain ⟨u1, ua1, un1, uc1, rfl, HY⟩ := ty_parts ht
              have O1 := Lib.hid (OwnIn.of HY.out hf (Nat.le_refl _))
              have hz2 := hb.size
              try simp only [World.size_drew] at hz2
              replace XA := Lib.hid (XA.out.below hb)
              replace XR1 := Lib.hid (XR1.out.below hb)
              replace XR2 := Lib.hid (XR2.out.below hb)
              replace XF1 := Lib.hid (XF1.out.below hb)
              replace XF2 := Lib.hid (XF2.out.below hb)
              replace H1 := Lib.hid (H1.out.below hb)
              replace H2 := Lib.hid (H2.out.below hb)
              replace X4 := Lib.hid (X4.out.below hb)
              replace B := Lib.hid (below_thru B.out (Nat.le_refl _) hb)
              clear hb ht hf HY)
           | (go_at_call_of 80 (Value.agg #[Value.int IntKind.i64 k2, Value.slice s2 n2 c2])
              refine (implCopy (d + 1) _ t2 _ Z2.out H2.out).mono ?_
              rintro e w3 ⟨x2, f2, rfl, ht, hf, hb⟩
              obtain ⟨u2, ua2, un2, uc2, rfl, HY⟩ := ty_parts ht
              have O2 := Lib.hid (OwnIn.of HY.out hf (Nat.le_refl _))
              have hz3 := hb.size
              try simp only [World.size_drew] at hz3
              replace XA := Lib.hid (XA.out.below hb)
              replace XR1 := Lib.hid (XR1.out.below hb)
              replace XR2 := Lib.hid (XR2.out.below hb)
              replace XF1 := Lib.hid (XF1.out.below hb)
              replace XF2 := Lib.hid (XF2.out.below hb)
              replace H1 := Lib.hid (H1.out.below hb)
              replace H2 := Lib.hid (H2.out.below hb)
              replace X4 := Lib.hid (X4.out.below hb)
              replace O1 := Lib.hid (O1.out.below hb)
              replace B := Lib.hid (below_thru B.out (Nat.le_refl _) hb)
              clear hb ht hf HY
              have r0 := XR1.out.2 0
              have r1 := XR1.out.2 1
              have r2 := XR2.out.2 0
              have r3 := XR2.out.2 1
              have q0 := XF1.out.2 0
              have q1 := XF1.out.2 1
              have q2 := XF2.out.2 0
              have q3 := XF2.out.2 1
              have x1 := XA.out.2 1
              have y0 := X4.out.2.1
              have y1 := X4.out.2.2.1
              have y2 := X4.out.2.2.2.1
              have y3 := X4.out.2.2.2.2))
        all_goals go_wp2_with fail
        all_goals refine bodyPost_ret (v := .tuple #[.agg #[.int .i64 u1, .slice ua1 un1 uc1], .agg #[.int .i64 u2, .slice ua2 un2 uc2], .bool true]) (by simp [results, Tryz.results111, go_sem, r0, r1, r2, r3]) rfl ?_
        all_goals have HF : Below w.heap.size w ((((w3.setCell ⟨w.heap.size + 1, 0, none⟩ (.int .i64 u1)).setCell ⟨w.heap.size + 1, 1, none⟩ (.slice ua1 un1 uc1)).setCell ⟨w.heap.size + 1 + 1, 0, none⟩ (.int .i64 u2)).setCell ⟨w.heap.size + 1 + 1, 1, none⟩ (.slice ua2 un2 uc2)) := (((B.out.setCell (by dsimp only; omega) _).setCell (by dsimp only; omega) _).setCell (by dsimp only; omega) _).setCell (by dsimp only; omega) _
        all_goals have hdz : w1.drew.heap.size = w1.heap.size := rfl
        all_goals exact match_two (parts_two HV.out (by omega)) (((((O1.out.stored (by omega)).stored (by omega)).stored (by omega)).stored (by omega))) (((((O2.out.stored (by omega)).stored (by omega)).stored (by omega)).stored (by omega))) (by omega) (by omega) (by omega) HF
end Go.Proofs.YteffjeejbdjjpaaGreatDoor
namespace Go.Proofs.YteffjeejbdjjpaaGreatDoor
open Go.RowKit

set_option maxRecDepth 100000 in
set_option maxHeartbeats 2000000 in
theorem implMatchArrow (d : Nat) (v : Value) (t : Ty) (w : World) (h : TyAt w d v t) (hsz : t.size ≤ 1048577) :
    Calls Tryz.prog 92 #[v] w (MatchEnd d (t.parts 4) w) := by
  obtain ⟨tk, a, n, cap, rfl⟩ := agg_parts h
  have B : Hid (Below w.heap.size w (((w.alloc (.cells #[.int .i64 tk, .slice a n cap] 33)).alloc (.cells #[.int .i64 0, .slice none 0 0] 33)).alloc (.cells #[.int .i64 0, .slice none 0 0] 33))) := (((Below.refl _ _).alloc (Nat.le_refl _) _).alloc (by simp) _).alloc (by simp; omega) _
  have HA := Lib.hid (h.below B.out)
  have XR1 : Hid (BoxAt (((w.alloc (.cells #[.int .i64 tk, .slice a n cap] 33)).alloc (.cells #[.int .i64 0, .slice none 0 0] 33)).alloc (.cells #[.int .i64 0, .slice none 0 0] 33)) (w.heap.size + 1) #[.int .i64 0, .slice none 0 0]) := (box_at (BoxAt.new _ _ _) (by simp)).below (below_alloc _ _)
  have XR2 : Hid (BoxAt (((w.alloc (.cells #[.int .i64 tk, .slice a n cap] 33)).alloc (.cells #[.int .i64 0, .slice none 0 0] 33)).alloc (.cells #[.int .i64 0, .slice none 0 0] 33)) (w.heap.size + 1 + 1) #[.int .i64 0, .slice none 0 0]) := box_at (BoxAt.new _ _ _) (by simp)
  have XF1 : Hid (FreeAt (((w.alloc (.cells #[.int .i64 tk, .slice a n cap] 33)).alloc (.cells #[.int .i64 0, .slice none 0 0] 33)).alloc (.cells #[.int .i64 0, .slice none 0 0] 33)) (w.heap.size + 1)) := (free_at (FreeAt.new _ _ _) (by simp)).below (below_alloc _ _)
  have XF2 : Hid (FreeAt (((w.alloc (.cells #[.int .i64 tk, .slice a n cap] 33)).alloc (.cells #[.int .i64 0, .slice none 0 0] 33)).alloc (.cells #[.int .i64 0, .slice none 0 0] 33)) (w.heap.size + 1 + 1)) := free_at (FreeAt.new _ _ _) (by simp)
  have hz0 : (((w.alloc (.cells #[.int .i64 tk, .slice a n cap] 33)).alloc (.cells #[.int .i64 0, .slice none 0 0] 33)).alloc (.cells #[.int .i64 0, .slice none 0 0] 33)).heap.size = w.heap.size + 3 := by simp
  clear h
  go_enter Tryz.func92, Tryz.ntmps92
  go_wp2_with fail
  refine (implMatch d _ t 4 _ (by omega) HA.out hsz).mono ?_
  rintro e w1 ⟨v1, v2, mid, rfl, hmid, ho1, ho2, hb⟩
  have hz1 := hb.size
  rw [hz0] at hz1 ho1 hmid
  obtain ⟨u1, ua1, un1, uc1, rfl⟩ := agg_parts ho1.at_
  obtain ⟨u2, ua2, un2, uc2, rfl⟩ := agg_parts ho2.at_
  have O1 := Lib.hid ho1
  have O2 := Lib.hid ho2
  have HM : Hid (mid ≤ w1.heap.size) := by obtain ⟨_, _, _, hh⟩ := ho1; exact hh
  replace B := Lib.hid (below_thru B.out (Nat.le_refl _) hb)
  replace XR1 := Lib.hid (XR1.out.below hb)
  replace XR2 := Lib.hid (XR2.out.below hb)
  replace XF1 := Lib.hid (XF1.out.below hb)
  replace XF2 := Lib.hid (XF2.out.below hb)
  clear hb ho1 ho2 HA
  have r0 := XR1.out.2 0
  have r1 := XR1.out.2 1
  have r2 := XR2.out.2 0
  have r3 := XR2.out.2 1
  have q0 := XF1.out.2 0
  have q1 := XF1.out.2 1
  have q2 := XF2.out.2 0
  have q3 := XF2.out.2 1
  go_wp2_with fail
  clear q0 q1 q2 q3
  refine bodyPost_ret (v := .tuple #[.agg #[.int .i64 u1, .slice ua1 un1 uc1], .agg #[.int .i64 u2, .slice ua2 un2 uc2], .bool (t.parts 4).2.2]) (by simp [results, Tryz.results92, go_sem, r0, r1, r2, r3]) rfl ?_
  have HF : Below w.heap.size w ((((w1.setCell ⟨w.heap.size + 1, 0, none⟩ (.int .i64 u1)).setCell ⟨w.heap.size + 1, 1, none⟩ (.slice ua1 un1 uc1)).setCell ⟨w.heap.size + 1 + 1, 0, none⟩ (.int .i64 u2)).setCell ⟨w.heap.size + 1 + 1, 1, none⟩ (.slice ua2 un2 uc2)) := (((B.out.setCell (by dsimp only; omega) _).setCell (by dsimp only; omega) _).setCell (by dsimp only; omega) _).setCell (by dsimp only; omega) _
  exact match_any (p := t.parts 4) (((((O1.out.stored (by omega)).stored (by omega)).stored (by omega)).stored (by omega))) (((((O2.out.stored (by omega)).stored (by omega)).stored (by omega)).stored (by omega))) (by omega) (by omega) (Nat.le_refl _) HF
set_option maxRecDepth 100000 in
set_option maxHeartbeats 2000000 in
theorem implMatchPair (d : Nat) (v : Value) (t : Ty) (w : World) (h : TyAt w d v t) (hsz : t.size ≤ 1048577) :
    Calls Tryz.prog 94 #[v] w (MatchEnd d (t.parts 5) w) := by
  obtain ⟨tk, a, n, cap, rfl⟩ := agg_parts h
  have B : Hid (Below w.heap.size w (((w.alloc (.cells #[.int .i64 tk, .slice a n cap] 33)).alloc (.cells #[.int .i64 0, .slice none 0 0] 33)).alloc (.cells #[.int .i64 0, .slice none 0 0] 33))) := (((Below.refl _ _).alloc (Nat.le_refl _) _).alloc (by simp) _).alloc (by simp; omega) _
  have HA := Lib.hid (h.below B.out)
  have XR1 : Hid (BoxAt (((w.alloc (.cells #[.int .i64 tk, .slice a n cap] 33)).alloc (.cells #[.int .i64 0, .slice none 0 0] 33)).alloc (.cells #[.int .i64 0, .slice none 0 0] 33)) (w.heap.size + 1) #[.int .i64 0, .slice none 0 0]) := (box_at (BoxAt.new _ _ _) (by simp)).below (below_alloc _ _)
  have XR2 : Hid (BoxAt (((w.alloc (.cells #[.int .i64 tk, .slice a n cap] 33)).alloc (.cells #[.int .i64 0, .slice none 0 0] 33)).alloc (.cells #[.int .i64 0, .slice none 0 0] 33)) (w.heap.size + 1 + 1) #[.int .i64 0, .slice none 0 0]) := box_at (BoxAt.new _ _ _) (by simp)
  have XF1 : Hid (FreeAt (((w.alloc (.cells #[.int .i64 tk, .slice a n cap] 33)).alloc (.cells #[.int .i64 0, .slice none 0 0] 33)).alloc (.cells #[.int .i64 0, .slice none 0 0] 33)) (w.heap.size + 1)) := (free_at (FreeAt.new _ _ _) (by simp)).below (below_alloc _ _)
  have XF2 : Hid (FreeAt (((w.alloc (.cells #[.int .i64 tk, .slice a n cap] 33)).alloc (.cells #[.int .i64 0, .slice none 0 0] 33)).alloc (.cells #[.int .i64 0, .slice none 0 0] 33)) (w.heap.size + 1 + 1)) := free_at (FreeAt.new _ _ _) (by simp)
  have hz0 : (((w.alloc (.cells #[.int .i64 tk, .slice a n cap] 33)).alloc (.cells #[.int .i64 0, .slice none 0 0] 33)).alloc (.cells #[.int .i64 0, .slice none 0 0] 33)).heap.size = w.heap.size + 3 := by simp
  clear h
  go_enter Tryz.func94, Tryz.ntmps94
  go_wp2_with fail
  refine (implMatch d _ t 5 _ (by omega) HA.out hsz).mono ?_
  rintro e w1 ⟨v1, v2, mid, rfl, hmid, ho1, ho2, hb⟩
  have hz1 := hb.size
  rw [hz0] at hz1 ho1 hmid
  obtain ⟨u1, ua1, un1, uc1, rfl⟩ := agg_parts ho1.at_
  obtain ⟨u2, ua2, un2, uc2, rfl⟩ := agg_parts ho2.at_
  have O1 := Lib.hid ho1
  have O2 := Lib.hid ho2
  have HM : Hid (mid ≤ w1.heap.size) := by obtain ⟨_, _, _, hh⟩ := ho1; exact hh
  replace B := Lib.hid (below_thru B.out (Nat.le_refl _) hb)
  replace XR1 := Lib.hid (XR1.out.below hb)
  replace XR2 := Lib.hid (XR2.out.below hb)
  replace XF1 := Lib.hid (XF1.out.below hb)
  replace XF2 := Lib.hid (XF2.out.below hb)
  clear hb ho1 ho2 HA
  have r0 := XR1.out.2 0
  have r1 := XR1.out.2 1
  have r2 := XR2.out.2 0
  have r3 := XR2.out.2 1
  have q0 := XF1.out.2 0
  have q1 := XF1.out.2 1
  have q2 := XF2.out.2 0
  have q3 := XF2.out.2 1
  go_wp2_with fail
  clear q0 q1 q2 q3
  refine bodyPost_ret (v := .tuple #[.agg #[.int .i64 u1, .slice ua1 un1 uc1], .agg #[.int .i64 u2, .slice ua2 un2 uc2], .bool (t.parts 5).2.2]) (by simp [results, Tryz.results94, go_sem, r0, r1, r2, r3]) rfl ?_
  have HF : Below w.heap.size w ((((w1.setCell ⟨w.heap.size + 1, 0, none⟩ (.int .i64 u1)).setCell ⟨w.heap.size + 1, 1, none⟩ (.slice ua1 un1 uc1)).setCell ⟨w.heap.size + 1 + 1, 0, none⟩ (.int .i64 u2)).setCell ⟨w.heap.size + 1 + 1, 1, none⟩ (.slice ua2 un2 uc2)) := (((B.out.setCell (by dsimp only; omega) _).setCell (by dsimp only; omega) _).setCell (by dsimp only; omega) _).setCell (by dsimp only; omega) _
  exact match_any (p := t.parts 5) (((((O1.out.stored (by omega)).stored (by omega)).stored (by omega)).stored (by omega))) (((((O2.out.stored (by omega)).stored (by omega)).stored (by omega)).stored (by omega))) (by omega) (by omega) (Nat.le_refl _) HF
end Go.Proofs.YteffjeejbdjjpaaGreatDoor
