/-
  Proved: impl.GroundOf makes the ground type of a type; the memory that was there stays as it was.
-/
import Derived.Test.YtgdocfjodnicdaaGround
import Derived.Test.YtgdocfjodnicdaaImplLeaves
import Derived.Test.YtgdocfjodnicdaaImplValid
import Derived.Test.YtgdocfjodnicdaaImplArrow
import Derived.Test.YtgdocfjodnicdaaImplPair
import Derived.Test.YtgdocfjodnicdaaNodeCase
import Derived.Test.YtgdocfjodnicdaaTwo
namespace Go.Proofs.Ytgdocfjodnicdaa
open Go.RowKit

theorem ret_leaf {w w' : World} {t : Ty} {k : Int} (ht : t.ground = .node k []) (h0 : -9223372036854775808 ≤ k) (h1 : k ≤ 9223372036854775807) (hb : Below w.heap.size w w') : ToTyEnd 2 t.ground w (.returned (.agg #[.int .i64 k, .slice none 0 0])) w' := by
  rw [ht]
  exact ⟨_, [], rfl, own_zero _ _ _ h0 h1, Fp.nil _ _, hb⟩
set_option maxRecDepth 100000 in
set_option maxHeartbeats 4000000 in
theorem implGround (d : Nat) (v : Value) (t : Ty) (w : World) (h : TyAt w d v t) (hsz : t.size ≤ 1048577) :
    Calls Try.prog 31 #[v] w (ToTyEnd 2 t.ground w) := by
  cases d with
  | zero => exact h.elim
  | succ d =>
  cases t with
  | node kd ts =>
  have HT := Lib.hid h
  obtain ⟨yk, ya, yn, yc, rfl⟩ := agg_parts h
  clear h
  have hlen : ts.length ≤ 1152921504606846976 := by have := Ty.length_le ts; simp [Ty.size] at hsz; omega
  have B : Hid (Below w.heap.size w ((w.alloc (.cells #[.int .i64 yk, .slice ya yn yc] 33)).alloc (.cells #[.int .i64 0, .slice none 0 0] 33))) := ((Below.refl _ _).alloc (Nat.le_refl _) _).alloc (by simp) _
  have HA := Lib.hid (HT.out.below B.out)
  have XA : Hid (BoxAt ((w.alloc (.cells #[.int .i64 yk, .slice ya yn yc] 33)).alloc (.cells #[.int .i64 0, .slice none 0 0] 33)) w.heap.size #[.int .i64 yk, .slice ya yn yc]) := (BoxAt.new _ _ _).below (below_alloc _ _)
  have XR : Hid (BoxAt ((w.alloc (.cells #[.int .i64 yk, .slice ya yn yc] 33)).alloc (.cells #[.int .i64 0, .slice none 0 0] 33)) (w.heap.size + 1) #[.int .i64 0, .slice none 0 0]) := box_at (BoxAt.new _ _ _) (by simp)
  have XF : Hid (FreeAt ((w.alloc (.cells #[.int .i64 yk, .slice ya yn yc] 33)).alloc (.cells #[.int .i64 0, .slice none 0 0] 33)) (w.heap.size + 1)) := free_at (FreeAt.new _ _ _) (by simp)
  have hz0 : ((w.alloc (.cells #[.int .i64 yk, .slice ya yn yc] 33)).alloc (.cells #[.int .i64 0, .slice none 0 0] 33)).heap.size = w.heap.size + 2 := by simp
  go_enter Try.func31, Try.ntmps31
  go_wp2_with fail
  refine (implValid (d + 1) _ (.node kd ts) _ HA.out hsz).mono ?_
  rintro e w1 ⟨rfl, hb⟩
  have hz1 := hb.size
  rw [hz0] at hz1
  replace B := Lib.hid (below_thru B.out (Nat.le_refl _) hb)
  replace XA := Lib.hid (XA.out.below hb)
  replace XR := Lib.hid (XR.out.below hb)
  replace XF := Lib.hid (XF.out.below hb)
  clear hb
  cases hv : (Ty.node kd ts).valid with
  | false =>
    have a0 := XA.out.2 0
    have a1 := XA.out.2 1
    have r0 := XR.out.2 0
    have r1 := XR.out.2 1
    have q0 := XF.out.2 0
    have q1 := XF.out.2 1
    have hr := XR.out.1
    go_wp2_with fail
    refine bodyPost_ret (v := .agg #[.int .i64 0, .slice none 0 0]) (by simp [results, Try.results31, go_sem, r0, r1]) rfl ?_
    exact ret_leaf (by simp [Ty.ground, hv]) (by omega) (by omega) ((B.out.setCell (by simp) _).setCell (by simp) _)
  | true =>
    have hko : kindOk kd ts.length = true := by simp only [Ty.valid, Ty.form, Bool.and_eq_true] at hv; exact hv.2.2
    have HV := Lib.hid hv
    have HKO := Lib.hid hko
    clear hv hko
    have a0 := XA.out.2 0
    have a1 := XA.out.2 1
    have r0 := XR.out.2 0
    have r1 := XR.out.2 1
    have q0 := XF.out.2 0
    have q1 := XF.out.2 1
    have hr := XR.out.1
    go_wp2_with fail
    clear a0 a1 r0 r1 q0 q1 hr
    refine (implNode w d _ kd ts _ HT.out B.out hlen).mono ?_
    rintro e w2 ⟨n, rfl, hnode, hb⟩
    have hz2 := hb.size
    replace B := Lib.hid (below_thru B.out (Nat.le_refl _) hb)
    replace XA := Lib.hid (XA.out.below hb)
    replace XR := Lib.hid (XR.out.below hb)
    replace XF := Lib.hid (XF.out.below hb)
    clear hb
    have r0 := XR.out.2 0
    have r1 := XR.out.2 1
    have q0 := XF.out.2 0
    have q1 := XF.out.2 1
    have hr := XR.out.1
    rcases hnode with ⟨h, _⟩ | ⟨_, rfl, ⟨rfl, rfl⟩ | ⟨rfl, rfl⟩ | ⟨rfl, rfl⟩⟩ | ⟨_, t1, t2, k1, s1, k2, s2, rfl, _, _, ⟨rfl, rfl⟩ | ⟨rfl, rfl⟩⟩
    · rw [HKO.out] at h; cases h
    · have as0 := as_unknown_num
      have as1 := as_unknown_bool
      have as2 := as_unknown_arrow
      have as3 := as_unknown_pair
      go_wp2_with fail
      refine bodyPost_ret (v := .agg #[.int .i64 0, .slice none 0 0]) (by simp [results, Try.results31, go_sem, r0, r1]) rfl ?_
      exact ret_leaf (by simp [Ty.ground, HV.out]) (by omega) (by omega) ((B.out.setCell (by simp) _).setCell (by simp) _)
    · have as0 := as_num_num
      go_wp2_with fail
      clear r0 r1 q0 q1 hr
      refine (implNumType _).mono ?_
      rintro e w3 ⟨rfl, hb⟩
      replace B := Lib.hid (below_thru B.out (Nat.le_refl _) hb)
      replace XA := Lib.hid (XA.out.below hb)
      replace XR := Lib.hid (XR.out.below hb)
      replace XF := Lib.hid (XF.out.below hb)
      clear hb
      have r0 := XR.out.2 0
      have r1 := XR.out.2 1
      have q0 := XF.out.2 0
      have q1 := XF.out.2 1
      have hr := XR.out.1
      go_wp2_with fail
      refine bodyPost_ret (v := .agg #[.int .i64 2, .slice none 0 0]) (by simp [results, Try.results31, go_sem, r0, r1]) rfl ?_
      exact ret_leaf (by simp [Ty.ground, HV.out]) (by omega) (by omega) ((B.out.setCell (by simp) _).setCell (by simp) _)
    · have as0 := as_bool_num
      have as1 := as_bool_bool
      go_wp2_with fail
      clear r0 r1 q0 q1 hr
      refine (implBoolType _).mono ?_
      rintro e w3 ⟨rfl, hb⟩
      replace B := Lib.hid (below_thru B.out (Nat.le_refl _) hb)
      replace XA := Lib.hid (XA.out.below hb)
      replace XR := Lib.hid (XR.out.below hb)
      replace XF := Lib.hid (XF.out.below hb)
      clear hb
      have r0 := XR.out.2 0
      have r1 := XR.out.2 1
      have q0 := XF.out.2 0
      have q1 := XF.out.2 1
      have hr := XR.out.1
      go_wp2_with fail
      refine bodyPost_ret (v := .agg #[.int .i64 3, .slice none 0 0]) (by simp [results, Try.results31, go_sem, r0, r1]) rfl ?_
      exact ret_leaf (by simp [Ty.ground, HV.out]) (by omega) (by omega) ((B.out.setCell (by simp) _).setCell (by simp) _)
    · have as0 := as_arrow_num (.int .i64 k1) s1 (.int .i64 k2) s2
      have as1 := as_arrow_bool (.int .i64 k1) s1 (.int .i64 k2) s2
      have as2 := as_arrow_arrow (.int .i64 k1) s1 (.int .i64 k2) s2
      go_wp2_with fail
      clear r0 r1 q0 q1 hr
      refine (implUnknownType _).mono ?_
      rintro e w3 ⟨rfl, hb⟩
      have hz3 := hb.size
      replace B := Lib.hid (below_thru B.out (Nat.le_refl _) hb)
      replace XA := Lib.hid (XA.out.below hb)
      replace XR := Lib.hid (XR.out.below hb)
      replace XF := Lib.hid (XF.out.below hb)
      clear hb
      go_wp2_with fail
      refine (implUnknownType _).mono ?_
      rintro e w4 ⟨rfl, hb⟩
      have hz4 := hb.size
      replace B := Lib.hid (below_thru B.out (Nat.le_refl _) hb)
      replace XA := Lib.hid (XA.out.below hb)
      replace XR := Lib.hid (XR.out.below hb)
      replace XF := Lib.hid (XF.out.below hb)
      clear hb
      go_wp2_with fail
      refine (implArrowType 1 _ _ (.node 1 []) (.node 1 []) _ (by decide) (by decide) (own_zero _ 0 1 (by omega) (by omega)).at_ (own_zero _ 0 1 (by omega) (by omega)).at_).mono ?_
      rintro e w5 ⟨v5, fp, rfl, ht, hf, hb⟩
      have hz5 := hb.size
      replace B := Lib.hid (below_thru B.out (Nat.le_refl _) hb)
      replace XA := Lib.hid (XA.out.below hb)
      replace XR := Lib.hid (XR.out.below hb)
      replace XF := Lib.hid (XF.out.below hb)
      clear hb
      obtain ⟨gk, ga, gn, gc, rfl, HG⟩ := ty_parts ht
      have HF := Lib.hid hf
      clear ht hf
      have r0 := XR.out.2 0
      have r1 := XR.out.2 1
      have q0 := XF.out.2 0
      have q1 := XF.out.2 1
      have hr := XR.out.1
      go_wp2_with fail
      have g0 : ((w5.setCell ⟨w.heap.size + 1, 0, none⟩ (.int .i64 gk)).setCell ⟨w.heap.size + 1, 1, none⟩ (.slice ga gn gc)).cell? ⟨w.heap.size + 1, 0, none⟩ = some (.int .i64 gk) := by simp [go_sem, r0]
      have g1 : ((w5.setCell ⟨w.heap.size + 1, 0, none⟩ (.int .i64 gk)).setCell ⟨w.heap.size + 1, 1, none⟩ (.slice ga gn gc)).cell? ⟨w.heap.size + 1, 1, none⟩ = some (.slice ga gn gc) := by simp [go_sem, r1]
      refine bodyPost_ret (v := .agg #[.int .i64 gk, .slice ga gn gc]) (by simp [results, Try.results31, go_sem, g0, g1]) rfl ?_
      have e : Ty.ground (.node 4 [t1, t2]) = .node 4 [.node 1 [], .node 1 []] := by simp [Ty.ground, HV.out]
      rw [e]
      exact ⟨_, fp, rfl, HG.out.kept (by simp) fun b hb => (by rw [heap_setCell_other _ _ _ _ (by have := (HF.out.2 b hb).1; simp; omega), heap_setCell_other _ _ _ _ (by have := (HF.out.2 b hb).1; simp; omega)]), HF.out.mono (by omega) (by simp), (B.out.setCell (by simp) _).setCell (by simp) _⟩
    · have as0 := as_pair_num (.int .i64 k1) s1 (.int .i64 k2) s2
      have as1 := as_pair_bool (.int .i64 k1) s1 (.int .i64 k2) s2
      have as2 := as_pair_arrow (.int .i64 k1) s1 (.int .i64 k2) s2
      have as3 := as_pair_pair (.int .i64 k1) s1 (.int .i64 k2) s2
      go_wp2_with fail
      clear r0 r1 q0 q1 hr
      refine (implUnknownType _).mono ?_
      rintro e w3 ⟨rfl, hb⟩
      have hz3 := hb.size
      replace B := Lib.hid (below_thru B.out (Nat.le_refl _) hb)
      replace XA := Lib.hid (XA.out.below hb)
      replace XR := Lib.hid (XR.out.below hb)
      replace XF := Lib.hid (XF.out.below hb)
      clear hb
      go_wp2_with fail
      refine (implUnknownType _).mono ?_
      rintro e w4 ⟨rfl, hb⟩
      have hz4 := hb.size
      replace B := Lib.hid (below_thru B.out (Nat.le_refl _) hb)
      replace XA := Lib.hid (XA.out.below hb)
      replace XR := Lib.hid (XR.out.below hb)
      replace XF := Lib.hid (XF.out.below hb)
      clear hb
      go_wp2_with fail
      refine (implPairType 1 _ _ (.node 1 []) (.node 1 []) _ (by decide) (by decide) (own_zero _ 0 1 (by omega) (by omega)).at_ (own_zero _ 0 1 (by omega) (by omega)).at_).mono ?_
      rintro e w5 ⟨v5, fp, rfl, ht, hf, hb⟩
      have hz5 := hb.size
      replace B := Lib.hid (below_thru B.out (Nat.le_refl _) hb)
      replace XA := Lib.hid (XA.out.below hb)
      replace XR := Lib.hid (XR.out.below hb)
      replace XF := Lib.hid (XF.out.below hb)
      clear hb
      obtain ⟨gk, ga, gn, gc, rfl, HG⟩ := ty_parts ht
      have HF := Lib.hid hf
      clear ht hf
      have r0 := XR.out.2 0
      have r1 := XR.out.2 1
      have q0 := XF.out.2 0
      have q1 := XF.out.2 1
      have hr := XR.out.1
      go_wp2_with fail
      have g0 : ((w5.setCell ⟨w.heap.size + 1, 0, none⟩ (.int .i64 gk)).setCell ⟨w.heap.size + 1, 1, none⟩ (.slice ga gn gc)).cell? ⟨w.heap.size + 1, 0, none⟩ = some (.int .i64 gk) := by simp [go_sem, r0]
      have g1 : ((w5.setCell ⟨w.heap.size + 1, 0, none⟩ (.int .i64 gk)).setCell ⟨w.heap.size + 1, 1, none⟩ (.slice ga gn gc)).cell? ⟨w.heap.size + 1, 1, none⟩ = some (.slice ga gn gc) := by simp [go_sem, r1]
      refine bodyPost_ret (v := .agg #[.int .i64 gk, .slice ga gn gc]) (by simp [results, Try.results31, go_sem, g0, g1]) rfl ?_
      have e : Ty.ground (.node 5 [t1, t2]) = .node 5 [.node 1 [], .node 1 []] := by simp [Ty.ground, HV.out]
      rw [e]
      exact ⟨_, fp, rfl, HG.out.kept (by simp) fun b hb => (by rw [heap_setCell_other _ _ _ _ (by have := (HF.out.2 b hb).1; simp; omega), heap_setCell_other _ _ _ _ (by have := (HF.out.2 b hb).1; simp; omega)]), HF.out.mono (by omega) (by simp), (B.out.setCell (by simp) _).setCell (by simp) _⟩
end Go.Proofs.Ytgdocfjodnicdaa
