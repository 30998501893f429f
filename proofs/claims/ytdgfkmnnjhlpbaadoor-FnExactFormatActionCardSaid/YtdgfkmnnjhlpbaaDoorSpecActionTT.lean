/-
  Proved: spec.IsAction says whether an action is valid; it leaves the memory that was there as it was.
-/
import Derived.Test.YtdgfkmnnjhlpbaaDoorSpecActKind
import Derived.Test.YtdgfkmnnjhlpbaaDoorSpecName
import Derived.Test.YtdgfkmnnjhlpbaaDoorSpecIn
import Derived.Test.YtdgfkmnnjhlpbaaDoorSpecNote
import Derived.Test.YtdgfkmnnjhlpbaaDoorSpecDepth
import Derived.Test.YtdgfkmnnjhlpbaaDoorHold
import Derived.BigQuiet
import Derived.Deep.QuietTactic
import Derived.Deep.RegionHeld3
namespace Go.Proofs.YtdgfkmnnjhlpbaaDoor
open Go.RowKit

set_option maxRecDepth 100000 in
set_option maxHeartbeats 4000000 in
theorem specActionTT (d : Nat) (v : Value) (t : Act) (w : World) (h : ActAt w d v t) (hn : t.bulk ≤ 1048576) (hN : actNamed t.kind = true) (hT : actTyped t.kind = true) :
    Calls Tryd.prog 49 #[v] w fun e w' => e = .returned (.bool t.okB) ∧ Below w.heap.size w w' := by
  cases t with
  | mk kd nm n ty =>
    obtain ⟨tk, ta, tn, tc, rfl, hk0, hk1, hn0, hn1, hnm, hty⟩ := h
    dsimp only at hk0 hk1 hn0 hn1 hnm hty hN hT ⊢
    have hsz : ty.size ≤ 1048577 := by have : (Act.mk kd nm n ty).bulk = nm.size + (ty.size - 1) := rfl; omega
    clear hn
    have HQ := Lib.hid (okB_of kd nm n ty)
    have HNL := Lib.hid (ty_isNil hty)
    have B : Hid (Below w.heap.size w (w.alloc (.cells #[.int .i64 kd, .string nm, .int .i64 n, .int .i64 tk, .slice ta tn tc] 33))) := below_alloc _ _
    have HTY := Lib.hid (hty.below B.out)
    have XA : Hid (BoxAt (w.alloc (.cells #[.int .i64 kd, .string nm, .int .i64 n, .int .i64 tk, .slice ta tn tc] 33)) w.heap.size #[.int .i64 kd, .string nm, .int .i64 n, .int .i64 tk, .slice ta tn tc]) := BoxAt.new _ _ _
    clear hty
    have CI : ∀ W, Calls Tryd.prog 97 #[.int .i64 kd, .int .i64 1, .int .i64 20] W fun e w' => e = .returned (.bool (decide (1 ≤ kd) && decide (kd ≤ 20))) ∧ w' = W := fun W => specIn kd 1 20 W
    have CN : ∀ W, Calls Tryd.prog 51 #[.int .i64 kd] W fun e w' => e = .returned (.bool (actNamed kd)) ∧ w' = W := fun W => specNamed kd W
    have CT : ∀ W, Calls Tryd.prog 54 #[.int .i64 kd] W fun e w' => e = .returned (.bool (actTyped kd)) ∧ w' = W := fun W => specTyped kd W
    have CM : ∀ W, Calls Tryd.prog 52 #[.int .i64 kd] W fun e w' => e = .returned (.int .i64 (actMost' kd)) ∧ w' = W := fun W => specMost kd W
    have CX : ∀ W, Calls Tryd.prog 100 #[.int .i64 0, .int .i64 (actMost' kd)] W fun e w' => e = .returned (.int .i64 (actMost kd)) ∧ w' = W := fun W => (specMax 0 (actMost' kd) W).mono (by rintro e w' ⟨rfl, h⟩; exact ⟨by rw [act_max], h⟩)
    have CR : ∀ W, Calls Tryd.prog 97 #[.int .i64 n, .int .i64 0, .int .i64 (actMost kd)] W fun e w' => e = .returned (.bool (decide (0 ≤ n) && decide (n ≤ actMost kd))) ∧ w' = W := fun W => specIn n 0 (actMost kd) W
    have CS : ∀ W, Calls Tryd.prog 98 #[.string nm] W fun e w' => e = .returned (.bool (nameB nm)) ∧ w' = W := fun W => specName nm W hnm
    generalize (decide (1 ≤ kd) && decide (kd ≤ 20)) = bi at HQ CI
    generalize actNamed kd = bn at HQ CN hN
    generalize nameB nm = bb at HQ CS
    generalize actTyped kd = bt at HQ CT hT
    generalize (decide (0 ≤ n) && decide (n ≤ actMost kd)) = br at HQ CR
    generalize actMost kd = mo at CX CR
    generalize actMost' kd = mo' at CX CM
    have HCI := Lib.hid CI
    have HCN := Lib.hid CN
    have HCT := Lib.hid CT
    have HCM := Lib.hid CM
    have HCX := Lib.hid CX
    have HCR := Lib.hid CR
    have HCS := Lib.hid CS
    subst hN
    subst hT
    clear CI CN CT CM CX CR CS
    go_enter Tryd.func49, Tryd.ntmps49
    go_wp2_with fail
    cases bi with
    | false =>
      have c0 := XA.out.2 0
      have c1 := XA.out.2 1
      go_quiet ((first
        | (go_at_call 97; exact Calls.quiet_of_same (HCI.out _))
        | (go_at_call 51; exact Calls.quiet_of_same (HCN.out _))
        | (go_at_call 98; exact Calls.quiet_of_same (HCS.out _))))
      go_wp2_with fail
      go_ret
      exact ⟨by rw [HQ.out]; rfl, below_q B.out nq⟩
    | true =>
      cases bb with
      | false =>
        have c0 := XA.out.2 0
        have c1 := XA.out.2 1
        go_quiet ((first
          | (go_at_call 97; exact Calls.quiet_of_same (HCI.out _))
          | (go_at_call 51; exact Calls.quiet_of_same (HCN.out _))
          | (go_at_call 98; exact Calls.quiet_of_same (HCS.out _))))
        go_wp2_with fail
        go_ret
        exact ⟨by rw [HQ.out]; rfl, below_q B.out nq⟩
      | true =>
        have c0 := XA.out.2 0
        have c1 := XA.out.2 1
        go_quiet ((first
          | (go_at_call 97; exact Calls.quiet_of_same (HCI.out _))
          | (go_at_call 51; exact Calls.quiet_of_same (HCN.out _))
          | (go_at_call 98; exact Calls.quiet_of_same (HCS.out _))))
        have hb : Below (w.alloc (.cells #[.int .i64 kd, .string nm, .int .i64 n, .int .i64 tk, .slice ta tn tc] 33)).heap.size (w.alloc (.cells #[.int .i64 kd, .string nm, .int .i64 n, .int .i64 tk, .slice ta tn tc] 33)) ((w.alloc (.cells #[.int .i64 kd, .string nm, .int .i64 n, .int .i64 tk, .slice ta tn tc] 33)).drewN nq) := below_q (Below.refl _ _) nq
        replace B := Lib.hid (below_thru B.out (Nat.le_refl _) hb)
        replace HTY := Lib.hid (HTY.out.below hb)
        replace XA := Lib.hid (XA.out.below hb)
        clear hb
        generalize (w.alloc (.cells #[.int .i64 kd, .string nm, .int .i64 n, .int .i64 tk, .slice ta tn tc] 33)).drewN nq = wq at B HTY XA ⊢
        clear c0 c1
        go_wp2_with fail
        have hb := below_drew wq
        replace B := Lib.hid (below_thru B.out (Nat.le_refl _) hb)
        replace HTY := Lib.hid (HTY.out.below hb)
        replace XA := Lib.hid (XA.out.below hb)
        clear hb
        cases hno : ty.note with
        | true =>
          have hund : undef = Value.tuple #[] := rfl
          have c0 := XA.out.2 0
          have c3 := XA.out.2 3
          have c4 := XA.out.2 4
          first
            | (go_region_with
                 (first
                  | (go_at_call 54
                     refine (HCT.out _).mono ?_
                     rintro e w1 ⟨rfl, hw⟩
                     subst hw)
                  | (go_at_call 99
                     refine (specNote d _ ty _ HTY.out hsz).mono ?_
                     rintro e w1 ⟨he, hb⟩
                     rw [hno] at he
                     subst he
                     replace B := Lib.hid (below_thru B.out (Nat.le_refl _) hb)
                     replace HTY := Lib.hid (HTY.out.below hb)
                     replace XA := Lib.hid (XA.out.below hb)
                     clear hb
                     have c0 := XA.out.2 0
                     have c3 := XA.out.2 3
                     have c4 := XA.out.2 4)))
            | fail
          all_goals clear hund
          all_goals have c0 := XA.out.2 0
          all_goals have c2 := XA.out.2 2
          all_goals go_wp2_with fail
          all_goals go_quiet ((first
            | (go_at_call 52; exact Calls.quiet_of_same (HCM.out _))
            | (go_at_call 100; exact Calls.quiet_of_same (HCX.out _))
            | (go_at_call 97; exact Calls.quiet_of_same (HCR.out _))))
          all_goals go_wp2_with fail
          all_goals go_ret
          all_goals exact ⟨by rw [HQ.out]; simp [hno], below_q B.out nq⟩
        | false =>
          have hund : undef = Value.tuple #[] := rfl
          have c0 := XA.out.2 0
          have c3 := XA.out.2 3
          have c4 := XA.out.2 4
          first
            | (go_region_with
                 (first
                  | (go_at_call 54
                     refine (HCT.out _).mono ?_
                     rintro e w1 ⟨rfl, hw⟩
                     subst hw)
                  | (go_at_call 99
                     refine (specNote d _ ty _ HTY.out hsz).mono ?_
                     rintro e w1 ⟨he, hb⟩
                     rw [hno] at he
                     subst he
                     replace B := Lib.hid (below_thru B.out (Nat.le_refl _) hb)
                     replace HTY := Lib.hid (HTY.out.below hb)
                     replace XA := Lib.hid (XA.out.below hb)
                     clear hb
                     have c0 := XA.out.2 0
                     have c3 := XA.out.2 3
                     have c4 := XA.out.2 4)))
            | fail
          all_goals clear hund
          all_goals go_wp2_with fail
          all_goals go_ret
          all_goals exact ⟨by rw [HQ.out]; simp [hno], B.out⟩
end Go.Proofs.YtdgfkmnnjhlpbaaDoor
