/-
  Proved: impl.IsAction says whether an action is valid; it leaves the memory that was there as it was.
-/
import Derived.Test.YtlpdgmgafabadaaImplActKind
import Derived.Test.YtlpdgmgafabadaaImplName
import Derived.Test.YtlpdgmgafabadaaImplNote
import Derived.Test.YtlpdgmgafabadaaImplEqual
import Derived.Test.YtlpdgmgafabadaaHold
import Derived.BigQuiet
import Derived.Deep.QuietTactic
import Derived.Deep.RegionHeld3
namespace Go.Proofs.Ytlpdgmgafabadaa
open Go.RowKit

theorem nil_at (w : World) {d : Nat} {v : Value} {t : Ty} (h : TyAt w d v t) : TyAt w d (.agg #[.int .i64 0, .slice none 0 0]) (.node 0 []) := by
  cases d with
  | zero => exact h.elim
  | succ d => exact ⟨_, rfl, by omega, by omega, none, 0, rfl, Nat.le_refl _, by omega, fun j hj => by simp at hj⟩

set_option maxRecDepth 100000 in
set_option maxHeartbeats 4000000 in
theorem implAction (d : Nat) (v : Value) (t : Act) (w : World) (h : ActAt w d v t) (hn : t.bulk ≤ 1048576) :
    Calls Try.prog 45 #[v] w fun e w' => e = .returned (.bool t.okB) ∧ Below w.heap.size w w' := by
  cases t with
  | mk kd nm n ty =>
    obtain ⟨tk, ta, tn, tc, rfl, hk0, hk1, hn0, hn1, hnm, hty⟩ := h
    dsimp only at hk0 hk1 hn0 hn1 hnm hty ⊢
    have hsz : ty.size ≤ 1048577 := by have : (Act.mk kd nm n ty).bulk = nm.size + (ty.size - 1) := rfl; omega
    clear hn
    have HQ := Lib.hid (okB_of kd nm n ty)
    have HNL := Lib.hid (ty_isNil hty)
    have B : Hid (Below w.heap.size w (w.alloc (.cells #[.int .i64 kd, .string nm, .int .i64 n, .int .i64 tk, .slice ta tn tc] 77))) := below_alloc _ _
    have HTY := Lib.hid (hty.below B.out)
    have XA : Hid (BoxAt (w.alloc (.cells #[.int .i64 kd, .string nm, .int .i64 n, .int .i64 tk, .slice ta tn tc] 77)) w.heap.size #[.int .i64 kd, .string nm, .int .i64 n, .int .i64 tk, .slice ta tn tc]) := BoxAt.new _ _ _
    clear hty
    have CN : ∀ W, Calls Try.prog 90 #[.int .i64 kd] W fun e w' => e = .returned (.bool (actNamed kd)) ∧ w' = W := fun W => implNamed kd W
    have CT : ∀ W, Calls Try.prog 91 #[.int .i64 kd] W fun e w' => e = .returned (.bool (actTyped kd)) ∧ w' = W := fun W => implTyped kd W
    have CM : ∀ W, Calls Try.prog 89 #[.int .i64 kd] W fun e w' => e = .returned (.int .i64 (actMost kd)) ∧ w' = W := fun W => implMost kd W
    have CS : ∀ W, Calls Try.prog 58 #[.string nm] W fun e w' => e = .returned (.bool (nameB nm)) ∧ Below W.heap.size W w' := fun W => implName nm W hnm
    have HZN : Hid (nm.size = 0 → nameB nm = false) := fun h => name_none h
    generalize actNamed kd = bn at HQ CN
    generalize nameB nm = bb at HQ CS HZN
    generalize actTyped kd = bt at HQ CT
    generalize actMost kd = mo at HQ CM
    have HCN := Lib.hid CN
    have HCT := Lib.hid CT
    have HCM := Lib.hid CM
    have HCS := Lib.hid CS
    clear CN CT CM CS
    go_enter Try.func45, Try.ntmps45
    go_wp2_with fail
    by_cases q1 : kd < 1
    · have e1 : decide (kd < 1) = true := decide_eq_true q1
      have c0 := XA.out.2 0
      have c2 := XA.out.2 2
      go_quiet ((first
        | (go_at_call 89; exact Calls.quiet_of_same (HCM.out _))))
      go_wp2_with fail
      go_ret
      exact ⟨by rw [HQ.out]; rw [decide_eq_false (by omega : ¬ (1 ≤ kd))]; rfl, below_q B.out nq⟩
    · have e1 : decide (kd < 1) = false := decide_eq_false q1
      by_cases q2 : 20 < kd
      · have e2 : decide (20 < kd) = true := decide_eq_true q2
        have c0 := XA.out.2 0
        have c2 := XA.out.2 2
        go_quiet ((first
          | (go_at_call 89; exact Calls.quiet_of_same (HCM.out _))))
        go_wp2_with fail
        go_ret
        exact ⟨by rw [HQ.out]; rw [decide_eq_false (by omega : ¬ (kd ≤ 20))]; simp, below_q B.out nq⟩
      · have e2 : decide (20 < kd) = false := decide_eq_false q2
        by_cases q3 : n < 0
        · have e3 : decide (n < 0) = true := decide_eq_true q3
          have c0 := XA.out.2 0
          have c2 := XA.out.2 2
          go_quiet ((first
            | (go_at_call 89; exact Calls.quiet_of_same (HCM.out _))))
          go_wp2_with fail
          go_ret
          exact ⟨by rw [HQ.out]; rw [decide_eq_false (by omega : ¬ (0 ≤ n))]; simp, below_q B.out nq⟩
        · have e3 : decide (n < 0) = false := decide_eq_false q3
          by_cases q4 : mo < n
          · have e4 : decide (mo < n) = true := decide_eq_true q4
            have c0 := XA.out.2 0
            have c2 := XA.out.2 2
            go_quiet ((first
              | (go_at_call 89; exact Calls.quiet_of_same (HCM.out _))))
            go_wp2_with fail
            go_ret
            exact ⟨by rw [HQ.out]; rw [decide_eq_false (by omega : ¬ (n ≤ mo))]; simp, below_q B.out nq⟩
          · have e4 : decide (mo < n) = false := decide_eq_false q4
            have c0 := XA.out.2 0
            have c2 := XA.out.2 2
            go_quiet ((first
              | (go_at_call 89; exact Calls.quiet_of_same (HCM.out _))))
            replace q1 : 1 ≤ kd := by omega
            replace q2 : kd ≤ 20 := by omega
            replace q3 : 0 ≤ n := by omega
            replace q4 : n ≤ mo := by omega
            clear e1 e2 e3 e4
            have hb : Below (w.alloc (.cells #[.int .i64 kd, .string nm, .int .i64 n, .int .i64 tk, .slice ta tn tc] 77)).heap.size (w.alloc (.cells #[.int .i64 kd, .string nm, .int .i64 n, .int .i64 tk, .slice ta tn tc] 77)) ((w.alloc (.cells #[.int .i64 kd, .string nm, .int .i64 n, .int .i64 tk, .slice ta tn tc] 77)).drewN nq) := below_q (Below.refl _ _) nq
            replace B := Lib.hid (below_thru B.out (Nat.le_refl _) hb)
            replace HTY := Lib.hid (HTY.out.below hb)
            replace XA := Lib.hid (XA.out.below hb)
            clear hb
            generalize (w.alloc (.cells #[.int .i64 kd, .string nm, .int .i64 n, .int .i64 tk, .slice ta tn tc] 77)).drewN nq = wq at B HTY XA ⊢
            clear c0 c2
            go_wp2_with fail
            by_cases hz : nm.size = 0
            · have ez := text_none hz
              have hb0 := HZN.out hz
              subst hb0
              cases bn with
              | true =>
                have c0 := XA.out.2 0
                have c1 := XA.out.2 1
                go_quiet ((first
                  | (go_at_call 90; exact Calls.quiet_of_same (HCN.out _))))
                go_wp2_with fail
                go_ret
                exact ⟨by rw [HQ.out]; simp [hz], below_q B.out nq⟩
              | false =>
                have c0 := XA.out.2 0
                have c1 := XA.out.2 1
                go_quiet ((first
                  | (go_at_call 90; exact Calls.quiet_of_same (HCN.out _))))
                have hb : Below wq.heap.size wq (wq.drewN nq) := below_q (Below.refl _ _) nq
                replace B := Lib.hid (below_thru B.out (Nat.le_refl _) hb)
                replace HTY := Lib.hid (HTY.out.below hb)
                replace XA := Lib.hid (XA.out.below hb)
                clear hb
                clear c0 c1
                have c0 := XA.out.2 0
                go_wp2_with fail
                clear c0
                refine (HCT.out _).mono ?_
                rintro e w1 ⟨rfl, hw⟩
                subst hw
                cases bt with
                | true =>
                  have c3 := XA.out.2 3
                  have c4 := XA.out.2 4
                  go_wp2_with fail
                  clear c3 c4
                  refine (implNote d _ ty _ HTY.out hsz).mono ?_
                  rintro e w2 ⟨rfl, hb⟩
                  replace B := Lib.hid (below_thru B.out (Nat.le_refl _) hb)
                  replace HTY := Lib.hid (HTY.out.below hb)
                  replace XA := Lib.hid (XA.out.below hb)
                  clear hb
                  go_wp2_with fail
                  go_ret
                  exact ⟨by rw [HQ.out]; simp [q1, q2, q3, q4, hz], B.out⟩
                | false =>
                  have c3 := XA.out.2 3
                  have c4 := XA.out.2 4
                  go_wp2_with fail
                  clear c3 c4
                  refine (implEqual d _ _ ty (.node 0 []) _ HTY.out (nil_at _ HTY.out)).mono ?_
                  rintro e w2 ⟨rfl, hb⟩
                  replace B := Lib.hid (below_thru B.out (Nat.le_refl _) hb)
                  replace HTY := Lib.hid (HTY.out.below hb)
                  replace XA := Lib.hid (XA.out.below hb)
                  clear hb
                  go_wp2_with fail
                  go_ret
                  exact ⟨by rw [HQ.out]; rw [beq_nil]; cases hil : ty.isNil <;> simp [q1, q2, q3, q4, hz, note_nil, hil], B.out⟩
            · have ez := toList_some (s := nm) (by omega)
              cases bn with
              | false =>
                have c0 := XA.out.2 0
                have c1 := XA.out.2 1
                go_quiet ((first
                  | (go_at_call 90; exact Calls.quiet_of_same (HCN.out _))))
                go_wp2_with fail
                go_ret
                exact ⟨by rw [HQ.out]; simp [hz], below_q B.out nq⟩
              | true =>
                cases bb with
                | false =>
                  have hb := below_drew wq
                  replace B := Lib.hid (below_thru B.out (Nat.le_refl _) hb)
                  replace HTY := Lib.hid (HTY.out.below hb)
                  replace XA := Lib.hid (XA.out.below hb)
                  clear hb
                  first
                    | (go_region_held3 (fun w' => w'.cell? ⟨w.heap.size, 0, none⟩ = some (.int .i64 kd) ∧ w'.cell? ⟨w.heap.size, 1, none⟩ = some (.string nm)) (exact ⟨XA.out.2 0, XA.out.2 1⟩)
                       (first
                        | (go_at_call 90
                           refine (HCN.out _).mono ?_
                           rintro e w1 ⟨rfl, hw⟩
                           subst hw)
                        | (go_at_call 58
                           refine (HCS.out _).mono ?_
                           rintro e w1 ⟨rfl, hb⟩
                           replace B := Lib.hid (below_thru B.out (Nat.le_refl _) hb)
                           replace HTY := Lib.hid (HTY.out.below hb)
                           replace XA := Lib.hid (XA.out.below hb)
                           clear hb)))
                    | fail
                  go_wp2_with fail
                  go_ret
                  exact ⟨by rw [HQ.out]; simp, B.out⟩
                | true =>
                  have hb := below_drew wq
                  replace B := Lib.hid (below_thru B.out (Nat.le_refl _) hb)
                  replace HTY := Lib.hid (HTY.out.below hb)
                  replace XA := Lib.hid (XA.out.below hb)
                  clear hb
                  first
                    | (go_region_held3 (fun w' => w'.cell? ⟨w.heap.size, 0, none⟩ = some (.int .i64 kd) ∧ w'.cell? ⟨w.heap.size, 1, none⟩ = some (.string nm)) (exact ⟨XA.out.2 0, XA.out.2 1⟩)
                       (first
                        | (go_at_call 90
                           refine (HCN.out _).mono ?_
                           rintro e w1 ⟨rfl, hw⟩
                           subst hw)
                        | (go_at_call 58
                           refine (HCS.out _).mono ?_
                           rintro e w1 ⟨rfl, hb⟩
                           replace B := Lib.hid (below_thru B.out (Nat.le_refl _) hb)
                           replace HTY := Lib.hid (HTY.out.below hb)
                           replace XA := Lib.hid (XA.out.below hb)
                           clear hb)))
                    | fail
                  have c0 := XA.out.2 0
                  go_wp2_with fail
                  clear c0
                  refine (HCT.out _).mono ?_
                  rintro e w1 ⟨rfl, hw⟩
                  subst hw
                  cases bt with
                  | true =>
                    have c3 := XA.out.2 3
                    have c4 := XA.out.2 4
                    go_wp2_with fail
                    clear c3 c4
                    refine (implNote d _ ty _ HTY.out hsz).mono ?_
                    rintro e w2 ⟨rfl, hb⟩
                    replace B := Lib.hid (below_thru B.out (Nat.le_refl _) hb)
                    replace HTY := Lib.hid (HTY.out.below hb)
                    replace XA := Lib.hid (XA.out.below hb)
                    clear hb
                    go_wp2_with fail
                    go_ret
                    exact ⟨by rw [HQ.out]; simp [q1, q2, q3, q4], B.out⟩
                  | false =>
                    have c3 := XA.out.2 3
                    have c4 := XA.out.2 4
                    go_wp2_with fail
                    clear c3 c4
                    refine (implEqual d _ _ ty (.node 0 []) _ HTY.out (nil_at _ HTY.out)).mono ?_
                    rintro e w2 ⟨rfl, hb⟩
                    replace B := Lib.hid (below_thru B.out (Nat.le_refl _) hb)
                    replace HTY := Lib.hid (HTY.out.below hb)
                    replace XA := Lib.hid (XA.out.below hb)
                    clear hb
                    go_wp2_with fail
                    go_ret
                    exact ⟨by rw [HQ.out]; rw [beq_nil]; cases hil : ty.isNil <;> simp [q1, q2, q3, q4, note_nil, hil], B.out⟩
end Go.Proofs.Ytlpdgmgafabadaa
