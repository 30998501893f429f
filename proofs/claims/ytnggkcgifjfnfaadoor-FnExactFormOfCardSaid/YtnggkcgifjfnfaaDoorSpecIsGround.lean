/-
  Proved: spec.IsGround says whether a type's tree is a ground type; the memory that was there stays as it was.
-/
import Derived.Test.YtnggkcgifjfnfaaDoorSpecGround
import Derived.Test.YtnggkcgifjfnfaaDoorSpecEqual
import Derived.Test.YtnggkcgifjfnfaaDoorSpecValid
import Derived.Test.YtnggkcgifjfnfaaDoorHold
import Derived.Test.YtnggkcgifjfnfaaDoorPart
import Derived.Test.YtnggkcgifjfnfaaDoorTypeArg
import Derived.Deep.RegionHeld3
import Derived.Deep.RegionLaw
namespace Go.Proofs.YtnggkcgifjfnfaaDoor
open Go.RowKit

theorem ground_unknown (ts : List Ty) : ((Ty.node 1 ts).valid && (Ty.node 1 ts).beq (Ty.node 1 ts).ground) = false := by
  have h : (Ty.node 1 ts).ground = .node 0 [] := by
    cases hv : (Ty.node 1 ts).valid <;> simp [Ty.ground]
  have h2 : (Ty.node 1 ts).beq (.node 0 []) = false := by
    unfold Ty.beq
    rfl
  rw [h, h2, Bool.and_false]
theorem ty_kind {w : World} {d : Nat} {yk kd : Int} {ya : Option Addr} {yn yc : Nat} {ts : List Ty} (h : TyAt w d (.agg #[.int .i64 yk, .slice ya yn yc]) (.node kd ts)) : yk = kd := by
  cases d with
  | zero => exact h.elim
  | succ d =>
    obtain ⟨sl, h, _⟩ := h
    have := (Array.mk.inj (Value.agg.inj h))
    simp at this
    exact this.1
set_option maxRecDepth 100000 in
set_option maxHeartbeats 2000000 in
theorem specIsGround (d : Nat) (v : Value) (t : Ty) (w : World) (h : TyAt w d v t) (hsz : t.size ≤ 1048577) :
    Calls Tryd.prog 61 #[v] w fun e w' => e = .returned (.bool (t.valid && t.beq t.ground)) ∧ Below w.heap.size w w' := by
  have HT := Lib.hid h
  obtain ⟨yk, ya, yn, yc, rfl⟩ := agg_parts h
  clear h
  have B : Hid (Below w.heap.size w (w.alloc (.cells #[.int .i64 yk, .slice ya yn yc] 33))) := below_alloc _ _
  have HA := Lib.hid (HT.out.below B.out)
  have XA : Hid (BoxAt (w.alloc (.cells #[.int .i64 yk, .slice ya yn yc] 33)) w.heap.size #[.int .i64 yk, .slice ya yn yc]) := BoxAt.new _ _ _
  clear HT
  go_enter Tryd.func61, Tryd.ntmps61
  go_wp2_with fail
  have hb := below_drew (w.alloc (.cells #[.int .i64 yk, .slice ya yn yc] 33))
  replace B := Lib.hid (below_thru B.out (Nat.le_refl _) hb)
  replace HA := Lib.hid (HA.out.below hb)
  replace XA := Lib.hid (XA.out.below hb)
  clear hb
  cases hv : t.valid with
  | false =>
    have a0 := XA.out.2 0
    have a1 := XA.out.2 1
    first
      | (go_region_with
           (first
            | (go_at_call 76
               refine (specValid d _ t _ HA.out hsz).mono ?_
               rintro e w1 ⟨he, hb⟩
               rw [hv] at he
               subst he
               replace B := Lib.hid (below_thru B.out (Nat.le_refl _) hb)
               replace HA := Lib.hid (HA.out.below hb)
               replace XA := Lib.hid (XA.out.below hb)
               clear hb)))
      | fail
    all_goals go_wp2_with fail
    all_goals go_ret
    all_goals exact ⟨by rw [hv]; rfl, B.out⟩
  | true =>
    cases t with
    | node kd ts =>
    have hk : yk = kd := ty_kind HA.out
    subst hk
    by_cases q : yk = 1
    · subst q
      have a0 := XA.out.2 0
      have a1 := XA.out.2 1
      first
        | (go_region_with
             (first
              | (go_at_call 76
                 refine (specValid d _ (.node 1 ts) _ HA.out hsz).mono ?_
                 rintro e w1 ⟨he, hb⟩
                 rw [hv] at he
                 subst he
                 replace B := Lib.hid (below_thru B.out (Nat.le_refl _) hb)
                 replace HA := Lib.hid (HA.out.below hb)
                 replace XA := Lib.hid (XA.out.below hb)
                 clear hb
                 have a0 := XA.out.2 0
                 have a1 := XA.out.2 1)))
        | fail
      all_goals go_wp2_with fail
      all_goals go_ret
      all_goals exact ⟨by rw [show ((Ty.node 1 ts).valid && (Ty.node 1 ts).beq (Ty.node 1 ts).ground) = false from ground_unknown ts]; rfl, B.out⟩
    · have q1 : decide (yk = 1) = false := by simp [q]
      have q2 : (yk != 1) = true := by simp [q]
      go_region_held3 (fun w' => w'.cell? ⟨w.heap.size, 0, none⟩ = some (.int .i64 yk) ∧ w'.cell? ⟨w.heap.size, 1, none⟩ = some (.slice ya yn yc)) (exact ⟨XA.out.2 0, XA.out.2 1⟩)
        (first
         | (go_at_call 76
            refine (specValid d _ (.node yk ts) _ HA.out hsz).mono ?_
            rintro e w1 ⟨he, hb⟩
            rw [hv] at he
            subst he
            replace B := Lib.hid (below_thru B.out (Nat.le_refl _) hb)
            replace HA := Lib.hid (HA.out.below hb)
            replace XA := Lib.hid (XA.out.below hb)
            clear hb)
         | (go_at_call 77
            refine (specGround d _ (.node yk ts) _ HA.out hsz).mono ?_
            rintro e w2 ⟨g, fp, rfl, ht, hf, hb⟩
            replace B := Lib.hid (below_thru B.out (Nat.le_refl _) hb)
            replace HA := Lib.hid (HA.out.below hb)
            replace XA := Lib.hid (XA.out.below hb)
            have HG := Lib.hid ht.at_
            clear ht hf hb)
         | (go_at_call 59
            refine (specEqual (d + 2) _ g (.node yk ts) (Ty.ground (.node yk ts)) _ (HA.out.mono (by omega)) (HG.out.mono (by omega))).mono ?_
            rintro e w3 ⟨rfl, hb⟩
            replace B := Lib.hid (below_thru B.out (Nat.le_refl _) hb)
            replace HA := Lib.hid (HA.out.below hb)
            replace XA := Lib.hid (XA.out.below hb)
            clear hb HG))
      go_wp2_with fail
      go_ret
      exact ⟨by rw [hv]; rfl, B.out⟩
end Go.Proofs.YtnggkcgifjfnfaaDoor
