/-
  Proved: impl.IsGround says whether a type's tree is a ground type; the memory that was there stays as it was.
-/
import Derived.Test.YtgdocfjodnicdaaImplGround
import Derived.Test.YtgdocfjodnicdaaImplEqual
import Derived.Test.YtgdocfjodnicdaaImplValid
import Derived.Test.YtgdocfjodnicdaaHold
import Derived.Test.YtgdocfjodnicdaaPart
import Derived.Test.YtgdocfjodnicdaaTypeArg
import Derived.Deep.RegionHeld3
import Derived.Deep.RegionLaw
namespace Go.Proofs.Ytgdocfjodnicdaa
open Go.RowKit


set_option maxRecDepth 100000 in
set_option maxHeartbeats 2000000 in
theorem implIsGround (d : Nat) (v : Value) (t : Ty) (w : World) (h : TyAt w d v t) (hsz : t.size ≤ 1048577) :
    Calls Try.prog 18 #[v] w fun e w' => e = .returned (.bool (t.valid && t.beq t.ground)) ∧ Below w.heap.size w w' := by
  have HT := Lib.hid h
  obtain ⟨yk, ya, yn, yc, rfl⟩ := agg_parts h
  clear h
  have B : Hid (Below w.heap.size w (w.alloc (.cells #[.int .i64 yk, .slice ya yn yc] 33))) := below_alloc _ _
  have HA := Lib.hid (HT.out.below B.out)
  have XA : Hid (BoxAt (w.alloc (.cells #[.int .i64 yk, .slice ya yn yc] 33)) w.heap.size #[.int .i64 yk, .slice ya yn yc]) := BoxAt.new _ _ _
  clear HT
  go_enter Try.func18, Try.ntmps18
  go_wp2_with fail
  have hb := below_drew (w.alloc (.cells #[.int .i64 yk, .slice ya yn yc] 33))
  replace B := Lib.hid (below_thru B.out (Nat.le_refl _) hb)
  replace HA := Lib.hid (HA.out.below hb)
  replace XA := Lib.hid (XA.out.below hb)
  clear hb
  cases hv : t.valid with
  | false =>
    have a0 := XA.out.2 0
    have a1 := XA.out.2 1
    go_region_with
      (first
       | (go_at_call 30
          refine (implValid d _ t _ HA.out hsz).mono ?_
          rintro e w1 ⟨he, hb⟩
          rw [hv] at he
          subst he
          replace B := Lib.hid (below_thru B.out (Nat.le_refl _) hb)
          replace HA := Lib.hid (HA.out.below hb)
          replace XA := Lib.hid (XA.out.below hb)
          clear hb))
    all_goals go_wp2_with fail
    all_goals go_ret
    all_goals exact ⟨by rw [hv]; rfl, B.out⟩
  | true =>
    go_region_held3 (fun w' => w'.cell? ⟨w.heap.size, 0, none⟩ = some (.int .i64 yk) ∧ w'.cell? ⟨w.heap.size, 1, none⟩ = some (.slice ya yn yc)) (exact ⟨XA.out.2 0, XA.out.2 1⟩)
      (first
       | (go_at_call 30
          refine (implValid d _ t _ HA.out hsz).mono ?_
          rintro e w1 ⟨he, hb⟩
          rw [hv] at he
          subst he
          replace B := Lib.hid (below_thru B.out (Nat.le_refl _) hb)
          replace HA := Lib.hid (HA.out.below hb)
          replace XA := Lib.hid (XA.out.below hb)
          clear hb)
       | (go_at_call 31
          refine (implGround d _ t _ HA.out hsz).mono ?_
          rintro e w2 ⟨g, fp, rfl, ht, hf, hb⟩
          replace B := Lib.hid (below_thru B.out (Nat.le_refl _) hb)
          replace HA := Lib.hid (HA.out.below hb)
          replace XA := Lib.hid (XA.out.below hb)
          have HG := Lib.hid ht.at_
          clear ht hf hb)
       | (go_at_call 19
          refine (implEqual (d + 2) _ g t t.ground _ (HA.out.mono (by omega)) (HG.out.mono (by omega))).mono ?_
          rintro e w3 ⟨rfl, hb⟩
          replace B := Lib.hid (below_thru B.out (Nat.le_refl _) hb)
          replace HA := Lib.hid (HA.out.below hb)
          replace XA := Lib.hid (XA.out.below hb)
          clear hb HG))
    go_wp2_with fail
    go_ret
    exact ⟨by rw [hv]; rfl, B.out⟩
end Go.Proofs.Ytgdocfjodnicdaa
