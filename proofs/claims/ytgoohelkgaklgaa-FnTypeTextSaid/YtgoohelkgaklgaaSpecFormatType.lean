/-
  Proved: spec.FormatType gives the text of a valid type, the empty text for others; the memory that was there stays as it was.
-/
import Derived.Test.YtgoohelkgaklgaaSpecText
import Derived.Test.YtgoohelkgaklgaaSpecValid
import Derived.Test.YtgoohelkgaklgaaFormatText
namespace Go.Proofs.Ytgoohelkgaklgaa
open Go.RowKit

set_option maxRecDepth 100000 in
set_option maxHeartbeats 1000000 in
theorem specFormatType (d : Nat) (v : Value) (t : Ty) (w : World) (h : TyAt w d v t) (hsz : t.size ≤ 1048577) :
    Calls Try.prog 9 #[v] w fun e w' => e = .returned (.string (formatText t)) ∧ Below w.heap.size w w' := by
  have HT := Lib.hid h
  obtain ⟨yk, ya, yn, yc, rfl⟩ := agg_parts h
  clear h
  have B : Hid (Below w.heap.size w (w.alloc (.cells #[.int .i64 yk, .slice ya yn yc] 26))) := below_alloc _ _
  have HA := Lib.hid (HT.out.below B.out)
  have XA : Hid (BoxAt (w.alloc (.cells #[.int .i64 yk, .slice ya yn yc] 26)) w.heap.size #[.int .i64 yk, .slice ya yn yc]) := BoxAt.new _ _ _
  clear HT
  go_enter Try.func9, Try.ntmps9
  go_wp2_with fail
  refine (specValid d _ t _ HA.out hsz).mono ?_
  rintro e w1 ⟨rfl, hb⟩
  replace B := Lib.hid (below_thru B.out (Nat.le_refl _) hb)
  replace HA := Lib.hid (HA.out.below hb)
  replace XA := Lib.hid (XA.out.below hb)
  clear hb
  cases hv : t.valid with
  | false =>
    have HV := Lib.hid hv; clear hv
    go_wp2_with fail
    go_ret
    exact ⟨by rw [format_bad HV.out]; rfl, B.out⟩
  | true =>
    have HV := Lib.hid hv
    have hfm : t.form = true := by simp only [Ty.valid, Bool.and_eq_true] at hv; exact hv.2
    clear hv
    have a0 := XA.out.2 0
    have a1 := XA.out.2 1
    go_wp2_with fail
    refine (specText d _ t _ HA.out hfm hsz).mono ?_
    rintro e w2 ⟨rfl, hb⟩
    have B2 := Lib.hid (below_thru B.out (Nat.le_refl _) hb)
    clear hb hfm
    go_wp2_with fail
    go_ret
    exact ⟨by rw [format_good HV.out]; rfl, B2.out⟩
end Go.Proofs.Ytgoohelkgaklgaa
