/-
  Proved: the law FnExactEqualConflicts answers true for every argument, and leaves the memory that was there as it was.
-/
import Derived.Test.YtajikfageppobaaHold
import Derived.Test.YtajikfageppobaaToCfls
import Derived.Test.YtajikfageppobaaSzCfls
import Derived.Test.YtajikfageppobaaEqCfls
import Derived.Test.YtajikfageppobaaSpecCfls
import Derived.Test.YtajikfageppobaaImplConflicts
import Derived.Deep.RegionHeld3
namespace Go.Proofs.Ytajikfageppobaa
open Go.RowKit

set_option maxRecDepth 100000 in
set_option maxHeartbeats 2000000 in
theorem equalConflictsWalk (d : Nat) (v1 : Value) (t1 : List Cfl) (v2 : Value) (t2 : List Cfl) (w : World) (h1 : CflsAt w d v1 t1) (h2 : CflsAt w d v2 t2) :
    Calls Try.prog 9 #[v1, v2] w fun e w' => e = .returned (.bool true) ∧ Below w.heap.size w w' := by
  obtain ⟨a1a, a1n, a1c, rfl⟩ := cfls_parts h1
  obtain ⟨a2a, a2n, a2c, rfl⟩ := cfls_parts h2
  have B : Hid (Below w.heap.size w w) := Below.refl _ _
  have HA1 := Lib.hid (h1.below B.out)
  have HA2 := Lib.hid (h2.below B.out)
  clear h1 h2
  go_enter Try.func9, Try.ntmps9
  go_wp2_with fail
  refine (szCfls d _ t1 1048576 _ (by omega) (by omega) HA1.out).mono ?_
  rintro e w1 ⟨r1, rfl, hb, hr1⟩
  replace B := Lib.hid (below_thru B.out (Nat.le_refl _) hb)
  replace HA1 := Lib.hid (HA1.out.below hb)
  replace HA2 := Lib.hid (HA2.out.below hb)
  clear hb
  rcases hr1 with ⟨hr1, hs1⟩ | ⟨hr1, hs1⟩
  · go_wp2_with fail
    go_ret
    exact ⟨rfl, B.out⟩
  have hq1 : r1 ≤ 1048576 := by omega
  have hn1 : Cfl.bulks t1 ≤ 1048576 := by omega
  go_wp2_with fail
  refine (szCfls d _ t2 r1 _ hr1 hq1 HA2.out).mono ?_
  rintro e w2 ⟨r2, rfl, hb, hr2⟩
  replace B := Lib.hid (below_thru B.out (Nat.le_refl _) hb)
  replace HA1 := Lib.hid (HA1.out.below hb)
  replace HA2 := Lib.hid (HA2.out.below hb)
  clear hb
  rcases hr2 with ⟨hr2, hs2⟩ | ⟨hr2, hs2⟩
  · go_wp2_with fail
    go_ret
    exact ⟨rfl, B.out⟩
  have hq2 : r2 ≤ 1048576 := by omega
  have hn2 : Cfl.bulks t2 ≤ 1048576 := by omega
  clear hs1 hs2
  go_wp2_with fail
  refine (toCfls d _ t1 _ hn1 HA1.out).mono ?_
  rintro e w3 ⟨s1, fp, rfl, ht, hf, hb⟩
  replace B := Lib.hid (below_thru B.out (Nat.le_refl _) hb)
  replace HA1 := Lib.hid (HA1.out.below hb)
  replace HA2 := Lib.hid (HA2.out.below hb)
  clear hb
  have Hs1 := Lib.hid ht.at_
  clear ht hf
  go_wp2_with fail
  refine (toCfls d _ t2 _ hn2 HA2.out).mono ?_
  rintro e w4 ⟨s2, fp, rfl, ht, hf, hb⟩
  replace B := Lib.hid (below_thru B.out (Nat.le_refl _) hb)
  replace HA1 := Lib.hid (HA1.out.below hb)
  replace HA2 := Lib.hid (HA2.out.below hb)
  replace Hs1 := Lib.hid (Hs1.out.below hb)
  clear hb
  have Hs2 := Lib.hid ht.at_
  clear ht hf
  go_wp2_with fail
  refine (specCfls d s1 s2 t1 t2 _ Hs1.out Hs2.out hn1 hn2).mono ?_
  rintro e w5 ⟨rfl, hb⟩
  replace B := Lib.hid (below_thru B.out (Nat.le_refl _) hb)
  replace HA1 := Lib.hid (HA1.out.below hb)
  replace HA2 := Lib.hid (HA2.out.below hb)
  clear hb
  clear Hs1 Hs2
  go_wp2_with fail
  refine (toCfls d _ t1 _ hn1 HA1.out).mono ?_
  rintro e w6 ⟨x1, fp, rfl, ht, hf, hb⟩
  replace B := Lib.hid (below_thru B.out (Nat.le_refl _) hb)
  replace HA1 := Lib.hid (HA1.out.below hb)
  replace HA2 := Lib.hid (HA2.out.below hb)
  clear hb
  obtain ⟨x1a, x1n, x1c, rfl⟩ := cfls_parts ht.at_
  have HX1 := Lib.hid ht.at_
  clear ht hf
  go_wp2_with fail
  refine (toCfls d _ t2 _ hn2 HA2.out).mono ?_
  rintro e w7 ⟨x2, fp, rfl, ht, hf, hb⟩
  replace B := Lib.hid (below_thru B.out (Nat.le_refl _) hb)
  replace HA1 := Lib.hid (HA1.out.below hb)
  replace HA2 := Lib.hid (HA2.out.below hb)
  replace HX1 := Lib.hid (HX1.out.below hb)
  clear hb
  obtain ⟨x2a, x2n, x2c, rfl⟩ := cfls_parts ht.at_
  have HX2 := Lib.hid ht.at_
  clear ht hf
  go_wp2_with fail
  refine (implConflicts d _ _ t1 t2 _ HX1.out HX2.out hn1 hn2).mono ?_
  rintro e w8 ⟨rfl, hb⟩
  replace B := Lib.hid (below_thru B.out (Nat.le_refl _) hb)
  replace HA1 := Lib.hid (HA1.out.below hb)
  replace HA2 := Lib.hid (HA2.out.below hb)
  replace HX1 := Lib.hid (HX1.out.below hb)
  replace HX2 := Lib.hid (HX2.out.below hb)
  clear hb
  go_wp2_with fail
  refine (toCfls d _ t1 _ hn1 HA1.out).mono ?_
  rintro e w9 ⟨y1, fp, rfl, ht, hf, hb⟩
  replace B := Lib.hid (below_thru B.out (Nat.le_refl _) hb)
  replace HA1 := Lib.hid (HA1.out.below hb)
  replace HA2 := Lib.hid (HA2.out.below hb)
  replace HX1 := Lib.hid (HX1.out.below hb)
  replace HX2 := Lib.hid (HX2.out.below hb)
  clear hb
  have Hy1 := Lib.hid ht.at_
  clear ht hf
  go_wp2_with fail
  refine (eqCfls d _ y1 t1 _ HX1.out Hy1.out).mono ?_
  rintro e w10 ⟨rfl, hb⟩
  replace B := Lib.hid (below_thru B.out (Nat.le_refl _) hb)
  replace HA1 := Lib.hid (HA1.out.below hb)
  replace HA2 := Lib.hid (HA2.out.below hb)
  replace HX1 := Lib.hid (HX1.out.below hb)
  replace HX2 := Lib.hid (HX2.out.below hb)
  clear hb
  clear Hy1
  go_wp2_with fail
  refine (toCfls d _ t2 _ hn2 HA2.out).mono ?_
  rintro e w11 ⟨y2, fp, rfl, ht, hf, hb⟩
  replace B := Lib.hid (below_thru B.out (Nat.le_refl _) hb)
  replace HA1 := Lib.hid (HA1.out.below hb)
  replace HA2 := Lib.hid (HA2.out.below hb)
  replace HX1 := Lib.hid (HX1.out.below hb)
  replace HX2 := Lib.hid (HX2.out.below hb)
  clear hb
  have Hy2 := Lib.hid ht.at_
  clear ht hf
  go_wp2_with fail
  refine (eqCfls d _ y2 t2 _ HX2.out Hy2.out).mono ?_
  rintro e w12 ⟨rfl, hb⟩
  replace B := Lib.hid (below_thru B.out (Nat.le_refl _) hb)
  replace HA1 := Lib.hid (HA1.out.below hb)
  replace HA2 := Lib.hid (HA2.out.below hb)
  replace HX1 := Lib.hid (HX1.out.below hb)
  replace HX2 := Lib.hid (HX2.out.below hb)
  clear hb
  clear Hy2
  go_wp2_with fail
  go_ret
  exact ⟨rfl, B.out⟩
end Go.Proofs.Ytajikfageppobaa
