/-
  Proved: the law FnExactEqualClosure answers true for every argument, and leaves the memory that was there as it was.
-/
import Derived.Test.YtajikfageppobaaHold
import Derived.Test.YtajikfageppobaaToClo
import Derived.Test.YtajikfageppobaaSzClo
import Derived.Test.YtajikfageppobaaEqClo
import Derived.Test.YtajikfageppobaaSpecClo
import Derived.Test.YtajikfageppobaaImplClo
import Derived.Deep.RegionHeld3
namespace Go.Proofs.Ytajikfageppobaa
open Go.RowKit

set_option maxRecDepth 100000 in
set_option maxHeartbeats 2000000 in
theorem equalClosureWalk (d : Nat) (v1 : Value) (t1 : Clo) (v2 : Value) (t2 : Clo) (w : World) (h1 : CloAt w d v1 t1) (h2 : CloAt w d v2 t2) :
    Calls Try.prog 7 #[v1, v2] w fun e w' => e = .returned (.bool true) ∧ Below w.heap.size w w' := by
  obtain ⟨a1bi, a1cb, a1da, a1dn, a1dc, rfl⟩ := clo_parts h1
  obtain ⟨a2bi, a2cb, a2da, a2dn, a2dc, rfl⟩ := clo_parts h2
  have B : Hid (Below w.heap.size w ((w.alloc (.cells #[.int .i64 a1bi, .bool a1cb, .slice a1da a1dn a1dc] 48)).alloc (.cells #[.int .i64 a2bi, .bool a2cb, .slice a2da a2dn a2dc] 48))) := ((Below.refl _ _).alloc (Nat.le_refl _) _).alloc (by simp) _
  have HA1 := Lib.hid (h1.below B.out)
  have HA2 := Lib.hid (h2.below B.out)
  have XA1 : Hid (BoxAt ((w.alloc (.cells #[.int .i64 a1bi, .bool a1cb, .slice a1da a1dn a1dc] 48)).alloc (.cells #[.int .i64 a2bi, .bool a2cb, .slice a2da a2dn a2dc] 48)) (w.heap.size) #[.int .i64 a1bi, .bool a1cb, .slice a1da a1dn a1dc]) := (BoxAt.new _ _ _).below (below_alloc _ _)
  have XA2 : Hid (BoxAt ((w.alloc (.cells #[.int .i64 a1bi, .bool a1cb, .slice a1da a1dn a1dc] 48)).alloc (.cells #[.int .i64 a2bi, .bool a2cb, .slice a2da a2dn a2dc] 48)) (w.heap.size + 1) #[.int .i64 a2bi, .bool a2cb, .slice a2da a2dn a2dc]) := by
    have := BoxAt.new (w.alloc (.cells #[.int .i64 a1bi, .bool a1cb, .slice a1da a1dn a1dc] 48)) #[.int .i64 a2bi, .bool a2cb, .slice a2da a2dn a2dc] 48
    rw [show (w.alloc (.cells #[.int .i64 a1bi, .bool a1cb, .slice a1da a1dn a1dc] 48)).heap.size = w.heap.size + 1 from by simp] at this
    exact this
  clear h1 h2
  go_enter Try.func7, Try.ntmps7
  go_wp2_with fail
  refine (szClo d _ t1 1048576 _ (by omega) (by omega) HA1.out).mono ?_
  rintro e w1 ⟨r1, rfl, hb, hr1⟩
  replace B := Lib.hid (below_thru B.out (Nat.le_refl _) hb)
  replace HA1 := Lib.hid (HA1.out.below hb)
  replace HA2 := Lib.hid (HA2.out.below hb)
  replace XA1 := Lib.hid (XA1.out.below hb)
  replace XA2 := Lib.hid (XA2.out.below hb)
  clear hb
  rcases hr1 with ⟨hr1, hs1⟩ | ⟨hr1, hs1⟩
  · go_wp2_with fail
    go_ret
    exact ⟨rfl, B.out⟩
  have hq1 : r1 ≤ 1048576 := by omega
  have hn1 : t1.bulk ≤ 1048576 := by omega
  have cXA1_0 := XA1.out.2 0
  have cXA1_1 := XA1.out.2 1
  have cXA1_2 := XA1.out.2 2
  have cXA2_0 := XA2.out.2 0
  have cXA2_1 := XA2.out.2 1
  have cXA2_2 := XA2.out.2 2
  go_wp2_with fail
  clear cXA1_0 cXA1_1 cXA1_2 cXA2_0 cXA2_1 cXA2_2
  refine (szClo d _ t2 r1 _ hr1 hq1 HA2.out).mono ?_
  rintro e w2 ⟨r2, rfl, hb, hr2⟩
  replace B := Lib.hid (below_thru B.out (Nat.le_refl _) hb)
  replace HA1 := Lib.hid (HA1.out.below hb)
  replace HA2 := Lib.hid (HA2.out.below hb)
  replace XA1 := Lib.hid (XA1.out.below hb)
  replace XA2 := Lib.hid (XA2.out.below hb)
  clear hb
  rcases hr2 with ⟨hr2, hs2⟩ | ⟨hr2, hs2⟩
  · go_wp2_with fail
    go_ret
    exact ⟨rfl, B.out⟩
  have hq2 : r2 ≤ 1048576 := by omega
  have hn2 : t2.bulk ≤ 1048576 := by omega
  clear hs1 hs2
  have cXA1_0 := XA1.out.2 0
  have cXA1_1 := XA1.out.2 1
  have cXA1_2 := XA1.out.2 2
  have cXA2_0 := XA2.out.2 0
  have cXA2_1 := XA2.out.2 1
  have cXA2_2 := XA2.out.2 2
  go_wp2_with fail
  clear cXA1_0 cXA1_1 cXA1_2 cXA2_0 cXA2_1 cXA2_2
  have hb := below_drew w2
  replace B := Lib.hid (below_thru B.out (Nat.le_refl _) hb)
  replace HA1 := Lib.hid (HA1.out.below hb)
  replace HA2 := Lib.hid (HA2.out.below hb)
  replace XA1 := Lib.hid (XA1.out.below hb)
  replace XA2 := Lib.hid (XA2.out.below hb)
  clear hb
  go_region_held3 (fun w' => w'.cell? ⟨w.heap.size, 0, none⟩ = some (.int .i64 a1bi) ∧ w'.cell? ⟨w.heap.size, 1, none⟩ = some (.bool a1cb) ∧ w'.cell? ⟨w.heap.size, 2, none⟩ = some (.slice a1da a1dn a1dc) ∧ w'.cell? ⟨w.heap.size + 1, 0, none⟩ = some (.int .i64 a2bi) ∧ w'.cell? ⟨w.heap.size + 1, 1, none⟩ = some (.bool a2cb) ∧ w'.cell? ⟨w.heap.size + 1, 2, none⟩ = some (.slice a2da a2dn a2dc)) (exact ⟨XA1.out.2 0, XA1.out.2 1, XA1.out.2 2, XA2.out.2 0, XA2.out.2 1, XA2.out.2 2⟩)
    (first
     | (go_at_call_of 26 (Value.agg #[Value.int IntKind.i64 a1bi, Value.bool a1cb, Value.slice a1da a1dn a1dc])
        refine (toClo d _ t1 _ hn1 HA1.out).mono ?_
        rintro e w3 ⟨s1, fp, rfl, ht, hf, hb⟩
        replace B := Lib.hid (below_thru B.out (Nat.le_refl _) hb)
        replace HA1 := Lib.hid (HA1.out.below hb)
        replace HA2 := Lib.hid (HA2.out.below hb)
        replace XA1 := Lib.hid (XA1.out.below hb)
        replace XA2 := Lib.hid (XA2.out.below hb)
        clear hb
        have Hs1 := Lib.hid ht.at_
        clear ht hf)
     | (go_at_call_of 26 (Value.agg #[Value.int IntKind.i64 a2bi, Value.bool a2cb, Value.slice a2da a2dn a2dc])
        refine (toClo d _ t2 _ hn2 HA2.out).mono ?_
        rintro e w4 ⟨s2, fp, rfl, ht, hf, hb⟩
        replace B := Lib.hid (below_thru B.out (Nat.le_refl _) hb)
        replace HA1 := Lib.hid (HA1.out.below hb)
        replace HA2 := Lib.hid (HA2.out.below hb)
        replace XA1 := Lib.hid (XA1.out.below hb)
        replace XA2 := Lib.hid (XA2.out.below hb)
        replace Hs1 := Lib.hid (Hs1.out.below hb)
        clear hb
        have Hs2 := Lib.hid ht.at_
        clear ht hf)
     | (go_at_call 25
        refine (specClo d s1 s2 t1 t2 _ Hs1.out Hs2.out).mono ?_
        rintro e w5 ⟨rfl, hb⟩
        replace B := Lib.hid (below_thru B.out (Nat.le_refl _) hb)
        replace HA1 := Lib.hid (HA1.out.below hb)
        replace HA2 := Lib.hid (HA2.out.below hb)
        replace XA1 := Lib.hid (XA1.out.below hb)
        replace XA2 := Lib.hid (XA2.out.below hb)
        clear hb
        clear Hs1 Hs2))
  have cXA1_0 := XA1.out.2 0
  have cXA1_1 := XA1.out.2 1
  have cXA1_2 := XA1.out.2 2
  have cXA2_0 := XA2.out.2 0
  have cXA2_1 := XA2.out.2 1
  have cXA2_2 := XA2.out.2 2
  go_wp2_with fail
  clear cXA1_0 cXA1_1 cXA1_2 cXA2_0 cXA2_1 cXA2_2
  refine (toClo d _ t1 _ hn1 HA1.out).mono ?_
  rintro e w6 ⟨x1, fp, rfl, ht, hf, hb⟩
  replace B := Lib.hid (below_thru B.out (Nat.le_refl _) hb)
  replace HA1 := Lib.hid (HA1.out.below hb)
  replace HA2 := Lib.hid (HA2.out.below hb)
  replace XA1 := Lib.hid (XA1.out.below hb)
  replace XA2 := Lib.hid (XA2.out.below hb)
  clear hb
  obtain ⟨x1bi, x1cb, x1da, x1dn, x1dc, rfl⟩ := clo_parts ht.at_
  have HX1 := Lib.hid ht.at_
  clear ht hf
  have XX1 : Hid (BoxAt (w6.alloc (.cells #[.int .i64 x1bi, .bool x1cb, .slice x1da x1dn x1dc] 53)) w6.heap.size #[.int .i64 x1bi, .bool x1cb, .slice x1da x1dn x1dc]) := BoxAt.new _ _ _
  have hb := below_alloc w6 (.cells #[.int .i64 x1bi, .bool x1cb, .slice x1da x1dn x1dc] 53)
  replace B := Lib.hid (below_thru B.out (Nat.le_refl _) hb)
  replace HA1 := Lib.hid (HA1.out.below hb)
  replace HA2 := Lib.hid (HA2.out.below hb)
  replace XA1 := Lib.hid (XA1.out.below hb)
  replace XA2 := Lib.hid (XA2.out.below hb)
  replace HX1 := Lib.hid (HX1.out.below hb)
  clear hb
  have cXA1_0 := XA1.out.2 0
  have cXA1_1 := XA1.out.2 1
  have cXA1_2 := XA1.out.2 2
  have cXA2_0 := XA2.out.2 0
  have cXA2_1 := XA2.out.2 1
  have cXA2_2 := XA2.out.2 2
  have cXX1_0 := XX1.out.2 0
  have cXX1_1 := XX1.out.2 1
  have cXX1_2 := XX1.out.2 2
  go_wp2_with fail
  clear cXA1_0 cXA1_1 cXA1_2 cXA2_0 cXA2_1 cXA2_2 cXX1_0 cXX1_1 cXX1_2
  refine (toClo d _ t2 _ hn2 HA2.out).mono ?_
  rintro e w7 ⟨x2, fp, rfl, ht, hf, hb⟩
  replace B := Lib.hid (below_thru B.out (Nat.le_refl _) hb)
  replace HA1 := Lib.hid (HA1.out.below hb)
  replace HA2 := Lib.hid (HA2.out.below hb)
  replace XA1 := Lib.hid (XA1.out.below hb)
  replace XA2 := Lib.hid (XA2.out.below hb)
  replace HX1 := Lib.hid (HX1.out.below hb)
  replace XX1 := Lib.hid (XX1.out.below hb)
  clear hb
  obtain ⟨x2bi, x2cb, x2da, x2dn, x2dc, rfl⟩ := clo_parts ht.at_
  have HX2 := Lib.hid ht.at_
  clear ht hf
  have XX2 : Hid (BoxAt (w7.alloc (.cells #[.int .i64 x2bi, .bool x2cb, .slice x2da x2dn x2dc] 53)) w7.heap.size #[.int .i64 x2bi, .bool x2cb, .slice x2da x2dn x2dc]) := BoxAt.new _ _ _
  have hb := below_alloc w7 (.cells #[.int .i64 x2bi, .bool x2cb, .slice x2da x2dn x2dc] 53)
  replace B := Lib.hid (below_thru B.out (Nat.le_refl _) hb)
  replace HA1 := Lib.hid (HA1.out.below hb)
  replace HA2 := Lib.hid (HA2.out.below hb)
  replace XA1 := Lib.hid (XA1.out.below hb)
  replace XA2 := Lib.hid (XA2.out.below hb)
  replace HX1 := Lib.hid (HX1.out.below hb)
  replace XX1 := Lib.hid (XX1.out.below hb)
  replace HX2 := Lib.hid (HX2.out.below hb)
  clear hb
  have cXA1_0 := XA1.out.2 0
  have cXA1_1 := XA1.out.2 1
  have cXA1_2 := XA1.out.2 2
  have cXA2_0 := XA2.out.2 0
  have cXA2_1 := XA2.out.2 1
  have cXA2_2 := XA2.out.2 2
  have cXX1_0 := XX1.out.2 0
  have cXX1_1 := XX1.out.2 1
  have cXX1_2 := XX1.out.2 2
  have cXX2_0 := XX2.out.2 0
  have cXX2_1 := XX2.out.2 1
  have cXX2_2 := XX2.out.2 2
  go_wp2_with fail
  clear cXA1_0 cXA1_1 cXA1_2 cXA2_0 cXA2_1 cXA2_2 cXX1_0 cXX1_1 cXX1_2 cXX2_0 cXX2_1 cXX2_2
  refine (implClo d _ _ t1 t2 _ HX1.out HX2.out).mono ?_
  rintro e w8 ⟨rfl, hb⟩
  replace B := Lib.hid (below_thru B.out (Nat.le_refl _) hb)
  replace HA1 := Lib.hid (HA1.out.below hb)
  replace HA2 := Lib.hid (HA2.out.below hb)
  replace XA1 := Lib.hid (XA1.out.below hb)
  replace XA2 := Lib.hid (XA2.out.below hb)
  replace HX1 := Lib.hid (HX1.out.below hb)
  replace XX1 := Lib.hid (XX1.out.below hb)
  replace HX2 := Lib.hid (HX2.out.below hb)
  replace XX2 := Lib.hid (XX2.out.below hb)
  clear hb
  have cXA1_0 := XA1.out.2 0
  have cXA1_1 := XA1.out.2 1
  have cXA1_2 := XA1.out.2 2
  have cXA2_0 := XA2.out.2 0
  have cXA2_1 := XA2.out.2 1
  have cXA2_2 := XA2.out.2 2
  have cXX1_0 := XX1.out.2 0
  have cXX1_1 := XX1.out.2 1
  have cXX1_2 := XX1.out.2 2
  have cXX2_0 := XX2.out.2 0
  have cXX2_1 := XX2.out.2 1
  have cXX2_2 := XX2.out.2 2
  go_wp2_with fail
  clear cXA1_0 cXA1_1 cXA1_2 cXA2_0 cXA2_1 cXA2_2 cXX1_0 cXX1_1 cXX1_2 cXX2_0 cXX2_1 cXX2_2
  have hb := below_drew w8
  replace B := Lib.hid (below_thru B.out (Nat.le_refl _) hb)
  replace HA1 := Lib.hid (HA1.out.below hb)
  replace HA2 := Lib.hid (HA2.out.below hb)
  replace XA1 := Lib.hid (XA1.out.below hb)
  replace XA2 := Lib.hid (XA2.out.below hb)
  replace HX1 := Lib.hid (HX1.out.below hb)
  replace XX1 := Lib.hid (XX1.out.below hb)
  replace HX2 := Lib.hid (HX2.out.below hb)
  replace XX2 := Lib.hid (XX2.out.below hb)
  clear hb
  go_region_held3 (fun w' => w'.cell? ⟨w.heap.size, 0, none⟩ = some (.int .i64 a1bi) ∧ w'.cell? ⟨w.heap.size, 1, none⟩ = some (.bool a1cb) ∧ w'.cell? ⟨w.heap.size, 2, none⟩ = some (.slice a1da a1dn a1dc) ∧ w'.cell? ⟨w.heap.size + 1, 0, none⟩ = some (.int .i64 a2bi) ∧ w'.cell? ⟨w.heap.size + 1, 1, none⟩ = some (.bool a2cb) ∧ w'.cell? ⟨w.heap.size + 1, 2, none⟩ = some (.slice a2da a2dn a2dc) ∧ w'.cell? ⟨w6.heap.size, 0, none⟩ = some (.int .i64 x1bi) ∧ w'.cell? ⟨w6.heap.size, 1, none⟩ = some (.bool x1cb) ∧ w'.cell? ⟨w6.heap.size, 2, none⟩ = some (.slice x1da x1dn x1dc) ∧ w'.cell? ⟨w7.heap.size, 0, none⟩ = some (.int .i64 x2bi) ∧ w'.cell? ⟨w7.heap.size, 1, none⟩ = some (.bool x2cb) ∧ w'.cell? ⟨w7.heap.size, 2, none⟩ = some (.slice x2da x2dn x2dc)) (exact ⟨XA1.out.2 0, XA1.out.2 1, XA1.out.2 2, XA2.out.2 0, XA2.out.2 1, XA2.out.2 2, XX1.out.2 0, XX1.out.2 1, XX1.out.2 2, XX2.out.2 0, XX2.out.2 1, XX2.out.2 2⟩)
    (first
     | (go_at_call_of 26 (Value.agg #[Value.int IntKind.i64 a1bi, Value.bool a1cb, Value.slice a1da a1dn a1dc])
        refine (toClo d _ t1 _ hn1 HA1.out).mono ?_
        rintro e w9 ⟨y1, fp, rfl, ht, hf, hb⟩
        replace B := Lib.hid (below_thru B.out (Nat.le_refl _) hb)
        replace HA1 := Lib.hid (HA1.out.below hb)
        replace HA2 := Lib.hid (HA2.out.below hb)
        replace XA1 := Lib.hid (XA1.out.below hb)
        replace XA2 := Lib.hid (XA2.out.below hb)
        replace HX1 := Lib.hid (HX1.out.below hb)
        replace XX1 := Lib.hid (XX1.out.below hb)
        replace HX2 := Lib.hid (HX2.out.below hb)
        replace XX2 := Lib.hid (XX2.out.below hb)
        clear hb
        have Hy1 := Lib.hid ht.at_
        clear ht hf)
     | (go_at_call 28
        refine (eqClo d _ y1 t1 _ HX1.out Hy1.out).mono ?_
        rintro e w10 ⟨rfl, hb⟩
        replace B := Lib.hid (below_thru B.out (Nat.le_refl _) hb)
        replace HA1 := Lib.hid (HA1.out.below hb)
        replace HA2 := Lib.hid (HA2.out.below hb)
        replace XA1 := Lib.hid (XA1.out.below hb)
        replace XA2 := Lib.hid (XA2.out.below hb)
        replace HX1 := Lib.hid (HX1.out.below hb)
        replace XX1 := Lib.hid (XX1.out.below hb)
        replace HX2 := Lib.hid (HX2.out.below hb)
        replace XX2 := Lib.hid (XX2.out.below hb)
        clear hb
        clear Hy1))
  have cXA1_0 := XA1.out.2 0
  have cXA1_1 := XA1.out.2 1
  have cXA1_2 := XA1.out.2 2
  have cXA2_0 := XA2.out.2 0
  have cXA2_1 := XA2.out.2 1
  have cXA2_2 := XA2.out.2 2
  have cXX1_0 := XX1.out.2 0
  have cXX1_1 := XX1.out.2 1
  have cXX1_2 := XX1.out.2 2
  have cXX2_0 := XX2.out.2 0
  have cXX2_1 := XX2.out.2 1
  have cXX2_2 := XX2.out.2 2
  go_wp2_with fail
  clear cXA1_0 cXA1_1 cXA1_2 cXA2_0 cXA2_1 cXA2_2 cXX1_0 cXX1_1 cXX1_2 cXX2_0 cXX2_1 cXX2_2
  have hb := below_drew w10
  replace B := Lib.hid (below_thru B.out (Nat.le_refl _) hb)
  replace HA1 := Lib.hid (HA1.out.below hb)
  replace HA2 := Lib.hid (HA2.out.below hb)
  replace XA1 := Lib.hid (XA1.out.below hb)
  replace XA2 := Lib.hid (XA2.out.below hb)
  replace HX1 := Lib.hid (HX1.out.below hb)
  replace XX1 := Lib.hid (XX1.out.below hb)
  replace HX2 := Lib.hid (HX2.out.below hb)
  replace XX2 := Lib.hid (XX2.out.below hb)
  clear hb
  go_region_held3 (fun w' => w'.cell? ⟨w.heap.size, 0, none⟩ = some (.int .i64 a1bi) ∧ w'.cell? ⟨w.heap.size, 1, none⟩ = some (.bool a1cb) ∧ w'.cell? ⟨w.heap.size, 2, none⟩ = some (.slice a1da a1dn a1dc) ∧ w'.cell? ⟨w.heap.size + 1, 0, none⟩ = some (.int .i64 a2bi) ∧ w'.cell? ⟨w.heap.size + 1, 1, none⟩ = some (.bool a2cb) ∧ w'.cell? ⟨w.heap.size + 1, 2, none⟩ = some (.slice a2da a2dn a2dc) ∧ w'.cell? ⟨w6.heap.size, 0, none⟩ = some (.int .i64 x1bi) ∧ w'.cell? ⟨w6.heap.size, 1, none⟩ = some (.bool x1cb) ∧ w'.cell? ⟨w6.heap.size, 2, none⟩ = some (.slice x1da x1dn x1dc) ∧ w'.cell? ⟨w7.heap.size, 0, none⟩ = some (.int .i64 x2bi) ∧ w'.cell? ⟨w7.heap.size, 1, none⟩ = some (.bool x2cb) ∧ w'.cell? ⟨w7.heap.size, 2, none⟩ = some (.slice x2da x2dn x2dc)) (exact ⟨XA1.out.2 0, XA1.out.2 1, XA1.out.2 2, XA2.out.2 0, XA2.out.2 1, XA2.out.2 2, XX1.out.2 0, XX1.out.2 1, XX1.out.2 2, XX2.out.2 0, XX2.out.2 1, XX2.out.2 2⟩)
    (first
     | (go_at_call_of 26 (Value.agg #[Value.int IntKind.i64 a2bi, Value.bool a2cb, Value.slice a2da a2dn a2dc])
        refine (toClo d _ t2 _ hn2 HA2.out).mono ?_
        rintro e w11 ⟨y2, fp, rfl, ht, hf, hb⟩
        replace B := Lib.hid (below_thru B.out (Nat.le_refl _) hb)
        replace HA1 := Lib.hid (HA1.out.below hb)
        replace HA2 := Lib.hid (HA2.out.below hb)
        replace XA1 := Lib.hid (XA1.out.below hb)
        replace XA2 := Lib.hid (XA2.out.below hb)
        replace HX1 := Lib.hid (HX1.out.below hb)
        replace XX1 := Lib.hid (XX1.out.below hb)
        replace HX2 := Lib.hid (HX2.out.below hb)
        replace XX2 := Lib.hid (XX2.out.below hb)
        clear hb
        have Hy2 := Lib.hid ht.at_
        clear ht hf)
     | (go_at_call 28
        refine (eqClo d _ y2 t2 _ HX2.out Hy2.out).mono ?_
        rintro e w12 ⟨rfl, hb⟩
        replace B := Lib.hid (below_thru B.out (Nat.le_refl _) hb)
        replace HA1 := Lib.hid (HA1.out.below hb)
        replace HA2 := Lib.hid (HA2.out.below hb)
        replace XA1 := Lib.hid (XA1.out.below hb)
        replace XA2 := Lib.hid (XA2.out.below hb)
        replace HX1 := Lib.hid (HX1.out.below hb)
        replace XX1 := Lib.hid (XX1.out.below hb)
        replace HX2 := Lib.hid (HX2.out.below hb)
        replace XX2 := Lib.hid (XX2.out.below hb)
        clear hb
        clear Hy2))
  have cXA1_0 := XA1.out.2 0
  have cXA1_1 := XA1.out.2 1
  have cXA1_2 := XA1.out.2 2
  have cXA2_0 := XA2.out.2 0
  have cXA2_1 := XA2.out.2 1
  have cXA2_2 := XA2.out.2 2
  have cXX1_0 := XX1.out.2 0
  have cXX1_1 := XX1.out.2 1
  have cXX1_2 := XX1.out.2 2
  have cXX2_0 := XX2.out.2 0
  have cXX2_1 := XX2.out.2 1
  have cXX2_2 := XX2.out.2 2
  go_wp2_with fail
  go_ret
  exact ⟨rfl, B.out⟩
end Go.Proofs.Ytajikfageppobaa
