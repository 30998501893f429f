/-
  Proved: the law FnExactEqualPlace answers true for every two of them, and leaves the memory that was there as it was.
-/
import Derived.Test.YtlpdgmgafabadaaToPlace
import Derived.Test.YtlpdgmgafabadaaHold
import Derived.Test.YtlpdgmgafabadaaPart
import Derived.Test.YtlpdgmgafabadaaSzPlace
import Derived.Test.YtlpdgmgafabadaaEqPlace
import Derived.Test.YtlpdgmgafabadaaSpecEqualPlace
import Derived.Test.YtlpdgmgafabadaaImplEqualPlace
import Derived.Deep.RegionHeld3
namespace Go.Proofs.Ytlpdgmgafabadaa
open Go.RowKit

set_option maxRecDepth 100000 in
set_option maxHeartbeats 1000000 in
theorem equalPlaceWalk (d : Nat) (v1 : Value) (t1 : Pl) (v2 : Value) (t2 : Pl) (w : World) (h1 : PlAt w d v1 t1) (h2 : PlAt w d v2 t2) :
    Calls Try.prog 7 #[v1, v2] w fun e w' => e = .returned (.bool true) ∧ Below w.heap.size w w' := by
  obtain ⟨a1s0a, a1s0n, a1s0c, a1b3, a1k4, a1s5a, a1s5n, a1s5c, rfl⟩ := pl_parts h1
  obtain ⟨a2s0a, a2s0n, a2s0c, a2b3, a2k4, a2s5a, a2s5n, a2s5c, rfl⟩ := pl_parts h2
  have B : Hid (Below w.heap.size w ((w.alloc (.cells #[.slice a1s0a a1s0n a1s0c, .bool a1b3, .int .i64 a1k4, .slice a1s5a a1s5n a1s5c] 47)).alloc (.cells #[.slice a2s0a a2s0n a2s0c, .bool a2b3, .int .i64 a2k4, .slice a2s5a a2s5n a2s5c] 47))) := ((Below.refl _ _).alloc (Nat.le_refl _) _).alloc (by simp) _
  have HA1 := Lib.hid (h1.below B.out)
  have HA2 := Lib.hid (h2.below B.out)
  have XA1 : Hid (BoxAt ((w.alloc (.cells #[.slice a1s0a a1s0n a1s0c, .bool a1b3, .int .i64 a1k4, .slice a1s5a a1s5n a1s5c] 47)).alloc (.cells #[.slice a2s0a a2s0n a2s0c, .bool a2b3, .int .i64 a2k4, .slice a2s5a a2s5n a2s5c] 47)) (w.heap.size) #[.slice a1s0a a1s0n a1s0c, .bool a1b3, .int .i64 a1k4, .slice a1s5a a1s5n a1s5c]) := (BoxAt.new _ _ _).below (below_alloc _ _)
  have XA2 : Hid (BoxAt ((w.alloc (.cells #[.slice a1s0a a1s0n a1s0c, .bool a1b3, .int .i64 a1k4, .slice a1s5a a1s5n a1s5c] 47)).alloc (.cells #[.slice a2s0a a2s0n a2s0c, .bool a2b3, .int .i64 a2k4, .slice a2s5a a2s5n a2s5c] 47)) (w.heap.size + 1) #[.slice a2s0a a2s0n a2s0c, .bool a2b3, .int .i64 a2k4, .slice a2s5a a2s5n a2s5c]) := by
    have := BoxAt.new (w.alloc (.cells #[.slice a1s0a a1s0n a1s0c, .bool a1b3, .int .i64 a1k4, .slice a1s5a a1s5n a1s5c] 47)) #[.slice a2s0a a2s0n a2s0c, .bool a2b3, .int .i64 a2k4, .slice a2s5a a2s5n a2s5c] 47
    rw [show (w.alloc (.cells #[.slice a1s0a a1s0n a1s0c, .bool a1b3, .int .i64 a1k4, .slice a1s5a a1s5n a1s5c] 47)).heap.size = w.heap.size + 1 from by simp] at this
    exact this
  clear h1 h2
  go_enter Try.func7, Try.ntmps7
  go_wp2_with fail
  refine (szPlace d _ t1 1048576 _ (by omega) (by omega) HA1.out).mono ?_
  rintro e w1 ⟨r1, rfl, hb, hr1⟩
  replace B := Lib.hid (below_thru B.out (Nat.le_refl _) hb)
  replace HA1 := Lib.hid (HA1.out.below hb)
  replace HA2 := Lib.hid (HA2.out.below hb)
  replace XA1 := Lib.hid (XA1.out.below hb)
  replace XA2 := Lib.hid (XA2.out.below hb)
  clear hb
  rcases hr1 with ⟨hr1, hs1⟩ | ⟨hr1, hs1⟩
  · go_wp2_with fail
    go_ret
    exact ⟨rfl, B.out⟩
  have hq1 : r1 ≤ 1048576 := by omega
  have hn1 : t1.bulk ≤ 1048576 := by omega
  have cXA1_0 := XA1.out.2 0
  have cXA1_1 := XA1.out.2 1
  have cXA1_2 := XA1.out.2 2
  have cXA1_3 := XA1.out.2 3
  have cXA2_0 := XA2.out.2 0
  have cXA2_1 := XA2.out.2 1
  have cXA2_2 := XA2.out.2 2
  have cXA2_3 := XA2.out.2 3
  go_wp2_with fail
  clear cXA1_0 cXA1_1 cXA1_2 cXA1_3 cXA2_0 cXA2_1 cXA2_2 cXA2_3
  refine (szPlace d _ t2 r1 _ hr1 hq1 HA2.out).mono ?_
  rintro e w2 ⟨r2, rfl, hb, hr2⟩
  replace B := Lib.hid (below_thru B.out (Nat.le_refl _) hb)
  replace HA1 := Lib.hid (HA1.out.below hb)
  replace HA2 := Lib.hid (HA2.out.below hb)
  replace XA1 := Lib.hid (XA1.out.below hb)
  replace XA2 := Lib.hid (XA2.out.below hb)
  clear hb
  rcases hr2 with ⟨hr2, hs2⟩ | ⟨hr2, hs2⟩
  · go_wp2_with fail
    go_ret
    exact ⟨rfl, B.out⟩
  have hq2 : r2 ≤ 1048576 := by omega
  have hn2 : t2.bulk ≤ 1048576 := by omega
  clear hs1 hs2
  have cXA1_0 := XA1.out.2 0
  have cXA1_1 := XA1.out.2 1
  have cXA1_2 := XA1.out.2 2
  have cXA1_3 := XA1.out.2 3
  have cXA2_0 := XA2.out.2 0
  have cXA2_1 := XA2.out.2 1
  have cXA2_2 := XA2.out.2 2
  have cXA2_3 := XA2.out.2 3
  go_wp2_with fail
  clear cXA1_0 cXA1_1 cXA1_2 cXA1_3 cXA2_0 cXA2_1 cXA2_2 cXA2_3
  have hb := below_drew w2
  replace B := Lib.hid (below_thru B.out (Nat.le_refl _) hb)
  replace HA1 := Lib.hid (HA1.out.below hb)
  replace HA2 := Lib.hid (HA2.out.below hb)
  replace XA1 := Lib.hid (XA1.out.below hb)
  replace XA2 := Lib.hid (XA2.out.below hb)
  clear hb
  go_region_held3 (fun w' => w'.cell? ⟨w.heap.size, 0, none⟩ = some (.slice a1s0a a1s0n a1s0c) ∧ w'.cell? ⟨w.heap.size, 1, none⟩ = some (.bool a1b3) ∧ w'.cell? ⟨w.heap.size, 2, none⟩ = some (.int .i64 a1k4) ∧ w'.cell? ⟨w.heap.size, 3, none⟩ = some (.slice a1s5a a1s5n a1s5c) ∧ w'.cell? ⟨w.heap.size + 1, 0, none⟩ = some (.slice a2s0a a2s0n a2s0c) ∧ w'.cell? ⟨w.heap.size + 1, 1, none⟩ = some (.bool a2b3) ∧ w'.cell? ⟨w.heap.size + 1, 2, none⟩ = some (.int .i64 a2k4) ∧ w'.cell? ⟨w.heap.size + 1, 3, none⟩ = some (.slice a2s5a a2s5n a2s5c)) (exact ⟨XA1.out.2 0, XA1.out.2 1, XA1.out.2 2, XA1.out.2 3, XA2.out.2 0, XA2.out.2 1, XA2.out.2 2, XA2.out.2 3⟩)
    (first
     | (go_at_call_of 30 (Value.agg #[Value.slice a1s0a a1s0n a1s0c, Value.bool a1b3, Value.int IntKind.i64 a1k4, Value.slice a1s5a a1s5n a1s5c])
        refine (toPlace d _ t1 _ hn1 HA1.out).mono ?_
        rintro e w3 ⟨s1, rfl, ht, hb⟩
        replace B := Lib.hid (below_thru B.out (Nat.le_refl _) hb)
        replace HA1 := Lib.hid (HA1.out.below hb)
        replace HA2 := Lib.hid (HA2.out.below hb)
        replace XA1 := Lib.hid (XA1.out.below hb)
        replace XA2 := Lib.hid (XA2.out.below hb)
        clear hb
        have Hs1 := Lib.hid ht
        clear ht)
     | (go_at_call_of 30 (Value.agg #[Value.slice a2s0a a2s0n a2s0c, Value.bool a2b3, Value.int IntKind.i64 a2k4, Value.slice a2s5a a2s5n a2s5c])
        refine (toPlace d _ t2 _ hn2 HA2.out).mono ?_
        rintro e w4 ⟨s2, rfl, ht, hb⟩
        replace B := Lib.hid (below_thru B.out (Nat.le_refl _) hb)
        replace HA1 := Lib.hid (HA1.out.below hb)
        replace HA2 := Lib.hid (HA2.out.below hb)
        replace XA1 := Lib.hid (XA1.out.below hb)
        replace XA2 := Lib.hid (XA2.out.below hb)
        replace Hs1 := Lib.hid (Hs1.out.below hb)
        clear hb
        have Hs2 := Lib.hid ht
        clear ht)
     | (go_at_call 29
        refine (specEqualPlace d s1 s2 t1 t2 _ Hs1.out Hs2.out).mono ?_
        rintro e w5 ⟨rfl, hb⟩
        replace B := Lib.hid (below_thru B.out (Nat.le_refl _) hb)
        replace HA1 := Lib.hid (HA1.out.below hb)
        replace HA2 := Lib.hid (HA2.out.below hb)
        replace XA1 := Lib.hid (XA1.out.below hb)
        replace XA2 := Lib.hid (XA2.out.below hb)
        clear hb
        clear Hs1 Hs2))
  have cXA1_0 := XA1.out.2 0
  have cXA1_1 := XA1.out.2 1
  have cXA1_2 := XA1.out.2 2
  have cXA1_3 := XA1.out.2 3
  have cXA2_0 := XA2.out.2 0
  have cXA2_1 := XA2.out.2 1
  have cXA2_2 := XA2.out.2 2
  have cXA2_3 := XA2.out.2 3
  go_wp2_with fail
  clear cXA1_0 cXA1_1 cXA1_2 cXA1_3 cXA2_0 cXA2_1 cXA2_2 cXA2_3
  refine (toPlace d _ t1 _ hn1 HA1.out).mono ?_
  rintro e w6 ⟨x1, rfl, ht, hb⟩
  replace B := Lib.hid (below_thru B.out (Nat.le_refl _) hb)
  replace HA1 := Lib.hid (HA1.out.below hb)
  replace HA2 := Lib.hid (HA2.out.below hb)
  replace XA1 := Lib.hid (XA1.out.below hb)
  replace XA2 := Lib.hid (XA2.out.below hb)
  clear hb
  obtain ⟨x1s0a, x1s0n, x1s0c, x1b3, x1k4, x1s5a, x1s5n, x1s5c, rfl⟩ := pl_parts ht
  have HX1 := Lib.hid ht
  clear ht
  have XX1 : Hid (BoxAt (w6.alloc (.cells #[.slice x1s0a x1s0n x1s0c, .bool x1b3, .int .i64 x1k4, .slice x1s5a x1s5n x1s5c] 51)) w6.heap.size #[.slice x1s0a x1s0n x1s0c, .bool x1b3, .int .i64 x1k4, .slice x1s5a x1s5n x1s5c]) := BoxAt.new _ _ _
  have hb := below_alloc w6 (.cells #[.slice x1s0a x1s0n x1s0c, .bool x1b3, .int .i64 x1k4, .slice x1s5a x1s5n x1s5c] 51)
  replace B := Lib.hid (below_thru B.out (Nat.le_refl _) hb)
  replace HA1 := Lib.hid (HA1.out.below hb)
  replace HA2 := Lib.hid (HA2.out.below hb)
  replace XA1 := Lib.hid (XA1.out.below hb)
  replace XA2 := Lib.hid (XA2.out.below hb)
  replace HX1 := Lib.hid (HX1.out.below hb)
  clear hb
  have cXA1_0 := XA1.out.2 0
  have cXA1_1 := XA1.out.2 1
  have cXA1_2 := XA1.out.2 2
  have cXA1_3 := XA1.out.2 3
  have cXA2_0 := XA2.out.2 0
  have cXA2_1 := XA2.out.2 1
  have cXA2_2 := XA2.out.2 2
  have cXA2_3 := XA2.out.2 3
  have cXX1_0 := XX1.out.2 0
  have cXX1_1 := XX1.out.2 1
  have cXX1_2 := XX1.out.2 2
  have cXX1_3 := XX1.out.2 3
  go_wp2_with fail
  clear cXA1_0 cXA1_1 cXA1_2 cXA1_3 cXA2_0 cXA2_1 cXA2_2 cXA2_3 cXX1_0 cXX1_1 cXX1_2 cXX1_3
  refine (toPlace d _ t2 _ hn2 HA2.out).mono ?_
  rintro e w7 ⟨x2, rfl, ht, hb⟩
  replace B := Lib.hid (below_thru B.out (Nat.le_refl _) hb)
  replace HA1 := Lib.hid (HA1.out.below hb)
  replace HA2 := Lib.hid (HA2.out.below hb)
  replace XA1 := Lib.hid (XA1.out.below hb)
  replace XA2 := Lib.hid (XA2.out.below hb)
  replace HX1 := Lib.hid (HX1.out.below hb)
  replace XX1 := Lib.hid (XX1.out.below hb)
  clear hb
  obtain ⟨x2s0a, x2s0n, x2s0c, x2b3, x2k4, x2s5a, x2s5n, x2s5c, rfl⟩ := pl_parts ht
  have HX2 := Lib.hid ht
  clear ht
  have XX2 : Hid (BoxAt (w7.alloc (.cells #[.slice x2s0a x2s0n x2s0c, .bool x2b3, .int .i64 x2k4, .slice x2s5a x2s5n x2s5c] 51)) w7.heap.size #[.slice x2s0a x2s0n x2s0c, .bool x2b3, .int .i64 x2k4, .slice x2s5a x2s5n x2s5c]) := BoxAt.new _ _ _
  have hb := below_alloc w7 (.cells #[.slice x2s0a x2s0n x2s0c, .bool x2b3, .int .i64 x2k4, .slice x2s5a x2s5n x2s5c] 51)
  replace B := Lib.hid (below_thru B.out (Nat.le_refl _) hb)
  replace HA1 := Lib.hid (HA1.out.below hb)
  replace HA2 := Lib.hid (HA2.out.below hb)
  replace XA1 := Lib.hid (XA1.out.below hb)
  replace XA2 := Lib.hid (XA2.out.below hb)
  replace HX1 := Lib.hid (HX1.out.below hb)
  replace XX1 := Lib.hid (XX1.out.below hb)
  replace HX2 := Lib.hid (HX2.out.below hb)
  clear hb
  have cXA1_0 := XA1.out.2 0
  have cXA1_1 := XA1.out.2 1
  have cXA1_2 := XA1.out.2 2
  have cXA1_3 := XA1.out.2 3
  have cXA2_0 := XA2.out.2 0
  have cXA2_1 := XA2.out.2 1
  have cXA2_2 := XA2.out.2 2
  have cXA2_3 := XA2.out.2 3
  have cXX1_0 := XX1.out.2 0
  have cXX1_1 := XX1.out.2 1
  have cXX1_2 := XX1.out.2 2
  have cXX1_3 := XX1.out.2 3
  have cXX2_0 := XX2.out.2 0
  have cXX2_1 := XX2.out.2 1
  have cXX2_2 := XX2.out.2 2
  have cXX2_3 := XX2.out.2 3
  go_wp2_with fail
  clear cXA1_0 cXA1_1 cXA1_2 cXA1_3 cXA2_0 cXA2_1 cXA2_2 cXA2_3 cXX1_0 cXX1_1 cXX1_2 cXX1_3 cXX2_0 cXX2_1 cXX2_2 cXX2_3
  refine (implEqualPlace d _ _ t1 t2 _ HX1.out HX2.out).mono ?_
  rintro e w8 ⟨rfl, hb⟩
  replace B := Lib.hid (below_thru B.out (Nat.le_refl _) hb)
  replace HA1 := Lib.hid (HA1.out.below hb)
  replace HA2 := Lib.hid (HA2.out.below hb)
  replace XA1 := Lib.hid (XA1.out.below hb)
  replace XA2 := Lib.hid (XA2.out.below hb)
  replace HX1 := Lib.hid (HX1.out.below hb)
  replace XX1 := Lib.hid (XX1.out.below hb)
  replace HX2 := Lib.hid (HX2.out.below hb)
  replace XX2 := Lib.hid (XX2.out.below hb)
  clear hb
  have cXA1_0 := XA1.out.2 0
  have cXA1_1 := XA1.out.2 1
  have cXA1_2 := XA1.out.2 2
  have cXA1_3 := XA1.out.2 3
  have cXA2_0 := XA2.out.2 0
  have cXA2_1 := XA2.out.2 1
  have cXA2_2 := XA2.out.2 2
  have cXA2_3 := XA2.out.2 3
  have cXX1_0 := XX1.out.2 0
  have cXX1_1 := XX1.out.2 1
  have cXX1_2 := XX1.out.2 2
  have cXX1_3 := XX1.out.2 3
  have cXX2_0 := XX2.out.2 0
  have cXX2_1 := XX2.out.2 1
  have cXX2_2 := XX2.out.2 2
  have cXX2_3 := XX2.out.2 3
  go_wp2_with fail
  clear cXA1_0 cXA1_1 cXA1_2 cXA1_3 cXA2_0 cXA2_1 cXA2_2 cXA2_3 cXX1_0 cXX1_1 cXX1_2 cXX1_3 cXX2_0 cXX2_1 cXX2_2 cXX2_3
  have hb := below_drew w8
  replace B := Lib.hid (below_thru B.out (Nat.le_refl _) hb)
  replace HA1 := Lib.hid (HA1.out.below hb)
  replace HA2 := Lib.hid (HA2.out.below hb)
  replace XA1 := Lib.hid (XA1.out.below hb)
  replace XA2 := Lib.hid (XA2.out.below hb)
  replace HX1 := Lib.hid (HX1.out.below hb)
  replace XX1 := Lib.hid (XX1.out.below hb)
  replace HX2 := Lib.hid (HX2.out.below hb)
  replace XX2 := Lib.hid (XX2.out.below hb)
  clear hb
  go_region_held3 (fun w' => w'.cell? ⟨w.heap.size, 0, none⟩ = some (.slice a1s0a a1s0n a1s0c) ∧ w'.cell? ⟨w.heap.size, 1, none⟩ = some (.bool a1b3) ∧ w'.cell? ⟨w.heap.size, 2, none⟩ = some (.int .i64 a1k4) ∧ w'.cell? ⟨w.heap.size, 3, none⟩ = some (.slice a1s5a a1s5n a1s5c) ∧ w'.cell? ⟨w.heap.size + 1, 0, none⟩ = some (.slice a2s0a a2s0n a2s0c) ∧ w'.cell? ⟨w.heap.size + 1, 1, none⟩ = some (.bool a2b3) ∧ w'.cell? ⟨w.heap.size + 1, 2, none⟩ = some (.int .i64 a2k4) ∧ w'.cell? ⟨w.heap.size + 1, 3, none⟩ = some (.slice a2s5a a2s5n a2s5c) ∧ w'.cell? ⟨w6.heap.size, 0, none⟩ = some (.slice x1s0a x1s0n x1s0c) ∧ w'.cell? ⟨w6.heap.size, 1, none⟩ = some (.bool x1b3) ∧ w'.cell? ⟨w6.heap.size, 2, none⟩ = some (.int .i64 x1k4) ∧ w'.cell? ⟨w6.heap.size, 3, none⟩ = some (.slice x1s5a x1s5n x1s5c) ∧ w'.cell? ⟨w7.heap.size, 0, none⟩ = some (.slice x2s0a x2s0n x2s0c) ∧ w'.cell? ⟨w7.heap.size, 1, none⟩ = some (.bool x2b3) ∧ w'.cell? ⟨w7.heap.size, 2, none⟩ = some (.int .i64 x2k4) ∧ w'.cell? ⟨w7.heap.size, 3, none⟩ = some (.slice x2s5a x2s5n x2s5c)) (exact ⟨XA1.out.2 0, XA1.out.2 1, XA1.out.2 2, XA1.out.2 3, XA2.out.2 0, XA2.out.2 1, XA2.out.2 2, XA2.out.2 3, XX1.out.2 0, XX1.out.2 1, XX1.out.2 2, XX1.out.2 3, XX2.out.2 0, XX2.out.2 1, XX2.out.2 2, XX2.out.2 3⟩)
    (first
     | (go_at_call_of 30 (Value.agg #[Value.slice a1s0a a1s0n a1s0c, Value.bool a1b3, Value.int IntKind.i64 a1k4, Value.slice a1s5a a1s5n a1s5c])
        refine (toPlace d _ t1 _ hn1 HA1.out).mono ?_
        rintro e w9 ⟨y1, rfl, ht, hb⟩
        replace B := Lib.hid (below_thru B.out (Nat.le_refl _) hb)
        replace HA1 := Lib.hid (HA1.out.below hb)
        replace HA2 := Lib.hid (HA2.out.below hb)
        replace XA1 := Lib.hid (XA1.out.below hb)
        replace XA2 := Lib.hid (XA2.out.below hb)
        replace HX1 := Lib.hid (HX1.out.below hb)
        replace XX1 := Lib.hid (XX1.out.below hb)
        replace HX2 := Lib.hid (HX2.out.below hb)
        replace XX2 := Lib.hid (XX2.out.below hb)
        clear hb
        have Hy1 := Lib.hid ht
        clear ht)
     | (go_at_call 32
        refine (eqPlace d _ y1 t1 _ HX1.out Hy1.out).mono ?_
        rintro e w10 ⟨rfl, hb⟩
        replace B := Lib.hid (below_thru B.out (Nat.le_refl _) hb)
        replace HA1 := Lib.hid (HA1.out.below hb)
        replace HA2 := Lib.hid (HA2.out.below hb)
        replace XA1 := Lib.hid (XA1.out.below hb)
        replace XA2 := Lib.hid (XA2.out.below hb)
        replace HX1 := Lib.hid (HX1.out.below hb)
        replace XX1 := Lib.hid (XX1.out.below hb)
        replace HX2 := Lib.hid (HX2.out.below hb)
        replace XX2 := Lib.hid (XX2.out.below hb)
        clear hb
        clear Hy1))
  have cXA1_0 := XA1.out.2 0
  have cXA1_1 := XA1.out.2 1
  have cXA1_2 := XA1.out.2 2
  have cXA1_3 := XA1.out.2 3
  have cXA2_0 := XA2.out.2 0
  have cXA2_1 := XA2.out.2 1
  have cXA2_2 := XA2.out.2 2
  have cXA2_3 := XA2.out.2 3
  have cXX1_0 := XX1.out.2 0
  have cXX1_1 := XX1.out.2 1
  have cXX1_2 := XX1.out.2 2
  have cXX1_3 := XX1.out.2 3
  have cXX2_0 := XX2.out.2 0
  have cXX2_1 := XX2.out.2 1
  have cXX2_2 := XX2.out.2 2
  have cXX2_3 := XX2.out.2 3
  go_wp2_with fail
  clear cXA1_0 cXA1_1 cXA1_2 cXA1_3 cXA2_0 cXA2_1 cXA2_2 cXA2_3 cXX1_0 cXX1_1 cXX1_2 cXX1_3 cXX2_0 cXX2_1 cXX2_2 cXX2_3
  have hb := below_drew w10
  replace B := Lib.hid (below_thru B.out (Nat.le_refl _) hb)
  replace HA1 := Lib.hid (HA1.out.below hb)
  replace HA2 := Lib.hid (HA2.out.below hb)
  replace XA1 := Lib.hid (XA1.out.below hb)
  replace XA2 := Lib.hid (XA2.out.below hb)
  replace HX1 := Lib.hid (HX1.out.below hb)
  replace XX1 := Lib.hid (XX1.out.below hb)
  replace HX2 := Lib.hid (HX2.out.below hb)
  replace XX2 := Lib.hid (XX2.out.below hb)
  clear hb
  go_region_held3 (fun w' => w'.cell? ⟨w.heap.size, 0, none⟩ = some (.slice a1s0a a1s0n a1s0c) ∧ w'.cell? ⟨w.heap.size, 1, none⟩ = some (.bool a1b3) ∧ w'.cell? ⟨w.heap.size, 2, none⟩ = some (.int .i64 a1k4) ∧ w'.cell? ⟨w.heap.size, 3, none⟩ = some (.slice a1s5a a1s5n a1s5c) ∧ w'.cell? ⟨w.heap.size + 1, 0, none⟩ = some (.slice a2s0a a2s0n a2s0c) ∧ w'.cell? ⟨w.heap.size + 1, 1, none⟩ = some (.bool a2b3) ∧ w'.cell? ⟨w.heap.size + 1, 2, none⟩ = some (.int .i64 a2k4) ∧ w'.cell? ⟨w.heap.size + 1, 3, none⟩ = some (.slice a2s5a a2s5n a2s5c) ∧ w'.cell? ⟨w6.heap.size, 0, none⟩ = some (.slice x1s0a x1s0n x1s0c) ∧ w'.cell? ⟨w6.heap.size, 1, none⟩ = some (.bool x1b3) ∧ w'.cell? ⟨w6.heap.size, 2, none⟩ = some (.int .i64 x1k4) ∧ w'.cell? ⟨w6.heap.size, 3, none⟩ = some (.slice x1s5a x1s5n x1s5c) ∧ w'.cell? ⟨w7.heap.size, 0, none⟩ = some (.slice x2s0a x2s0n x2s0c) ∧ w'.cell? ⟨w7.heap.size, 1, none⟩ = some (.bool x2b3) ∧ w'.cell? ⟨w7.heap.size, 2, none⟩ = some (.int .i64 x2k4) ∧ w'.cell? ⟨w7.heap.size, 3, none⟩ = some (.slice x2s5a x2s5n x2s5c)) (exact ⟨XA1.out.2 0, XA1.out.2 1, XA1.out.2 2, XA1.out.2 3, XA2.out.2 0, XA2.out.2 1, XA2.out.2 2, XA2.out.2 3, XX1.out.2 0, XX1.out.2 1, XX1.out.2 2, XX1.out.2 3, XX2.out.2 0, XX2.out.2 1, XX2.out.2 2, XX2.out.2 3⟩)
    (first
     | (go_at_call_of 30 (Value.agg #[Value.slice a2s0a a2s0n a2s0c, Value.bool a2b3, Value.int IntKind.i64 a2k4, Value.slice a2s5a a2s5n a2s5c])
        refine (toPlace d _ t2 _ hn2 HA2.out).mono ?_
        rintro e w11 ⟨y2, rfl, ht, hb⟩
        replace B := Lib.hid (below_thru B.out (Nat.le_refl _) hb)
        replace HA1 := Lib.hid (HA1.out.below hb)
        replace HA2 := Lib.hid (HA2.out.below hb)
        replace XA1 := Lib.hid (XA1.out.below hb)
        replace XA2 := Lib.hid (XA2.out.below hb)
        replace HX1 := Lib.hid (HX1.out.below hb)
        replace XX1 := Lib.hid (XX1.out.below hb)
        replace HX2 := Lib.hid (HX2.out.below hb)
        replace XX2 := Lib.hid (XX2.out.below hb)
        clear hb
        have Hy2 := Lib.hid ht
        clear ht)
     | (go_at_call 32
        refine (eqPlace d _ y2 t2 _ HX2.out Hy2.out).mono ?_
        rintro e w12 ⟨rfl, hb⟩
        replace B := Lib.hid (below_thru B.out (Nat.le_refl _) hb)
        replace HA1 := Lib.hid (HA1.out.below hb)
        replace HA2 := Lib.hid (HA2.out.below hb)
        replace XA1 := Lib.hid (XA1.out.below hb)
        replace XA2 := Lib.hid (XA2.out.below hb)
        replace HX1 := Lib.hid (HX1.out.below hb)
        replace XX1 := Lib.hid (XX1.out.below hb)
        replace HX2 := Lib.hid (HX2.out.below hb)
        replace XX2 := Lib.hid (XX2.out.below hb)
        clear hb
        clear Hy2))
  have cXA1_0 := XA1.out.2 0
  have cXA1_1 := XA1.out.2 1
  have cXA1_2 := XA1.out.2 2
  have cXA1_3 := XA1.out.2 3
  have cXA2_0 := XA2.out.2 0
  have cXA2_1 := XA2.out.2 1
  have cXA2_2 := XA2.out.2 2
  have cXA2_3 := XA2.out.2 3
  have cXX1_0 := XX1.out.2 0
  have cXX1_1 := XX1.out.2 1
  have cXX1_2 := XX1.out.2 2
  have cXX1_3 := XX1.out.2 3
  have cXX2_0 := XX2.out.2 0
  have cXX2_1 := XX2.out.2 1
  have cXX2_2 := XX2.out.2 2
  have cXX2_3 := XX2.out.2 3
  go_wp2_with fail
  go_ret
  exact ⟨rfl, B.out⟩
end Go.Proofs.Ytlpdgmgafabadaa
