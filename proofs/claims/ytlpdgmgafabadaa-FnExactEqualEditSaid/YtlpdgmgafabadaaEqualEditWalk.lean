/-
  Proved: the law FnExactEqualEdit answers true for every two of them, and leaves the memory that was there as it was.
-/
import Derived.Test.YtlpdgmgafabadaaToEdit
import Derived.Test.YtlpdgmgafabadaaHold
import Derived.Test.YtlpdgmgafabadaaPart
import Derived.Test.YtlpdgmgafabadaaSzEdit
import Derived.Test.YtlpdgmgafabadaaEqEdit
import Derived.Test.YtlpdgmgafabadaaSpecEqualEdit
import Derived.Test.YtlpdgmgafabadaaImplEqualEdit
import Derived.Deep.RegionHeld3
namespace Go.Proofs.Ytlpdgmgafabadaa
open Go.RowKit

set_option maxRecDepth 100000 in
set_option maxHeartbeats 1000000 in
theorem equalEditWalk (d : Nat) (v1 : Value) (t1 : Edi) (v2 : Value) (t2 : Edi) (w : World) (h1 : EditAt w d v1 t1) (h2 : EditAt w d v2 t2) :
    Calls Try.prog 9 #[v1, v2] w fun e w' => e = .returned (.bool true) ∧ Below w.heap.size w w' := by
  obtain ⟨a1k0, a1m1, a1k2, a1k3, a1s4a, a1s4n, a1s4c, a1s7a, a1s7n, a1s7c, a1s10a, a1s10n, a1s10c, rfl⟩ := edit_parts h1
  obtain ⟨a2k0, a2m1, a2k2, a2k3, a2s4a, a2s4n, a2s4c, a2s7a, a2s7n, a2s7c, a2s10a, a2s10n, a2s10c, rfl⟩ := edit_parts h2
  have B : Hid (Below w.heap.size w ((w.alloc (.cells #[.int .i64 a1k0, .string a1m1, .int .i64 a1k2, .int .i64 a1k3, .slice a1s4a a1s4n a1s4c, .slice a1s7a a1s7n a1s7c, .slice a1s10a a1s10n a1s10c] 68)).alloc (.cells #[.int .i64 a2k0, .string a2m1, .int .i64 a2k2, .int .i64 a2k3, .slice a2s4a a2s4n a2s4c, .slice a2s7a a2s7n a2s7c, .slice a2s10a a2s10n a2s10c] 68))) := ((Below.refl _ _).alloc (Nat.le_refl _) _).alloc (by simp) _
  have HA1 := Lib.hid (h1.below B.out)
  have HA2 := Lib.hid (h2.below B.out)
  have XA1 : Hid (BoxAt ((w.alloc (.cells #[.int .i64 a1k0, .string a1m1, .int .i64 a1k2, .int .i64 a1k3, .slice a1s4a a1s4n a1s4c, .slice a1s7a a1s7n a1s7c, .slice a1s10a a1s10n a1s10c] 68)).alloc (.cells #[.int .i64 a2k0, .string a2m1, .int .i64 a2k2, .int .i64 a2k3, .slice a2s4a a2s4n a2s4c, .slice a2s7a a2s7n a2s7c, .slice a2s10a a2s10n a2s10c] 68)) (w.heap.size) #[.int .i64 a1k0, .string a1m1, .int .i64 a1k2, .int .i64 a1k3, .slice a1s4a a1s4n a1s4c, .slice a1s7a a1s7n a1s7c, .slice a1s10a a1s10n a1s10c]) := (BoxAt.new _ _ _).below (below_alloc _ _)
  have XA2 : Hid (BoxAt ((w.alloc (.cells #[.int .i64 a1k0, .string a1m1, .int .i64 a1k2, .int .i64 a1k3, .slice a1s4a a1s4n a1s4c, .slice a1s7a a1s7n a1s7c, .slice a1s10a a1s10n a1s10c] 68)).alloc (.cells #[.int .i64 a2k0, .string a2m1, .int .i64 a2k2, .int .i64 a2k3, .slice a2s4a a2s4n a2s4c, .slice a2s7a a2s7n a2s7c, .slice a2s10a a2s10n a2s10c] 68)) (w.heap.size + 1) #[.int .i64 a2k0, .string a2m1, .int .i64 a2k2, .int .i64 a2k3, .slice a2s4a a2s4n a2s4c, .slice a2s7a a2s7n a2s7c, .slice a2s10a a2s10n a2s10c]) := by
    have := BoxAt.new (w.alloc (.cells #[.int .i64 a1k0, .string a1m1, .int .i64 a1k2, .int .i64 a1k3, .slice a1s4a a1s4n a1s4c, .slice a1s7a a1s7n a1s7c, .slice a1s10a a1s10n a1s10c] 68)) #[.int .i64 a2k0, .string a2m1, .int .i64 a2k2, .int .i64 a2k3, .slice a2s4a a2s4n a2s4c, .slice a2s7a a2s7n a2s7c, .slice a2s10a a2s10n a2s10c] 68
    rw [show (w.alloc (.cells #[.int .i64 a1k0, .string a1m1, .int .i64 a1k2, .int .i64 a1k3, .slice a1s4a a1s4n a1s4c, .slice a1s7a a1s7n a1s7c, .slice a1s10a a1s10n a1s10c] 68)).heap.size = w.heap.size + 1 from by simp] at this
    exact this
  clear h1 h2
  go_enter Try.func9, Try.ntmps9
  go_wp2_with fail
  refine (szEdit d _ t1 1048576 _ (by omega) (by omega) HA1.out).mono ?_
  rintro e w1 ⟨r1, rfl, hb, hr1⟩
  replace B := Lib.hid (below_thru B.out (Nat.le_refl _) hb)
  replace HA1 := Lib.hid (HA1.out.below hb)
  replace HA2 := Lib.hid (HA2.out.below hb)
  replace XA1 := Lib.hid (XA1.out.below hb)
  replace XA2 := Lib.hid (XA2.out.below hb)
  clear hb
  rcases hr1 with ⟨hr1, hs1⟩ | ⟨hr1, hs1⟩
  · go_wp2_with fail
    go_ret
    exact ⟨rfl, B.out⟩
  have hq1 : r1 ≤ 1048576 := by omega
  have hn1 : t1.bulk ≤ 1048576 := by omega
  have cXA1_0 := XA1.out.2 0
  have cXA1_1 := XA1.out.2 1
  have cXA1_2 := XA1.out.2 2
  have cXA1_3 := XA1.out.2 3
  have cXA1_4 := XA1.out.2 4
  have cXA1_5 := XA1.out.2 5
  have cXA1_6 := XA1.out.2 6
  have cXA2_0 := XA2.out.2 0
  have cXA2_1 := XA2.out.2 1
  have cXA2_2 := XA2.out.2 2
  have cXA2_3 := XA2.out.2 3
  have cXA2_4 := XA2.out.2 4
  have cXA2_5 := XA2.out.2 5
  have cXA2_6 := XA2.out.2 6
  go_wp2_with fail
  clear cXA1_0 cXA1_1 cXA1_2 cXA1_3 cXA1_4 cXA1_5 cXA1_6 cXA2_0 cXA2_1 cXA2_2 cXA2_3 cXA2_4 cXA2_5 cXA2_6
  refine (szEdit d _ t2 r1 _ hr1 hq1 HA2.out).mono ?_
  rintro e w2 ⟨r2, rfl, hb, hr2⟩
  replace B := Lib.hid (below_thru B.out (Nat.le_refl _) hb)
  replace HA1 := Lib.hid (HA1.out.below hb)
  replace HA2 := Lib.hid (HA2.out.below hb)
  replace XA1 := Lib.hid (XA1.out.below hb)
  replace XA2 := Lib.hid (XA2.out.below hb)
  clear hb
  rcases hr2 with ⟨hr2, hs2⟩ | ⟨hr2, hs2⟩
  · go_wp2_with fail
    go_ret
    exact ⟨rfl, B.out⟩
  have hq2 : r2 ≤ 1048576 := by omega
  have hn2 : t2.bulk ≤ 1048576 := by omega
  clear hs1 hs2
  have cXA1_0 := XA1.out.2 0
  have cXA1_1 := XA1.out.2 1
  have cXA1_2 := XA1.out.2 2
  have cXA1_3 := XA1.out.2 3
  have cXA1_4 := XA1.out.2 4
  have cXA1_5 := XA1.out.2 5
  have cXA1_6 := XA1.out.2 6
  have cXA2_0 := XA2.out.2 0
  have cXA2_1 := XA2.out.2 1
  have cXA2_2 := XA2.out.2 2
  have cXA2_3 := XA2.out.2 3
  have cXA2_4 := XA2.out.2 4
  have cXA2_5 := XA2.out.2 5
  have cXA2_6 := XA2.out.2 6
  go_wp2_with fail
  clear cXA1_0 cXA1_1 cXA1_2 cXA1_3 cXA1_4 cXA1_5 cXA1_6 cXA2_0 cXA2_1 cXA2_2 cXA2_3 cXA2_4 cXA2_5 cXA2_6
  have hb := below_drew w2
  replace B := Lib.hid (below_thru B.out (Nat.le_refl _) hb)
  replace HA1 := Lib.hid (HA1.out.below hb)
  replace HA2 := Lib.hid (HA2.out.below hb)
  replace XA1 := Lib.hid (XA1.out.below hb)
  replace XA2 := Lib.hid (XA2.out.below hb)
  clear hb
  go_region_held3 (fun w' => w'.cell? ⟨w.heap.size, 0, none⟩ = some (.int .i64 a1k0) ∧ w'.cell? ⟨w.heap.size, 1, none⟩ = some (.string a1m1) ∧ w'.cell? ⟨w.heap.size, 2, none⟩ = some (.int .i64 a1k2) ∧ w'.cell? ⟨w.heap.size, 3, none⟩ = some (.int .i64 a1k3) ∧ w'.cell? ⟨w.heap.size, 4, none⟩ = some (.slice a1s4a a1s4n a1s4c) ∧ w'.cell? ⟨w.heap.size, 5, none⟩ = some (.slice a1s7a a1s7n a1s7c) ∧ w'.cell? ⟨w.heap.size, 6, none⟩ = some (.slice a1s10a a1s10n a1s10c) ∧ w'.cell? ⟨w.heap.size + 1, 0, none⟩ = some (.int .i64 a2k0) ∧ w'.cell? ⟨w.heap.size + 1, 1, none⟩ = some (.string a2m1) ∧ w'.cell? ⟨w.heap.size + 1, 2, none⟩ = some (.int .i64 a2k2) ∧ w'.cell? ⟨w.heap.size + 1, 3, none⟩ = some (.int .i64 a2k3) ∧ w'.cell? ⟨w.heap.size + 1, 4, none⟩ = some (.slice a2s4a a2s4n a2s4c) ∧ w'.cell? ⟨w.heap.size + 1, 5, none⟩ = some (.slice a2s7a a2s7n a2s7c) ∧ w'.cell? ⟨w.heap.size + 1, 6, none⟩ = some (.slice a2s10a a2s10n a2s10c)) (exact ⟨XA1.out.2 0, XA1.out.2 1, XA1.out.2 2, XA1.out.2 3, XA1.out.2 4, XA1.out.2 5, XA1.out.2 6, XA2.out.2 0, XA2.out.2 1, XA2.out.2 2, XA2.out.2 3, XA2.out.2 4, XA2.out.2 5, XA2.out.2 6⟩)
    (first
     | (go_at_call_of 40 (Value.agg #[Value.int IntKind.i64 a1k0, Value.string a1m1, Value.int IntKind.i64 a1k2, Value.int IntKind.i64 a1k3, Value.slice a1s4a a1s4n a1s4c, Value.slice a1s7a a1s7n a1s7c, Value.slice a1s10a a1s10n a1s10c])
        refine (toEdit d _ t1 _ hn1 HA1.out).mono ?_
        rintro e w3 ⟨s1, rfl, ht, hb⟩
        replace B := Lib.hid (below_thru B.out (Nat.le_refl _) hb)
        replace HA1 := Lib.hid (HA1.out.below hb)
        replace HA2 := Lib.hid (HA2.out.below hb)
        replace XA1 := Lib.hid (XA1.out.below hb)
        replace XA2 := Lib.hid (XA2.out.below hb)
        clear hb
        have Hs1 := Lib.hid ht
        clear ht)
     | (go_at_call_of 40 (Value.agg #[Value.int IntKind.i64 a2k0, Value.string a2m1, Value.int IntKind.i64 a2k2, Value.int IntKind.i64 a2k3, Value.slice a2s4a a2s4n a2s4c, Value.slice a2s7a a2s7n a2s7c, Value.slice a2s10a a2s10n a2s10c])
        refine (toEdit d _ t2 _ hn2 HA2.out).mono ?_
        rintro e w4 ⟨s2, rfl, ht, hb⟩
        replace B := Lib.hid (below_thru B.out (Nat.le_refl _) hb)
        replace HA1 := Lib.hid (HA1.out.below hb)
        replace HA2 := Lib.hid (HA2.out.below hb)
        replace XA1 := Lib.hid (XA1.out.below hb)
        replace XA2 := Lib.hid (XA2.out.below hb)
        replace Hs1 := Lib.hid (Hs1.out.below hb)
        clear hb
        have Hs2 := Lib.hid ht
        clear ht)
     | (go_at_call 39
        refine (specEqualEdit d s1 s2 t1 t2 _ Hs1.out Hs2.out hn1 hn2).mono ?_
        rintro e w5 ⟨rfl, hb⟩
        replace B := Lib.hid (below_thru B.out (Nat.le_refl _) hb)
        replace HA1 := Lib.hid (HA1.out.below hb)
        replace HA2 := Lib.hid (HA2.out.below hb)
        replace XA1 := Lib.hid (XA1.out.below hb)
        replace XA2 := Lib.hid (XA2.out.below hb)
        clear hb
        clear Hs1 Hs2))
  have cXA1_0 := XA1.out.2 0
  have cXA1_1 := XA1.out.2 1
  have cXA1_2 := XA1.out.2 2
  have cXA1_3 := XA1.out.2 3
  have cXA1_4 := XA1.out.2 4
  have cXA1_5 := XA1.out.2 5
  have cXA1_6 := XA1.out.2 6
  have cXA2_0 := XA2.out.2 0
  have cXA2_1 := XA2.out.2 1
  have cXA2_2 := XA2.out.2 2
  have cXA2_3 := XA2.out.2 3
  have cXA2_4 := XA2.out.2 4
  have cXA2_5 := XA2.out.2 5
  have cXA2_6 := XA2.out.2 6
  go_wp2_with fail
  clear cXA1_0 cXA1_1 cXA1_2 cXA1_3 cXA1_4 cXA1_5 cXA1_6 cXA2_0 cXA2_1 cXA2_2 cXA2_3 cXA2_4 cXA2_5 cXA2_6
  refine (toEdit d _ t1 _ hn1 HA1.out).mono ?_
  rintro e w6 ⟨x1, rfl, ht, hb⟩
  replace B := Lib.hid (below_thru B.out (Nat.le_refl _) hb)
  replace HA1 := Lib.hid (HA1.out.below hb)
  replace HA2 := Lib.hid (HA2.out.below hb)
  replace XA1 := Lib.hid (XA1.out.below hb)
  replace XA2 := Lib.hid (XA2.out.below hb)
  clear hb
  obtain ⟨x1k0, x1m1, x1k2, x1k3, x1s4a, x1s4n, x1s4c, x1s7a, x1s7n, x1s7c, x1s10a, x1s10n, x1s10c, rfl⟩ := edit_parts ht
  have HX1 := Lib.hid ht
  clear ht
  have XX1 : Hid (BoxAt (w6.alloc (.cells #[.int .i64 x1k0, .string x1m1, .int .i64 x1k2, .int .i64 x1k3, .slice x1s4a x1s4n x1s4c, .slice x1s7a x1s7n x1s7c, .slice x1s10a x1s10n x1s10c] 59)) w6.heap.size #[.int .i64 x1k0, .string x1m1, .int .i64 x1k2, .int .i64 x1k3, .slice x1s4a x1s4n x1s4c, .slice x1s7a x1s7n x1s7c, .slice x1s10a x1s10n x1s10c]) := BoxAt.new _ _ _
  have hb := below_alloc w6 (.cells #[.int .i64 x1k0, .string x1m1, .int .i64 x1k2, .int .i64 x1k3, .slice x1s4a x1s4n x1s4c, .slice x1s7a x1s7n x1s7c, .slice x1s10a x1s10n x1s10c] 59)
  replace B := Lib.hid (below_thru B.out (Nat.le_refl _) hb)
  replace HA1 := Lib.hid (HA1.out.below hb)
  replace HA2 := Lib.hid (HA2.out.below hb)
  replace XA1 := Lib.hid (XA1.out.below hb)
  replace XA2 := Lib.hid (XA2.out.below hb)
  replace HX1 := Lib.hid (HX1.out.below hb)
  clear hb
  have cXA1_0 := XA1.out.2 0
  have cXA1_1 := XA1.out.2 1
  have cXA1_2 := XA1.out.2 2
  have cXA1_3 := XA1.out.2 3
  have cXA1_4 := XA1.out.2 4
  have cXA1_5 := XA1.out.2 5
  have cXA1_6 := XA1.out.2 6
  have cXA2_0 := XA2.out.2 0
  have cXA2_1 := XA2.out.2 1
  have cXA2_2 := XA2.out.2 2
  have cXA2_3 := XA2.out.2 3
  have cXA2_4 := XA2.out.2 4
  have cXA2_5 := XA2.out.2 5
  have cXA2_6 := XA2.out.2 6
  have cXX1_0 := XX1.out.2 0
  have cXX1_1 := XX1.out.2 1
  have cXX1_2 := XX1.out.2 2
  have cXX1_3 := XX1.out.2 3
  have cXX1_4 := XX1.out.2 4
  have cXX1_5 := XX1.out.2 5
  have cXX1_6 := XX1.out.2 6
  go_wp2_with fail
  clear cXA1_0 cXA1_1 cXA1_2 cXA1_3 cXA1_4 cXA1_5 cXA1_6 cXA2_0 cXA2_1 cXA2_2 cXA2_3 cXA2_4 cXA2_5 cXA2_6 cXX1_0 cXX1_1 cXX1_2 cXX1_3 cXX1_4 cXX1_5 cXX1_6
  refine (toEdit d _ t2 _ hn2 HA2.out).mono ?_
  rintro e w7 ⟨x2, rfl, ht, hb⟩
  replace B := Lib.hid (below_thru B.out (Nat.le_refl _) hb)
  replace HA1 := Lib.hid (HA1.out.below hb)
  replace HA2 := Lib.hid (HA2.out.below hb)
  replace XA1 := Lib.hid (XA1.out.below hb)
  replace XA2 := Lib.hid (XA2.out.below hb)
  replace HX1 := Lib.hid (HX1.out.below hb)
  replace XX1 := Lib.hid (XX1.out.below hb)
  clear hb
  obtain ⟨x2k0, x2m1, x2k2, x2k3, x2s4a, x2s4n, x2s4c, x2s7a, x2s7n, x2s7c, x2s10a, x2s10n, x2s10c, rfl⟩ := edit_parts ht
  have HX2 := Lib.hid ht
  clear ht
  have XX2 : Hid (BoxAt (w7.alloc (.cells #[.int .i64 x2k0, .string x2m1, .int .i64 x2k2, .int .i64 x2k3, .slice x2s4a x2s4n x2s4c, .slice x2s7a x2s7n x2s7c, .slice x2s10a x2s10n x2s10c] 59)) w7.heap.size #[.int .i64 x2k0, .string x2m1, .int .i64 x2k2, .int .i64 x2k3, .slice x2s4a x2s4n x2s4c, .slice x2s7a x2s7n x2s7c, .slice x2s10a x2s10n x2s10c]) := BoxAt.new _ _ _
  have hb := below_alloc w7 (.cells #[.int .i64 x2k0, .string x2m1, .int .i64 x2k2, .int .i64 x2k3, .slice x2s4a x2s4n x2s4c, .slice x2s7a x2s7n x2s7c, .slice x2s10a x2s10n x2s10c] 59)
  replace B := Lib.hid (below_thru B.out (Nat.le_refl _) hb)
  replace HA1 := Lib.hid (HA1.out.below hb)
  replace HA2 := Lib.hid (HA2.out.below hb)
  replace XA1 := Lib.hid (XA1.out.below hb)
  replace XA2 := Lib.hid (XA2.out.below hb)
  replace HX1 := Lib.hid (HX1.out.below hb)
  replace XX1 := Lib.hid (XX1.out.below hb)
  replace HX2 := Lib.hid (HX2.out.below hb)
  clear hb
  have cXA1_0 := XA1.out.2 0
  have cXA1_1 := XA1.out.2 1
  have cXA1_2 := XA1.out.2 2
  have cXA1_3 := XA1.out.2 3
  have cXA1_4 := XA1.out.2 4
  have cXA1_5 := XA1.out.2 5
  have cXA1_6 := XA1.out.2 6
  have cXA2_0 := XA2.out.2 0
  have cXA2_1 := XA2.out.2 1
  have cXA2_2 := XA2.out.2 2
  have cXA2_3 := XA2.out.2 3
  have cXA2_4 := XA2.out.2 4
  have cXA2_5 := XA2.out.2 5
  have cXA2_6 := XA2.out.2 6
  have cXX1_0 := XX1.out.2 0
  have cXX1_1 := XX1.out.2 1
  have cXX1_2 := XX1.out.2 2
  have cXX1_3 := XX1.out.2 3
  have cXX1_4 := XX1.out.2 4
  have cXX1_5 := XX1.out.2 5
  have cXX1_6 := XX1.out.2 6
  have cXX2_0 := XX2.out.2 0
  have cXX2_1 := XX2.out.2 1
  have cXX2_2 := XX2.out.2 2
  have cXX2_3 := XX2.out.2 3
  have cXX2_4 := XX2.out.2 4
  have cXX2_5 := XX2.out.2 5
  have cXX2_6 := XX2.out.2 6
  go_wp2_with fail
  clear cXA1_0 cXA1_1 cXA1_2 cXA1_3 cXA1_4 cXA1_5 cXA1_6 cXA2_0 cXA2_1 cXA2_2 cXA2_3 cXA2_4 cXA2_5 cXA2_6 cXX1_0 cXX1_1 cXX1_2 cXX1_3 cXX1_4 cXX1_5 cXX1_6 cXX2_0 cXX2_1 cXX2_2 cXX2_3 cXX2_4 cXX2_5 cXX2_6
  refine (implEqualEdit d _ _ t1 t2 _ HX1.out HX2.out hn1 hn2).mono ?_
  rintro e w8 ⟨rfl, hb⟩
  replace B := Lib.hid (below_thru B.out (Nat.le_refl _) hb)
  replace HA1 := Lib.hid (HA1.out.below hb)
  replace HA2 := Lib.hid (HA2.out.below hb)
  replace XA1 := Lib.hid (XA1.out.below hb)
  replace XA2 := Lib.hid (XA2.out.below hb)
  replace HX1 := Lib.hid (HX1.out.below hb)
  replace XX1 := Lib.hid (XX1.out.below hb)
  replace HX2 := Lib.hid (HX2.out.below hb)
  replace XX2 := Lib.hid (XX2.out.below hb)
  clear hb
  have cXA1_0 := XA1.out.2 0
  have cXA1_1 := XA1.out.2 1
  have cXA1_2 := XA1.out.2 2
  have cXA1_3 := XA1.out.2 3
  have cXA1_4 := XA1.out.2 4
  have cXA1_5 := XA1.out.2 5
  have cXA1_6 := XA1.out.2 6
  have cXA2_0 := XA2.out.2 0
  have cXA2_1 := XA2.out.2 1
  have cXA2_2 := XA2.out.2 2
  have cXA2_3 := XA2.out.2 3
  have cXA2_4 := XA2.out.2 4
  have cXA2_5 := XA2.out.2 5
  have cXA2_6 := XA2.out.2 6
  have cXX1_0 := XX1.out.2 0
  have cXX1_1 := XX1.out.2 1
  have cXX1_2 := XX1.out.2 2
  have cXX1_3 := XX1.out.2 3
  have cXX1_4 := XX1.out.2 4
  have cXX1_5 := XX1.out.2 5
  have cXX1_6 := XX1.out.2 6
  have cXX2_0 := XX2.out.2 0
  have cXX2_1 := XX2.out.2 1
  have cXX2_2 := XX2.out.2 2
  have cXX2_3 := XX2.out.2 3
  have cXX2_4 := XX2.out.2 4
  have cXX2_5 := XX2.out.2 5
  have cXX2_6 := XX2.out.2 6
  go_wp2_with fail
  clear cXA1_0 cXA1_1 cXA1_2 cXA1_3 cXA1_4 cXA1_5 cXA1_6 cXA2_0 cXA2_1 cXA2_2 cXA2_3 cXA2_4 cXA2_5 cXA2_6 cXX1_0 cXX1_1 cXX1_2 cXX1_3 cXX1_4 cXX1_5 cXX1_6 cXX2_0 cXX2_1 cXX2_2 cXX2_3 cXX2_4 cXX2_5 cXX2_6
  have hb := below_drew w8
  replace B := Lib.hid (below_thru B.out (Nat.le_refl _) hb)
  replace HA1 := Lib.hid (HA1.out.below hb)
  replace HA2 := Lib.hid (HA2.out.below hb)
  replace XA1 := Lib.hid (XA1.out.below hb)
  replace XA2 := Lib.hid (XA2.out.below hb)
  replace HX1 := Lib.hid (HX1.out.below hb)
  replace XX1 := Lib.hid (XX1.out.below hb)
  replace HX2 := Lib.hid (HX2.out.below hb)
  replace XX2 := Lib.hid (XX2.out.below hb)
  clear hb
  go_region_held3 (fun w' => w'.cell? ⟨w.heap.size, 0, none⟩ = some (.int .i64 a1k0) ∧ w'.cell? ⟨w.heap.size, 1, none⟩ = some (.string a1m1) ∧ w'.cell? ⟨w.heap.size, 2, none⟩ = some (.int .i64 a1k2) ∧ w'.cell? ⟨w.heap.size, 3, none⟩ = some (.int .i64 a1k3) ∧ w'.cell? ⟨w.heap.size, 4, none⟩ = some (.slice a1s4a a1s4n a1s4c) ∧ w'.cell? ⟨w.heap.size, 5, none⟩ = some (.slice a1s7a a1s7n a1s7c) ∧ w'.cell? ⟨w.heap.size, 6, none⟩ = some (.slice a1s10a a1s10n a1s10c) ∧ w'.cell? ⟨w.heap.size + 1, 0, none⟩ = some (.int .i64 a2k0) ∧ w'.cell? ⟨w.heap.size + 1, 1, none⟩ = some (.string a2m1) ∧ w'.cell? ⟨w.heap.size + 1, 2, none⟩ = some (.int .i64 a2k2) ∧ w'.cell? ⟨w.heap.size + 1, 3, none⟩ = some (.int .i64 a2k3) ∧ w'.cell? ⟨w.heap.size + 1, 4, none⟩ = some (.slice a2s4a a2s4n a2s4c) ∧ w'.cell? ⟨w.heap.size + 1, 5, none⟩ = some (.slice a2s7a a2s7n a2s7c) ∧ w'.cell? ⟨w.heap.size + 1, 6, none⟩ = some (.slice a2s10a a2s10n a2s10c) ∧ w'.cell? ⟨w6.heap.size, 0, none⟩ = some (.int .i64 x1k0) ∧ w'.cell? ⟨w6.heap.size, 1, none⟩ = some (.string x1m1) ∧ w'.cell? ⟨w6.heap.size, 2, none⟩ = some (.int .i64 x1k2) ∧ w'.cell? ⟨w6.heap.size, 3, none⟩ = some (.int .i64 x1k3) ∧ w'.cell? ⟨w6.heap.size, 4, none⟩ = some (.slice x1s4a x1s4n x1s4c) ∧ w'.cell? ⟨w6.heap.size, 5, none⟩ = some (.slice x1s7a x1s7n x1s7c) ∧ w'.cell? ⟨w6.heap.size, 6, none⟩ = some (.slice x1s10a x1s10n x1s10c) ∧ w'.cell? ⟨w7.heap.size, 0, none⟩ = some (.int .i64 x2k0) ∧ w'.cell? ⟨w7.heap.size, 1, none⟩ = some (.string x2m1) ∧ w'.cell? ⟨w7.heap.size, 2, none⟩ = some (.int .i64 x2k2) ∧ w'.cell? ⟨w7.heap.size, 3, none⟩ = some (.int .i64 x2k3) ∧ w'.cell? ⟨w7.heap.size, 4, none⟩ = some (.slice x2s4a x2s4n x2s4c) ∧ w'.cell? ⟨w7.heap.size, 5, none⟩ = some (.slice x2s7a x2s7n x2s7c) ∧ w'.cell? ⟨w7.heap.size, 6, none⟩ = some (.slice x2s10a x2s10n x2s10c)) (exact ⟨XA1.out.2 0, XA1.out.2 1, XA1.out.2 2, XA1.out.2 3, XA1.out.2 4, XA1.out.2 5, XA1.out.2 6, XA2.out.2 0, XA2.out.2 1, XA2.out.2 2, XA2.out.2 3, XA2.out.2 4, XA2.out.2 5, XA2.out.2 6, XX1.out.2 0, XX1.out.2 1, XX1.out.2 2, XX1.out.2 3, XX1.out.2 4, XX1.out.2 5, XX1.out.2 6, XX2.out.2 0, XX2.out.2 1, XX2.out.2 2, XX2.out.2 3, XX2.out.2 4, XX2.out.2 5, XX2.out.2 6⟩)
    (first
     | (go_at_call_of 40 (Value.agg #[Value.int IntKind.i64 a1k0, Value.string a1m1, Value.int IntKind.i64 a1k2, Value.int IntKind.i64 a1k3, Value.slice a1s4a a1s4n a1s4c, Value.slice a1s7a a1s7n a1s7c, Value.slice a1s10a a1s10n a1s10c])
        refine (toEdit d _ t1 _ hn1 HA1.out).mono ?_
        rintro e w9 ⟨y1, rfl, ht, hb⟩
        replace B := Lib.hid (below_thru B.out (Nat.le_refl _) hb)
        replace HA1 := Lib.hid (HA1.out.below hb)
        replace HA2 := Lib.hid (HA2.out.below hb)
        replace XA1 := Lib.hid (XA1.out.below hb)
        replace XA2 := Lib.hid (XA2.out.below hb)
        replace HX1 := Lib.hid (HX1.out.below hb)
        replace XX1 := Lib.hid (XX1.out.below hb)
        replace HX2 := Lib.hid (HX2.out.below hb)
        replace XX2 := Lib.hid (XX2.out.below hb)
        clear hb
        have Hy1 := Lib.hid ht
        clear ht)
     | (go_at_call 35
        refine (eqEdit d _ y1 t1 _ HX1.out Hy1.out).mono ?_
        rintro e w10 ⟨rfl, hb⟩
        replace B := Lib.hid (below_thru B.out (Nat.le_refl _) hb)
        replace HA1 := Lib.hid (HA1.out.below hb)
        replace HA2 := Lib.hid (HA2.out.below hb)
        replace XA1 := Lib.hid (XA1.out.below hb)
        replace XA2 := Lib.hid (XA2.out.below hb)
        replace HX1 := Lib.hid (HX1.out.below hb)
        replace XX1 := Lib.hid (XX1.out.below hb)
        replace HX2 := Lib.hid (HX2.out.below hb)
        replace XX2 := Lib.hid (XX2.out.below hb)
        clear hb
        clear Hy1))
  have cXA1_0 := XA1.out.2 0
  have cXA1_1 := XA1.out.2 1
  have cXA1_2 := XA1.out.2 2
  have cXA1_3 := XA1.out.2 3
  have cXA1_4 := XA1.out.2 4
  have cXA1_5 := XA1.out.2 5
  have cXA1_6 := XA1.out.2 6
  have cXA2_0 := XA2.out.2 0
  have cXA2_1 := XA2.out.2 1
  have cXA2_2 := XA2.out.2 2
  have cXA2_3 := XA2.out.2 3
  have cXA2_4 := XA2.out.2 4
  have cXA2_5 := XA2.out.2 5
  have cXA2_6 := XA2.out.2 6
  have cXX1_0 := XX1.out.2 0
  have cXX1_1 := XX1.out.2 1
  have cXX1_2 := XX1.out.2 2
  have cXX1_3 := XX1.out.2 3
  have cXX1_4 := XX1.out.2 4
  have cXX1_5 := XX1.out.2 5
  have cXX1_6 := XX1.out.2 6
  have cXX2_0 := XX2.out.2 0
  have cXX2_1 := XX2.out.2 1
  have cXX2_2 := XX2.out.2 2
  have cXX2_3 := XX2.out.2 3
  have cXX2_4 := XX2.out.2 4
  have cXX2_5 := XX2.out.2 5
  have cXX2_6 := XX2.out.2 6
  go_wp2_with fail
  clear cXA1_0 cXA1_1 cXA1_2 cXA1_3 cXA1_4 cXA1_5 cXA1_6 cXA2_0 cXA2_1 cXA2_2 cXA2_3 cXA2_4 cXA2_5 cXA2_6 cXX1_0 cXX1_1 cXX1_2 cXX1_3 cXX1_4 cXX1_5 cXX1_6 cXX2_0 cXX2_1 cXX2_2 cXX2_3 cXX2_4 cXX2_5 cXX2_6
  have hb := below_drew w10
  replace B := Lib.hid (below_thru B.out (Nat.le_refl _) hb)
  replace HA1 := Lib.hid (HA1.out.below hb)
  replace HA2 := Lib.hid (HA2.out.below hb)
  replace XA1 := Lib.hid (XA1.out.below hb)
  replace XA2 := Lib.hid (XA2.out.below hb)
  replace HX1 := Lib.hid (HX1.out.below hb)
  replace XX1 := Lib.hid (XX1.out.below hb)
  replace HX2 := Lib.hid (HX2.out.below hb)
  replace XX2 := Lib.hid (XX2.out.below hb)
  clear hb
  go_region_held3 (fun w' => w'.cell? ⟨w.heap.size, 0, none⟩ = some (.int .i64 a1k0) ∧ w'.cell? ⟨w.heap.size, 1, none⟩ = some (.string a1m1) ∧ w'.cell? ⟨w.heap.size, 2, none⟩ = some (.int .i64 a1k2) ∧ w'.cell? ⟨w.heap.size, 3, none⟩ = some (.int .i64 a1k3) ∧ w'.cell? ⟨w.heap.size, 4, none⟩ = some (.slice a1s4a a1s4n a1s4c) ∧ w'.cell? ⟨w.heap.size, 5, none⟩ = some (.slice a1s7a a1s7n a1s7c) ∧ w'.cell? ⟨w.heap.size, 6, none⟩ = some (.slice a1s10a a1s10n a1s10c) ∧ w'.cell? ⟨w.heap.size + 1, 0, none⟩ = some (.int .i64 a2k0) ∧ w'.cell? ⟨w.heap.size + 1, 1, none⟩ = some (.string a2m1) ∧ w'.cell? ⟨w.heap.size + 1, 2, none⟩ = some (.int .i64 a2k2) ∧ w'.cell? ⟨w.heap.size + 1, 3, none⟩ = some (.int .i64 a2k3) ∧ w'.cell? ⟨w.heap.size + 1, 4, none⟩ = some (.slice a2s4a a2s4n a2s4c) ∧ w'.cell? ⟨w.heap.size + 1, 5, none⟩ = some (.slice a2s7a a2s7n a2s7c) ∧ w'.cell? ⟨w.heap.size + 1, 6, none⟩ = some (.slice a2s10a a2s10n a2s10c) ∧ w'.cell? ⟨w6.heap.size, 0, none⟩ = some (.int .i64 x1k0) ∧ w'.cell? ⟨w6.heap.size, 1, none⟩ = some (.string x1m1) ∧ w'.cell? ⟨w6.heap.size, 2, none⟩ = some (.int .i64 x1k2) ∧ w'.cell? ⟨w6.heap.size, 3, none⟩ = some (.int .i64 x1k3) ∧ w'.cell? ⟨w6.heap.size, 4, none⟩ = some (.slice x1s4a x1s4n x1s4c) ∧ w'.cell? ⟨w6.heap.size, 5, none⟩ = some (.slice x1s7a x1s7n x1s7c) ∧ w'.cell? ⟨w6.heap.size, 6, none⟩ = some (.slice x1s10a x1s10n x1s10c) ∧ w'.cell? ⟨w7.heap.size, 0, none⟩ = some (.int .i64 x2k0) ∧ w'.cell? ⟨w7.heap.size, 1, none⟩ = some (.string x2m1) ∧ w'.cell? ⟨w7.heap.size, 2, none⟩ = some (.int .i64 x2k2) ∧ w'.cell? ⟨w7.heap.size, 3, none⟩ = some (.int .i64 x2k3) ∧ w'.cell? ⟨w7.heap.size, 4, none⟩ = some (.slice x2s4a x2s4n x2s4c) ∧ w'.cell? ⟨w7.heap.size, 5, none⟩ = some (.slice x2s7a x2s7n x2s7c) ∧ w'.cell? ⟨w7.heap.size, 6, none⟩ = some (.slice x2s10a x2s10n x2s10c)) (exact ⟨XA1.out.2 0, XA1.out.2 1, XA1.out.2 2, XA1.out.2 3, XA1.out.2 4, XA1.out.2 5, XA1.out.2 6, XA2.out.2 0, XA2.out.2 1, XA2.out.2 2, XA2.out.2 3, XA2.out.2 4, XA2.out.2 5, XA2.out.2 6, XX1.out.2 0, XX1.out.2 1, XX1.out.2 2, XX1.out.2 3, XX1.out.2 4, XX1.out.2 5, XX1.out.2 6, XX2.out.2 0, XX2.out.2 1, XX2.out.2 2, XX2.out.2 3, XX2.out.2 4, XX2.out.2 5, XX2.out.2 6⟩)
    (first
     | (go_at_call_of 40 (Value.agg #[Value.int IntKind.i64 a2k0, Value.string a2m1, Value.int IntKind.i64 a2k2, Value.int IntKind.i64 a2k3, Value.slice a2s4a a2s4n a2s4c, Value.slice a2s7a a2s7n a2s7c, Value.slice a2s10a a2s10n a2s10c])
        refine (toEdit d _ t2 _ hn2 HA2.out).mono ?_
        rintro e w11 ⟨y2, rfl, ht, hb⟩
        replace B := Lib.hid (below_thru B.out (Nat.le_refl _) hb)
        replace HA1 := Lib.hid (HA1.out.below hb)
        replace HA2 := Lib.hid (HA2.out.below hb)
        replace XA1 := Lib.hid (XA1.out.below hb)
        replace XA2 := Lib.hid (XA2.out.below hb)
        replace HX1 := Lib.hid (HX1.out.below hb)
        replace XX1 := Lib.hid (XX1.out.below hb)
        replace HX2 := Lib.hid (HX2.out.below hb)
        replace XX2 := Lib.hid (XX2.out.below hb)
        clear hb
        have Hy2 := Lib.hid ht
        clear ht)
     | (go_at_call 35
        refine (eqEdit d _ y2 t2 _ HX2.out Hy2.out).mono ?_
        rintro e w12 ⟨rfl, hb⟩
        replace B := Lib.hid (below_thru B.out (Nat.le_refl _) hb)
        replace HA1 := Lib.hid (HA1.out.below hb)
        replace HA2 := Lib.hid (HA2.out.below hb)
        replace XA1 := Lib.hid (XA1.out.below hb)
        replace XA2 := Lib.hid (XA2.out.below hb)
        replace HX1 := Lib.hid (HX1.out.below hb)
        replace XX1 := Lib.hid (XX1.out.below hb)
        replace HX2 := Lib.hid (HX2.out.below hb)
        replace XX2 := Lib.hid (XX2.out.below hb)
        clear hb
        clear Hy2))
  have cXA1_0 := XA1.out.2 0
  have cXA1_1 := XA1.out.2 1
  have cXA1_2 := XA1.out.2 2
  have cXA1_3 := XA1.out.2 3
  have cXA1_4 := XA1.out.2 4
  have cXA1_5 := XA1.out.2 5
  have cXA1_6 := XA1.out.2 6
  have cXA2_0 := XA2.out.2 0
  have cXA2_1 := XA2.out.2 1
  have cXA2_2 := XA2.out.2 2
  have cXA2_3 := XA2.out.2 3
  have cXA2_4 := XA2.out.2 4
  have cXA2_5 := XA2.out.2 5
  have cXA2_6 := XA2.out.2 6
  have cXX1_0 := XX1.out.2 0
  have cXX1_1 := XX1.out.2 1
  have cXX1_2 := XX1.out.2 2
  have cXX1_3 := XX1.out.2 3
  have cXX1_4 := XX1.out.2 4
  have cXX1_5 := XX1.out.2 5
  have cXX1_6 := XX1.out.2 6
  have cXX2_0 := XX2.out.2 0
  have cXX2_1 := XX2.out.2 1
  have cXX2_2 := XX2.out.2 2
  have cXX2_3 := XX2.out.2 3
  have cXX2_4 := XX2.out.2 4
  have cXX2_5 := XX2.out.2 5
  have cXX2_6 := XX2.out.2 6
  go_wp2_with fail
  go_ret
  exact ⟨rfl, B.out⟩
end Go.Proofs.Ytlpdgmgafabadaa
