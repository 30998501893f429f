/-
  Proved: the law FnExactIsAction answers true for every action, and leaves the memory that was there as it was.
-/
import Derived.Test.YtlpdgmgafabadaaToAct
import Derived.Test.YtlpdgmgafabadaaHold
import Derived.Test.YtlpdgmgafabadaaPart
import Derived.Test.YtlpdgmgafabadaaSzAct
import Derived.Test.YtlpdgmgafabadaaEqAct
import Derived.Test.YtlpdgmgafabadaaSpecAction
import Derived.Test.YtlpdgmgafabadaaImplAction
import Derived.Deep.RegionHeld3
namespace Go.Proofs.Ytlpdgmgafabadaa
open Go.RowKit

set_option maxRecDepth 100000 in
set_option maxHeartbeats 1000000 in
theorem isActionWalk (d : Nat) (v1 : Value) (t1 : Act) (w : World) (h1 : ActAt w d v1 t1) :
    Calls Try.prog 10 #[v1] w fun e w' => e = .returned (.bool true) ∧ Below w.heap.size w w' := by
  obtain ⟨a1k0, a1m1, a1k2, a1k3, a1s4a, a1s4n, a1s4c, rfl⟩ := act_parts h1
  have B : Hid (Below w.heap.size w (w.alloc (.cells #[.int .i64 a1k0, .string a1m1, .int .i64 a1k2, .int .i64 a1k3, .slice a1s4a a1s4n a1s4c] 73))) := below_alloc _ _
  have HA1 := Lib.hid (h1.below B.out)
  have XA1 : Hid (BoxAt (w.alloc (.cells #[.int .i64 a1k0, .string a1m1, .int .i64 a1k2, .int .i64 a1k3, .slice a1s4a a1s4n a1s4c] 73)) (w.heap.size) #[.int .i64 a1k0, .string a1m1, .int .i64 a1k2, .int .i64 a1k3, .slice a1s4a a1s4n a1s4c]) := BoxAt.new _ _ _
  clear h1
  go_enter Try.func10, Try.ntmps10
  go_wp2_with fail
  refine (szAct d _ t1 1048576 _ (by omega) (by omega) HA1.out).mono ?_
  rintro e w1 ⟨r1, rfl, hb, hr1⟩
  replace B := Lib.hid (below_thru B.out (Nat.le_refl _) hb)
  replace HA1 := Lib.hid (HA1.out.below hb)
  replace XA1 := Lib.hid (XA1.out.below hb)
  clear hb
  rcases hr1 with ⟨hr1, hs1⟩ | ⟨hr1, hs1⟩
  · go_wp2_with fail
    go_ret
    exact ⟨rfl, B.out⟩
  have hq1 : r1 ≤ 1048576 := by omega
  have hn1 : t1.bulk ≤ 1048576 := by omega
  clear hs1
  have cXA1_0 := XA1.out.2 0
  have cXA1_1 := XA1.out.2 1
  have cXA1_2 := XA1.out.2 2
  have cXA1_3 := XA1.out.2 3
  have cXA1_4 := XA1.out.2 4
  go_wp2_with fail
  clear cXA1_0 cXA1_1 cXA1_2 cXA1_3 cXA1_4
  refine (toAct d _ t1 _ hn1 HA1.out).mono ?_
  rintro e w2 ⟨s1, rfl, ht, hb⟩
  replace B := Lib.hid (below_thru B.out (Nat.le_refl _) hb)
  replace HA1 := Lib.hid (HA1.out.below hb)
  replace XA1 := Lib.hid (XA1.out.below hb)
  clear hb
  have Hs1 := Lib.hid ht
  clear ht
  have cXA1_0 := XA1.out.2 0
  have cXA1_1 := XA1.out.2 1
  have cXA1_2 := XA1.out.2 2
  have cXA1_3 := XA1.out.2 3
  have cXA1_4 := XA1.out.2 4
  go_wp2_with fail
  clear cXA1_0 cXA1_1 cXA1_2 cXA1_3 cXA1_4
  refine (specAction d s1 t1 _ Hs1.out hn1).mono ?_
  rintro e w3 ⟨rfl, hb⟩
  replace B := Lib.hid (below_thru B.out (Nat.le_refl _) hb)
  replace HA1 := Lib.hid (HA1.out.below hb)
  replace XA1 := Lib.hid (XA1.out.below hb)
  clear hb
  clear Hs1
  have cXA1_0 := XA1.out.2 0
  have cXA1_1 := XA1.out.2 1
  have cXA1_2 := XA1.out.2 2
  have cXA1_3 := XA1.out.2 3
  have cXA1_4 := XA1.out.2 4
  go_wp2_with fail
  clear cXA1_0 cXA1_1 cXA1_2 cXA1_3 cXA1_4
  refine (toAct d _ t1 _ hn1 HA1.out).mono ?_
  rintro e w4 ⟨x1, rfl, ht, hb⟩
  replace B := Lib.hid (below_thru B.out (Nat.le_refl _) hb)
  replace HA1 := Lib.hid (HA1.out.below hb)
  replace XA1 := Lib.hid (XA1.out.below hb)
  clear hb
  obtain ⟨x1k0, x1m1, x1k2, x1k3, x1s4a, x1s4n, x1s4c, rfl⟩ := act_parts ht
  have HX1 := Lib.hid ht
  clear ht
  have XX1 : Hid (BoxAt (w4.alloc (.cells #[.int .i64 x1k0, .string x1m1, .int .i64 x1k2, .int .i64 x1k3, .slice x1s4a x1s4n x1s4c] 77)) w4.heap.size #[.int .i64 x1k0, .string x1m1, .int .i64 x1k2, .int .i64 x1k3, .slice x1s4a x1s4n x1s4c]) := BoxAt.new _ _ _
  have hb := below_alloc w4 (.cells #[.int .i64 x1k0, .string x1m1, .int .i64 x1k2, .int .i64 x1k3, .slice x1s4a x1s4n x1s4c] 77)
  replace B := Lib.hid (below_thru B.out (Nat.le_refl _) hb)
  replace HA1 := Lib.hid (HA1.out.below hb)
  replace XA1 := Lib.hid (XA1.out.below hb)
  replace HX1 := Lib.hid (HX1.out.below hb)
  clear hb
  have cXA1_0 := XA1.out.2 0
  have cXA1_1 := XA1.out.2 1
  have cXA1_2 := XA1.out.2 2
  have cXA1_3 := XA1.out.2 3
  have cXA1_4 := XA1.out.2 4
  have cXX1_0 := XX1.out.2 0
  have cXX1_1 := XX1.out.2 1
  have cXX1_2 := XX1.out.2 2
  have cXX1_3 := XX1.out.2 3
  have cXX1_4 := XX1.out.2 4
  go_wp2_with fail
  clear cXA1_0 cXA1_1 cXA1_2 cXA1_3 cXA1_4 cXX1_0 cXX1_1 cXX1_2 cXX1_3 cXX1_4
  refine (implAction d _ t1 _ HX1.out hn1).mono ?_
  rintro e w5 ⟨rfl, hb⟩
  replace B := Lib.hid (below_thru B.out (Nat.le_refl _) hb)
  replace HA1 := Lib.hid (HA1.out.below hb)
  replace XA1 := Lib.hid (XA1.out.below hb)
  replace HX1 := Lib.hid (HX1.out.below hb)
  replace XX1 := Lib.hid (XX1.out.below hb)
  clear hb
  have cXA1_0 := XA1.out.2 0
  have cXA1_1 := XA1.out.2 1
  have cXA1_2 := XA1.out.2 2
  have cXA1_3 := XA1.out.2 3
  have cXA1_4 := XA1.out.2 4
  have cXX1_0 := XX1.out.2 0
  have cXX1_1 := XX1.out.2 1
  have cXX1_2 := XX1.out.2 2
  have cXX1_3 := XX1.out.2 3
  have cXX1_4 := XX1.out.2 4
  go_wp2_with fail
  clear cXA1_0 cXA1_1 cXA1_2 cXA1_3 cXA1_4 cXX1_0 cXX1_1 cXX1_2 cXX1_3 cXX1_4
  have hb := below_drew w5
  replace B := Lib.hid (below_thru B.out (Nat.le_refl _) hb)
  replace HA1 := Lib.hid (HA1.out.below hb)
  replace XA1 := Lib.hid (XA1.out.below hb)
  replace HX1 := Lib.hid (HX1.out.below hb)
  replace XX1 := Lib.hid (XX1.out.below hb)
  clear hb
  go_region_held3 (fun w' => w'.cell? ⟨w.heap.size, 0, none⟩ = some (.int .i64 a1k0) ∧ w'.cell? ⟨w.heap.size, 1, none⟩ = some (.string a1m1) ∧ w'.cell? ⟨w.heap.size, 2, none⟩ = some (.int .i64 a1k2) ∧ w'.cell? ⟨w.heap.size, 3, none⟩ = some (.int .i64 a1k3) ∧ w'.cell? ⟨w.heap.size, 4, none⟩ = some (.slice a1s4a a1s4n a1s4c) ∧ w'.cell? ⟨w4.heap.size, 0, none⟩ = some (.int .i64 x1k0) ∧ w'.cell? ⟨w4.heap.size, 1, none⟩ = some (.string x1m1) ∧ w'.cell? ⟨w4.heap.size, 2, none⟩ = some (.int .i64 x1k2) ∧ w'.cell? ⟨w4.heap.size, 3, none⟩ = some (.int .i64 x1k3) ∧ w'.cell? ⟨w4.heap.size, 4, none⟩ = some (.slice x1s4a x1s4n x1s4c)) (exact ⟨XA1.out.2 0, XA1.out.2 1, XA1.out.2 2, XA1.out.2 3, XA1.out.2 4, XX1.out.2 0, XX1.out.2 1, XX1.out.2 2, XX1.out.2 3, XX1.out.2 4⟩)
    (first
     | (go_at_call_of 44 (Value.agg #[Value.int IntKind.i64 a1k0, Value.string a1m1, Value.int IntKind.i64 a1k2, Value.int IntKind.i64 a1k3, Value.slice a1s4a a1s4n a1s4c])
        refine (toAct d _ t1 _ hn1 HA1.out).mono ?_
        rintro e w6 ⟨y1, rfl, ht, hb⟩
        replace B := Lib.hid (below_thru B.out (Nat.le_refl _) hb)
        replace HA1 := Lib.hid (HA1.out.below hb)
        replace XA1 := Lib.hid (XA1.out.below hb)
        replace HX1 := Lib.hid (HX1.out.below hb)
        replace XX1 := Lib.hid (XX1.out.below hb)
        clear hb
        have Hy1 := Lib.hid ht
        clear ht)
     | (go_at_call 46
        refine (eqAct d _ y1 t1 _ HX1.out Hy1.out).mono ?_
        rintro e w7 ⟨rfl, hb⟩
        replace B := Lib.hid (below_thru B.out (Nat.le_refl _) hb)
        replace HA1 := Lib.hid (HA1.out.below hb)
        replace XA1 := Lib.hid (XA1.out.below hb)
        replace HX1 := Lib.hid (HX1.out.below hb)
        replace XX1 := Lib.hid (XX1.out.below hb)
        clear hb
        clear Hy1))
  have cXA1_0 := XA1.out.2 0
  have cXA1_1 := XA1.out.2 1
  have cXA1_2 := XA1.out.2 2
  have cXA1_3 := XA1.out.2 3
  have cXA1_4 := XA1.out.2 4
  have cXX1_0 := XX1.out.2 0
  have cXX1_1 := XX1.out.2 1
  have cXX1_2 := XX1.out.2 2
  have cXX1_3 := XX1.out.2 3
  have cXX1_4 := XX1.out.2 4
  go_wp2_with fail
  go_ret
  exact ⟨rfl, B.out⟩
end Go.Proofs.Ytlpdgmgafabadaa
