/-
  Proved: the law FnExactIsGround answers true for every type, and leaves the memory that was there as it was.
-/
import Derived.Test.YtkpcpjppaoibeaaToType
import Derived.Test.YtkpcpjppaoibeaaHold
import Derived.Test.YtkpcpjppaoibeaaPart
import Derived.Test.YtkpcpjppaoibeaaSzType
import Derived.Test.YtkpcpjppaoibeaaEqType
import Derived.Test.YtkpcpjppaoibeaaSpecIsGround
import Derived.Test.YtkpcpjppaoibeaaImplIsGround
import Derived.Deep.RegionHeld3
namespace Go.Proofs.Ytkpcpjppaoibeaa
open Go.RowKit

set_option maxRecDepth 100000 in
set_option maxHeartbeats 1000000 in
theorem isGroundWalk (d : Nat) (v1 : Value) (t1 : Ty) (w : World) (h1 : TyAt w d v1 t1) :
    Calls Try.prog 11 #[v1] w fun e w' => e = .returned (.bool true) ∧ Below w.heap.size w w' := by
  obtain ⟨a1k, a1a, a1n, a1c, rfl⟩ := agg_parts h1
  have B : Hid (Below w.heap.size w (w.alloc (.cells #[.int .i64 a1k, .slice a1a a1n a1c] 36))) := below_alloc _ _
  have HA1 := Lib.hid (h1.below B.out)
  have XA1 : Hid (BoxAt (w.alloc (.cells #[.int .i64 a1k, .slice a1a a1n a1c] 36)) (w.heap.size) #[.int .i64 a1k, .slice a1a a1n a1c]) := BoxAt.new _ _ _
  clear h1
  go_enter Try.func11, Try.ntmps11
  go_wp2_with fail
  refine (szTy_all d _ t1 1048576 _ (by omega) (by omega) HA1.out).mono ?_
  rintro e w1 ⟨r1, rfl, hb, hr1⟩
  replace B := Lib.hid (below_thru B.out (Nat.le_refl _) hb)
  replace HA1 := Lib.hid (HA1.out.below hb)
  replace XA1 := Lib.hid (XA1.out.below hb)
  clear hb
  rcases hr1 with ⟨hr1, hs1⟩ | ⟨hr1, hs1⟩
  · go_wp2_with fail
    go_ret
    exact ⟨rfl, B.out⟩
  have hp1 := t1.size_pos
  have hq1 : r1 ≤ 1048576 := by omega
  have hn1 : t1.size ≤ 1048577 := by omega
  clear hs1 hp1
  have cXA1_0 := XA1.out.2 0
  have cXA1_1 := XA1.out.2 1
  go_wp2_with fail
  clear cXA1_0 cXA1_1
  refine ((toTy_all d).1 _ t1 _ hn1 HA1.out).mono ?_
  rintro e w2 ⟨s1, fp, rfl, ht, hf, hb⟩
  replace B := Lib.hid (below_thru B.out (Nat.le_refl _) hb)
  replace HA1 := Lib.hid (HA1.out.below hb)
  replace XA1 := Lib.hid (XA1.out.below hb)
  clear hb
  have Hs1 := Lib.hid ht.at_
  clear ht hf
  have cXA1_0 := XA1.out.2 0
  have cXA1_1 := XA1.out.2 1
  go_wp2_with fail
  clear cXA1_0 cXA1_1
  refine (specIsGround d s1 t1 _ Hs1.out hn1).mono ?_
  rintro e w3 ⟨rfl, hb⟩
  replace B := Lib.hid (below_thru B.out (Nat.le_refl _) hb)
  replace HA1 := Lib.hid (HA1.out.below hb)
  replace XA1 := Lib.hid (XA1.out.below hb)
  clear hb
  clear Hs1
  have cXA1_0 := XA1.out.2 0
  have cXA1_1 := XA1.out.2 1
  go_wp2_with fail
  clear cXA1_0 cXA1_1
  refine ((toTy_all d).1 _ t1 _ hn1 HA1.out).mono ?_
  rintro e w4 ⟨x1, fp, rfl, ht, hf, hb⟩
  replace B := Lib.hid (below_thru B.out (Nat.le_refl _) hb)
  replace HA1 := Lib.hid (HA1.out.below hb)
  replace XA1 := Lib.hid (XA1.out.below hb)
  clear hb
  obtain ⟨x1k, x1a, x1n, x1c, rfl, HY⟩ := ty_parts ht
  have HX1 := Lib.hid HY.out.at_
  clear ht hf HY
  have XX1 : Hid (BoxAt (w4.alloc (.cells #[.int .i64 x1k, .slice x1a x1n x1c] 26)) w4.heap.size #[.int .i64 x1k, .slice x1a x1n x1c]) := BoxAt.new _ _ _
  have hb := below_alloc w4 (.cells #[.int .i64 x1k, .slice x1a x1n x1c] 26)
  replace B := Lib.hid (below_thru B.out (Nat.le_refl _) hb)
  replace HA1 := Lib.hid (HA1.out.below hb)
  replace XA1 := Lib.hid (XA1.out.below hb)
  replace HX1 := Lib.hid (HX1.out.below hb)
  clear hb
  have cXA1_0 := XA1.out.2 0
  have cXA1_1 := XA1.out.2 1
  have cXX1_0 := XX1.out.2 0
  have cXX1_1 := XX1.out.2 1
  go_wp2_with fail
  clear cXA1_0 cXA1_1 cXX1_0 cXX1_1
  refine (implIsGround d _ t1 _ HX1.out hn1).mono ?_
  rintro e w5 ⟨rfl, hb⟩
  replace B := Lib.hid (below_thru B.out (Nat.le_refl _) hb)
  replace HA1 := Lib.hid (HA1.out.below hb)
  replace XA1 := Lib.hid (XA1.out.below hb)
  replace HX1 := Lib.hid (HX1.out.below hb)
  replace XX1 := Lib.hid (XX1.out.below hb)
  clear hb
  have cXA1_0 := XA1.out.2 0
  have cXA1_1 := XA1.out.2 1
  have cXX1_0 := XX1.out.2 0
  have cXX1_1 := XX1.out.2 1
  go_wp2_with fail
  clear cXA1_0 cXA1_1 cXX1_0 cXX1_1
  have hb := below_drew w5
  replace B := Lib.hid (below_thru B.out (Nat.le_refl _) hb)
  replace HA1 := Lib.hid (HA1.out.below hb)
  replace XA1 := Lib.hid (XA1.out.below hb)
  replace HX1 := Lib.hid (HX1.out.below hb)
  replace XX1 := Lib.hid (XX1.out.below hb)
  clear hb
  go_region_held3 (fun w' => w'.cell? ⟨w.heap.size, 0, none⟩ = some (.int .i64 a1k) ∧ w'.cell? ⟨w.heap.size, 1, none⟩ = some (.slice a1a a1n a1c) ∧ w'.cell? ⟨w4.heap.size, 0, none⟩ = some (.int .i64 x1k) ∧ w'.cell? ⟨w4.heap.size, 1, none⟩ = some (.slice x1a x1n x1c)) (exact ⟨XA1.out.2 0, XA1.out.2 1, XX1.out.2 0, XX1.out.2 1⟩)
    (first
     | (go_at_call_of 22 (Value.agg #[Value.int IntKind.i64 a1k, Value.slice a1a a1n a1c])
        refine ((toTy_all d).1 _ t1 _ hn1 HA1.out).mono ?_
        rintro e w6 ⟨y1, fp, rfl, ht, hf, hb⟩
        replace B := Lib.hid (below_thru B.out (Nat.le_refl _) hb)
        replace HA1 := Lib.hid (HA1.out.below hb)
        replace XA1 := Lib.hid (XA1.out.below hb)
        replace HX1 := Lib.hid (HX1.out.below hb)
        replace XX1 := Lib.hid (XX1.out.below hb)
        clear hb
        have Hy1 := Lib.hid ht.at_
        clear ht hf)
     | (go_at_call 23
        refine (eqTy_all d _ y1 t1 _ HX1.out Hy1.out).mono ?_
        rintro e w7 ⟨rfl, hb⟩
        replace B := Lib.hid (below_thru B.out (Nat.le_refl _) hb)
        replace HA1 := Lib.hid (HA1.out.below hb)
        replace XA1 := Lib.hid (XA1.out.below hb)
        replace HX1 := Lib.hid (HX1.out.below hb)
        replace XX1 := Lib.hid (XX1.out.below hb)
        clear hb
        clear Hy1))
  have cXA1_0 := XA1.out.2 0
  have cXA1_1 := XA1.out.2 1
  have cXX1_0 := XX1.out.2 0
  have cXX1_1 := XX1.out.2 1
  go_wp2_with fail
  go_ret
  exact ⟨rfl, B.out⟩
end Go.Proofs.Ytkpcpjppaoibeaa
