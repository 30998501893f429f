/-
  Proved: the law FnExactConsistent answers true for every two types, and leaves the memory that was there as it was.
-/
import Derived.Test.YtdgfkmnnjhlpbaaDoorToType
import Derived.Test.YtdgfkmnnjhlpbaaDoorHold
import Derived.Test.YtdgfkmnnjhlpbaaDoorPart
import Derived.Test.YtdgfkmnnjhlpbaaDoorSzType
import Derived.Test.YtdgfkmnnjhlpbaaDoorEqType
import Derived.Test.YtdgfkmnnjhlpbaaDoorSpecCons
import Derived.Test.YtdgfkmnnjhlpbaaDoorImplConsist
import Derived.Deep.RegionHeld3
namespace Go.Proofs.YtdgfkmnnjhlpbaaDoor
open Go.RowKit

set_option maxRecDepth 100000 in
set_option maxHeartbeats 1000000 in
theorem consistentWalk (d : Nat) (v1 : Value) (t1 : Ty) (v2 : Value) (t2 : Ty) (w : World) (h1 : TyAt w d v1 t1) (h2 : TyAt w d v2 t2) (htab : MeetTab w) :
    Calls Tryd.prog 8 #[v1, v2] w fun e w' => e = .returned (.bool true) ∧ Below w.heap.size w w' := by
  obtain ⟨a1k, a1a, a1n, a1c, rfl⟩ := agg_parts h1
  obtain ⟨a2k, a2a, a2n, a2c, rfl⟩ := agg_parts h2
  have B : Hid (Below w.heap.size w ((w.alloc (.cells #[.int .i64 a1k, .slice a1a a1n a1c] 24)).alloc (.cells #[.int .i64 a2k, .slice a2a a2n a2c] 24))) := ((Below.refl _ _).alloc (Nat.le_refl _) _).alloc (by simp) _
  have HTAB := Lib.hid (htab.below B.out)
  clear htab
  have HA1 := Lib.hid (h1.below B.out)
  have HA2 := Lib.hid (h2.below B.out)
  have XA1 : Hid (BoxAt ((w.alloc (.cells #[.int .i64 a1k, .slice a1a a1n a1c] 24)).alloc (.cells #[.int .i64 a2k, .slice a2a a2n a2c] 24)) (w.heap.size) #[.int .i64 a1k, .slice a1a a1n a1c]) := (BoxAt.new _ _ _).below (below_alloc _ _)
  have XA2 : Hid (BoxAt ((w.alloc (.cells #[.int .i64 a1k, .slice a1a a1n a1c] 24)).alloc (.cells #[.int .i64 a2k, .slice a2a a2n a2c] 24)) (w.heap.size + 1) #[.int .i64 a2k, .slice a2a a2n a2c]) := by
    have := BoxAt.new (w.alloc (.cells #[.int .i64 a1k, .slice a1a a1n a1c] 24)) #[.int .i64 a2k, .slice a2a a2n a2c] 24
    rw [show (w.alloc (.cells #[.int .i64 a1k, .slice a1a a1n a1c] 24)).heap.size = w.heap.size + 1 from by simp] at this
    exact this
  clear h1 h2
  go_enter Tryd.func8, Tryd.ntmps8
  go_wp2_with fail
  refine (szTy_all d _ t1 1048576 _ (by omega) (by omega) HA1.out).mono ?_
  rintro e w1 ⟨r1, rfl, hb, hr1⟩
  replace B := Lib.hid (below_thru B.out (Nat.le_refl _) hb)
  replace HTAB := Lib.hid (HTAB.out.below hb)
  replace HA1 := Lib.hid (HA1.out.below hb)
  replace HA2 := Lib.hid (HA2.out.below hb)
  replace XA1 := Lib.hid (XA1.out.below hb)
  replace XA2 := Lib.hid (XA2.out.below hb)
  clear hb
  rcases hr1 with ⟨hr1, hs1⟩ | ⟨hr1, hs1⟩
  · go_wp2_with fail
    go_ret
    exact ⟨rfl, B.out⟩
  have hp1 := t1.size_pos
  have hq1 : r1 ≤ 1048576 := by omega
  have hn1 : t1.size ≤ 1048577 := by omega
  have cXA1_0 := XA1.out.2 0
  have cXA1_1 := XA1.out.2 1
  have cXA2_0 := XA2.out.2 0
  have cXA2_1 := XA2.out.2 1
  go_wp2_with fail
  clear cXA1_0 cXA1_1 cXA2_0 cXA2_1
  refine (szTy_all d _ t2 r1 _ hr1 hq1 HA2.out).mono ?_
  rintro e w2 ⟨r2, rfl, hb, hr2⟩
  replace B := Lib.hid (below_thru B.out (Nat.le_refl _) hb)
  replace HTAB := Lib.hid (HTAB.out.below hb)
  replace HA1 := Lib.hid (HA1.out.below hb)
  replace HA2 := Lib.hid (HA2.out.below hb)
  replace XA1 := Lib.hid (XA1.out.below hb)
  replace XA2 := Lib.hid (XA2.out.below hb)
  clear hb
  rcases hr2 with ⟨hr2, hs2⟩ | ⟨hr2, hs2⟩
  · go_wp2_with fail
    go_ret
    exact ⟨rfl, B.out⟩
  have hp2 := t2.size_pos
  have hq2 : r2 ≤ 1048576 := by omega
  have hn2 : t2.size ≤ 1048577 := by omega
  clear hs1 hp1 hs2 hp2
  have cXA1_0 := XA1.out.2 0
  have cXA1_1 := XA1.out.2 1
  have cXA2_0 := XA2.out.2 0
  have cXA2_1 := XA2.out.2 1
  go_wp2_with fail
  clear cXA1_0 cXA1_1 cXA2_0 cXA2_1
  have hb := below_drew w2
  replace B := Lib.hid (below_thru B.out (Nat.le_refl _) hb)
  replace HTAB := Lib.hid (HTAB.out.below hb)
  replace HA1 := Lib.hid (HA1.out.below hb)
  replace HA2 := Lib.hid (HA2.out.below hb)
  replace XA1 := Lib.hid (XA1.out.below hb)
  replace XA2 := Lib.hid (XA2.out.below hb)
  clear hb
  go_region_held3 (fun w' => w'.cell? ⟨w.heap.size, 0, none⟩ = some (.int .i64 a1k) ∧ w'.cell? ⟨w.heap.size, 1, none⟩ = some (.slice a1a a1n a1c) ∧ w'.cell? ⟨w.heap.size + 1, 0, none⟩ = some (.int .i64 a2k) ∧ w'.cell? ⟨w.heap.size + 1, 1, none⟩ = some (.slice a2a a2n a2c)) (exact ⟨XA1.out.2 0, XA1.out.2 1, XA2.out.2 0, XA2.out.2 1⟩)
    (first
     | (go_at_call_of 33 (Value.agg #[Value.int IntKind.i64 a1k, Value.slice a1a a1n a1c])
        refine ((toTy_all d).1 _ t1 _ hn1 HA1.out).mono ?_
        rintro e w3 ⟨s1, fp, rfl, ht, hf, hb⟩
        replace B := Lib.hid (below_thru B.out (Nat.le_refl _) hb)
        replace HTAB := Lib.hid (HTAB.out.below hb)
        replace HA1 := Lib.hid (HA1.out.below hb)
        replace HA2 := Lib.hid (HA2.out.below hb)
        replace XA1 := Lib.hid (XA1.out.below hb)
        replace XA2 := Lib.hid (XA2.out.below hb)
        clear hb
        have Hs1 := Lib.hid ht.at_
        clear ht hf)
     | (go_at_call_of 33 (Value.agg #[Value.int IntKind.i64 a2k, Value.slice a2a a2n a2c])
        refine ((toTy_all d).1 _ t2 _ hn2 HA2.out).mono ?_
        rintro e w4 ⟨s2, fp, rfl, ht, hf, hb⟩
        replace B := Lib.hid (below_thru B.out (Nat.le_refl _) hb)
        replace HTAB := Lib.hid (HTAB.out.below hb)
        replace HA1 := Lib.hid (HA1.out.below hb)
        replace HA2 := Lib.hid (HA2.out.below hb)
        replace XA1 := Lib.hid (XA1.out.below hb)
        replace XA2 := Lib.hid (XA2.out.below hb)
        replace Hs1 := Lib.hid (Hs1.out.below hb)
        clear hb
        have Hs2 := Lib.hid ht.at_
        clear ht hf)
     | (go_at_call 38
        refine (specConsistent d s1 s2 t1 t2 _ Hs1.out Hs2.out hn1 hn2).mono ?_
        rintro e w5 ⟨rfl, hb⟩
        replace B := Lib.hid (below_thru B.out (Nat.le_refl _) hb)
        replace HTAB := Lib.hid (HTAB.out.below hb)
        replace HA1 := Lib.hid (HA1.out.below hb)
        replace HA2 := Lib.hid (HA2.out.below hb)
        replace XA1 := Lib.hid (XA1.out.below hb)
        replace XA2 := Lib.hid (XA2.out.below hb)
        clear hb
        clear Hs1 Hs2))
  have cXA1_0 := XA1.out.2 0
  have cXA1_1 := XA1.out.2 1
  have cXA2_0 := XA2.out.2 0
  have cXA2_1 := XA2.out.2 1
  go_wp2_with fail
  clear cXA1_0 cXA1_1 cXA2_0 cXA2_1
  refine ((toTy_all d).1 _ t1 _ hn1 HA1.out).mono ?_
  rintro e w6 ⟨x1, fp, rfl, ht, hf, hb⟩
  replace B := Lib.hid (below_thru B.out (Nat.le_refl _) hb)
  replace HTAB := Lib.hid (HTAB.out.below hb)
  replace HA1 := Lib.hid (HA1.out.below hb)
  replace HA2 := Lib.hid (HA2.out.below hb)
  replace XA1 := Lib.hid (XA1.out.below hb)
  replace XA2 := Lib.hid (XA2.out.below hb)
  clear hb
  obtain ⟨x1k, x1a, x1n, x1c, rfl, HY⟩ := ty_parts ht
  have HX1 := Lib.hid HY.out.at_
  clear ht hf HY
  have XX1 : Hid (BoxAt (w6.alloc (.cells #[.int .i64 x1k, .slice x1a x1n x1c] 31)) w6.heap.size #[.int .i64 x1k, .slice x1a x1n x1c]) := BoxAt.new _ _ _
  have hb := below_alloc w6 (.cells #[.int .i64 x1k, .slice x1a x1n x1c] 31)
  replace B := Lib.hid (below_thru B.out (Nat.le_refl _) hb)
  replace HTAB := Lib.hid (HTAB.out.below hb)
  replace HA1 := Lib.hid (HA1.out.below hb)
  replace HA2 := Lib.hid (HA2.out.below hb)
  replace XA1 := Lib.hid (XA1.out.below hb)
  replace XA2 := Lib.hid (XA2.out.below hb)
  replace HX1 := Lib.hid (HX1.out.below hb)
  clear hb
  have cXA1_0 := XA1.out.2 0
  have cXA1_1 := XA1.out.2 1
  have cXA2_0 := XA2.out.2 0
  have cXA2_1 := XA2.out.2 1
  have cXX1_0 := XX1.out.2 0
  have cXX1_1 := XX1.out.2 1
  go_wp2_with fail
  clear cXA1_0 cXA1_1 cXA2_0 cXA2_1 cXX1_0 cXX1_1
  refine ((toTy_all d).1 _ t2 _ hn2 HA2.out).mono ?_
  rintro e w7 ⟨x2, fp, rfl, ht, hf, hb⟩
  replace B := Lib.hid (below_thru B.out (Nat.le_refl _) hb)
  replace HTAB := Lib.hid (HTAB.out.below hb)
  replace HA1 := Lib.hid (HA1.out.below hb)
  replace HA2 := Lib.hid (HA2.out.below hb)
  replace XA1 := Lib.hid (XA1.out.below hb)
  replace XA2 := Lib.hid (XA2.out.below hb)
  replace HX1 := Lib.hid (HX1.out.below hb)
  replace XX1 := Lib.hid (XX1.out.below hb)
  clear hb
  obtain ⟨x2k, x2a, x2n, x2c, rfl, HY⟩ := ty_parts ht
  have HX2 := Lib.hid HY.out.at_
  clear ht hf HY
  have XX2 : Hid (BoxAt (w7.alloc (.cells #[.int .i64 x2k, .slice x2a x2n x2c] 31)) w7.heap.size #[.int .i64 x2k, .slice x2a x2n x2c]) := BoxAt.new _ _ _
  have hb := below_alloc w7 (.cells #[.int .i64 x2k, .slice x2a x2n x2c] 31)
  replace B := Lib.hid (below_thru B.out (Nat.le_refl _) hb)
  replace HTAB := Lib.hid (HTAB.out.below hb)
  replace HA1 := Lib.hid (HA1.out.below hb)
  replace HA2 := Lib.hid (HA2.out.below hb)
  replace XA1 := Lib.hid (XA1.out.below hb)
  replace XA2 := Lib.hid (XA2.out.below hb)
  replace HX1 := Lib.hid (HX1.out.below hb)
  replace XX1 := Lib.hid (XX1.out.below hb)
  replace HX2 := Lib.hid (HX2.out.below hb)
  clear hb
  have cXA1_0 := XA1.out.2 0
  have cXA1_1 := XA1.out.2 1
  have cXA2_0 := XA2.out.2 0
  have cXA2_1 := XA2.out.2 1
  have cXX1_0 := XX1.out.2 0
  have cXX1_1 := XX1.out.2 1
  have cXX2_0 := XX2.out.2 0
  have cXX2_1 := XX2.out.2 1
  go_wp2_with fail
  clear cXA1_0 cXA1_1 cXA2_0 cXA2_1 cXX1_0 cXX1_1 cXX2_0 cXX2_1
  refine (implConsistent d _ _ t1 t2 _ HX1.out HX2.out hn1 hn2 HTAB.out).mono ?_
  rintro e w8 ⟨rfl, hb⟩
  replace B := Lib.hid (below_thru B.out (Nat.le_refl _) hb)
  replace HTAB := Lib.hid (HTAB.out.below hb)
  replace HA1 := Lib.hid (HA1.out.below hb)
  replace HA2 := Lib.hid (HA2.out.below hb)
  replace XA1 := Lib.hid (XA1.out.below hb)
  replace XA2 := Lib.hid (XA2.out.below hb)
  replace HX1 := Lib.hid (HX1.out.below hb)
  replace XX1 := Lib.hid (XX1.out.below hb)
  replace HX2 := Lib.hid (HX2.out.below hb)
  replace XX2 := Lib.hid (XX2.out.below hb)
  clear hb
  have cXA1_0 := XA1.out.2 0
  have cXA1_1 := XA1.out.2 1
  have cXA2_0 := XA2.out.2 0
  have cXA2_1 := XA2.out.2 1
  have cXX1_0 := XX1.out.2 0
  have cXX1_1 := XX1.out.2 1
  have cXX2_0 := XX2.out.2 0
  have cXX2_1 := XX2.out.2 1
  go_wp2_with fail
  clear cXA1_0 cXA1_1 cXA2_0 cXA2_1 cXX1_0 cXX1_1 cXX2_0 cXX2_1
  have hb := below_drew w8
  replace B := Lib.hid (below_thru B.out (Nat.le_refl _) hb)
  replace HTAB := Lib.hid (HTAB.out.below hb)
  replace HA1 := Lib.hid (HA1.out.below hb)
  replace HA2 := Lib.hid (HA2.out.below hb)
  replace XA1 := Lib.hid (XA1.out.below hb)
  replace XA2 := Lib.hid (XA2.out.below hb)
  replace HX1 := Lib.hid (HX1.out.below hb)
  replace XX1 := Lib.hid (XX1.out.below hb)
  replace HX2 := Lib.hid (HX2.out.below hb)
  replace XX2 := Lib.hid (XX2.out.below hb)
  clear hb
  go_region_held3 (fun w' => w'.cell? ⟨w.heap.size, 0, none⟩ = some (.int .i64 a1k) ∧ w'.cell? ⟨w.heap.size, 1, none⟩ = some (.slice a1a a1n a1c) ∧ w'.cell? ⟨w.heap.size + 1, 0, none⟩ = some (.int .i64 a2k) ∧ w'.cell? ⟨w.heap.size + 1, 1, none⟩ = some (.slice a2a a2n a2c) ∧ w'.cell? ⟨w6.heap.size, 0, none⟩ = some (.int .i64 x1k) ∧ w'.cell? ⟨w6.heap.size, 1, none⟩ = some (.slice x1a x1n x1c) ∧ w'.cell? ⟨w7.heap.size, 0, none⟩ = some (.int .i64 x2k) ∧ w'.cell? ⟨w7.heap.size, 1, none⟩ = some (.slice x2a x2n x2c)) (exact ⟨XA1.out.2 0, XA1.out.2 1, XA2.out.2 0, XA2.out.2 1, XX1.out.2 0, XX1.out.2 1, XX2.out.2 0, XX2.out.2 1⟩)
    (first
     | (go_at_call_of 33 (Value.agg #[Value.int IntKind.i64 a1k, Value.slice a1a a1n a1c])
        refine ((toTy_all d).1 _ t1 _ hn1 HA1.out).mono ?_
        rintro e w9 ⟨y1, fp, rfl, ht, hf, hb⟩
        replace B := Lib.hid (below_thru B.out (Nat.le_refl _) hb)
        replace HTAB := Lib.hid (HTAB.out.below hb)
        replace HA1 := Lib.hid (HA1.out.below hb)
        replace HA2 := Lib.hid (HA2.out.below hb)
        replace XA1 := Lib.hid (XA1.out.below hb)
        replace XA2 := Lib.hid (XA2.out.below hb)
        replace HX1 := Lib.hid (HX1.out.below hb)
        replace XX1 := Lib.hid (XX1.out.below hb)
        replace HX2 := Lib.hid (HX2.out.below hb)
        replace XX2 := Lib.hid (XX2.out.below hb)
        clear hb
        have Hy1 := Lib.hid ht.at_
        clear ht hf)
     | (go_at_call 35
        refine (eqTy_all d _ y1 t1 _ HX1.out Hy1.out).mono ?_
        rintro e w10 ⟨rfl, hb⟩
        replace B := Lib.hid (below_thru B.out (Nat.le_refl _) hb)
        replace HTAB := Lib.hid (HTAB.out.below hb)
        replace HA1 := Lib.hid (HA1.out.below hb)
        replace HA2 := Lib.hid (HA2.out.below hb)
        replace XA1 := Lib.hid (XA1.out.below hb)
        replace XA2 := Lib.hid (XA2.out.below hb)
        replace HX1 := Lib.hid (HX1.out.below hb)
        replace XX1 := Lib.hid (XX1.out.below hb)
        replace HX2 := Lib.hid (HX2.out.below hb)
        replace XX2 := Lib.hid (XX2.out.below hb)
        clear hb
        clear Hy1))
  have cXA1_0 := XA1.out.2 0
  have cXA1_1 := XA1.out.2 1
  have cXA2_0 := XA2.out.2 0
  have cXA2_1 := XA2.out.2 1
  have cXX1_0 := XX1.out.2 0
  have cXX1_1 := XX1.out.2 1
  have cXX2_0 := XX2.out.2 0
  have cXX2_1 := XX2.out.2 1
  go_wp2_with fail
  clear cXA1_0 cXA1_1 cXA2_0 cXA2_1 cXX1_0 cXX1_1 cXX2_0 cXX2_1
  have hb := below_drew w10
  replace B := Lib.hid (below_thru B.out (Nat.le_refl _) hb)
  replace HTAB := Lib.hid (HTAB.out.below hb)
  replace HA1 := Lib.hid (HA1.out.below hb)
  replace HA2 := Lib.hid (HA2.out.below hb)
  replace XA1 := Lib.hid (XA1.out.below hb)
  replace XA2 := Lib.hid (XA2.out.below hb)
  replace HX1 := Lib.hid (HX1.out.below hb)
  replace XX1 := Lib.hid (XX1.out.below hb)
  replace HX2 := Lib.hid (HX2.out.below hb)
  replace XX2 := Lib.hid (XX2.out.below hb)
  clear hb
  go_region_held3 (fun w' => w'.cell? ⟨w.heap.size, 0, none⟩ = some (.int .i64 a1k) ∧ w'.cell? ⟨w.heap.size, 1, none⟩ = some (.slice a1a a1n a1c) ∧ w'.cell? ⟨w.heap.size + 1, 0, none⟩ = some (.int .i64 a2k) ∧ w'.cell? ⟨w.heap.size + 1, 1, none⟩ = some (.slice a2a a2n a2c) ∧ w'.cell? ⟨w6.heap.size, 0, none⟩ = some (.int .i64 x1k) ∧ w'.cell? ⟨w6.heap.size, 1, none⟩ = some (.slice x1a x1n x1c) ∧ w'.cell? ⟨w7.heap.size, 0, none⟩ = some (.int .i64 x2k) ∧ w'.cell? ⟨w7.heap.size, 1, none⟩ = some (.slice x2a x2n x2c)) (exact ⟨XA1.out.2 0, XA1.out.2 1, XA2.out.2 0, XA2.out.2 1, XX1.out.2 0, XX1.out.2 1, XX2.out.2 0, XX2.out.2 1⟩)
    (first
     | (go_at_call_of 33 (Value.agg #[Value.int IntKind.i64 a2k, Value.slice a2a a2n a2c])
        refine ((toTy_all d).1 _ t2 _ hn2 HA2.out).mono ?_
        rintro e w11 ⟨y2, fp, rfl, ht, hf, hb⟩
        replace B := Lib.hid (below_thru B.out (Nat.le_refl _) hb)
        replace HTAB := Lib.hid (HTAB.out.below hb)
        replace HA1 := Lib.hid (HA1.out.below hb)
        replace HA2 := Lib.hid (HA2.out.below hb)
        replace XA1 := Lib.hid (XA1.out.below hb)
        replace XA2 := Lib.hid (XA2.out.below hb)
        replace HX1 := Lib.hid (HX1.out.below hb)
        replace XX1 := Lib.hid (XX1.out.below hb)
        replace HX2 := Lib.hid (HX2.out.below hb)
        replace XX2 := Lib.hid (XX2.out.below hb)
        clear hb
        have Hy2 := Lib.hid ht.at_
        clear ht hf)
     | (go_at_call 35
        refine (eqTy_all d _ y2 t2 _ HX2.out Hy2.out).mono ?_
        rintro e w12 ⟨rfl, hb⟩
        replace B := Lib.hid (below_thru B.out (Nat.le_refl _) hb)
        replace HTAB := Lib.hid (HTAB.out.below hb)
        replace HA1 := Lib.hid (HA1.out.below hb)
        replace HA2 := Lib.hid (HA2.out.below hb)
        replace XA1 := Lib.hid (XA1.out.below hb)
        replace XA2 := Lib.hid (XA2.out.below hb)
        replace HX1 := Lib.hid (HX1.out.below hb)
        replace XX1 := Lib.hid (XX1.out.below hb)
        replace HX2 := Lib.hid (HX2.out.below hb)
        replace XX2 := Lib.hid (XX2.out.below hb)
        clear hb
        clear Hy2))
  have cXA1_0 := XA1.out.2 0
  have cXA1_1 := XA1.out.2 1
  have cXA2_0 := XA2.out.2 0
  have cXA2_1 := XA2.out.2 1
  have cXX1_0 := XX1.out.2 0
  have cXX1_1 := XX1.out.2 1
  have cXX2_0 := XX2.out.2 0
  have cXX2_1 := XX2.out.2 1
  go_wp2_with fail
  go_ret
  exact ⟨rfl, B.out⟩
end Go.Proofs.YtdgfkmnnjhlpbaaDoor
