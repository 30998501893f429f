/-
  Proved: the law FnExactEqualCore answers true for every argument, and leaves the memory that was there as it was.
-/
import Derived.Test.YtfidcblaabeaaaaHold
import Derived.Test.YtfidcblaabeaaaaToCore
import Derived.Test.YtfidcblaabeaaaaSzCore
import Derived.Test.YtfidcblaabeaaaaEqCore
import Derived.Test.YtfidcblaabeaaaaSpecCoEqual
import Derived.Test.YtfidcblaabeaaaaImplCoEqual
import Derived.Deep.RegionHeld3
namespace Go.Proofs.Ytfidcblaabeaaaa
open Go.RowKit

set_option maxRecDepth 100000 in
set_option maxHeartbeats 2000000 in
theorem equalCoreWalk (d : Nat) (v1 : Value) (t1 : Co) (v2 : Value) (t2 : Co) (w : World) (h1 : CoAt w d v1 t1) (h2 : CoAt w d v2 t2) :
    Calls Try.prog 9 #[v1, v2] w fun e w' => e = .returned (.bool true) ∧ Below w.heap.size w w' := by
  obtain ⟨a1k, a1nm, a1n, a1fk, a1fa, a1fn, a1fc, a1tk, a1ta, a1tn, a1tc, a1sa, a1sn, a1sc, a1ea, a1en, a1ec, rfl⟩ := co_parts h1
  obtain ⟨a2k, a2nm, a2n, a2fk, a2fa, a2fn, a2fc, a2tk, a2ta, a2tn, a2tc, a2sa, a2sn, a2sc, a2ea, a2en, a2ec, rfl⟩ := co_parts h2
  have B : Hid (Below w.heap.size w ((w.alloc (.cells #[.int .i64 a1k, .string a1nm, .int .i64 a1n, .int .i64 a1fk, .slice a1fa a1fn a1fc, .int .i64 a1tk, .slice a1ta a1tn a1tc, .slice a1sa a1sn a1sc, .slice a1ea a1en a1ec] 82)).alloc (.cells #[.int .i64 a2k, .string a2nm, .int .i64 a2n, .int .i64 a2fk, .slice a2fa a2fn a2fc, .int .i64 a2tk, .slice a2ta a2tn a2tc, .slice a2sa a2sn a2sc, .slice a2ea a2en a2ec] 82))) := ((Below.refl _ _).alloc (Nat.le_refl _) _).alloc (by simp) _
  have HA1 := Lib.hid (h1.below B.out)
  have HA2 := Lib.hid (h2.below B.out)
  have XA1 : Hid (BoxAt ((w.alloc (.cells #[.int .i64 a1k, .string a1nm, .int .i64 a1n, .int .i64 a1fk, .slice a1fa a1fn a1fc, .int .i64 a1tk, .slice a1ta a1tn a1tc, .slice a1sa a1sn a1sc, .slice a1ea a1en a1ec] 82)).alloc (.cells #[.int .i64 a2k, .string a2nm, .int .i64 a2n, .int .i64 a2fk, .slice a2fa a2fn a2fc, .int .i64 a2tk, .slice a2ta a2tn a2tc, .slice a2sa a2sn a2sc, .slice a2ea a2en a2ec] 82)) (w.heap.size) #[.int .i64 a1k, .string a1nm, .int .i64 a1n, .int .i64 a1fk, .slice a1fa a1fn a1fc, .int .i64 a1tk, .slice a1ta a1tn a1tc, .slice a1sa a1sn a1sc, .slice a1ea a1en a1ec]) := (BoxAt.new _ _ _).below (below_alloc _ _)
  have XA2 : Hid (BoxAt ((w.alloc (.cells #[.int .i64 a1k, .string a1nm, .int .i64 a1n, .int .i64 a1fk, .slice a1fa a1fn a1fc, .int .i64 a1tk, .slice a1ta a1tn a1tc, .slice a1sa a1sn a1sc, .slice a1ea a1en a1ec] 82)).alloc (.cells #[.int .i64 a2k, .string a2nm, .int .i64 a2n, .int .i64 a2fk, .slice a2fa a2fn a2fc, .int .i64 a2tk, .slice a2ta a2tn a2tc, .slice a2sa a2sn a2sc, .slice a2ea a2en a2ec] 82)) (w.heap.size + 1) #[.int .i64 a2k, .string a2nm, .int .i64 a2n, .int .i64 a2fk, .slice a2fa a2fn a2fc, .int .i64 a2tk, .slice a2ta a2tn a2tc, .slice a2sa a2sn a2sc, .slice a2ea a2en a2ec]) := by
    have := BoxAt.new (w.alloc (.cells #[.int .i64 a1k, .string a1nm, .int .i64 a1n, .int .i64 a1fk, .slice a1fa a1fn a1fc, .int .i64 a1tk, .slice a1ta a1tn a1tc, .slice a1sa a1sn a1sc, .slice a1ea a1en a1ec] 82)) #[.int .i64 a2k, .string a2nm, .int .i64 a2n, .int .i64 a2fk, .slice a2fa a2fn a2fc, .int .i64 a2tk, .slice a2ta a2tn a2tc, .slice a2sa a2sn a2sc, .slice a2ea a2en a2ec] 82
    rw [show (w.alloc (.cells #[.int .i64 a1k, .string a1nm, .int .i64 a1n, .int .i64 a1fk, .slice a1fa a1fn a1fc, .int .i64 a1tk, .slice a1ta a1tn a1tc, .slice a1sa a1sn a1sc, .slice a1ea a1en a1ec] 82)).heap.size = w.heap.size + 1 from by simp] at this
    exact this
  clear h1 h2
  go_enter Try.func9, Try.ntmps9
  go_wp2_with fail
  refine (szCo_all d _ t1 1048576 _ (by omega) (by omega) HA1.out).mono ?_
  rintro e w1 ⟨r1, rfl, hb, hr1⟩
  replace B := Lib.hid (below_thru B.out (Nat.le_refl _) hb)
  replace HA1 := Lib.hid (HA1.out.below hb)
  replace HA2 := Lib.hid (HA2.out.below hb)
  replace XA1 := Lib.hid (XA1.out.below hb)
  replace XA2 := Lib.hid (XA2.out.below hb)
  clear hb
  rcases hr1 with ⟨hr1, hs1⟩ | ⟨hr1, hs1⟩
  · go_wp2_with fail
    go_ret
    exact ⟨rfl, B.out⟩
  have hq1 : r1 ≤ 1048576 := by omega
  have hn1 : t1.bulk ≤ 1048576 := by omega
  have cXA1_0 := XA1.out.2 0
  have cXA1_1 := XA1.out.2 1
  have cXA1_2 := XA1.out.2 2
  have cXA1_3 := XA1.out.2 3
  have cXA1_4 := XA1.out.2 4
  have cXA1_5 := XA1.out.2 5
  have cXA1_6 := XA1.out.2 6
  have cXA1_7 := XA1.out.2 7
  have cXA1_8 := XA1.out.2 8
  have cXA2_0 := XA2.out.2 0
  have cXA2_1 := XA2.out.2 1
  have cXA2_2 := XA2.out.2 2
  have cXA2_3 := XA2.out.2 3
  have cXA2_4 := XA2.out.2 4
  have cXA2_5 := XA2.out.2 5
  have cXA2_6 := XA2.out.2 6
  have cXA2_7 := XA2.out.2 7
  have cXA2_8 := XA2.out.2 8
  go_wp2_with fail
  clear cXA1_0 cXA1_1 cXA1_2 cXA1_3 cXA1_4 cXA1_5 cXA1_6 cXA1_7 cXA1_8 cXA2_0 cXA2_1 cXA2_2 cXA2_3 cXA2_4 cXA2_5 cXA2_6 cXA2_7 cXA2_8
  refine (szCo_all d _ t2 r1 _ hr1 hq1 HA2.out).mono ?_
  rintro e w2 ⟨r2, rfl, hb, hr2⟩
  replace B := Lib.hid (below_thru B.out (Nat.le_refl _) hb)
  replace HA1 := Lib.hid (HA1.out.below hb)
  replace HA2 := Lib.hid (HA2.out.below hb)
  replace XA1 := Lib.hid (XA1.out.below hb)
  replace XA2 := Lib.hid (XA2.out.below hb)
  clear hb
  rcases hr2 with ⟨hr2, hs2⟩ | ⟨hr2, hs2⟩
  · go_wp2_with fail
    go_ret
    exact ⟨rfl, B.out⟩
  have hq2 : r2 ≤ 1048576 := by omega
  have hn2 : t2.bulk ≤ 1048576 := by omega
  clear hs1 hs2
  have cXA1_0 := XA1.out.2 0
  have cXA1_1 := XA1.out.2 1
  have cXA1_2 := XA1.out.2 2
  have cXA1_3 := XA1.out.2 3
  have cXA1_4 := XA1.out.2 4
  have cXA1_5 := XA1.out.2 5
  have cXA1_6 := XA1.out.2 6
  have cXA1_7 := XA1.out.2 7
  have cXA1_8 := XA1.out.2 8
  have cXA2_0 := XA2.out.2 0
  have cXA2_1 := XA2.out.2 1
  have cXA2_2 := XA2.out.2 2
  have cXA2_3 := XA2.out.2 3
  have cXA2_4 := XA2.out.2 4
  have cXA2_5 := XA2.out.2 5
  have cXA2_6 := XA2.out.2 6
  have cXA2_7 := XA2.out.2 7
  have cXA2_8 := XA2.out.2 8
  go_wp2_with fail
  clear cXA1_0 cXA1_1 cXA1_2 cXA1_3 cXA1_4 cXA1_5 cXA1_6 cXA1_7 cXA1_8 cXA2_0 cXA2_1 cXA2_2 cXA2_3 cXA2_4 cXA2_5 cXA2_6 cXA2_7 cXA2_8
  have hb := below_drew w2
  replace B := Lib.hid (below_thru B.out (Nat.le_refl _) hb)
  replace HA1 := Lib.hid (HA1.out.below hb)
  replace HA2 := Lib.hid (HA2.out.below hb)
  replace XA1 := Lib.hid (XA1.out.below hb)
  replace XA2 := Lib.hid (XA2.out.below hb)
  clear hb
  go_region_held3 (fun w' => w'.cell? ⟨w.heap.size, 0, none⟩ = some (.int .i64 a1k) ∧ w'.cell? ⟨w.heap.size, 1, none⟩ = some (.string a1nm) ∧ w'.cell? ⟨w.heap.size, 2, none⟩ = some (.int .i64 a1n) ∧ w'.cell? ⟨w.heap.size, 3, none⟩ = some (.int .i64 a1fk) ∧ w'.cell? ⟨w.heap.size, 4, none⟩ = some (.slice a1fa a1fn a1fc) ∧ w'.cell? ⟨w.heap.size, 5, none⟩ = some (.int .i64 a1tk) ∧ w'.cell? ⟨w.heap.size, 6, none⟩ = some (.slice a1ta a1tn a1tc) ∧ w'.cell? ⟨w.heap.size, 7, none⟩ = some (.slice a1sa a1sn a1sc) ∧ w'.cell? ⟨w.heap.size, 8, none⟩ = some (.slice a1ea a1en a1ec) ∧ w'.cell? ⟨w.heap.size + 1, 0, none⟩ = some (.int .i64 a2k) ∧ w'.cell? ⟨w.heap.size + 1, 1, none⟩ = some (.string a2nm) ∧ w'.cell? ⟨w.heap.size + 1, 2, none⟩ = some (.int .i64 a2n) ∧ w'.cell? ⟨w.heap.size + 1, 3, none⟩ = some (.int .i64 a2fk) ∧ w'.cell? ⟨w.heap.size + 1, 4, none⟩ = some (.slice a2fa a2fn a2fc) ∧ w'.cell? ⟨w.heap.size + 1, 5, none⟩ = some (.int .i64 a2tk) ∧ w'.cell? ⟨w.heap.size + 1, 6, none⟩ = some (.slice a2ta a2tn a2tc) ∧ w'.cell? ⟨w.heap.size + 1, 7, none⟩ = some (.slice a2sa a2sn a2sc) ∧ w'.cell? ⟨w.heap.size + 1, 8, none⟩ = some (.slice a2ea a2en a2ec)) (exact ⟨XA1.out.2 0, XA1.out.2 1, XA1.out.2 2, XA1.out.2 3, XA1.out.2 4, XA1.out.2 5, XA1.out.2 6, XA1.out.2 7, XA1.out.2 8, XA2.out.2 0, XA2.out.2 1, XA2.out.2 2, XA2.out.2 3, XA2.out.2 4, XA2.out.2 5, XA2.out.2 6, XA2.out.2 7, XA2.out.2 8⟩)
    (first
     | (go_at_call_of 47 (Value.agg #[Value.int IntKind.i64 a1k, Value.string a1nm, Value.int IntKind.i64 a1n, Value.int IntKind.i64 a1fk, Value.slice a1fa a1fn a1fc, Value.int IntKind.i64 a1tk, Value.slice a1ta a1tn a1tc, Value.slice a1sa a1sn a1sc, Value.slice a1ea a1en a1ec])
        refine ((toCo_all d).1 _ t1 _ hn1 HA1.out).mono ?_
        rintro e w3 ⟨s1, fp, rfl, ht, hf, hb⟩
        replace B := Lib.hid (below_thru B.out (Nat.le_refl _) hb)
        replace HA1 := Lib.hid (HA1.out.below hb)
        replace HA2 := Lib.hid (HA2.out.below hb)
        replace XA1 := Lib.hid (XA1.out.below hb)
        replace XA2 := Lib.hid (XA2.out.below hb)
        clear hb
        have Hs1 := Lib.hid ht.at_
        clear ht hf)
     | (go_at_call_of 47 (Value.agg #[Value.int IntKind.i64 a2k, Value.string a2nm, Value.int IntKind.i64 a2n, Value.int IntKind.i64 a2fk, Value.slice a2fa a2fn a2fc, Value.int IntKind.i64 a2tk, Value.slice a2ta a2tn a2tc, Value.slice a2sa a2sn a2sc, Value.slice a2ea a2en a2ec])
        refine ((toCo_all d).1 _ t2 _ hn2 HA2.out).mono ?_
        rintro e w4 ⟨s2, fp, rfl, ht, hf, hb⟩
        replace B := Lib.hid (below_thru B.out (Nat.le_refl _) hb)
        replace HA1 := Lib.hid (HA1.out.below hb)
        replace HA2 := Lib.hid (HA2.out.below hb)
        replace XA1 := Lib.hid (XA1.out.below hb)
        replace XA2 := Lib.hid (XA2.out.below hb)
        replace Hs1 := Lib.hid (Hs1.out.below hb)
        clear hb
        have Hs2 := Lib.hid ht.at_
        clear ht hf)
     | (go_at_call 50
        refine (specEqualCore d s1 s2 t1 t2 _ Hs1.out Hs2.out).mono ?_
        rintro e w5 ⟨rfl, hb⟩
        replace B := Lib.hid (below_thru B.out (Nat.le_refl _) hb)
        replace HA1 := Lib.hid (HA1.out.below hb)
        replace HA2 := Lib.hid (HA2.out.below hb)
        replace XA1 := Lib.hid (XA1.out.below hb)
        replace XA2 := Lib.hid (XA2.out.below hb)
        clear hb
        clear Hs1 Hs2))
  have cXA1_0 := XA1.out.2 0
  have cXA1_1 := XA1.out.2 1
  have cXA1_2 := XA1.out.2 2
  have cXA1_3 := XA1.out.2 3
  have cXA1_4 := XA1.out.2 4
  have cXA1_5 := XA1.out.2 5
  have cXA1_6 := XA1.out.2 6
  have cXA1_7 := XA1.out.2 7
  have cXA1_8 := XA1.out.2 8
  have cXA2_0 := XA2.out.2 0
  have cXA2_1 := XA2.out.2 1
  have cXA2_2 := XA2.out.2 2
  have cXA2_3 := XA2.out.2 3
  have cXA2_4 := XA2.out.2 4
  have cXA2_5 := XA2.out.2 5
  have cXA2_6 := XA2.out.2 6
  have cXA2_7 := XA2.out.2 7
  have cXA2_8 := XA2.out.2 8
  go_wp2_with fail
  clear cXA1_0 cXA1_1 cXA1_2 cXA1_3 cXA1_4 cXA1_5 cXA1_6 cXA1_7 cXA1_8 cXA2_0 cXA2_1 cXA2_2 cXA2_3 cXA2_4 cXA2_5 cXA2_6 cXA2_7 cXA2_8
  refine ((toCo_all d).1 _ t1 _ hn1 HA1.out).mono ?_
  rintro e w6 ⟨x1, fp, rfl, ht, hf, hb⟩
  replace B := Lib.hid (below_thru B.out (Nat.le_refl _) hb)
  replace HA1 := Lib.hid (HA1.out.below hb)
  replace HA2 := Lib.hid (HA2.out.below hb)
  replace XA1 := Lib.hid (XA1.out.below hb)
  replace XA2 := Lib.hid (XA2.out.below hb)
  clear hb
  obtain ⟨x1k, x1nm, x1n, x1fk, x1fa, x1fn, x1fc, x1tk, x1ta, x1tn, x1tc, x1sa, x1sn, x1sc, x1ea, x1en, x1ec, rfl⟩ := co_parts ht.at_
  have HX1 := Lib.hid ht.at_
  clear ht hf
  have XX1 : Hid (BoxAt (w6.alloc (.cells #[.int .i64 x1k, .string x1nm, .int .i64 x1n, .int .i64 x1fk, .slice x1fa x1fn x1fc, .int .i64 x1tk, .slice x1ta x1tn x1tc, .slice x1sa x1sn x1sc, .slice x1ea x1en x1ec] 88)) w6.heap.size #[.int .i64 x1k, .string x1nm, .int .i64 x1n, .int .i64 x1fk, .slice x1fa x1fn x1fc, .int .i64 x1tk, .slice x1ta x1tn x1tc, .slice x1sa x1sn x1sc, .slice x1ea x1en x1ec]) := BoxAt.new _ _ _
  have hb := below_alloc w6 (.cells #[.int .i64 x1k, .string x1nm, .int .i64 x1n, .int .i64 x1fk, .slice x1fa x1fn x1fc, .int .i64 x1tk, .slice x1ta x1tn x1tc, .slice x1sa x1sn x1sc, .slice x1ea x1en x1ec] 88)
  replace B := Lib.hid (below_thru B.out (Nat.le_refl _) hb)
  replace HA1 := Lib.hid (HA1.out.below hb)
  replace HA2 := Lib.hid (HA2.out.below hb)
  replace XA1 := Lib.hid (XA1.out.below hb)
  replace XA2 := Lib.hid (XA2.out.below hb)
  replace HX1 := Lib.hid (HX1.out.below hb)
  clear hb
  have cXA1_0 := XA1.out.2 0
  have cXA1_1 := XA1.out.2 1
  have cXA1_2 := XA1.out.2 2
  have cXA1_3 := XA1.out.2 3
  have cXA1_4 := XA1.out.2 4
  have cXA1_5 := XA1.out.2 5
  have cXA1_6 := XA1.out.2 6
  have cXA1_7 := XA1.out.2 7
  have cXA1_8 := XA1.out.2 8
  have cXA2_0 := XA2.out.2 0
  have cXA2_1 := XA2.out.2 1
  have cXA2_2 := XA2.out.2 2
  have cXA2_3 := XA2.out.2 3
  have cXA2_4 := XA2.out.2 4
  have cXA2_5 := XA2.out.2 5
  have cXA2_6 := XA2.out.2 6
  have cXA2_7 := XA2.out.2 7
  have cXA2_8 := XA2.out.2 8
  have cXX1_0 := XX1.out.2 0
  have cXX1_1 := XX1.out.2 1
  have cXX1_2 := XX1.out.2 2
  have cXX1_3 := XX1.out.2 3
  have cXX1_4 := XX1.out.2 4
  have cXX1_5 := XX1.out.2 5
  have cXX1_6 := XX1.out.2 6
  have cXX1_7 := XX1.out.2 7
  have cXX1_8 := XX1.out.2 8
  go_wp2_with fail
  clear cXA1_0 cXA1_1 cXA1_2 cXA1_3 cXA1_4 cXA1_5 cXA1_6 cXA1_7 cXA1_8 cXA2_0 cXA2_1 cXA2_2 cXA2_3 cXA2_4 cXA2_5 cXA2_6 cXA2_7 cXA2_8 cXX1_0 cXX1_1 cXX1_2 cXX1_3 cXX1_4 cXX1_5 cXX1_6 cXX1_7 cXX1_8
  refine ((toCo_all d).1 _ t2 _ hn2 HA2.out).mono ?_
  rintro e w7 ⟨x2, fp, rfl, ht, hf, hb⟩
  replace B := Lib.hid (below_thru B.out (Nat.le_refl _) hb)
  replace HA1 := Lib.hid (HA1.out.below hb)
  replace HA2 := Lib.hid (HA2.out.below hb)
  replace XA1 := Lib.hid (XA1.out.below hb)
  replace XA2 := Lib.hid (XA2.out.below hb)
  replace HX1 := Lib.hid (HX1.out.below hb)
  replace XX1 := Lib.hid (XX1.out.below hb)
  clear hb
  obtain ⟨x2k, x2nm, x2n, x2fk, x2fa, x2fn, x2fc, x2tk, x2ta, x2tn, x2tc, x2sa, x2sn, x2sc, x2ea, x2en, x2ec, rfl⟩ := co_parts ht.at_
  have HX2 := Lib.hid ht.at_
  clear ht hf
  have XX2 : Hid (BoxAt (w7.alloc (.cells #[.int .i64 x2k, .string x2nm, .int .i64 x2n, .int .i64 x2fk, .slice x2fa x2fn x2fc, .int .i64 x2tk, .slice x2ta x2tn x2tc, .slice x2sa x2sn x2sc, .slice x2ea x2en x2ec] 88)) w7.heap.size #[.int .i64 x2k, .string x2nm, .int .i64 x2n, .int .i64 x2fk, .slice x2fa x2fn x2fc, .int .i64 x2tk, .slice x2ta x2tn x2tc, .slice x2sa x2sn x2sc, .slice x2ea x2en x2ec]) := BoxAt.new _ _ _
  have hb := below_alloc w7 (.cells #[.int .i64 x2k, .string x2nm, .int .i64 x2n, .int .i64 x2fk, .slice x2fa x2fn x2fc, .int .i64 x2tk, .slice x2ta x2tn x2tc, .slice x2sa x2sn x2sc, .slice x2ea x2en x2ec] 88)
  replace B := Lib.hid (below_thru B.out (Nat.le_refl _) hb)
  replace HA1 := Lib.hid (HA1.out.below hb)
  replace HA2 := Lib.hid (HA2.out.below hb)
  replace XA1 := Lib.hid (XA1.out.below hb)
  replace XA2 := Lib.hid (XA2.out.below hb)
  replace HX1 := Lib.hid (HX1.out.below hb)
  replace XX1 := Lib.hid (XX1.out.below hb)
  replace HX2 := Lib.hid (HX2.out.below hb)
  clear hb
  have cXA1_0 := XA1.out.2 0
  have cXA1_1 := XA1.out.2 1
  have cXA1_2 := XA1.out.2 2
  have cXA1_3 := XA1.out.2 3
  have cXA1_4 := XA1.out.2 4
  have cXA1_5 := XA1.out.2 5
  have cXA1_6 := XA1.out.2 6
  have cXA1_7 := XA1.out.2 7
  have cXA1_8 := XA1.out.2 8
  have cXA2_0 := XA2.out.2 0
  have cXA2_1 := XA2.out.2 1
  have cXA2_2 := XA2.out.2 2
  have cXA2_3 := XA2.out.2 3
  have cXA2_4 := XA2.out.2 4
  have cXA2_5 := XA2.out.2 5
  have cXA2_6 := XA2.out.2 6
  have cXA2_7 := XA2.out.2 7
  have cXA2_8 := XA2.out.2 8
  have cXX1_0 := XX1.out.2 0
  have cXX1_1 := XX1.out.2 1
  have cXX1_2 := XX1.out.2 2
  have cXX1_3 := XX1.out.2 3
  have cXX1_4 := XX1.out.2 4
  have cXX1_5 := XX1.out.2 5
  have cXX1_6 := XX1.out.2 6
  have cXX1_7 := XX1.out.2 7
  have cXX1_8 := XX1.out.2 8
  have cXX2_0 := XX2.out.2 0
  have cXX2_1 := XX2.out.2 1
  have cXX2_2 := XX2.out.2 2
  have cXX2_3 := XX2.out.2 3
  have cXX2_4 := XX2.out.2 4
  have cXX2_5 := XX2.out.2 5
  have cXX2_6 := XX2.out.2 6
  have cXX2_7 := XX2.out.2 7
  have cXX2_8 := XX2.out.2 8
  go_wp2_with fail
  clear cXA1_0 cXA1_1 cXA1_2 cXA1_3 cXA1_4 cXA1_5 cXA1_6 cXA1_7 cXA1_8 cXA2_0 cXA2_1 cXA2_2 cXA2_3 cXA2_4 cXA2_5 cXA2_6 cXA2_7 cXA2_8 cXX1_0 cXX1_1 cXX1_2 cXX1_3 cXX1_4 cXX1_5 cXX1_6 cXX1_7 cXX1_8 cXX2_0 cXX2_1 cXX2_2 cXX2_3 cXX2_4 cXX2_5 cXX2_6 cXX2_7 cXX2_8
  refine (implEqualCore d _ _ t1 t2 _ HX1.out HX2.out).mono ?_
  rintro e w8 ⟨rfl, hb⟩
  replace B := Lib.hid (below_thru B.out (Nat.le_refl _) hb)
  replace HA1 := Lib.hid (HA1.out.below hb)
  replace HA2 := Lib.hid (HA2.out.below hb)
  replace XA1 := Lib.hid (XA1.out.below hb)
  replace XA2 := Lib.hid (XA2.out.below hb)
  replace HX1 := Lib.hid (HX1.out.below hb)
  replace XX1 := Lib.hid (XX1.out.below hb)
  replace HX2 := Lib.hid (HX2.out.below hb)
  replace XX2 := Lib.hid (XX2.out.below hb)
  clear hb
  have cXA1_0 := XA1.out.2 0
  have cXA1_1 := XA1.out.2 1
  have cXA1_2 := XA1.out.2 2
  have cXA1_3 := XA1.out.2 3
  have cXA1_4 := XA1.out.2 4
  have cXA1_5 := XA1.out.2 5
  have cXA1_6 := XA1.out.2 6
  have cXA1_7 := XA1.out.2 7
  have cXA1_8 := XA1.out.2 8
  have cXA2_0 := XA2.out.2 0
  have cXA2_1 := XA2.out.2 1
  have cXA2_2 := XA2.out.2 2
  have cXA2_3 := XA2.out.2 3
  have cXA2_4 := XA2.out.2 4
  have cXA2_5 := XA2.out.2 5
  have cXA2_6 := XA2.out.2 6
  have cXA2_7 := XA2.out.2 7
  have cXA2_8 := XA2.out.2 8
  have cXX1_0 := XX1.out.2 0
  have cXX1_1 := XX1.out.2 1
  have cXX1_2 := XX1.out.2 2
  have cXX1_3 := XX1.out.2 3
  have cXX1_4 := XX1.out.2 4
  have cXX1_5 := XX1.out.2 5
  have cXX1_6 := XX1.out.2 6
  have cXX1_7 := XX1.out.2 7
  have cXX1_8 := XX1.out.2 8
  have cXX2_0 := XX2.out.2 0
  have cXX2_1 := XX2.out.2 1
  have cXX2_2 := XX2.out.2 2
  have cXX2_3 := XX2.out.2 3
  have cXX2_4 := XX2.out.2 4
  have cXX2_5 := XX2.out.2 5
  have cXX2_6 := XX2.out.2 6
  have cXX2_7 := XX2.out.2 7
  have cXX2_8 := XX2.out.2 8
  go_wp2_with fail
  clear cXA1_0 cXA1_1 cXA1_2 cXA1_3 cXA1_4 cXA1_5 cXA1_6 cXA1_7 cXA1_8 cXA2_0 cXA2_1 cXA2_2 cXA2_3 cXA2_4 cXA2_5 cXA2_6 cXA2_7 cXA2_8 cXX1_0 cXX1_1 cXX1_2 cXX1_3 cXX1_4 cXX1_5 cXX1_6 cXX1_7 cXX1_8 cXX2_0 cXX2_1 cXX2_2 cXX2_3 cXX2_4 cXX2_5 cXX2_6 cXX2_7 cXX2_8
  have hb := below_drew w8
  replace B := Lib.hid (below_thru B.out (Nat.le_refl _) hb)
  replace HA1 := Lib.hid (HA1.out.below hb)
  replace HA2 := Lib.hid (HA2.out.below hb)
  replace XA1 := Lib.hid (XA1.out.below hb)
  replace XA2 := Lib.hid (XA2.out.below hb)
  replace HX1 := Lib.hid (HX1.out.below hb)
  replace XX1 := Lib.hid (XX1.out.below hb)
  replace HX2 := Lib.hid (HX2.out.below hb)
  replace XX2 := Lib.hid (XX2.out.below hb)
  clear hb
  go_region_held3 (fun w' => w'.cell? ⟨w.heap.size, 0, none⟩ = some (.int .i64 a1k) ∧ w'.cell? ⟨w.heap.size, 1, none⟩ = some (.string a1nm) ∧ w'.cell? ⟨w.heap.size, 2, none⟩ = some (.int .i64 a1n) ∧ w'.cell? ⟨w.heap.size, 3, none⟩ = some (.int .i64 a1fk) ∧ w'.cell? ⟨w.heap.size, 4, none⟩ = some (.slice a1fa a1fn a1fc) ∧ w'.cell? ⟨w.heap.size, 5, none⟩ = some (.int .i64 a1tk) ∧ w'.cell? ⟨w.heap.size, 6, none⟩ = some (.slice a1ta a1tn a1tc) ∧ w'.cell? ⟨w.heap.size, 7, none⟩ = some (.slice a1sa a1sn a1sc) ∧ w'.cell? ⟨w.heap.size, 8, none⟩ = some (.slice a1ea a1en a1ec) ∧ w'.cell? ⟨w.heap.size + 1, 0, none⟩ = some (.int .i64 a2k) ∧ w'.cell? ⟨w.heap.size + 1, 1, none⟩ = some (.string a2nm) ∧ w'.cell? ⟨w.heap.size + 1, 2, none⟩ = some (.int .i64 a2n) ∧ w'.cell? ⟨w.heap.size + 1, 3, none⟩ = some (.int .i64 a2fk) ∧ w'.cell? ⟨w.heap.size + 1, 4, none⟩ = some (.slice a2fa a2fn a2fc) ∧ w'.cell? ⟨w.heap.size + 1, 5, none⟩ = some (.int .i64 a2tk) ∧ w'.cell? ⟨w.heap.size + 1, 6, none⟩ = some (.slice a2ta a2tn a2tc) ∧ w'.cell? ⟨w.heap.size + 1, 7, none⟩ = some (.slice a2sa a2sn a2sc) ∧ w'.cell? ⟨w.heap.size + 1, 8, none⟩ = some (.slice a2ea a2en a2ec) ∧ w'.cell? ⟨w6.heap.size, 0, none⟩ = some (.int .i64 x1k) ∧ w'.cell? ⟨w6.heap.size, 1, none⟩ = some (.string x1nm) ∧ w'.cell? ⟨w6.heap.size, 2, none⟩ = some (.int .i64 x1n) ∧ w'.cell? ⟨w6.heap.size, 3, none⟩ = some (.int .i64 x1fk) ∧ w'.cell? ⟨w6.heap.size, 4, none⟩ = some (.slice x1fa x1fn x1fc) ∧ w'.cell? ⟨w6.heap.size, 5, none⟩ = some (.int .i64 x1tk) ∧ w'.cell? ⟨w6.heap.size, 6, none⟩ = some (.slice x1ta x1tn x1tc) ∧ w'.cell? ⟨w6.heap.size, 7, none⟩ = some (.slice x1sa x1sn x1sc) ∧ w'.cell? ⟨w6.heap.size, 8, none⟩ = some (.slice x1ea x1en x1ec) ∧ w'.cell? ⟨w7.heap.size, 0, none⟩ = some (.int .i64 x2k) ∧ w'.cell? ⟨w7.heap.size, 1, none⟩ = some (.string x2nm) ∧ w'.cell? ⟨w7.heap.size, 2, none⟩ = some (.int .i64 x2n) ∧ w'.cell? ⟨w7.heap.size, 3, none⟩ = some (.int .i64 x2fk) ∧ w'.cell? ⟨w7.heap.size, 4, none⟩ = some (.slice x2fa x2fn x2fc) ∧ w'.cell? ⟨w7.heap.size, 5, none⟩ = some (.int .i64 x2tk) ∧ w'.cell? ⟨w7.heap.size, 6, none⟩ = some (.slice x2ta x2tn x2tc) ∧ w'.cell? ⟨w7.heap.size, 7, none⟩ = some (.slice x2sa x2sn x2sc) ∧ w'.cell? ⟨w7.heap.size, 8, none⟩ = some (.slice x2ea x2en x2ec)) (exact ⟨XA1.out.2 0, XA1.out.2 1, XA1.out.2 2, XA1.out.2 3, XA1.out.2 4, XA1.out.2 5, XA1.out.2 6, XA1.out.2 7, XA1.out.2 8, XA2.out.2 0, XA2.out.2 1, XA2.out.2 2, XA2.out.2 3, XA2.out.2 4, XA2.out.2 5, XA2.out.2 6, XA2.out.2 7, XA2.out.2 8, XX1.out.2 0, XX1.out.2 1, XX1.out.2 2, XX1.out.2 3, XX1.out.2 4, XX1.out.2 5, XX1.out.2 6, XX1.out.2 7, XX1.out.2 8, XX2.out.2 0, XX2.out.2 1, XX2.out.2 2, XX2.out.2 3, XX2.out.2 4, XX2.out.2 5, XX2.out.2 6, XX2.out.2 7, XX2.out.2 8⟩)
    (first
     | (go_at_call_of 47 (Value.agg #[Value.int IntKind.i64 a1k, Value.string a1nm, Value.int IntKind.i64 a1n, Value.int IntKind.i64 a1fk, Value.slice a1fa a1fn a1fc, Value.int IntKind.i64 a1tk, Value.slice a1ta a1tn a1tc, Value.slice a1sa a1sn a1sc, Value.slice a1ea a1en a1ec])
        refine ((toCo_all d).1 _ t1 _ hn1 HA1.out).mono ?_
        rintro e w9 ⟨y1, fp, rfl, ht, hf, hb⟩
        replace B := Lib.hid (below_thru B.out (Nat.le_refl _) hb)
        replace HA1 := Lib.hid (HA1.out.below hb)
        replace HA2 := Lib.hid (HA2.out.below hb)
        replace XA1 := Lib.hid (XA1.out.below hb)
        replace XA2 := Lib.hid (XA2.out.below hb)
        replace HX1 := Lib.hid (HX1.out.below hb)
        replace XX1 := Lib.hid (XX1.out.below hb)
        replace HX2 := Lib.hid (HX2.out.below hb)
        replace XX2 := Lib.hid (XX2.out.below hb)
        clear hb
        have Hy1 := Lib.hid ht.at_
        clear ht hf)
     | (go_at_call 49
        refine (eqCo_all d _ y1 t1 _ HX1.out Hy1.out).mono ?_
        rintro e w10 ⟨rfl, hb⟩
        replace B := Lib.hid (below_thru B.out (Nat.le_refl _) hb)
        replace HA1 := Lib.hid (HA1.out.below hb)
        replace HA2 := Lib.hid (HA2.out.below hb)
        replace XA1 := Lib.hid (XA1.out.below hb)
        replace XA2 := Lib.hid (XA2.out.below hb)
        replace HX1 := Lib.hid (HX1.out.below hb)
        replace XX1 := Lib.hid (XX1.out.below hb)
        replace HX2 := Lib.hid (HX2.out.below hb)
        replace XX2 := Lib.hid (XX2.out.below hb)
        clear hb
        clear Hy1))
  have cXA1_0 := XA1.out.2 0
  have cXA1_1 := XA1.out.2 1
  have cXA1_2 := XA1.out.2 2
  have cXA1_3 := XA1.out.2 3
  have cXA1_4 := XA1.out.2 4
  have cXA1_5 := XA1.out.2 5
  have cXA1_6 := XA1.out.2 6
  have cXA1_7 := XA1.out.2 7
  have cXA1_8 := XA1.out.2 8
  have cXA2_0 := XA2.out.2 0
  have cXA2_1 := XA2.out.2 1
  have cXA2_2 := XA2.out.2 2
  have cXA2_3 := XA2.out.2 3
  have cXA2_4 := XA2.out.2 4
  have cXA2_5 := XA2.out.2 5
  have cXA2_6 := XA2.out.2 6
  have cXA2_7 := XA2.out.2 7
  have cXA2_8 := XA2.out.2 8
  have cXX1_0 := XX1.out.2 0
  have cXX1_1 := XX1.out.2 1
  have cXX1_2 := XX1.out.2 2
  have cXX1_3 := XX1.out.2 3
  have cXX1_4 := XX1.out.2 4
  have cXX1_5 := XX1.out.2 5
  have cXX1_6 := XX1.out.2 6
  have cXX1_7 := XX1.out.2 7
  have cXX1_8 := XX1.out.2 8
  have cXX2_0 := XX2.out.2 0
  have cXX2_1 := XX2.out.2 1
  have cXX2_2 := XX2.out.2 2
  have cXX2_3 := XX2.out.2 3
  have cXX2_4 := XX2.out.2 4
  have cXX2_5 := XX2.out.2 5
  have cXX2_6 := XX2.out.2 6
  have cXX2_7 := XX2.out.2 7
  have cXX2_8 := XX2.out.2 8
  go_wp2_with fail
  clear cXA1_0 cXA1_1 cXA1_2 cXA1_3 cXA1_4 cXA1_5 cXA1_6 cXA1_7 cXA1_8 cXA2_0 cXA2_1 cXA2_2 cXA2_3 cXA2_4 cXA2_5 cXA2_6 cXA2_7 cXA2_8 cXX1_0 cXX1_1 cXX1_2 cXX1_3 cXX1_4 cXX1_5 cXX1_6 cXX1_7 cXX1_8 cXX2_0 cXX2_1 cXX2_2 cXX2_3 cXX2_4 cXX2_5 cXX2_6 cXX2_7 cXX2_8
  have hb := below_drew w10
  replace B := Lib.hid (below_thru B.out (Nat.le_refl _) hb)
  replace HA1 := Lib.hid (HA1.out.below hb)
  replace HA2 := Lib.hid (HA2.out.below hb)
  replace XA1 := Lib.hid (XA1.out.below hb)
  replace XA2 := Lib.hid (XA2.out.below hb)
  replace HX1 := Lib.hid (HX1.out.below hb)
  replace XX1 := Lib.hid (XX1.out.below hb)
  replace HX2 := Lib.hid (HX2.out.below hb)
  replace XX2 := Lib.hid (XX2.out.below hb)
  clear hb
  go_region_held3 (fun w' => w'.cell? ⟨w.heap.size, 0, none⟩ = some (.int .i64 a1k) ∧ w'.cell? ⟨w.heap.size, 1, none⟩ = some (.string a1nm) ∧ w'.cell? ⟨w.heap.size, 2, none⟩ = some (.int .i64 a1n) ∧ w'.cell? ⟨w.heap.size, 3, none⟩ = some (.int .i64 a1fk) ∧ w'.cell? ⟨w.heap.size, 4, none⟩ = some (.slice a1fa a1fn a1fc) ∧ w'.cell? ⟨w.heap.size, 5, none⟩ = some (.int .i64 a1tk) ∧ w'.cell? ⟨w.heap.size, 6, none⟩ = some (.slice a1ta a1tn a1tc) ∧ w'.cell? ⟨w.heap.size, 7, none⟩ = some (.slice a1sa a1sn a1sc) ∧ w'.cell? ⟨w.heap.size, 8, none⟩ = some (.slice a1ea a1en a1ec) ∧ w'.cell? ⟨w.heap.size + 1, 0, none⟩ = some (.int .i64 a2k) ∧ w'.cell? ⟨w.heap.size + 1, 1, none⟩ = some (.string a2nm) ∧ w'.cell? ⟨w.heap.size + 1, 2, none⟩ = some (.int .i64 a2n) ∧ w'.cell? ⟨w.heap.size + 1, 3, none⟩ = some (.int .i64 a2fk) ∧ w'.cell? ⟨w.heap.size + 1, 4, none⟩ = some (.slice a2fa a2fn a2fc) ∧ w'.cell? ⟨w.heap.size + 1, 5, none⟩ = some (.int .i64 a2tk) ∧ w'.cell? ⟨w.heap.size + 1, 6, none⟩ = some (.slice a2ta a2tn a2tc) ∧ w'.cell? ⟨w.heap.size + 1, 7, none⟩ = some (.slice a2sa a2sn a2sc) ∧ w'.cell? ⟨w.heap.size + 1, 8, none⟩ = some (.slice a2ea a2en a2ec) ∧ w'.cell? ⟨w6.heap.size, 0, none⟩ = some (.int .i64 x1k) ∧ w'.cell? ⟨w6.heap.size, 1, none⟩ = some (.string x1nm) ∧ w'.cell? ⟨w6.heap.size, 2, none⟩ = some (.int .i64 x1n) ∧ w'.cell? ⟨w6.heap.size, 3, none⟩ = some (.int .i64 x1fk) ∧ w'.cell? ⟨w6.heap.size, 4, none⟩ = some (.slice x1fa x1fn x1fc) ∧ w'.cell? ⟨w6.heap.size, 5, none⟩ = some (.int .i64 x1tk) ∧ w'.cell? ⟨w6.heap.size, 6, none⟩ = some (.slice x1ta x1tn x1tc) ∧ w'.cell? ⟨w6.heap.size, 7, none⟩ = some (.slice x1sa x1sn x1sc) ∧ w'.cell? ⟨w6.heap.size, 8, none⟩ = some (.slice x1ea x1en x1ec) ∧ w'.cell? ⟨w7.heap.size, 0, none⟩ = some (.int .i64 x2k) ∧ w'.cell? ⟨w7.heap.size, 1, none⟩ = some (.string x2nm) ∧ w'.cell? ⟨w7.heap.size, 2, none⟩ = some (.int .i64 x2n) ∧ w'.cell? ⟨w7.heap.size, 3, none⟩ = some (.int .i64 x2fk) ∧ w'.cell? ⟨w7.heap.size, 4, none⟩ = some (.slice x2fa x2fn x2fc) ∧ w'.cell? ⟨w7.heap.size, 5, none⟩ = some (.int .i64 x2tk) ∧ w'.cell? ⟨w7.heap.size, 6, none⟩ = some (.slice x2ta x2tn x2tc) ∧ w'.cell? ⟨w7.heap.size, 7, none⟩ = some (.slice x2sa x2sn x2sc) ∧ w'.cell? ⟨w7.heap.size, 8, none⟩ = some (.slice x2ea x2en x2ec)) (exact ⟨XA1.out.2 0, XA1.out.2 1, XA1.out.2 2, XA1.out.2 3, XA1.out.2 4, XA1.out.2 5, XA1.out.2 6, XA1.out.2 7, XA1.out.2 8, XA2.out.2 0, XA2.out.2 1, XA2.out.2 2, XA2.out.2 3, XA2.out.2 4, XA2.out.2 5, XA2.out.2 6, XA2.out.2 7, XA2.out.2 8, XX1.out.2 0, XX1.out.2 1, XX1.out.2 2, XX1.out.2 3, XX1.out.2 4, XX1.out.2 5, XX1.out.2 6, XX1.out.2 7, XX1.out.2 8, XX2.out.2 0, XX2.out.2 1, XX2.out.2 2, XX2.out.2 3, XX2.out.2 4, XX2.out.2 5, XX2.out.2 6, XX2.out.2 7, XX2.out.2 8⟩)
    (first
     | (go_at_call_of 47 (Value.agg #[Value.int IntKind.i64 a2k, Value.string a2nm, Value.int IntKind.i64 a2n, Value.int IntKind.i64 a2fk, Value.slice a2fa a2fn a2fc, Value.int IntKind.i64 a2tk, Value.slice a2ta a2tn a2tc, Value.slice a2sa a2sn a2sc, Value.slice a2ea a2en a2ec])
        refine ((toCo_all d).1 _ t2 _ hn2 HA2.out).mono ?_
        rintro e w11 ⟨y2, fp, rfl, ht, hf, hb⟩
        replace B := Lib.hid (below_thru B.out (Nat.le_refl _) hb)
        replace HA1 := Lib.hid (HA1.out.below hb)
        replace HA2 := Lib.hid (HA2.out.below hb)
        replace XA1 := Lib.hid (XA1.out.below hb)
        replace XA2 := Lib.hid (XA2.out.below hb)
        replace HX1 := Lib.hid (HX1.out.below hb)
        replace XX1 := Lib.hid (XX1.out.below hb)
        replace HX2 := Lib.hid (HX2.out.below hb)
        replace XX2 := Lib.hid (XX2.out.below hb)
        clear hb
        have Hy2 := Lib.hid ht.at_
        clear ht hf)
     | (go_at_call 49
        refine (eqCo_all d _ y2 t2 _ HX2.out Hy2.out).mono ?_
        rintro e w12 ⟨rfl, hb⟩
        replace B := Lib.hid (below_thru B.out (Nat.le_refl _) hb)
        replace HA1 := Lib.hid (HA1.out.below hb)
        replace HA2 := Lib.hid (HA2.out.below hb)
        replace XA1 := Lib.hid (XA1.out.below hb)
        replace XA2 := Lib.hid (XA2.out.below hb)
        replace HX1 := Lib.hid (HX1.out.below hb)
        replace XX1 := Lib.hid (XX1.out.below hb)
        replace HX2 := Lib.hid (HX2.out.below hb)
        replace XX2 := Lib.hid (XX2.out.below hb)
        clear hb
        clear Hy2))
  have cXA1_0 := XA1.out.2 0
  have cXA1_1 := XA1.out.2 1
  have cXA1_2 := XA1.out.2 2
  have cXA1_3 := XA1.out.2 3
  have cXA1_4 := XA1.out.2 4
  have cXA1_5 := XA1.out.2 5
  have cXA1_6 := XA1.out.2 6
  have cXA1_7 := XA1.out.2 7
  have cXA1_8 := XA1.out.2 8
  have cXA2_0 := XA2.out.2 0
  have cXA2_1 := XA2.out.2 1
  have cXA2_2 := XA2.out.2 2
  have cXA2_3 := XA2.out.2 3
  have cXA2_4 := XA2.out.2 4
  have cXA2_5 := XA2.out.2 5
  have cXA2_6 := XA2.out.2 6
  have cXA2_7 := XA2.out.2 7
  have cXA2_8 := XA2.out.2 8
  have cXX1_0 := XX1.out.2 0
  have cXX1_1 := XX1.out.2 1
  have cXX1_2 := XX1.out.2 2
  have cXX1_3 := XX1.out.2 3
  have cXX1_4 := XX1.out.2 4
  have cXX1_5 := XX1.out.2 5
  have cXX1_6 := XX1.out.2 6
  have cXX1_7 := XX1.out.2 7
  have cXX1_8 := XX1.out.2 8
  have cXX2_0 := XX2.out.2 0
  have cXX2_1 := XX2.out.2 1
  have cXX2_2 := XX2.out.2 2
  have cXX2_3 := XX2.out.2 3
  have cXX2_4 := XX2.out.2 4
  have cXX2_5 := XX2.out.2 5
  have cXX2_6 := XX2.out.2 6
  have cXX2_7 := XX2.out.2 7
  have cXX2_8 := XX2.out.2 8
  go_wp2_with fail
  go_ret
  exact ⟨rfl, B.out⟩
end Go.Proofs.Ytfidcblaabeaaaa
