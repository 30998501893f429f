/-
  Proved: the law FnExactUniteNames answers true for every two lists, and leaves the memory that was there as it was.
-/
import Derived.Test.YtadjaclmgdmnbaaToStrs
import Derived.Test.YtadjaclmgdmnbaaSzStrs
import Derived.Test.YtadjaclmgdmnbaaEqStrs
import Derived.Test.YtadjaclmgdmnbaaStrsIn
import Derived.Test.YtadjaclmgdmnbaaImplUnite
namespace Go.Proofs.Ytadjaclmgdmnbaa
open Go.RowKit

set_option maxRecDepth 100000 in
set_option maxHeartbeats 2000000 in
theorem uniteNamesWalk (v1 : Value) (ss1 : List ByteArray) (v2 : Value) (ss2 : List ByteArray) (hn1 : ss1.length ≤ 9223372036854775807) (hsz1 : ∀ j (h : j < ss1.length), ss1[j].size ≤ 9223372036854775807) (hn2 : ss2.length ≤ 9223372036854775807) (hsz2 : ∀ j (h : j < ss2.length), ss2[j].size ≤ 9223372036854775807) (w : World) (h1 : Strs w v1 ss1) (h2 : Strs w v2 ss2) :
    Calls Try.prog 5 #[v1, v2] w fun e w' => e = .returned (.bool true) ∧ Below w.heap.size w w' := by
  have B : Hid (Below w.heap.size w w) := Below.refl _ _
  have HS10 := Lib.hid h1
  have HS1 := Lib.hid h1
  have HZ1 := Lib.hid hsz1
  clear h1 hsz1
  have HS20 := Lib.hid h2
  have HS2 := Lib.hid h2
  have HZ2 := Lib.hid hsz2
  clear h2 hsz2
  go_enter Try.func5, Try.ntmps5
  go_wp2_with fail
  refine (szStrs v1 ss1 1048576 (by omega) (by omega) hn1 HZ1.out _ HS1.out).mono ?_
  rintro e w91 ⟨r1, rfl, hw, hr1⟩
  rw [hw]
  clear hw
  rcases hr1 with hr1 | ⟨hr1, hq1⟩
  · go_wp2_with fail
    go_ret
    exact ⟨rfl, Below.refl _ _⟩
  have hm1 : ss1.length ≤ 1048576 := by omega
  go_wp2_with fail
  refine (szStrs v2 ss2 r1 (by omega) (by omega) hn2 HZ2.out _ HS2.out).mono ?_
  rintro e w92 ⟨r2, rfl, hw, hr2⟩
  rw [hw]
  clear hw
  rcases hr2 with hr2 | ⟨hr2, hq2⟩
  · go_wp2_with fail
    go_ret
    exact ⟨rfl, Below.refl _ _⟩
  have hm2 : ss2.length ≤ 1048576 := by omega
  go_wp2_with fail
  have hrb : (addAll (addAll [] ss1) ss2).length ≤ 2097152 := by have h1 := addAll_few ss2 (addAll [] ss1); have h2 := addAll_few ss1 []; simp at h2; omega
  refine (toStrs v1 ss1 hm1 _ HS1.out).mono ?_
  rintro e w2 ⟨s1, rfl, hown, hb⟩
  have hz2 := hb.size
  replace B := Lib.hid (B.out.trans (hb.mono B.out.size))
  replace HS1 := Lib.hid (HS1.out.below hb)
  replace HS2 := Lib.hid (HS2.out.below hb)
  clear hb
  have Hs1 := Lib.hid (StrsIn.of hown (lo := _) (by first | exact Nat.le_refl _ | omega))
  clear hown
  go_wp2_with fail
  refine (toStrs v2 ss2 hm2 _ HS2.out).mono ?_
  rintro e w3 ⟨s2, rfl, hown, hb⟩
  have hz3 := hb.size
  replace B := Lib.hid (B.out.trans (hb.mono B.out.size))
  replace HS1 := Lib.hid (HS1.out.below hb)
  replace HS2 := Lib.hid (HS2.out.below hb)
  replace Hs1 := Lib.hid (Hs1.out.below hb)
  clear hb
  have Hs2 := Lib.hid (StrsIn.of hown (lo := _) (by first | exact Nat.le_refl _ | omega))
  clear hown
  go_wp2_with fail
  refine (specUnite _ _ ss1 ss2 (by omega) _ Hs1.out.strs Hs2.out.strs).mono ?_
  rintro e w4 ⟨o, rfl, hi, hb⟩
  have hz4 := hb.size
  replace B := Lib.hid (B.out.trans (hb.mono B.out.size))
  replace HS1 := Lib.hid (HS1.out.below hb)
  replace HS2 := Lib.hid (HS2.out.below hb)
  replace Hs1 := Lib.hid (Hs1.out.below hb)
  replace Hs2 := Lib.hid (Hs2.out.below hb)
  clear hb
  have Ho := Lib.hid hi
  clear hi
  go_wp2_with fail
  clear Hs1
  clear Hs2
  refine (toStrs v1 ss1 hm1 _ HS1.out).mono ?_
  rintro e w5 ⟨x1, rfl, hown, hb⟩
  have hz5 := hb.size
  replace B := Lib.hid (B.out.trans (hb.mono B.out.size))
  replace HS1 := Lib.hid (HS1.out.below hb)
  replace HS2 := Lib.hid (HS2.out.below hb)
  replace Ho := Lib.hid (Ho.out.below hb)
  clear hb
  have Hx1 := Lib.hid (StrsIn.of hown (lo := _) (by first | exact Nat.le_refl _ | omega))
  clear hown
  go_wp2_with fail
  refine (toStrs v2 ss2 hm2 _ HS2.out).mono ?_
  rintro e w6 ⟨x2, rfl, hown, hb⟩
  have hz6 := hb.size
  replace B := Lib.hid (B.out.trans (hb.mono B.out.size))
  replace HS1 := Lib.hid (HS1.out.below hb)
  replace HS2 := Lib.hid (HS2.out.below hb)
  replace Ho := Lib.hid (Ho.out.below hb)
  replace Hx1 := Lib.hid (Hx1.out.below hb)
  clear hb
  have Hx2 := Lib.hid (StrsIn.of hown (lo := _) (by first | exact Nat.le_refl _ | omega))
  clear hown
  go_wp2_with fail
  refine (implUnite _ _ ss1 ss2 (by omega) HZ1.out HZ2.out _ Hx1.out.strs Hx2.out.strs).mono ?_
  rintro e w7 ⟨g, rfl, hi, hb⟩
  have hz7 := hb.size
  replace B := Lib.hid (B.out.trans (hb.mono B.out.size))
  replace HS1 := Lib.hid (HS1.out.below hb)
  replace HS2 := Lib.hid (HS2.out.below hb)
  replace Ho := Lib.hid (Ho.out.below hb)
  replace Hx1 := Lib.hid (Hx1.out.below hb)
  replace Hx2 := Lib.hid (Hx2.out.below hb)
  clear hb
  have Hg := Lib.hid hi
  clear hi
  go_wp2_with fail
  refine (eqStrs _ _ (addAll (addAll [] ss1) ss2) (by omega) _ Hg.out.strs Ho.out.strs).mono ?_
  rintro e w8 ⟨rfl, hb⟩
  have hz8 := hb.size
  replace B := Lib.hid (B.out.trans (hb.mono B.out.size))
  replace HS1 := Lib.hid (HS1.out.below hb)
  replace HS2 := Lib.hid (HS2.out.below hb)
  replace Ho := Lib.hid (Ho.out.below hb)
  replace Hx1 := Lib.hid (Hx1.out.below hb)
  replace Hx2 := Lib.hid (Hx2.out.below hb)
  replace Hg := Lib.hid (Hg.out.below hb)
  clear hb
  go_wp2_with fail
  refine (toStrs v1 ss1 hm1 _ HS1.out).mono ?_
  rintro e w9 ⟨y, rfl, hown, hb⟩
  have hz9 := hb.size
  replace B := Lib.hid (B.out.trans (hb.mono B.out.size))
  replace HS1 := Lib.hid (HS1.out.below hb)
  replace HS2 := Lib.hid (HS2.out.below hb)
  replace Ho := Lib.hid (Ho.out.below hb)
  replace Hx1 := Lib.hid (Hx1.out.below hb)
  replace Hx2 := Lib.hid (Hx2.out.below hb)
  replace Hg := Lib.hid (Hg.out.below hb)
  clear hb
  have Hy := Lib.hid (StrsIn.of hown (lo := _) (by first | exact Nat.le_refl _ | omega))
  clear hown
  go_wp2_with fail
  refine (eqStrs _ _ (ss1) (by omega) _ Hx1.out.strs Hy.out.strs).mono ?_
  rintro e w10 ⟨rfl, hb⟩
  have hz10 := hb.size
  replace B := Lib.hid (B.out.trans (hb.mono B.out.size))
  replace HS1 := Lib.hid (HS1.out.below hb)
  replace HS2 := Lib.hid (HS2.out.below hb)
  replace Ho := Lib.hid (Ho.out.below hb)
  replace Hx1 := Lib.hid (Hx1.out.below hb)
  replace Hx2 := Lib.hid (Hx2.out.below hb)
  replace Hg := Lib.hid (Hg.out.below hb)
  replace Hy := Lib.hid (Hy.out.below hb)
  clear hb
  go_wp2_with fail
  clear Hy
  refine (toStrs v2 ss2 hm2 _ HS2.out).mono ?_
  rintro e w11 ⟨y, rfl, hown, hb⟩
  have hz11 := hb.size
  replace B := Lib.hid (B.out.trans (hb.mono B.out.size))
  replace HS1 := Lib.hid (HS1.out.below hb)
  replace HS2 := Lib.hid (HS2.out.below hb)
  replace Ho := Lib.hid (Ho.out.below hb)
  replace Hx1 := Lib.hid (Hx1.out.below hb)
  replace Hx2 := Lib.hid (Hx2.out.below hb)
  replace Hg := Lib.hid (Hg.out.below hb)
  clear hb
  have Hy := Lib.hid (StrsIn.of hown (lo := _) (by first | exact Nat.le_refl _ | omega))
  clear hown
  go_wp2_with fail
  refine (eqStrs _ _ (ss2) (by omega) _ Hx2.out.strs Hy.out.strs).mono ?_
  rintro e w12 ⟨rfl, hb⟩
  have hz12 := hb.size
  replace B := Lib.hid (B.out.trans (hb.mono B.out.size))
  replace HS1 := Lib.hid (HS1.out.below hb)
  replace HS2 := Lib.hid (HS2.out.below hb)
  replace Ho := Lib.hid (Ho.out.below hb)
  replace Hx1 := Lib.hid (Hx1.out.below hb)
  replace Hx2 := Lib.hid (Hx2.out.below hb)
  replace Hg := Lib.hid (Hg.out.below hb)
  replace Hy := Lib.hid (Hy.out.below hb)
  clear hb
  go_wp2_with fail
  clear Hy
  refine (markStrsIn w.heap.size _ _ _ _ _ (by omega) (by omega) (by omega) Hx1.out).mono ?_
  rintro e w13 ⟨rfl, hm, hb0, hk⟩
  replace B := Lib.hid (B.out.trans hb0)
  replace HS1 := Lib.hid (HS10.out.below B.out)
  replace HS2 := Lib.hid (HS20.out.below B.out)
  replace Ho := Lib.hid (Ho.out.beside hk (by omega))
  replace Hx2 := Lib.hid (Hx2.out.beside hk (by omega))
  replace Hg := Lib.hid (Hg.out.beside hk (by omega))
  replace Hx1 := Lib.hid hm
  have hz13 := hk.1
  clear hb0 hk hm
  clear Hx1
  go_wp2_with fail
  have hk2 : (0 : Int) ≤ 1 + (ss1.length : Int) + (ss2.length : Int) := by omega
  refine (markStrsAt w.heap.size _ _ _ _ (1 + (ss1.length : Int)) _ (by omega) (by omega) (by omega) (by omega) (by omega) Hx2.out).mono ?_
  rintro e w14 ⟨rfl, hm, hb0, hk⟩
  replace B := Lib.hid (B.out.trans hb0)
  replace HS1 := Lib.hid (HS10.out.below B.out)
  replace HS2 := Lib.hid (HS20.out.below B.out)
  replace Ho := Lib.hid (Ho.out.beside hk (by omega))
  replace Hg := Lib.hid (Hg.out.beside hk (by omega))
  replace Hx2 := Lib.hid hm
  have hz14 := hk.1
  clear hb0 hk hm
  clear Hx2
  go_wp2_with fail
  refine (eqStrs _ _ (addAll (addAll [] ss1) ss2) (by omega) _ Hg.out.strs Ho.out.strs).mono ?_
  rintro e w15 ⟨rfl, hb⟩
  have hz15 := hb.size
  replace B := Lib.hid (B.out.trans (hb.mono B.out.size))
  replace HS1 := Lib.hid (HS1.out.below hb)
  replace HS2 := Lib.hid (HS2.out.below hb)
  replace Ho := Lib.hid (Ho.out.below hb)
  replace Hg := Lib.hid (Hg.out.below hb)
  clear hb
  go_wp2_with fail
  refine (markStrsIn w.heap.size _ _ _ _ _ (by omega) (by omega) (by omega) Hg.out).mono ?_
  rintro e w16 ⟨rfl, hm, hb0, hk⟩
  replace B := Lib.hid (B.out.trans hb0)
  replace HS1 := Lib.hid (HS10.out.below B.out)
  replace HS2 := Lib.hid (HS20.out.below B.out)
  replace Ho := Lib.hid (Ho.out.beside hk (by omega))
  replace Hg := Lib.hid hm
  have hz16 := hk.1
  clear hb0 hk hm
  obtain ⟨m, hm⟩ : ∃ m : Int, m = 1 + ((addAll (addAll [] ss1) ss2).length : Int) := ⟨_, rfl⟩
  rw [← hm]
  have HM := Lib.hid hm
  have hm0 : 0 ≤ m := by omega
  have hmm : m ≤ 1099511627776 := by omega
  clear hm
  go_wp2_with fail
  refine (heldStrsIn _ (addAll (addAll [] ss1) ss2).length _ _ _ (by omega) Hg.out).mono ?_
  rintro e w17 ⟨rfl, hb⟩
  have hz17 := hb.size
  replace B := Lib.hid (B.out.trans (hb.mono B.out.size))
  replace HS1 := Lib.hid (HS1.out.below hb)
  replace HS2 := Lib.hid (HS2.out.below hb)
  replace Ho := Lib.hid (Ho.out.below hb)
  replace Hg := Lib.hid (Hg.out.below hb)
  clear hb
  rw [← HM.out]
  go_wp2_with fail
  refine (toStrs v1 ss1 hm1 _ HS1.out).mono ?_
  rintro e w18 ⟨h1, rfl, hown, hb⟩
  have hz18 := hb.size
  replace B := Lib.hid (B.out.trans (hb.mono B.out.size))
  replace HS1 := Lib.hid (HS1.out.below hb)
  replace HS2 := Lib.hid (HS2.out.below hb)
  replace Ho := Lib.hid (Ho.out.below hb)
  replace Hg := Lib.hid (Hg.out.below hb)
  clear hb
  have Hh1 := Lib.hid (StrsIn.of hown (lo := _) (by first | exact Nat.le_refl _ | omega))
  clear hown
  go_wp2_with fail
  refine (toStrs v2 ss2 hm2 _ HS2.out).mono ?_
  rintro e w19 ⟨h2, rfl, hown, hb⟩
  have hz19 := hb.size
  replace B := Lib.hid (B.out.trans (hb.mono B.out.size))
  replace HS1 := Lib.hid (HS1.out.below hb)
  replace HS2 := Lib.hid (HS2.out.below hb)
  replace Ho := Lib.hid (Ho.out.below hb)
  replace Hg := Lib.hid (Hg.out.below hb)
  replace Hh1 := Lib.hid (Hh1.out.below hb)
  clear hb
  have Hh2 := Lib.hid (StrsIn.of hown (lo := _) (by first | exact Nat.le_refl _ | omega))
  clear hown
  go_wp2_with fail
  refine (implUnite _ _ ss1 ss2 (by omega) HZ1.out HZ2.out _ Hh1.out.strs Hh2.out.strs).mono ?_
  rintro e w20 ⟨j, rfl, hi, hb⟩
  have hz20 := hb.size
  replace B := Lib.hid (B.out.trans (hb.mono B.out.size))
  replace HS1 := Lib.hid (HS1.out.below hb)
  replace HS2 := Lib.hid (HS2.out.below hb)
  replace Ho := Lib.hid (Ho.out.below hb)
  replace Hg := Lib.hid (Hg.out.below hb)
  replace Hh1 := Lib.hid (Hh1.out.below hb)
  replace Hh2 := Lib.hid (Hh2.out.below hb)
  clear hb
  have Hj := Lib.hid hi
  clear hi
  go_wp2_with fail
  clear Hh1
  clear Hh2
  refine (eqStrs _ _ (addAll (addAll [] ss1) ss2) (by omega) _ Hj.out.strs Ho.out.strs).mono ?_
  rintro e w21 ⟨rfl, hb⟩
  have hz21 := hb.size
  replace B := Lib.hid (B.out.trans (hb.mono B.out.size))
  replace HS1 := Lib.hid (HS1.out.below hb)
  replace HS2 := Lib.hid (HS2.out.below hb)
  replace Ho := Lib.hid (Ho.out.below hb)
  replace Hg := Lib.hid (Hg.out.below hb)
  replace Hj := Lib.hid (Hj.out.below hb)
  clear hb
  go_wp2_with fail
  refine (heldStrsIn _ (addAll (addAll [] ss1) ss2).length _ _ _ (by omega) Hg.out).mono ?_
  rintro e w22 ⟨rfl, hb⟩
  have hz22 := hb.size
  replace B := Lib.hid (B.out.trans (hb.mono B.out.size))
  replace HS1 := Lib.hid (HS1.out.below hb)
  replace HS2 := Lib.hid (HS2.out.below hb)
  replace Ho := Lib.hid (Ho.out.below hb)
  replace Hg := Lib.hid (Hg.out.below hb)
  replace Hj := Lib.hid (Hj.out.below hb)
  clear hb
  rw [← HM.out]
  go_wp2_with fail
  go_ret
  exact ⟨rfl, B.out⟩
end Go.Proofs.Ytadjaclmgdmnbaa
