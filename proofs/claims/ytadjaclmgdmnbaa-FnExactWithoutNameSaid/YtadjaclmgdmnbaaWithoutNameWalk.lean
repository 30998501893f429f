/-
  Proved: the law FnExactWithoutName answers true for every list and text, and leaves the memory that was there as it was.
-/
import Derived.Test.YtadjaclmgdmnbaaToStrs
import Derived.Test.YtadjaclmgdmnbaaSzStrs
import Derived.Test.YtadjaclmgdmnbaaEqStrs
import Derived.Test.YtadjaclmgdmnbaaStrsIn
import Derived.Test.YtadjaclmgdmnbaaWithout
namespace Go.Proofs.Ytadjaclmgdmnbaa
open Go.RowKit

set_option maxRecDepth 100000 in
set_option maxHeartbeats 2000000 in
theorem withoutNameWalk (v1 : Value) (ss1 : List ByteArray) (s : ByteArray) (hn1 : ss1.length ≤ 9223372036854775807) (hsz1 : ∀ j (h : j < ss1.length), ss1[j].size ≤ 9223372036854775807) (hlen : s.size ≤ maxLen) (w : World) (h1 : Strs w v1 ss1) :
    Calls Try.prog 4 #[v1, .string s] w fun e w' => e = .returned (.bool true) ∧ Below w.heap.size w w' := by
  have B : Hid (Below w.heap.size w w) := Below.refl _ _
  have HS10 := Lib.hid h1
  have HS1 := Lib.hid h1
  have HZ1 := Lib.hid hsz1
  clear h1 hsz1
  unfold maxLen at hlen
  by_cases hs : 1048576 < s.size
  · go_enter Try.func4, Try.ntmps4
    go_wp2_with fail
    go_ret
    exact ⟨rfl, Below.refl _ _⟩
  go_enter Try.func4, Try.ntmps4
  go_wp2_with fail
  refine (szStrs v1 ss1 1048576 (by omega) (by omega) hn1 HZ1.out _ HS1.out).mono ?_
  rintro e w91 ⟨r1, rfl, hw, hr1⟩
  rw [hw]
  clear hw
  rcases hr1 with hr1 | ⟨hr1, hq1⟩
  · go_wp2_with fail
    go_ret
    exact ⟨rfl, Below.refl _ _⟩
  have hm1 : ss1.length ≤ 1048576 := by omega
  go_wp2_with fail
  have hrb : (without ss1 s).length ≤ 2097152 := Nat.le_trans (without_few s ss1) (by omega)
  refine (toStrs v1 ss1 hm1 _ HS1.out).mono ?_
  rintro e w2 ⟨s1, rfl, hown, hb⟩
  have hz2 := hb.size
  replace B := Lib.hid (B.out.trans (hb.mono B.out.size))
  replace HS1 := Lib.hid (HS1.out.below hb)
  clear hb
  have Hs1 := Lib.hid (StrsIn.of hown (lo := _) (by first | exact Nat.le_refl _ | omega))
  clear hown
  go_wp2_with fail
  refine (specWithout _ ss1 s hm1 _ Hs1.out.strs).mono ?_
  rintro e w3 ⟨o, rfl, hi, hb⟩
  have hz3 := hb.size
  replace B := Lib.hid (B.out.trans (hb.mono B.out.size))
  replace HS1 := Lib.hid (HS1.out.below hb)
  replace Hs1 := Lib.hid (Hs1.out.below hb)
  clear hb
  have Ho := Lib.hid hi
  clear hi
  go_wp2_with fail
  clear Hs1
  refine (toStrs v1 ss1 hm1 _ HS1.out).mono ?_
  rintro e w4 ⟨x1, rfl, hown, hb⟩
  have hz4 := hb.size
  replace B := Lib.hid (B.out.trans (hb.mono B.out.size))
  replace HS1 := Lib.hid (HS1.out.below hb)
  replace Ho := Lib.hid (Ho.out.below hb)
  clear hb
  have Hx1 := Lib.hid (StrsIn.of hown (lo := _) (by first | exact Nat.le_refl _ | omega))
  clear hown
  go_wp2_with fail
  refine (implWithout _ ss1 s hm1 _ Hx1.out.strs).mono ?_
  rintro e w5 ⟨g, rfl, hi, hb⟩
  have hz5 := hb.size
  replace B := Lib.hid (B.out.trans (hb.mono B.out.size))
  replace HS1 := Lib.hid (HS1.out.below hb)
  replace Ho := Lib.hid (Ho.out.below hb)
  replace Hx1 := Lib.hid (Hx1.out.below hb)
  clear hb
  have Hg := Lib.hid hi
  clear hi
  go_wp2_with fail
  refine (eqStrs _ _ (without ss1 s) (by omega) _ Hg.out.strs Ho.out.strs).mono ?_
  rintro e w6 ⟨rfl, hb⟩
  have hz6 := hb.size
  replace B := Lib.hid (B.out.trans (hb.mono B.out.size))
  replace HS1 := Lib.hid (HS1.out.below hb)
  replace Ho := Lib.hid (Ho.out.below hb)
  replace Hx1 := Lib.hid (Hx1.out.below hb)
  replace Hg := Lib.hid (Hg.out.below hb)
  clear hb
  go_wp2_with fail
  refine (toStrs v1 ss1 hm1 _ HS1.out).mono ?_
  rintro e w7 ⟨y, rfl, hown, hb⟩
  have hz7 := hb.size
  replace B := Lib.hid (B.out.trans (hb.mono B.out.size))
  replace HS1 := Lib.hid (HS1.out.below hb)
  replace Ho := Lib.hid (Ho.out.below hb)
  replace Hx1 := Lib.hid (Hx1.out.below hb)
  replace Hg := Lib.hid (Hg.out.below hb)
  clear hb
  have Hy := Lib.hid (StrsIn.of hown (lo := _) (by first | exact Nat.le_refl _ | omega))
  clear hown
  go_wp2_with fail
  refine (eqStrs _ _ (ss1) (by omega) _ Hx1.out.strs Hy.out.strs).mono ?_
  rintro e w8 ⟨rfl, hb⟩
  have hz8 := hb.size
  replace B := Lib.hid (B.out.trans (hb.mono B.out.size))
  replace HS1 := Lib.hid (HS1.out.below hb)
  replace Ho := Lib.hid (Ho.out.below hb)
  replace Hx1 := Lib.hid (Hx1.out.below hb)
  replace Hg := Lib.hid (Hg.out.below hb)
  replace Hy := Lib.hid (Hy.out.below hb)
  clear hb
  go_wp2_with fail
  clear Hy
  refine (markStrsIn w.heap.size _ _ _ _ _ (by omega) (by omega) (by omega) Hx1.out).mono ?_
  rintro e w9 ⟨rfl, hm, hb0, hk⟩
  replace B := Lib.hid (B.out.trans hb0)
  replace HS1 := Lib.hid (HS10.out.below B.out)
  replace Ho := Lib.hid (Ho.out.beside hk (by omega))
  replace Hg := Lib.hid (Hg.out.beside hk (by omega))
  replace Hx1 := Lib.hid hm
  have hz9 := hk.1
  clear hb0 hk hm
  clear Hx1
  go_wp2_with fail
  refine (eqStrs _ _ (without ss1 s) (by omega) _ Hg.out.strs Ho.out.strs).mono ?_
  rintro e w10 ⟨rfl, hb⟩
  have hz10 := hb.size
  replace B := Lib.hid (B.out.trans (hb.mono B.out.size))
  replace HS1 := Lib.hid (HS1.out.below hb)
  replace Ho := Lib.hid (Ho.out.below hb)
  replace Hg := Lib.hid (Hg.out.below hb)
  clear hb
  go_wp2_with fail
  refine (markStrsIn w.heap.size _ _ _ _ _ (by omega) (by omega) (by omega) Hg.out).mono ?_
  rintro e w11 ⟨rfl, hm, hb0, hk⟩
  replace B := Lib.hid (B.out.trans hb0)
  replace HS1 := Lib.hid (HS10.out.below B.out)
  replace Ho := Lib.hid (Ho.out.beside hk (by omega))
  replace Hg := Lib.hid hm
  have hz11 := hk.1
  clear hb0 hk hm
  obtain ⟨m, hm⟩ : ∃ m : Int, m = 1 + ((without ss1 s).length : Int) := ⟨_, rfl⟩
  rw [← hm]
  have HM := Lib.hid hm
  have hm0 : 0 ≤ m := by omega
  have hmm : m ≤ 1099511627776 := by omega
  clear hm
  go_wp2_with fail
  refine (heldStrsIn _ (without ss1 s).length _ _ _ (by omega) Hg.out).mono ?_
  rintro e w12 ⟨rfl, hb⟩
  have hz12 := hb.size
  replace B := Lib.hid (B.out.trans (hb.mono B.out.size))
  replace HS1 := Lib.hid (HS1.out.below hb)
  replace Ho := Lib.hid (Ho.out.below hb)
  replace Hg := Lib.hid (Hg.out.below hb)
  clear hb
  rw [← HM.out]
  go_wp2_with fail
  refine (toStrs v1 ss1 hm1 _ HS1.out).mono ?_
  rintro e w13 ⟨h1, rfl, hown, hb⟩
  have hz13 := hb.size
  replace B := Lib.hid (B.out.trans (hb.mono B.out.size))
  replace HS1 := Lib.hid (HS1.out.below hb)
  replace Ho := Lib.hid (Ho.out.below hb)
  replace Hg := Lib.hid (Hg.out.below hb)
  clear hb
  have Hh1 := Lib.hid (StrsIn.of hown (lo := _) (by first | exact Nat.le_refl _ | omega))
  clear hown
  go_wp2_with fail
  refine (implWithout _ ss1 s hm1 _ Hh1.out.strs).mono ?_
  rintro e w14 ⟨j, rfl, hi, hb⟩
  have hz14 := hb.size
  replace B := Lib.hid (B.out.trans (hb.mono B.out.size))
  replace HS1 := Lib.hid (HS1.out.below hb)
  replace Ho := Lib.hid (Ho.out.below hb)
  replace Hg := Lib.hid (Hg.out.below hb)
  replace Hh1 := Lib.hid (Hh1.out.below hb)
  clear hb
  have Hj := Lib.hid hi
  clear hi
  go_wp2_with fail
  clear Hh1
  refine (eqStrs _ _ (without ss1 s) (by omega) _ Hj.out.strs Ho.out.strs).mono ?_
  rintro e w15 ⟨rfl, hb⟩
  have hz15 := hb.size
  replace B := Lib.hid (B.out.trans (hb.mono B.out.size))
  replace HS1 := Lib.hid (HS1.out.below hb)
  replace Ho := Lib.hid (Ho.out.below hb)
  replace Hg := Lib.hid (Hg.out.below hb)
  replace Hj := Lib.hid (Hj.out.below hb)
  clear hb
  go_wp2_with fail
  refine (heldStrsIn _ (without ss1 s).length _ _ _ (by omega) Hg.out).mono ?_
  rintro e w16 ⟨rfl, hb⟩
  have hz16 := hb.size
  replace B := Lib.hid (B.out.trans (hb.mono B.out.size))
  replace HS1 := Lib.hid (HS1.out.below hb)
  replace Ho := Lib.hid (Ho.out.below hb)
  replace Hg := Lib.hid (Hg.out.below hb)
  replace Hj := Lib.hid (Hj.out.below hb)
  clear hb
  rw [← HM.out]
  go_wp2_with fail
  go_ret
  exact ⟨rfl, B.out⟩
end Go.Proofs.Ytadjaclmgdmnbaa
