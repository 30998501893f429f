/-
  Proved: the law FnExactFreshName answers true for every list and text, and leaves the memory that was there as it was. On these terms: the library's table of powers of ten holds what the program's text lays.
-/
import Derived.Test.YtadjaclmgdmnbaaDoorToStrs
import Derived.Test.YtadjaclmgdmnbaaDoorSzStrs
import Derived.Test.YtadjaclmgdmnbaaDoorEqStrs
import Derived.Test.YtadjaclmgdmnbaaDoorImplFresh
namespace Go.Proofs.YtadjaclmgdmnbaaDoor
open Go.RowKit

set_option maxRecDepth 100000 in
set_option maxHeartbeats 1000000 in
theorem freshNameWalk (v : Value) (ss : List ByteArray) (base : ByteArray) (hn : ss.length ≤ 9223372036854775807) (hsz : ∀ j (h : j < ss.length), ss[j].size ≤ 9223372036854775807) (hlen : base.size ≤ maxLen) (w : World)
    (htab : Lib.TabIs Tryd.prog w "internal/strconv.uint64pow10" .u64 Lib.pow10Tab) (h : Strs w v ss) :
    Calls Tryd.prog 6 #[v, .string base] w fun e w' => e = .returned (.bool true) ∧ Below w.heap.size w w' := by
  unfold maxLen at hlen
  have HTAB := Lib.hid htab; clear htab
  have HS := Lib.hid h; clear h
  have HZ := Lib.hid hsz; clear hsz
  by_cases hs : 1048576 < base.size
  · go_enter Tryd.func6, Tryd.ntmps6
    go_wp2_with fail
    go_ret
    exact ⟨rfl, Below.refl _ _⟩
  · go_enter Tryd.func6, Tryd.ntmps6
    go_wp2_with fail
    refine (szStrs v ss 1048576 (by omega) (by omega) hn HZ.out _ HS.out).mono ?_
    rintro e w1 ⟨r, rfl, hw, hr⟩
    rw [hw]
    clear hw
    rcases hr with hr | ⟨hr, hr2⟩
    · go_wp2_with fail
      go_ret
      exact ⟨rfl, Below.refl _ _⟩
    · have hn2 : ss.length ≤ 1048576 := by omega
      have hs2 : base.size ≤ 1048576 := by omega
      clear hr2 hn hs
      go_wp2_with fail
      refine (toStrs v ss hn2 _ HS.out).mono ?_
      rintro e w2 ⟨v2, rfl, hown2, hb2⟩
      have HO2 := Lib.hid (Strs.of_own hown2); clear hown2
      have B2 := Lib.hid hb2; clear hb2
      go_wp2_with fail
      refine (specFresh v2 ss base hn2 hs2 _ HO2.out).mono ?_
      rintro e w3 ⟨m, rfl, hm, hb3⟩
      have HM := Lib.hid hm; clear hm
      have B3 := Lib.hid (B2.out.trans (hb3.mono B2.out.size)); clear hb3
      obtain ⟨nm, hnm⟩ : ∃ nm, nm = cand base m := ⟨_, rfl⟩
      rw [← hnm]
      have HNM := Lib.hid hnm; clear hnm
      go_wp2_with fail
      refine (toStrs v ss hn2 _ (HS.out.below B3.out)).mono ?_
      rintro e w4 ⟨v4, rfl, hown4, hb4⟩
      have HO4 := Lib.hid (Strs.of_own hown4); clear hown4
      have B4 := Lib.hid (B3.out.trans (hb4.mono B3.out.size)); clear hb4
      go_wp2_with fail
      refine (implFresh v4 ss base hn2 hs2 HZ.out _ (Law.tab_below B4.out HTAB.out) HO4.out).mono ?_
      rintro e w5 ⟨m', rfl, hm', hb5⟩
      obtain rfl := HM.out.unique hm'
      clear hm'
      rw [← HNM.out]
      have HO5 := Lib.hid (HO4.out.below hb5)
      have B5 := Lib.hid (B4.out.trans (hb5.mono B4.out.size)); clear hb5
      go_wp2_with fail
      refine (toStrs v ss hn2 _ (HS.out.below B5.out)).mono ?_
      rintro e w6 ⟨v6, rfl, hown6, hb6⟩
      have HO6 := Lib.hid (Strs.of_own hown6); clear hown6
      have HO56 := Lib.hid (HO5.out.below hb6)
      have B6 := Lib.hid (B5.out.trans (hb6.mono B5.out.size)); clear hb6
      go_wp2_with fail
      refine (eqStrs v4 v6 ss (by omega) _ HO56.out HO6.out).mono ?_
      rintro e w7 ⟨rfl, hb7⟩
      have B7 := Lib.hid (B6.out.trans (hb7.mono B6.out.size)); clear hb7
      go_wp2_with fail
      go_ret
      exact ⟨rfl, B7.out⟩
end Go.Proofs.YtadjaclmgdmnbaaDoor
