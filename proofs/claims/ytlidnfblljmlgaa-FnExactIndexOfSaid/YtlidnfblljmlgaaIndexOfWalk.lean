/-
  Proved: the law FnExactIndexOf answers true for every list and text, and leaves the memory that was there as it was.
-/
import Derived.Test.YtlidnfblljmlgaaToStrs
import Derived.Test.YtlidnfblljmlgaaSzStrs
import Derived.Test.YtlidnfblljmlgaaEqStrs
import Derived.Test.YtlidnfblljmlgaaIndex
namespace Go.Proofs.Ytlidnfblljmlgaa
open Go.RowKit

set_option maxRecDepth 100000 in
set_option maxHeartbeats 1000000 in
theorem indexOfWalk (v : Value) (ss : List ByteArray) (sep : ByteArray) (hn : ss.length ≤ 9223372036854775807) (hsz : ∀ j (h : j < ss.length), ss[j].size ≤ 9223372036854775807) (hlen : sep.size ≤ maxLen) (w : World) (h : Strs w v ss) :
    Calls Try.prog 4 #[v, .string sep] w fun e w' => e = .returned (.bool true) ∧ Below w.heap.size w w' := by
  unfold maxLen at hlen
  have HS := Lib.hid h; clear h
  have HZ := Lib.hid hsz; clear hsz
  by_cases hs : 1048576 < sep.size
  · go_enter Try.func4, Try.ntmps4
    go_wp2_with fail
    go_ret
    exact ⟨rfl, Below.refl _ _⟩
  · go_enter Try.func4, Try.ntmps4
    go_wp2_with fail
    refine (szStrs v ss 1048576 (by omega) (by omega) hn HZ.out _ HS.out).mono ?_
    rintro e w1 ⟨r, rfl, rfl, hr⟩
    rcases hr with hr | ⟨hr, hr2⟩
    · go_wp2_with fail
      go_ret
      exact ⟨rfl, Below.refl _ _⟩
    · have hn2 : ss.length ≤ 1048576 := by omega
      clear hr2 hn hs
      go_wp2_with fail

      refine (toStrs v ss hn2 _ HS.out).mono ?_
      rintro e w2 ⟨v2, rfl, hown2, hb2⟩
      have HO2 := Lib.hid (Strs.of_own hown2); clear hown2
      go_wp2_with fail
      refine (specIndex v2 ss sep hn2 _ HO2.out).mono ?_
      rintro e w3 ⟨rfl, hb3⟩
      have hb3' := Lib.hid (hb2.trans (hb3.mono hb2.size)); clear hb2 hb3
      go_wp2_with fail
      refine (toStrs v ss hn2 _ (HS.out.below hb3'.out)).mono ?_
      rintro e w4 ⟨v4, rfl, hown4, hb4⟩
      have HO4 := Lib.hid (Strs.of_own hown4); clear hown4
      have hb4' := Lib.hid (hb3'.out.trans (hb4.mono hb3'.out.size)); clear hb4
      go_wp2_with fail
      refine (implIndex v4 ss sep hn2 _ HO4.out).mono ?_
      rintro e w5 ⟨rfl, hb5⟩
      have HO5 := Lib.hid (HO4.out.below hb5)
      have hb5' := Lib.hid (hb4'.out.trans (hb5.mono hb4'.out.size)); clear hb5
      go_wp2_with fail
      refine (toStrs v ss hn2 _ (HS.out.below hb5'.out)).mono ?_
      rintro e w6 ⟨v6, rfl, hown6, hb6⟩
      have HO6 := Lib.hid (Strs.of_own hown6); clear hown6
      have HO56 := Lib.hid (HO5.out.below hb6)
      have hb6' := Lib.hid (hb5'.out.trans (hb6.mono hb5'.out.size)); clear hb6
      go_wp2_with fail
      refine (eqStrs v4 v6 ss (by omega) _ HO56.out HO6.out).mono ?_
      rintro e w7 ⟨rfl, hb7⟩
      have hb7' := Lib.hid (hb6'.out.trans (hb7.mono hb6'.out.size)); clear hb7
      go_wp2_with fail
      go_ret
      exact ⟨rfl, hb7'.out⟩
end Go.Proofs.Ytlidnfblljmlgaa
