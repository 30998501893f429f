/-
  Proved: the law FnExactStatusText answers true for every list of numbers, and leaves the memory that was there as it was.
-/
import Derived.Test.YtajikfageppobaaStatusText
import Derived.Test.YtajikfageppobaaToInts
import Derived.Test.YtajikfageppobaaEqInts
namespace Go.Proofs.Ytajikfageppobaa
open Go.RowKit

set_option maxRecDepth 100000 in
set_option maxHeartbeats 2000000 in
theorem statusTextWalk (v : Value) (ss : List Int) (hs : ss.length ≤ 9223372036854775807) (w : World) (h : Ints w v ss) :
    Calls Try.prog 4 #[v] w fun e w' => e = .returned (.bool true) ∧ Below w.heap.size w w' := by
  have HA := Lib.hid h
  obtain ⟨a, cap, rfl, hcap, hat⟩ := h
  clear hat
  by_cases hn : 1048576 < (ss.length : Int)
  · go_enter Try.func4, Try.ntmps4
    go_wp2_with fail
    go_ret
    exact ⟨rfl, Below.refl _ _⟩
  have hn2 : ss.length ≤ 1048576 := by omega
  go_enter Try.func4, Try.ntmps4
  go_wp2_with fail
  refine (toInts _ ss hn2 w HA.out).mono ?_
  rintro e w1 ⟨v1, rfl, ho1, hb1⟩
  have H1 := Lib.hid (Ints.of_own ho1)
  have B := Lib.hid hb1; clear ho1 hb1
  go_wp2_with fail
  refine (specStatus _ ss hn2 w1 H1.out).mono ?_
  rintro e w2 ⟨rfl, hb⟩
  replace B := Lib.hid (below_thru B.out (Nat.le_refl _) hb); clear hb
  go_wp2_with fail
  refine (toInts _ ss hn2 w2 (HA.out.below B.out)).mono ?_
  rintro e w3 ⟨v3, rfl, ho3, hb⟩
  have H3 := Lib.hid (Ints.of_own ho3)
  replace B := Lib.hid (below_thru B.out (Nat.le_refl _) hb); clear hb ho3
  go_wp2_with fail
  refine (implStatus _ ss hn2 w3 H3.out).mono ?_
  rintro e w4 ⟨rfl, hb⟩
  replace B := Lib.hid (below_thru B.out (Nat.le_refl _) hb)
  replace H3 := Lib.hid (H3.out.below hb); clear hb
  generalize statusB ss = sb
  go_wp2_with fail
  refine (toInts _ ss hn2 w4 (HA.out.below B.out)).mono ?_
  rintro e w5 ⟨v5, rfl, ho5, hb⟩
  have H5 := Lib.hid (Ints.of_own ho5)
  replace B := Lib.hid (below_thru B.out (Nat.le_refl _) hb)
  replace H3 := Lib.hid (H3.out.below hb); clear hb ho5
  go_wp2_with fail
  refine (eqInts _ _ ss hs w5 H3.out H5.out).mono ?_
  rintro e w6 ⟨rfl, hb⟩
  replace B := Lib.hid (below_thru B.out (Nat.le_refl _) hb); clear hb
  go_wp2_with fail
  go_ret
  exact ⟨rfl, B.out⟩
end Go.Proofs.Ytajikfageppobaa
