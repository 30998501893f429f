/-
  Proved: the law FnExactIsWithin answers true for every two lists of numbers, and leaves the memory that was there as it was.
-/
import Derived.Test.YtpoafjbndipfeaaToInts
import Derived.Test.YtpoafjbndipfeaaEqInts
import Derived.Test.YtpoafjbndipfeaaWithinList
namespace Go.Proofs.Ytpoafjbndipfeaa
open Go.RowKit

set_option maxRecDepth 100000 in
set_option maxHeartbeats 1000000 in
theorem isWithinWalk (v1 v2 : Value) (ps os : List Int) (w : World) (h1 : Ints w v1 ps) (h2 : Ints w v2 os) :
    Calls Try.prog 7 #[v1, v2] w fun e w' => e = .returned (.bool true) ∧ Below w.heap.size w w' := by
  have H1 := Lib.hid h1
  have H2 := Lib.hid h2
  obtain ⟨a1, cap1, rfl, _, _⟩ := h1
  obtain ⟨a2, cap2, rfl, _, _⟩ := h2
  by_cases hl1 : (1048576 : Int) < ps.length
  · go_enter Try.func7, Try.ntmps7
    go_wp2_with fail
    go_ret
    exact ⟨rfl, Below.refl _ _⟩
  by_cases hl2 : (1048576 : Int) < os.length
  · go_enter Try.func7, Try.ntmps7
    go_wp2_with fail
    go_ret
    exact ⟨rfl, Below.refl _ _⟩
  have hn1 : ps.length ≤ 1048576 := by omega
  have hn2 : os.length ≤ 1048576 := by omega
  go_enter Try.func7, Try.ntmps7
  go_wp2_with fail
  refine (toInts _ ps hn1 _ H1.out).mono ?_
  rintro e w1 ⟨s1, rfl, ho, hb⟩
  have B := Lib.hid hb
  replace H1 := Lib.hid (H1.out.below hb)
  replace H2 := Lib.hid (H2.out.below hb)
  have S1 := Lib.hid (Ints.of_own ho)
  clear ho hb
  go_wp2_with fail
  refine (toInts _ os hn2 _ H2.out).mono ?_
  rintro e w2 ⟨s2, rfl, ho, hb⟩
  replace B := Lib.hid (B.out.trans (hb.mono B.out.size))
  replace H1 := Lib.hid (H1.out.below hb)
  replace H2 := Lib.hid (H2.out.below hb)
  replace S1 := Lib.hid (S1.out.below hb)
  have S2 := Lib.hid (Ints.of_own ho)
  clear ho hb
  go_wp2_with fail
  refine (specWithin _ _ ps os hn2 _ S1.out S2.out).mono ?_
  rintro e w3 ⟨rfl, hb⟩
  replace B := Lib.hid (B.out.trans (hb.mono B.out.size))
  replace H1 := Lib.hid (H1.out.below hb)
  replace H2 := Lib.hid (H2.out.below hb)
  clear hb S1 S2
  go_wp2_with fail
  refine (toInts _ ps hn1 _ H1.out).mono ?_
  rintro e w4 ⟨x1, rfl, ho, hb⟩
  replace B := Lib.hid (B.out.trans (hb.mono B.out.size))
  replace H1 := Lib.hid (H1.out.below hb)
  replace H2 := Lib.hid (H2.out.below hb)
  have X1 := Lib.hid (Ints.of_own ho)
  clear ho hb
  go_wp2_with fail
  refine (toInts _ os hn2 _ H2.out).mono ?_
  rintro e w5 ⟨x2, rfl, ho, hb⟩
  replace B := Lib.hid (B.out.trans (hb.mono B.out.size))
  replace H1 := Lib.hid (H1.out.below hb)
  replace H2 := Lib.hid (H2.out.below hb)
  replace X1 := Lib.hid (X1.out.below hb)
  have X2 := Lib.hid (Ints.of_own ho)
  clear ho hb
  go_wp2_with fail
  refine (implWithin _ _ ps os hn2 _ X1.out X2.out).mono ?_
  rintro e w6 ⟨rfl, hb⟩
  replace B := Lib.hid (B.out.trans (hb.mono B.out.size))
  replace H1 := Lib.hid (H1.out.below hb)
  replace H2 := Lib.hid (H2.out.below hb)
  replace X1 := Lib.hid (X1.out.below hb)
  replace X2 := Lib.hid (X2.out.below hb)
  clear hb
  go_wp2_with fail
  refine (toInts _ ps hn1 _ H1.out).mono ?_
  rintro e w7 ⟨y1, rfl, ho, hb⟩
  replace B := Lib.hid (B.out.trans (hb.mono B.out.size))
  replace H2 := Lib.hid (H2.out.below hb)
  replace X1 := Lib.hid (X1.out.below hb)
  replace X2 := Lib.hid (X2.out.below hb)
  have Y1 := Lib.hid (Ints.of_own ho)
  clear ho hb H1
  go_wp2_with fail
  refine (eqInts _ _ ps (by omega) _ X1.out Y1.out).mono ?_
  rintro e w8 ⟨rfl, hb⟩
  replace B := Lib.hid (B.out.trans (hb.mono B.out.size))
  replace H2 := Lib.hid (H2.out.below hb)
  replace X2 := Lib.hid (X2.out.below hb)
  clear hb X1 Y1
  go_wp2_with fail
  refine (toInts _ os hn2 _ H2.out).mono ?_
  rintro e w9 ⟨y2, rfl, ho, hb⟩
  replace B := Lib.hid (B.out.trans (hb.mono B.out.size))
  replace X2 := Lib.hid (X2.out.below hb)
  have Y2 := Lib.hid (Ints.of_own ho)
  clear ho hb H2
  go_wp2_with fail
  refine (eqInts _ _ os (by omega) _ X2.out Y2.out).mono ?_
  rintro e w10 ⟨rfl, hb⟩
  replace B := Lib.hid (B.out.trans (hb.mono B.out.size))
  clear hb X2 Y2
  go_wp2_with fail
  go_ret
  exact ⟨rfl, B.out⟩
end Go.Proofs.Ytpoafjbndipfeaa
