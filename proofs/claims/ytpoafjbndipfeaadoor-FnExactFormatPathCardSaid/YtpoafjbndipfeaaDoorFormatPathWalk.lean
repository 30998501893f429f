/-
  Proved: the law FnExactFormatPath answers true for every list of numbers, and leaves the memory that was there as it was. On these terms: the library's table of powers of ten holds what the program's text lays.
-/
import Derived.Test.YtpoafjbndipfeaaDoorToInts
import Derived.Test.YtpoafjbndipfeaaDoorEqInts
import Derived.Test.YtpoafjbndipfeaaDoorImplPathText
namespace Go.Proofs.YtpoafjbndipfeaaDoor
open Go.RowKit

set_option maxRecDepth 100000 in
set_option maxHeartbeats 1000000 in
theorem formatPathWalk (v : Value) (ns : List Int) (hr : i64s ns) (w : World) (hp : Pow10At w) (h : Ints w v ns) :
    Calls Tryd.prog 4 #[v] w fun e w' => e = .returned (.bool true) ∧ Below w.heap.size w w' := by
  have H1 := Lib.hid h
  have HP := Lib.hid hp
  have HR := Lib.hid hr
  clear hp hr
  obtain ⟨a1, cap1, rfl, _, _⟩ := h
  by_cases hl1 : (1048576 : Int) < ns.length
  · go_enter Tryd.func4, Tryd.ntmps4
    go_wp2_with fail
    go_ret
    exact ⟨rfl, Below.refl _ _⟩
  have hn1 : ns.length ≤ 1048576 := by omega
  go_enter Tryd.func4, Tryd.ntmps4
  go_wp2_with fail
  refine (toInts _ ns hn1 _ H1.out).mono ?_
  rintro e w1 ⟨s1, rfl, ho, hb⟩
  have B := Lib.hid hb
  replace H1 := Lib.hid (H1.out.below hb)
  have S1 := Lib.hid (Ints.of_own ho)
  clear ho hb
  go_wp2_with fail
  refine (specPathText _ ns hn1 HR.out _ S1.out).mono ?_
  rintro e w3 ⟨rfl, hb⟩
  replace B := Lib.hid (B.out.trans (hb.mono B.out.size))
  replace H1 := Lib.hid (H1.out.below hb)
  clear hb S1
  go_wp2_with fail
  refine (toInts _ ns hn1 _ H1.out).mono ?_
  rintro e w4 ⟨x1, rfl, ho, hb⟩
  replace B := Lib.hid (B.out.trans (hb.mono B.out.size))
  replace H1 := Lib.hid (H1.out.below hb)
  have X1 := Lib.hid (Ints.of_own ho)
  clear ho hb
  go_wp2_with fail
  refine (implPathText _ ns hn1 HR.out _ (HP.out.below B.out) X1.out).mono ?_
  rintro e w6 ⟨rfl, hb⟩
  replace B := Lib.hid (B.out.trans (hb.mono B.out.size))
  replace H1 := Lib.hid (H1.out.below hb)
  replace X1 := Lib.hid (X1.out.below hb)
  clear hb
  go_wp2_with fail
  refine (toInts _ ns hn1 _ H1.out).mono ?_
  rintro e w7 ⟨y1, rfl, ho, hb⟩
  replace B := Lib.hid (B.out.trans (hb.mono B.out.size))
  replace X1 := Lib.hid (X1.out.below hb)
  have Y1 := Lib.hid (Ints.of_own ho)
  clear ho hb H1
  go_wp2_with fail
  refine (eqInts _ _ ns (by omega) _ X1.out Y1.out).mono ?_
  rintro e w8 ⟨rfl, hb⟩
  replace B := Lib.hid (B.out.trans (hb.mono B.out.size))
  clear hb X1 Y1
  go_wp2_with fail
  go_ret
  exact ⟨rfl, B.out⟩
end Go.Proofs.YtpoafjbndipfeaaDoor
