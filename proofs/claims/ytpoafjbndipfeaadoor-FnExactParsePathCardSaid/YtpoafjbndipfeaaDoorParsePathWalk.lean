/-
  Proved: the law FnExactParsePath answers true for every text, and leaves the memory that was there as it was. On these terms: the library's variable MaxLen holds some int, its table and its two errors hold what the program's text lays.
-/
import Derived.Test.YtpoafjbndipfeaaDoorImplPathRead
import Derived.Test.YtpoafjbndipfeaaDoorMarkInts
import Derived.Test.YtpoafjbndipfeaaDoorEqInts
namespace Go.Proofs.YtpoafjbndipfeaaDoor
open Go.RowKit

set_option maxRecDepth 100000 in
set_option maxHeartbeats 2000000 in
theorem parsePathWalk (s : ByteArray) (hlen : s.size ≤ maxLen) (w : World) (hM : HasMax w) (hL : Lays w) :
    Calls Tryd.prog 5 #[.string s] w fun e w' => e = .returned (.bool true) ∧ Below w.heap.size w w' := by
  unfold maxLen at hlen
  have HM := Lib.hid hM; clear hM
  have HL := Lib.hid hL; clear hL
  by_cases hs : 1048576 < s.size
  · go_enter Tryd.func5, Tryd.ntmps5
    go_wp2_with fail
    go_ret
    exact ⟨rfl, Below.refl _ _⟩
  have hs2 : s.size ≤ 1048576 := by omega
  go_enter Tryd.func5, Tryd.ntmps5
  go_wp2_with fail
  refine (specPathRead s hs2 _).mono ?_
  rintro e w1 ⟨v0, ns, ok, rfl, hp, hn, hown, hb⟩
  have HP := Lib.hid hp
  have HS := Lib.hid (Ints.of_own hown)
  have B := Lib.hid hb
  have BW : Hid (w.heap.size ≤ w1.heap.size) := hb.size
  clear hp hown hb
  go_wp2_with fail
  refine (implPathRead s hs2 _ (HM.out.below B.out) (HL.out.below B.out)).mono ?_
  rintro e w2 ⟨v1, ns', ok', rfl, hp, _, hown, hb⟩
  obtain ⟨rfl, rfl⟩ := HP.out.unique hp
  have HO := Lib.hid hown
  have B1 := Lib.hid hb
  replace B := Lib.hid (B.out.trans (hb.mono B.out.size))
  clear hp hown hb
  go_wp2_with fail
  refine (eqInts _ _ ns (by omega) _ (Ints.of_own HO.out) (HS.out.below B1.out)).mono ?_
  rintro e w3 ⟨rfl, hb⟩
  replace HO := Lib.hid (own_below HO.out hb)
  replace B1 := Lib.hid (B1.out.trans (hb.mono B1.out.size))
  replace B := Lib.hid (B.out.trans (hb.mono B.out.size))
  clear hb
  go_wp2_with fail
  refine (markInts w1.heap.size _ ns.length _ 1 (by omega) (by omega) (by omega) _ HO.out).mono ?_
  rintro e w4 ⟨rfl, hown, hb, _⟩
  have HO4 : Hid (w4.ownsRow w1.heap.size 3 1 v1 (imarks 1 ns.length).length ((imarks 1 ns.length).map (Value.int IntKind.i64))) := by
    show World.ownsRow _ _ _ _ _ _ _
    rw [imarks_length]; exact hown
  replace B1 := Lib.hid (B1.out.trans hb)
  replace B := Lib.hid (B.out.trans (hb.mono (Nat.le_trans (Nat.le_refl _) BW.out)))
  clear hown hb HO
  go_wp2_with fail
  refine (heldInts _ ns.length 1 (by omega) (by omega) (by omega) _ (Ints.of_own HO4.out)).mono ?_
  rintro e w5 ⟨rfl, hb⟩
  replace HO4 := Lib.hid (own_below HO4.out hb)
  replace B1 := Lib.hid (B1.out.trans (hb.mono B1.out.size))
  replace B := Lib.hid (B.out.trans (hb.mono B.out.size))
  clear hb
  go_wp2_with fail
  refine (implPathRead s hs2 _ (HM.out.below B.out) (HL.out.below B.out)).mono ?_
  rintro e w6 ⟨v2, ns', ok', rfl, hp, _, hown, hb⟩
  obtain ⟨rfl, rfl⟩ := HP.out.unique hp
  have HS2 := Lib.hid (Ints.of_own hown)
  replace HO4 := Lib.hid (own_below HO4.out hb)
  replace B1 := Lib.hid (B1.out.trans (hb.mono B1.out.size))
  replace B := Lib.hid (B.out.trans (hb.mono B.out.size))
  clear hp hown hb
  go_wp2_with fail
  refine (eqInts _ _ ns (by omega) _ HS2.out (HS.out.below B1.out)).mono ?_
  rintro e w7 ⟨rfl, hb⟩
  replace HO4 := Lib.hid (own_below HO4.out hb)
  replace B := Lib.hid (B.out.trans (hb.mono B.out.size))
  clear hb HS2
  go_wp2_with fail
  refine (heldInts _ ns.length 1 (by omega) (by omega) (by omega) _ (Ints.of_own HO4.out)).mono ?_
  rintro e w8 ⟨rfl, hb⟩
  replace B := Lib.hid (B.out.trans (hb.mono B.out.size))
  clear hb
  go_wp2_with fail
  go_ret
  exact ⟨rfl, B.out⟩
end Go.Proofs.YtpoafjbndipfeaaDoor
