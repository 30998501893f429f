/-
  Proved: spec.ParseNumber accepts exactly the decimal numerals of the numbers within its bounds, and leaves the memory that was there as it was. On these terms: texts of at most 2^20 bytes.
-/
import Derived.Test.YtpoafjbndipfeaaDoorProg
import Derived.Test.YtpoafjbndipfeaaDoorRead
import Derived.WalkKit
import Derived.WalkSpells
import Derived.WalkLawsBesides
import Derived.Lib.Hide
namespace Go.Proofs.YtpoafjbndipfeaaDoor
open Go.RowKit

theorem lim6 : Num.lim 6 = 999999 := by unfold Num.lim; decide
theorem lim12 : Num.lim 12 = 999999999999 := by unfold Num.lim; decide
theorem reads_neg {l : List UInt8} {n : Int} (h : Num.Reads (-999999) 999999 l n true) (hn : n < 0) : Num.Reads 0 999999 l 0 false := by
  rcases h with ⟨_, e, a, b⟩ | ⟨h, _⟩
  · refine Or.inr ⟨rfl, rfl, fun m hm _ e' => ?_⟩
    have := Num.itoa_inj (e'.trans e.symm)
    omega
  · cases h
theorem reads_pos {l : List UInt8} {n : Int} (h : Num.Reads (-999999) 999999 l n true) (hn : ¬ n < 0) : Num.Reads 0 999999 l n true := by
  rcases h with ⟨_, e, a, b⟩ | ⟨h, _⟩
  · exact Or.inl ⟨rfl, e, by omega, b⟩
  · cases h
theorem reads_no {l : List UInt8} {n : Int} (h : Num.Reads (-999999) 999999 l n false) : Num.Reads 0 999999 l 0 false := by
  rcases h with ⟨h, _⟩ | ⟨_, _, f⟩
  · cases h
  · exact Or.inr ⟨rfl, rfl, fun m a b => f m (by omega) b⟩

set_option maxRecDepth 100000 in
set_option maxHeartbeats 1000000 in
theorem specParseNumber (s : ByteArray) (hs : s.size ≤ 1048576) (w : World) :
    Calls Tryd.prog 43 #[.string s] w (ReadEnd 0 999999 s w) := by
  go_enter Tryd.func43, Tryd.ntmps43
  go_wp2_with fail
  have h := specRead s 6 (by omega) (by omega) hs w
  rw [lim6] at h
  refine Calls.mono h ?_
  clear h
  rintro e w1 ⟨n, ok, rfl, hR, hb1⟩
  have HR := Lib.hid hR; clear hR
  cases ok
  · go_wp2
    go_ret2
    exact ⟨0, false, rfl, reads_no HR.out, hb1⟩
  · by_cases hn : n < 0
    · go_wp2
      go_ret2
      exact ⟨0, false, rfl, reads_neg HR.out hn, hb1⟩
    · go_wp2
      go_ret2
      exact ⟨n, true, rfl, reads_pos HR.out (by omega), hb1⟩
end Go.Proofs.YtpoafjbndipfeaaDoor
