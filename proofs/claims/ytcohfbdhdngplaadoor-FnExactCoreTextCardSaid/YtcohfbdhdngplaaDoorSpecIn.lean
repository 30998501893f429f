/-
  Proved: spec.l1In says whether a number lies between two others; the world stays as it was.
-/
import Derived.Test.YtcohfbdhdngplaaDoorProg
import Derived.WalkKit
import Derived.WalkSpells
import Derived.WalkLawsBesides
import Derived.WalkSmall
import Derived.Lib.Hide
import Derived.BigQuiet
import Derived.Deep.QuietTactic
import Derived.Test.YtcohfbdhdngplaaDoorLaw
namespace Go.Proofs.YtcohfbdhdngplaaDoor
open Go.RowKit

set_option maxRecDepth 100000 in
theorem specIn (a b c : Int) (w : World) : Calls Tryd.prog 68 #[.int .i64 a, .int .i64 b, .int .i64 c] w fun e w' => e = .returned (.bool (decide (b ≤ a) && decide (a ≤ c))) ∧ w' = w := by
  by_cases h1 : b ≤ a
  · by_cases h2 : a ≤ c
    · go_enter Tryd.func68, Tryd.ntmps68
      go_wp2_with fail
      go_ret
      exact ⟨by simp [h1, h2], rfl⟩
    · go_enter Tryd.func68, Tryd.ntmps68
      go_wp2_with fail
      go_ret
      exact ⟨by simp [h2], rfl⟩
  · go_enter Tryd.func68, Tryd.ntmps68
    go_wp2_with fail
    go_ret
    exact ⟨by simp; intro; omega, rfl⟩
end Go.Proofs.YtcohfbdhdngplaaDoor
