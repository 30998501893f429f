/-
  Proved: which kinds of actions have a name, a type, a number (spec.l15Named, l15Typed, l15Most); the world stays as it was.
-/
import Derived.Test.YtdgfkmnnjhlpbaaDoorActForm
namespace Go.Proofs.YtdgfkmnnjhlpbaaDoor
open Go.RowKit

set_option maxRecDepth 100000 in
theorem specNamed (k : Int) (w : World) : Calls Tryd.prog 51 #[.int .i64 k] w fun e w' => e = .returned (.bool (actNamed k)) ∧ w' = w := by
  by_cases h0 : k = 6
  · subst h0
    go_enter Tryd.func51, Tryd.ntmps51
    go_wp2_with fail
    go_ret
    exact ⟨rfl, rfl⟩
  · skip
    by_cases h1 : k = 9
    · subst h1
      go_enter Tryd.func51, Tryd.ntmps51
      go_wp2_with fail
      go_ret
      exact ⟨rfl, rfl⟩
    · skip
      by_cases h2 : k = 20
      · subst h2
        go_enter Tryd.func51, Tryd.ntmps51
        go_wp2_with fail
        go_ret
        exact ⟨rfl, rfl⟩
      · skip
        go_enter Tryd.func51, Tryd.ntmps51
        go_wp2_with fail
        go_ret
        exact ⟨by simp [actNamed, h0, h1, h2], rfl⟩
set_option maxRecDepth 100000 in
theorem specTyped (k : Int) (w : World) : Calls Tryd.prog 54 #[.int .i64 k] w fun e w' => e = .returned (.bool (actTyped k)) ∧ w' = w := by
  by_cases h0 : k = 9
  · subst h0
    go_enter Tryd.func54, Tryd.ntmps54
    go_wp2_with fail
    go_ret
    exact ⟨rfl, rfl⟩
  · skip
    by_cases h1 : k = 17
    · subst h1
      go_enter Tryd.func54, Tryd.ntmps54
      go_wp2_with fail
      go_ret
      exact ⟨rfl, rfl⟩
    · skip
      by_cases h2 : k = 19
      · subst h2
        go_enter Tryd.func54, Tryd.ntmps54
        go_wp2_with fail
        go_ret
        exact ⟨rfl, rfl⟩
      · skip
        go_enter Tryd.func54, Tryd.ntmps54
        go_wp2_with fail
        go_ret
        exact ⟨by simp [actTyped, h0, h1, h2], rfl⟩
set_option maxRecDepth 100000 in
theorem specMost (k : Int) (w : World) : Calls Tryd.prog 52 #[.int .i64 k] w fun e w' => e = .returned (.int .i64 (if k = 2 ∨ k = 18 ∨ k = 7 ∨ k = 8 then actMost k else -1)) ∧ w' = w := by
  by_cases h0 : k = 2
  · subst h0
    go_enter Tryd.func52, Tryd.ntmps52
    go_wp2_with fail
    go_ret
    exact ⟨rfl, rfl⟩
  · skip
    by_cases h1 : k = 18
    · subst h1
      go_enter Tryd.func52, Tryd.ntmps52
      go_wp2_with fail
      go_ret
      exact ⟨rfl, rfl⟩
    · skip
      by_cases h2 : k = 7
      · subst h2
        go_enter Tryd.func52, Tryd.ntmps52
        go_wp2_with fail
        go_ret
        exact ⟨rfl, rfl⟩
      · skip
        by_cases h3 : k = 8
        · subst h3
          go_enter Tryd.func52, Tryd.ntmps52
          go_wp2_with fail
          go_ret
          exact ⟨rfl, rfl⟩
        · skip
          go_enter Tryd.func52, Tryd.ntmps52
          go_wp2_with fail
          go_ret
          exact ⟨rfl, rfl⟩
end Go.Proofs.YtdgfkmnnjhlpbaaDoor
