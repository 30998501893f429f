/-
  Proved: which kinds of actions have a name, a type, a number (impl.actionHasName, actionHasType, greatestNumber); the world stays as it was.
-/
import Derived.Test.YtlpdgmgafabadaaActForm
namespace Go.Proofs.Ytlpdgmgafabadaa
open Go.RowKit

set_option maxRecDepth 100000 in
theorem implNamed (k : Int) (w : World) : Calls Try.prog 90 #[.int .i64 k] w fun e w' => e = .returned (.bool (actNamed k)) ∧ w' = w := by
  by_cases h0 : k = 6
  · subst h0
    go_enter Try.func90, Try.ntmps90
    go_wp2_with fail
    go_ret
    exact ⟨rfl, rfl⟩
  · skip
    by_cases h1 : k = 9
    · subst h1
      go_enter Try.func90, Try.ntmps90
      go_wp2_with fail
      go_ret
      exact ⟨rfl, rfl⟩
    · skip
      by_cases h2 : k = 20
      · subst h2
        go_enter Try.func90, Try.ntmps90
        go_wp2_with fail
        go_ret
        exact ⟨rfl, rfl⟩
      · skip
        go_enter Try.func90, Try.ntmps90
        go_wp2_with fail
        go_ret
        exact ⟨by simp [actNamed, h0, h1, h2], rfl⟩
set_option maxRecDepth 100000 in
theorem implTyped (k : Int) (w : World) : Calls Try.prog 91 #[.int .i64 k] w fun e w' => e = .returned (.bool (actTyped k)) ∧ w' = w := by
  by_cases h0 : k = 9
  · subst h0
    go_enter Try.func91, Try.ntmps91
    go_wp2_with fail
    go_ret
    exact ⟨rfl, rfl⟩
  · skip
    by_cases h1 : k = 17
    · subst h1
      go_enter Try.func91, Try.ntmps91
      go_wp2_with fail
      go_ret
      exact ⟨rfl, rfl⟩
    · skip
      by_cases h2 : k = 19
      · subst h2
        go_enter Try.func91, Try.ntmps91
        go_wp2_with fail
        go_ret
        exact ⟨rfl, rfl⟩
      · skip
        go_enter Try.func91, Try.ntmps91
        go_wp2_with fail
        go_ret
        exact ⟨by simp [actTyped, h0, h1, h2], rfl⟩
set_option maxRecDepth 100000 in
theorem implMost (k : Int) (w : World) : Calls Try.prog 89 #[.int .i64 k] w fun e w' => e = .returned (.int .i64 (actMost k)) ∧ w' = w := by
  by_cases h0 : k = 2
  · subst h0
    go_enter Try.func89, Try.ntmps89
    go_wp2_with fail
    go_ret
    exact ⟨rfl, rfl⟩
  · skip
    by_cases h1 : k = 18
    · subst h1
      go_enter Try.func89, Try.ntmps89
      go_wp2_with fail
      go_ret
      exact ⟨rfl, rfl⟩
    · skip
      by_cases h2 : k = 7
      · subst h2
        go_enter Try.func89, Try.ntmps89
        go_wp2_with fail
        go_ret
        exact ⟨rfl, rfl⟩
      · skip
        by_cases h3 : k = 8
        · subst h3
          go_enter Try.func89, Try.ntmps89
          go_wp2_with fail
          go_ret
          exact ⟨rfl, rfl⟩
        · skip
          go_enter Try.func89, Try.ntmps89
          go_wp2_with fail
          go_ret
          exact ⟨by simp [actMost, h0, h1, h2, h3], rfl⟩
end Go.Proofs.Ytlpdgmgafabadaa
