/-
  Proved: impl.ExampleText and spec.ExampleText: the text of an example; the memory that was there stays as it was.
-/
import Derived.Test.YtajikfageppobaaSpecIn
import Derived.Test.YtajikfageppobaaHold
namespace Go.Proofs.Ytajikfageppobaa
open Go.RowKit

def exampleB (n : Int) : ByteArray := if n = 1 then ⟨#[40, 40, 92, 120, 58, 78, 46, 40, 120, 43, 49, 41, 41, 32, 50, 41]⟩ else if n = 2 then ⟨#[40, 40, 92, 102, 58, 63, 46, 40, 40, 102, 32, 49, 41, 43, 50, 41, 41, 32, 40, 92, 120, 58, 78, 46, 40, 120, 43, 49, 41, 41, 41]⟩ else if n = 3 then ⟨#[40, 40, 92, 120, 58, 78, 46, 40, 63, 49, 43, 40, 120, 43, 49, 41, 41, 41, 32, 51, 41]⟩ else if n = 4 then ⟨#[40, 49, 43, 35, 116, 41]⟩ else if n = 5 then ⟨#[40, 105, 102, 32, 40, 63, 49, 60, 51, 41, 32, 40, 92, 120, 58, 78, 46, 120, 41, 32, 53, 41]⟩ else if n = 6 then ⟨#[40, 40, 92, 102, 58, 63, 46, 40, 102, 32, 35, 116, 41, 41, 32, 40, 92, 120, 58, 78, 46, 40, 120, 43, 49, 41, 41, 41]⟩ else ⟨#[]⟩
set_option maxRecDepth 100000 in
set_option maxHeartbeats 2000000 in
theorem implExample (n : Int) (w : World) : Calls Try.prog 18 #[.int .i64 n] w fun e w' => e = .returned (.string (exampleB n)) ∧ Below w.heap.size w w' := by
  by_cases h1 : n = 1
  · subst h1
    go_enter Try.func18, Try.ntmps18
    go_wp2_with fail
    go_ret
    exact ⟨rfl, Below.refl _ _⟩
  by_cases h2 : n = 2
  · subst h2
    go_enter Try.func18, Try.ntmps18
    go_wp2_with fail
    go_ret
    exact ⟨rfl, Below.refl _ _⟩
  by_cases h3 : n = 3
  · subst h3
    go_enter Try.func18, Try.ntmps18
    go_wp2_with fail
    go_ret
    exact ⟨rfl, Below.refl _ _⟩
  by_cases h4 : n = 4
  · subst h4
    go_enter Try.func18, Try.ntmps18
    go_wp2_with fail
    go_ret
    exact ⟨rfl, Below.refl _ _⟩
  by_cases h5 : n = 5
  · subst h5
    go_enter Try.func18, Try.ntmps18
    go_wp2_with fail
    go_ret
    exact ⟨rfl, Below.refl _ _⟩
  by_cases h6 : n = 6
  · subst h6
    go_enter Try.func18, Try.ntmps18
    go_wp2_with fail
    go_ret
    exact ⟨rfl, Below.refl _ _⟩
  have e : Hid (exampleB n = ⟨#[]⟩) := by show _ = _; simp [exampleB, h1, h2, h3, h4, h5, h6]
  have q1 : (n == 1) = false := by simp [h1]
  have q2 : (n == 2) = false := by simp [h2]
  have q3 : (n == 3) = false := by simp [h3]
  have q4 : (n == 4) = false := by simp [h4]
  have q5 : (n == 5) = false := by simp [h5]
  have q6 : (n == 6) = false := by simp [h6]
  go_enter Try.func18, Try.ntmps18
  go_wp2_with fail
  go_ret
  exact ⟨by rw [e.out]; rfl, Below.refl _ _⟩
set_option maxRecDepth 100000 in
set_option maxHeartbeats 2000000 in
theorem specExample (n : Int) (w : World) : Calls Try.prog 17 #[.int .i64 n] w fun e w' => e = .returned (.string (exampleB n)) ∧ Below w.heap.size w w' := by
  by_cases h1 : n = 1
  · subst h1
    go_enter Try.func17, Try.ntmps17
    go_wp2_with fail
    go_ret
    exact ⟨rfl, Below.refl _ _⟩
  by_cases h2 : n = 2
  · subst h2
    go_enter Try.func17, Try.ntmps17
    go_wp2_with fail
    go_ret
    exact ⟨rfl, Below.refl _ _⟩
  by_cases h3 : n = 3
  · subst h3
    go_enter Try.func17, Try.ntmps17
    go_wp2_with fail
    go_ret
    exact ⟨rfl, Below.refl _ _⟩
  by_cases h4 : n = 4
  · subst h4
    go_enter Try.func17, Try.ntmps17
    go_wp2_with fail
    go_ret
    exact ⟨rfl, Below.refl _ _⟩
  by_cases h5 : n = 5
  · subst h5
    go_enter Try.func17, Try.ntmps17
    go_wp2_with fail
    go_ret
    exact ⟨rfl, Below.refl _ _⟩
  by_cases h6 : n = 6
  · subst h6
    go_enter Try.func17, Try.ntmps17
    go_wp2_with fail
    go_ret
    exact ⟨rfl, Below.refl _ _⟩
  have e : Hid (exampleB n = ⟨#[]⟩) := by show _ = _; simp [exampleB, h1, h2, h3, h4, h5, h6]
  have q1 : (n == 1) = false := by simp [h1]
  have q2 : (n == 2) = false := by simp [h2]
  have q3 : (n == 3) = false := by simp [h3]
  have q4 : (n == 4) = false := by simp [h4]
  have q5 : (n == 5) = false := by simp [h5]
  have q6 : (n == 6) = false := by simp [h6]
  go_enter Try.func17, Try.ntmps17
  go_wp2_with fail
  go_ret
  exact ⟨by rw [e.out]; rfl, Below.refl _ _⟩
end Go.Proofs.Ytajikfageppobaa
