/-
  Proved: plain facts on one list of numbers that leads another one.
-/
import Derived.Test.YtddfeecnimdikaaInts
import Derived.BigQuiet
import Derived.Deep.QuietTactic
namespace Go.Proofs.Ytddfeecnimdikaa
open Go.RowKit

/-- Whether the list path starts with outer. -/
def leads (path outer : List Int) : Bool := decide (outer = path.take outer.length)
theorem leads_all {path outer : List Int} (hl : outer.length ≤ path.length) (h : ∀ j (h1 : j < outer.length), outer[j] = path[j]) : leads path outer = true := by
  unfold leads
  rw [decide_eq_true_eq]
  apply List.ext_getElem
  · rw [List.length_take]; omega
  · intro i h1 h2
    rw [List.getElem_take]
    exact h i h1
theorem leads_long {path outer : List Int} (h : path.length < outer.length) : leads path outer = false := by
  unfold leads
  rw [decide_eq_false_iff_not]
  intro e
  have := congrArg List.length e
  rw [List.length_take] at this
  omega
theorem leads_other {path outer : List Int} (hl : outer.length ≤ path.length) (k : Nat) (hk : k < outer.length) (h : outer[k] ≠ path[k]) : leads path outer = false := by
  unfold leads
  rw [decide_eq_false_iff_not]
  intro e
  apply h
  have : outer[k]? = (path.take outer.length)[k]? := by rw [← e]
  rw [List.getElem?_take_of_lt hk, List.getElem?_eq_getElem hk, List.getElem?_eq_getElem (by omega)] at this
  exact Option.some.inj this
end Go.Proofs.Ytddfeecnimdikaa
