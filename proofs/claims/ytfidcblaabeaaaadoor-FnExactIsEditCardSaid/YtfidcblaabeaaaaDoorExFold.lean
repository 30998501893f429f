/-
  Proved: plain facts on what occurs in an expression: a kind, and types that say all.
-/
import Derived.Test.YtfidcblaabeaaaaDoorExForm
import Derived.Test.YtfidcblaabeaaaaDoorKnown
namespace Go.Proofs.YtfidcblaabeaaaaDoor
open Go.RowKit

mutual
/-- A node of the kind x occurs. -/
def Ex.has (x : Int) : Ex → Bool
  | .node k _ _ _ es => Ex.hass x es || decide (k = x)
def Ex.hass (x : Int) : List Ex → Bool
  | [] => false
  | e :: r => e.has x || Ex.hass x r
end
mutual
/-- The types of functions and of ascriptions say all. -/
def Ex.full : Ex → Bool
  | .node k _ _ ty es => Ex.fulls es && (!(decide (k = 3) || decide (k = 13)) || (ty.valid && ty.known))
def Ex.fulls : List Ex → Bool
  | [] => true
  | e :: r => e.full && Ex.fulls r
end
theorem Ex.hass_take (x : Int) (es : List Ex) : ∀ k (h : k < es.length), Ex.hass x (es.take (k + 1)) = (Ex.hass x (es.take k) || es[k].has x) := by
  induction es with
  | nil => intro k h; simp at h
  | cons s r ih =>
    intro k h
    cases k with
    | zero => simp [Ex.hass]
    | succ k =>
      simp only [List.take_succ_cons, Ex.hass, List.getElem_cons_succ]
      rw [ih k (by simpa using h), Bool.or_assoc]
theorem Ex.hass_true (x : Int) (es : List Ex) (k : Nat) (h : Ex.hass x (es.take k) = true) : Ex.hass x es = true := by
  induction es generalizing k with
  | nil => simp [Ex.hass] at h
  | cons s r ih =>
    cases k with
    | zero => simp [Ex.hass] at h
    | succ k =>
      simp only [List.take_succ_cons, Ex.hass, Bool.or_eq_true] at h ⊢
      rcases h with h | h
      · exact Or.inl h
      · exact Or.inr (ih k h)
theorem Ex.fulls_take (es : List Ex) : ∀ k (h : k < es.length), Ex.fulls (es.take (k + 1)) = (Ex.fulls (es.take k) && es[k].full) := by
  induction es with
  | nil => intro k h; simp at h
  | cons s r ih =>
    intro k h
    cases k with
    | zero => simp [Ex.fulls]
    | succ k =>
      simp only [List.take_succ_cons, Ex.fulls, List.getElem_cons_succ]
      rw [ih k (by simpa using h), Bool.and_assoc]
theorem Ex.fulls_false (es : List Ex) (k : Nat) (h : Ex.fulls (es.take k) = false) : Ex.fulls es = false := by
  induction es generalizing k with
  | nil => simp [Ex.fulls] at h
  | cons s r ih =>
    cases k with
    | zero => simp [Ex.fulls] at h
    | succ k =>
      simp only [List.take_succ_cons, Ex.fulls, Bool.and_eq_false_iff] at h ⊢
      rcases h with h | h
      · exact Or.inl h
      · exact Or.inr (ih k h)
end Go.Proofs.YtfidcblaabeaaaaDoor
