/-
  Proved: plain facts on a cell that is written in a box.
-/
import Derived.Test.YtefoenkmppeidaaTwo
namespace Go.Proofs.Ytefoenkmppeidaa
open Go.RowKit

theorem BoxAt.put {w : World} {p j : Nat} {u : Value} {cs : Array Value} (h : BoxAt w p cs) (hj : j < cs.size) : BoxAt (w.setCell ⟨p, j, none⟩ u) p (cs.setIfInBounds j u) := by
  refine ⟨by simpa using h.1, fun i => ?_⟩
  by_cases e : i = j
  · subst e
    have hi := h.2 i
    rw [Array.getElem?_eq_getElem hj] at hi
    simp [go_sem, hi, hj]
  · have hi := h.2 i
    rw [Array.getElem?_setIfInBounds_ne (fun h => e h.symm), ← hi]
    simp [go_sem]
theorem FreeAt.put {w : World} {p q j : Nat} {u : Value} (h : FreeAt w p) : FreeAt (w.setCell ⟨q, j, none⟩ u) p :=
  ⟨by simpa using h.1, fun i => by have := h.2 i; simpa [go_sem] using this⟩
end Go.Proofs.Ytefoenkmppeidaa
