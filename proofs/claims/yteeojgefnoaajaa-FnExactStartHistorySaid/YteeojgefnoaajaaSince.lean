/-
  Proved: plain facts on memory that was there at some time and is kept since.
-/
import Derived.Test.YteeojgefnoaajaaHold
namespace Go.Proofs.Yteeojgefnoaajaa
open Go.RowKit

/-- All that lay in the world w4 lies in w as it lay. -/
def Since (w4 w : World) : Prop := Below w4.heap.size w4 w
theorem Since.refl (w : World) : Since w w := Below.refl _ _
theorem Since.b {w4 w : World} (h : Since w4 w) : Below w4.heap.size w4 w := h
theorem Since.below {w4 w w' : World} (h : Since w4 w) (hb : Below w.heap.size w w') : Since w4 w' := below_thru h (Nat.le_refl _) hb
theorem Since.trans {w4 w w' : World} (h : Since w4 w) (hb : Below w4.heap.size w w') : Since w4 w' := Below.trans h hb
end Go.Proofs.Yteeojgefnoaajaa
