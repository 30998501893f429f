/-
  Proved: plain facts: of the old memory only a row's own block has changed.
-/
import Derived.Test.YtefoenkmppeidaaInts
namespace Go.Proofs.Ytefoenkmppeidaa
open Go.RowKit

/-- Of the old blocks only that of the slice v has changed. -/
def OnlyOwn (v : Value) (w w' : World) : Prop := w.heap.size ≤ w'.heap.size ∧ ∀ b, b < w.heap.size → v.ownBlock ≠ some b → w'.heap[b]? = w.heap[b]?
theorem OnlyOwn.refl (v : Value) (w : World) : OnlyOwn v w w := ⟨Nat.le_refl _, fun _ _ _ => rfl⟩

end Go.Proofs.Ytefoenkmppeidaa
