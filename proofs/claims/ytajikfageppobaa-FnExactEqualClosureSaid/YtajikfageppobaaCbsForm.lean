/-
  Proved: the value of an environment is a slice.
-/
import Derived.Test.YtajikfageppobaaCoTree
namespace Go.Proofs.Ytajikfageppobaa
open Go.RowKit

theorem cbs_form {w : World} {d : Nat} {v : Value} {ns : List ByteArray} {es : List Co} (h : CbsAt w d v ns es) : ∃ a n c, v = .slice a n c := by
  obtain ⟨_, a, cap, rfl, _⟩ := h
  exact ⟨_, _, _, rfl⟩
end Go.Proofs.Ytajikfageppobaa
