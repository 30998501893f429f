/-
  Proved: plain facts on what FormatType gives.
-/
import Derived.Test.YtcohfbdhdngplaaDoorText
import Derived.Test.YtcohfbdhdngplaaDoorSpecValid
namespace Go.Proofs.YtcohfbdhdngplaaDoor
open Go.RowKit

def formatText (t : Ty) : ByteArray := if t.valid = true then t.text else ⟨#[]⟩
theorem format_bad {t : Ty} (h : t.valid = false) : formatText t = ⟨#[]⟩ := if_neg (by simp [h])
theorem format_good {t : Ty} (h : t.valid = true) : formatText t = t.text := if_pos h
end Go.Proofs.YtcohfbdhdngplaaDoor
