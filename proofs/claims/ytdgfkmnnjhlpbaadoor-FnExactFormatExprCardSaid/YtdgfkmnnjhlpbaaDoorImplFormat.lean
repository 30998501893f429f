/-
  Proved: impl.FormatInt returns the decimal numeral of every int, and leaves the memory that was there as it was. On these terms: the library's table of powers of ten holds what the program's text lays.
-/
import Derived.Test.YtdgfkmnnjhlpbaaDoorProg
import Derived.Test.YtdgfkmnnjhlpbaaDoorLaw
import Derived.Test.YtdgfkmnnjhlpbaaDoorShelfItoa
namespace Go.Proofs.YtdgfkmnnjhlpbaaDoor
open Go.ChangeShapes Go.WideShapes Go.ChangeAt Go.RowKit

theorem implFormat (n : Int) (h0 : -9223372036854775808 ≤ n) (h1 : n ≤ 9223372036854775807) (w : World)
    (htab : Lib.TabIs Tryd.prog w "internal/strconv.uint64pow10" .u64 Lib.pow10Tab) :
    Calls Tryd.prog 59 #[.int .i64 n] w fun e w' => e = .returned (.string ⟨(Lib.itoa n).toArray⟩) ∧ Below w.heap.size w w' := by
  go_enter Tryd.func59, Tryd.ntmps59
  go_wp2_with (go_at_call 106; refine (Tryd.strconv_Itoa _ h0 h1 _ htab).mono ?_; rintro e w' ⟨rfl, k, os, rfl⟩)
  go_ret
  exact ⟨rfl, Lib.below_grow _ _ (Nat.le_refl _) _ _⟩

end Go.Proofs.YtdgfkmnnjhlpbaaDoor
