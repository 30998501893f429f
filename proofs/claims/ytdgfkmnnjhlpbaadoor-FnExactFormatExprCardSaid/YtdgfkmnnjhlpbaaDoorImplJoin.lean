/-
  Proved: impl.Join joins the strings with the separator between them, and leaves the memory that was there as it was. On these terms: the strings, their number and the separator are small (2^20).
-/
import Derived.Test.YtdgfkmnnjhlpbaaDoorStrs
import Derived.Test.YtdgfkmnnjhlpbaaDoorJoined
import Derived.Test.YtdgfkmnnjhlpbaaDoorShelfStr
namespace Go.Proofs.YtdgfkmnnjhlpbaaDoor
open Go.RowKit

set_option maxRecDepth 100000 in
set_option maxHeartbeats 1000000 in
theorem implJoin (v : Value) (ss : List ByteArray) (sep : ByteArray) (hn : ss.length ≤ 1048576) (ht : total ss ≤ 1073741824) (hs : sep.size ≤ 1048576) (w : World) (h : Strs w v ss) :
    Calls Tryd.prog 63 #[v, .string sep] w (JoinEnd ss sep w) := by
  have HL := joined_small ss sep ss.length (Nat.le_refl _) hn ht hs
  rw [joined_all] at HL
  rcases h.parts with ⟨rfl, a, cap, rfl⟩ | ⟨h0, b, off, cap, rfl, hcap, hb, hcell⟩
  · clear h HL
    go_enter Tryd.func63, Tryd.ntmps63
    go_wp2_with fail
    refine (Tryd.strings_Join_none a cap sep w).mono ?_
    rintro e w' ⟨rfl, rfl⟩
    go_wp2_with fail
    go_ret
    exact ⟨rfl, Below.refl _ _⟩
  · have HC : Hid (∀ (j : Nat) x, ss[j]? = some x → w.cell? ⟨b, off + j, none⟩ = some (.string x)) := fun j x hx => by
      obtain ⟨hj, rfl⟩ := List.getElem?_eq_some_iff.1 hx
      exact hcell j hj
    have HM := Lib.hid HL
    clear h HL hcell
    go_enter Tryd.func63, Tryd.ntmps63
    go_wp2_with fail
    refine (Tryd.strings_Join b off cap ss sep w HC.out hb (by omega) hcap (by have := HM.out; omega)).mono ?_
    rintro e w' ⟨rfl, hb1⟩
    go_wp2_with fail
    go_ret
    exact ⟨rfl, hb1⟩
end Go.Proofs.YtdgfkmnnjhlpbaaDoor
