/-
  DERIVED. GIVEN WITH THE SEED: THE PROGRAM's TIES (one call each: nine closed facts by the kernel) AND EACH ROW's TIE, after the 31st guide's Derived/Test/Toyas{Tie, Card}.lean. No idea stands in it: it is a product of the set-up. Laid BY PROGRAM, IN A SANDBOX (cutbox-door.mjs). By AI agents, Wed Nov 11 2026. No macro, syntax, notation, axiom, sorry.
-/
import Derived.Test.YtimigpdbegfjaaaDoorRows
import Derived.LaidByTextLater
import Derived.SevenTiedAt
import Derived.LaidSub
import Derived.LaidOnce
namespace Go.Proofs.YtimigpdbegfjaaaDoor
open Go
set_option maxRecDepth 100000
theorem seatTie1 : Tryd.prog.laidByTextLater [("loop.example/g00585/impl.meetings", Rows.laid_loop_example_g00585_impl_meetings), ("loop.example/g00585/impl.arities", Rows.laid_loop_example_g00585_impl_arities)] [.data, .data] true :=
  Program.laidByTextLater_by_one 45 8 40 (by kernel_rfl) (by kernel_rfl) (by kernel_rfl) (by kernel_rfl) (by kernel_rfl) (by kernel_rfl) (fun _ _ => by kernel_rfl)
theorem noOwnUnsafe : Tryd.pinned.checked.prog.headLifts.contains "ownunsafe" = false := by kernel_rfl
theorem tie : Tryd.prog.laidByTextLater [("loop.example/g00585/impl.meetings", Rows.laid_loop_example_g00585_impl_meetings)] [.data] true :=
  Program.laidByTextLater.sub seatTie1 ["loop.example/g00585/impl.meetings"] (by kernel_rfl) (by kernel_rfl)
theorem fnExactMeetType_row_tie : Rows.fnExactMeetTypeRow.laidByTextAt .later Tryd.pinned [.data] true :=
  OpenClaim.laidByTextAt_later rfl rfl tie noOwnUnsafe
theorem tie2 : Tryd.prog.laidByTextLater [("loop.example/g00585/impl.arities", Rows.laid_loop_example_g00585_impl_arities)] [.data] true :=
  Program.laidByTextLater.sub seatTie1 ["loop.example/g00585/impl.arities"] (by kernel_rfl) (by kernel_rfl)
theorem fnExactReplaceAt_row_tie : Rows.fnExactReplaceAtRow.laidByTextAt .later Tryd.pinned [.data] true :=
  OpenClaim.laidByTextAt_later rfl rfl tie2 noOwnUnsafe
theorem fnExactMeetTypeUpto_row_tie : Rows.fnExactMeetTypeUptoRow.laidByTextAt .later Tryd.pinned [.data] true :=
  OpenClaim.laidByTextAt_later rfl rfl tie noOwnUnsafe
theorem fnExactReplaceAtUpto_row_tie : Rows.fnExactReplaceAtUptoRow.laidByTextAt .later Tryd.pinned [.data] true :=
  OpenClaim.laidByTextAt_later rfl rfl tie2 noOwnUnsafe
end Go.Proofs.YtimigpdbegfjaaaDoor
