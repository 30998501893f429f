/-
  DERIVED. GIVEN WITH THE SEED: THE PROGRAM's TIES (one call each: nine closed facts by the kernel) AND EACH ROW's TIE, after the 31st guide's Derived/Test/Toyas{Tie, Card}.lean. No idea stands in it: it is a product of the set-up. Laid BY PROGRAM, IN A SANDBOX (cutbox-door.mjs). By AI agents, Wed Nov 11 2026. No macro, syntax, notation, axiom, sorry.
-/
import Derived.Test.YteffjeejbdjjpaaGreatDoorRows
import Derived.LaidByTextLater
import Derived.SevenTiedAt
import Derived.LaidSub
import Derived.LaidOnce
namespace Go.Proofs.YteffjeejbdjjpaaGreatDoor
open Go
set_option maxRecDepth 100000
theorem seatTie1 : Tryz.prog.laidByTextLater [("loop.example/g00585/impl.meetings", Rows.laid_loop_example_g00585_impl_meetings), ("loop.example/g00585/impl.arities", Rows.laid_loop_example_g00585_impl_arities), ("loop.example/g00585/impl.errNoFit", Rows.laid_loop_example_g00585_impl_errNoFit)] [.data, .data, .sentinel] true :=
  Program.laidByTextLater_by_one 64 8 40 (by kernel_rfl) (by kernel_rfl) (by kernel_rfl) (by kernel_rfl) (by kernel_rfl) (by kernel_rfl) (fun _ _ => by kernel_rfl)
theorem noOwnUnsafe : Tryz.pinned.checked.prog.headLifts.contains "ownunsafe" = false := by kernel_rfl
theorem tie : Tryz.prog.laidByTextLater [("loop.example/g00585/impl.meetings", Rows.laid_loop_example_g00585_impl_meetings), ("loop.example/g00585/impl.arities", Rows.laid_loop_example_g00585_impl_arities), ("loop.example/g00585/impl.errNoFit", Rows.laid_loop_example_g00585_impl_errNoFit)] [.data, .data, .sentinel] true :=
  Program.laidByTextLater.sub seatTie1 ["loop.example/g00585/impl.meetings", "loop.example/g00585/impl.arities", "loop.example/g00585/impl.errNoFit"] (by kernel_rfl) (by kernel_rfl)
theorem fnExactSynthType_row_tie : Rows.fnExactSynthTypeRow.laidByTextAt .later Tryz.pinned [.data, .data, .sentinel] true :=
  OpenClaim.laidByTextAt_later rfl rfl tie noOwnUnsafe
theorem fnExactCheckType_row_tie : Rows.fnExactCheckTypeRow.laidByTextAt .later Tryz.pinned [.data, .data, .sentinel] true :=
  OpenClaim.laidByTextAt_later rfl rfl tie noOwnUnsafe
theorem fnExactIsWellTyped_row_tie : Rows.fnExactIsWellTypedRow.laidByTextAt .later Tryz.pinned [.data, .data, .sentinel] true :=
  OpenClaim.laidByTextAt_later rfl rfl tie noOwnUnsafe
theorem fnExactSynthTypeUpto_row_tie : Rows.fnExactSynthTypeUptoRow.laidByTextAt .later Tryz.pinned [.data, .data, .sentinel] true :=
  OpenClaim.laidByTextAt_later rfl rfl tie noOwnUnsafe
theorem fnExactCheckTypeUpto_row_tie : Rows.fnExactCheckTypeUptoRow.laidByTextAt .later Tryz.pinned [.data, .data, .sentinel] true :=
  OpenClaim.laidByTextAt_later rfl rfl tie noOwnUnsafe
theorem fnExactIsWellTypedUpto_row_tie : Rows.fnExactIsWellTypedUptoRow.laidByTextAt .later Tryz.pinned [.data, .data, .sentinel] true :=
  OpenClaim.laidByTextAt_later rfl rfl tie noOwnUnsafe
end Go.Proofs.YteffjeejbdjjpaaGreatDoor
