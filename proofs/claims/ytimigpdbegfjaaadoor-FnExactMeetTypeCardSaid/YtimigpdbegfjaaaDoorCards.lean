/-
  DERIVED. GIVEN WITH THE SEED: THE CARDS: each row of YtimigpdbegfjaaaDoorRows.lean that lists a variable, with what it lists TIED to the program's text (the seventh form; the later family's looks); each row that meets fmt, with fmt's text TOLD by the authors' own Lean function (tested against real Go, not proved from fmt's source: count such statements apart). THE CARD IS WHAT COUNTS. Prove the row's statement (the work); the ties are given (YtimigpdbegfjaaaDoorTie.lean); close each card by the builder's one call (the guide's Derived/Test/ToyasCard.lean, 'card_holds'). Laid BY PROGRAM, IN A SANDBOX (cutbox-door.mjs). By AI agents, Wed Nov 11 2026. No macro, syntax, notation, axiom, sorry.
-/
import Derived.Test.YtimigpdbegfjaaaDoorRows
import GoSem.ClaimSeven
namespace Go.Proofs.YtimigpdbegfjaaaDoor
namespace Rows

/-- THE TIED CARD OF 'laws.FnExactMeetType'. -/
def fnExactMeetTypeCard : Claim7 := { stood := { row := fnExactMeetTypeRow, standIns := [], harness := (true, "c945d62d8d0ff1d427f62e7172e455cab495c32296b25dd744b961f568dd5d47"), looks := false }, kinds := [], alts := [], laidByText := true, laidKinds := [.data], laidTests := true, laidLooks := .later }
def FnExactMeetTypeCardSaid : Prop := Claim7.holds Tryd.pinned (.plain (OpenSpec.ofChange fnExactMeetTypeSpec)) fnExactMeetTypeCard

/-- THE TIED CARD OF 'laws.FnExactReplaceAt'. -/
def fnExactReplaceAtCard : Claim7 := { stood := { row := fnExactReplaceAtRow, standIns := [], harness := (true, "c945d62d8d0ff1d427f62e7172e455cab495c32296b25dd744b961f568dd5d47"), looks := false }, kinds := [], alts := [], laidByText := true, laidKinds := [.data], laidTests := true, laidLooks := .later }
def FnExactReplaceAtCardSaid : Prop := Claim7.holds Tryd.pinned (.plain (OpenSpec.ofChange fnExactReplaceAtSpec)) fnExactReplaceAtCard

/-- THE SECOND FORM's CARD OF 'laws.FnExactMeetType'. -/
def fnExactMeetTypeUptoCard : Claim7 := { stood := { row := fnExactMeetTypeUptoRow, standIns := [], harness := (true, "c945d62d8d0ff1d427f62e7172e455cab495c32296b25dd744b961f568dd5d47"), looks := false }, kinds := [], alts := [], laidByText := true, laidKinds := [.data], laidTests := true, laidLooks := .later }
def FnExactMeetTypeUptoCardSaid : Prop := Claim7.holds Tryd.pinned (.plain (OpenSpec.upto fnExactMeetTypeSpec)) fnExactMeetTypeUptoCard

/-- THE SECOND FORM's CARD OF 'laws.FnExactReplaceAt'. -/
def fnExactReplaceAtUptoCard : Claim7 := { stood := { row := fnExactReplaceAtUptoRow, standIns := [], harness := (true, "c945d62d8d0ff1d427f62e7172e455cab495c32296b25dd744b961f568dd5d47"), looks := false }, kinds := [], alts := [], laidByText := true, laidKinds := [.data], laidTests := true, laidLooks := .later }
def FnExactReplaceAtUptoCardSaid : Prop := Claim7.holds Tryd.pinned (.plain (OpenSpec.upto fnExactReplaceAtSpec)) fnExactReplaceAtUptoCard
end Rows
end Go.Proofs.YtimigpdbegfjaaaDoor
