/-
  DERIVED. GIVEN WITH THE SEED: THE CARDS: each row of YtfidcblaabeaaaaDoorRows.lean that lists a variable, with what it lists TIED to the program's text (the seventh form; the later family's looks); each row that meets fmt, with fmt's text TOLD by the authors' own Lean function (tested against real Go, not proved from fmt's source: count such statements apart). THE CARD IS WHAT COUNTS. Prove the row's statement (the work); the ties are given (YtfidcblaabeaaaaDoorTie.lean); close each card by the builder's one call (the guide's Derived/Test/ToyasCard.lean, 'card_holds'). Laid BY PROGRAM, IN A SANDBOX (cutbox-door.mjs). By AI agents, Wed Nov 11 2026. No macro, syntax, notation, axiom, sorry.
-/
import Derived.Test.YtfidcblaabeaaaaDoorRows
import GoSem.ClaimSeven
namespace Go.Proofs.YtfidcblaabeaaaaDoor
namespace Rows

/-- THE TIED CARD OF 'laws.FnExactIsEdit'. -/
def fnExactIsEditCard : Claim7 := { stood := { row := fnExactIsEditRow, standIns := [], harness := (true, "9aebf82148f0953524a6a65ce28554d29e26d31eeab1dfb681ab55fc9f274eb2"), looks := false }, kinds := [], alts := [], laidByText := true, laidKinds := [.data], laidTests := true, laidLooks := .later }
def FnExactIsEditCardSaid : Prop := Claim7.holds Tryd.pinned (.plain (OpenSpec.ofChange fnExactIsEditSpec)) fnExactIsEditCard

/-- THE TIED CARD OF 'laws.FnExactUnderCursor'. -/
def fnExactUnderCursorCard : Claim7 := { stood := { row := fnExactUnderCursorRow, standIns := [], harness := (true, "9aebf82148f0953524a6a65ce28554d29e26d31eeab1dfb681ab55fc9f274eb2"), looks := false }, kinds := [], alts := [], laidByText := true, laidKinds := [.data], laidTests := true, laidLooks := .later }
def FnExactUnderCursorCardSaid : Prop := Claim7.holds Tryd.pinned (.plain (OpenSpec.ofChange fnExactUnderCursorSpec)) fnExactUnderCursorCard

/-- THE TIED CARD OF 'laws.FnExactMoveUp'. -/
def fnExactMoveUpCard : Claim7 := { stood := { row := fnExactMoveUpRow, standIns := [], harness := (true, "9aebf82148f0953524a6a65ce28554d29e26d31eeab1dfb681ab55fc9f274eb2"), looks := false }, kinds := [], alts := [], laidByText := true, laidKinds := [.data], laidTests := true, laidLooks := .later }
def FnExactMoveUpCardSaid : Prop := Claim7.holds Tryd.pinned (.plain (OpenSpec.ofChange fnExactMoveUpSpec)) fnExactMoveUpCard

/-- THE TIED CARD OF 'laws.FnExactMoveDown'. -/
def fnExactMoveDownCard : Claim7 := { stood := { row := fnExactMoveDownRow, standIns := [], harness := (true, "9aebf82148f0953524a6a65ce28554d29e26d31eeab1dfb681ab55fc9f274eb2"), looks := false }, kinds := [], alts := [], laidByText := true, laidKinds := [.data], laidTests := true, laidLooks := .later }
def FnExactMoveDownCardSaid : Prop := Claim7.holds Tryd.pinned (.plain (OpenSpec.ofChange fnExactMoveDownSpec)) fnExactMoveDownCard

/-- THE SECOND FORM's CARD OF 'laws.FnExactIsEdit'. -/
def fnExactIsEditUptoCard : Claim7 := { stood := { row := fnExactIsEditUptoRow, standIns := [], harness := (true, "9aebf82148f0953524a6a65ce28554d29e26d31eeab1dfb681ab55fc9f274eb2"), looks := false }, kinds := [], alts := [], laidByText := true, laidKinds := [.data], laidTests := true, laidLooks := .later }
def FnExactIsEditUptoCardSaid : Prop := Claim7.holds Tryd.pinned (.plain (OpenSpec.upto fnExactIsEditSpec)) fnExactIsEditUptoCard

/-- THE SECOND FORM's CARD OF 'laws.FnExactUnderCursor'. -/
def fnExactUnderCursorUptoCard : Claim7 := { stood := { row := fnExactUnderCursorUptoRow, standIns := [], harness := (true, "9aebf82148f0953524a6a65ce28554d29e26d31eeab1dfb681ab55fc9f274eb2"), looks := false }, kinds := [], alts := [], laidByText := true, laidKinds := [.data], laidTests := true, laidLooks := .later }
def FnExactUnderCursorUptoCardSaid : Prop := Claim7.holds Tryd.pinned (.plain (OpenSpec.upto fnExactUnderCursorSpec)) fnExactUnderCursorUptoCard

/-- THE SECOND FORM's CARD OF 'laws.FnExactMoveUp'. -/
def fnExactMoveUpUptoCard : Claim7 := { stood := { row := fnExactMoveUpUptoRow, standIns := [], harness := (true, "9aebf82148f0953524a6a65ce28554d29e26d31eeab1dfb681ab55fc9f274eb2"), looks := false }, kinds := [], alts := [], laidByText := true, laidKinds := [.data], laidTests := true, laidLooks := .later }
def FnExactMoveUpUptoCardSaid : Prop := Claim7.holds Tryd.pinned (.plain (OpenSpec.upto fnExactMoveUpSpec)) fnExactMoveUpUptoCard

/-- THE SECOND FORM's CARD OF 'laws.FnExactMoveDown'. -/
def fnExactMoveDownUptoCard : Claim7 := { stood := { row := fnExactMoveDownUptoRow, standIns := [], harness := (true, "9aebf82148f0953524a6a65ce28554d29e26d31eeab1dfb681ab55fc9f274eb2"), looks := false }, kinds := [], alts := [], laidByText := true, laidKinds := [.data], laidTests := true, laidLooks := .later }
def FnExactMoveDownUptoCardSaid : Prop := Claim7.holds Tryd.pinned (.plain (OpenSpec.upto fnExactMoveDownSpec)) fnExactMoveDownUptoCard
end Rows
end Go.Proofs.YtfidcblaabeaaaaDoor
