/-
  DERIVED. GIVEN WITH THE SEED: THE CARDS: each row of YtdgfkmnnjhlpbaaDoorRows.lean that lists a variable, with what it lists TIED to the program's text (the seventh form; the later family's looks); each row that meets fmt, with fmt's text TOLD by the authors' own Lean function (tested against real Go, not proved from fmt's source: count such statements apart). THE CARD IS WHAT COUNTS. Prove the row's statement (the work); the ties are given (YtdgfkmnnjhlpbaaDoorTie.lean); close each card by the builder's one call (the guide's Derived/Test/ToyasCard.lean, 'card_holds'). Laid BY PROGRAM, IN A SANDBOX (cutbox-door.mjs). By AI agents, Wed Nov 11 2026. No macro, syntax, notation, axiom, sorry.
-/
import Derived.Test.YtdgfkmnnjhlpbaaDoorRows
import GoSem.ClaimSeven
namespace Go.Proofs.YtdgfkmnnjhlpbaaDoor
namespace Rows

/-- THE TIED CARD OF 'laws.FnExactFormatAction'. -/
def fnExactFormatActionCard : Claim7 := { stood := { row := fnExactFormatActionRow, standIns := [], harness := (true, "e4c2f148560ca18842f5b19769e6e8bb5a38078bd4a821cd02751381d7fb3a2a"), looks := true }, kinds := [], alts := [], laidByText := true, laidKinds := [.data, .data, .data, .data], laidTests := true, laidLooks := .later }
def FnExactFormatActionCardSaid : Prop := Claim7.holds Tryd.pinned (.plain (OpenSpec.ofChange fnExactFormatActionSpec)) fnExactFormatActionCard

/-- THE TIED CARD OF 'laws.FnExactFormatActions'. -/
def fnExactFormatActionsCard : Claim7 := { stood := { row := fnExactFormatActionsRow, standIns := [], harness := (true, "e4c2f148560ca18842f5b19769e6e8bb5a38078bd4a821cd02751381d7fb3a2a"), looks := true }, kinds := [], alts := [], laidByText := true, laidKinds := [.data, .data, .data, .data], laidTests := true, laidLooks := .later }
def FnExactFormatActionsCardSaid : Prop := Claim7.holds Tryd.pinned (.plain (OpenSpec.ofChange fnExactFormatActionsSpec)) fnExactFormatActionsCard

/-- THE TIED CARD OF 'laws.FnExactFormatExpr'. -/
def fnExactFormatExprCard : Claim7 := { stood := { row := fnExactFormatExprRow, standIns := [], harness := (true, "e4c2f148560ca18842f5b19769e6e8bb5a38078bd4a821cd02751381d7fb3a2a"), looks := true }, kinds := [], alts := [], laidByText := true, laidKinds := [.data, .data, .data, .data], laidTests := true, laidLooks := .later }
def FnExactFormatExprCardSaid : Prop := Claim7.holds Tryd.pinned (.plain (OpenSpec.ofChange fnExactFormatExprSpec)) fnExactFormatExprCard

/-- THE TIED CARD OF 'laws.FnExactChangesText'. -/
def fnExactChangesTextCard : Claim7 := { stood := { row := fnExactChangesTextRow, standIns := [], harness := (true, "e4c2f148560ca18842f5b19769e6e8bb5a38078bd4a821cd02751381d7fb3a2a"), looks := true }, kinds := [], alts := [], laidByText := true, laidKinds := [.data, .data, .data, .data], laidTests := true, laidLooks := .later }
def FnExactChangesTextCardSaid : Prop := Claim7.holds Tryd.pinned (.plain (OpenSpec.ofChange fnExactChangesTextSpec)) fnExactChangesTextCard

/-- THE TIED CARD OF 'laws.FnExactMeetType'. -/
def fnExactMeetTypeCard : Claim7 := { stood := { row := fnExactMeetTypeRow, standIns := [], harness := (true, "e4c2f148560ca18842f5b19769e6e8bb5a38078bd4a821cd02751381d7fb3a2a"), looks := true }, kinds := [], alts := [], laidByText := true, laidKinds := [.data], laidTests := true, laidLooks := .later }
def FnExactMeetTypeCardSaid : Prop := Claim7.holds Tryd.pinned (.plain (OpenSpec.ofChange fnExactMeetTypeSpec)) fnExactMeetTypeCard

/-- THE TIED CARD OF 'laws.FnExactConsistent'. -/
def fnExactConsistentCard : Claim7 := { stood := { row := fnExactConsistentRow, standIns := [], harness := (true, "e4c2f148560ca18842f5b19769e6e8bb5a38078bd4a821cd02751381d7fb3a2a"), looks := true }, kinds := [], alts := [], laidByText := true, laidKinds := [.data], laidTests := true, laidLooks := .later }
def FnExactConsistentCardSaid : Prop := Claim7.holds Tryd.pinned (.plain (OpenSpec.ofChange fnExactConsistentSpec)) fnExactConsistentCard

/-- THE TIED CARD OF 'laws.FnExactFillExpr'. -/
def fnExactFillExprCard : Claim7 := { stood := { row := fnExactFillExprRow, standIns := [], harness := (true, "e4c2f148560ca18842f5b19769e6e8bb5a38078bd4a821cd02751381d7fb3a2a"), looks := true }, kinds := [], alts := [], laidByText := true, laidKinds := [.data], laidTests := true, laidLooks := .later }
def FnExactFillExprCardSaid : Prop := Claim7.holds Tryd.pinned (.plain (OpenSpec.ofChange fnExactFillExprSpec)) fnExactFillExprCard

/-- THE TIED CARD OF 'laws.FnExactReplaceAt'. -/
def fnExactReplaceAtCard : Claim7 := { stood := { row := fnExactReplaceAtRow, standIns := [], harness := (true, "e4c2f148560ca18842f5b19769e6e8bb5a38078bd4a821cd02751381d7fb3a2a"), looks := true }, kinds := [], alts := [], laidByText := true, laidKinds := [.data], laidTests := true, laidLooks := .later }
def FnExactReplaceAtCardSaid : Prop := Claim7.holds Tryd.pinned (.plain (OpenSpec.ofChange fnExactReplaceAtSpec)) fnExactReplaceAtCard

/-- THE SECOND FORM's CARD OF 'laws.FnExactFormatAction'. -/
def fnExactFormatActionUptoCard : Claim7 := { stood := { row := fnExactFormatActionUptoRow, standIns := [], harness := (true, "e4c2f148560ca18842f5b19769e6e8bb5a38078bd4a821cd02751381d7fb3a2a"), looks := true }, kinds := [], alts := [], laidByText := true, laidKinds := [.data, .data, .data, .data], laidTests := true, laidLooks := .later }
def FnExactFormatActionUptoCardSaid : Prop := Claim7.holds Tryd.pinned (.plain (OpenSpec.upto fnExactFormatActionSpec)) fnExactFormatActionUptoCard

/-- THE SECOND FORM's CARD OF 'laws.FnExactFormatActions'. -/
def fnExactFormatActionsUptoCard : Claim7 := { stood := { row := fnExactFormatActionsUptoRow, standIns := [], harness := (true, "e4c2f148560ca18842f5b19769e6e8bb5a38078bd4a821cd02751381d7fb3a2a"), looks := true }, kinds := [], alts := [], laidByText := true, laidKinds := [.data, .data, .data, .data], laidTests := true, laidLooks := .later }
def FnExactFormatActionsUptoCardSaid : Prop := Claim7.holds Tryd.pinned (.plain (OpenSpec.upto fnExactFormatActionsSpec)) fnExactFormatActionsUptoCard

/-- THE SECOND FORM's CARD OF 'laws.FnExactFormatExpr'. -/
def fnExactFormatExprUptoCard : Claim7 := { stood := { row := fnExactFormatExprUptoRow, standIns := [], harness := (true, "e4c2f148560ca18842f5b19769e6e8bb5a38078bd4a821cd02751381d7fb3a2a"), looks := true }, kinds := [], alts := [], laidByText := true, laidKinds := [.data, .data, .data, .data], laidTests := true, laidLooks := .later }
def FnExactFormatExprUptoCardSaid : Prop := Claim7.holds Tryd.pinned (.plain (OpenSpec.upto fnExactFormatExprSpec)) fnExactFormatExprUptoCard

/-- THE SECOND FORM's CARD OF 'laws.FnExactChangesText'. -/
def fnExactChangesTextUptoCard : Claim7 := { stood := { row := fnExactChangesTextUptoRow, standIns := [], harness := (true, "e4c2f148560ca18842f5b19769e6e8bb5a38078bd4a821cd02751381d7fb3a2a"), looks := true }, kinds := [], alts := [], laidByText := true, laidKinds := [.data, .data, .data, .data], laidTests := true, laidLooks := .later }
def FnExactChangesTextUptoCardSaid : Prop := Claim7.holds Tryd.pinned (.plain (OpenSpec.upto fnExactChangesTextSpec)) fnExactChangesTextUptoCard

/-- THE SECOND FORM's CARD OF 'laws.FnExactMeetType'. -/
def fnExactMeetTypeUptoCard : Claim7 := { stood := { row := fnExactMeetTypeUptoRow, standIns := [], harness := (true, "e4c2f148560ca18842f5b19769e6e8bb5a38078bd4a821cd02751381d7fb3a2a"), looks := true }, kinds := [], alts := [], laidByText := true, laidKinds := [.data], laidTests := true, laidLooks := .later }
def FnExactMeetTypeUptoCardSaid : Prop := Claim7.holds Tryd.pinned (.plain (OpenSpec.upto fnExactMeetTypeSpec)) fnExactMeetTypeUptoCard

/-- THE SECOND FORM's CARD OF 'laws.FnExactConsistent'. -/
def fnExactConsistentUptoCard : Claim7 := { stood := { row := fnExactConsistentUptoRow, standIns := [], harness := (true, "e4c2f148560ca18842f5b19769e6e8bb5a38078bd4a821cd02751381d7fb3a2a"), looks := true }, kinds := [], alts := [], laidByText := true, laidKinds := [.data], laidTests := true, laidLooks := .later }
def FnExactConsistentUptoCardSaid : Prop := Claim7.holds Tryd.pinned (.plain (OpenSpec.upto fnExactConsistentSpec)) fnExactConsistentUptoCard

/-- THE SECOND FORM's CARD OF 'laws.FnExactFillExpr'. -/
def fnExactFillExprUptoCard : Claim7 := { stood := { row := fnExactFillExprUptoRow, standIns := [], harness := (true, "e4c2f148560ca18842f5b19769e6e8bb5a38078bd4a821cd02751381d7fb3a2a"), looks := true }, kinds := [], alts := [], laidByText := true, laidKinds := [.data], laidTests := true, laidLooks := .later }
def FnExactFillExprUptoCardSaid : Prop := Claim7.holds Tryd.pinned (.plain (OpenSpec.upto fnExactFillExprSpec)) fnExactFillExprUptoCard

/-- THE SECOND FORM's CARD OF 'laws.FnExactReplaceAt'. -/
def fnExactReplaceAtUptoCard : Claim7 := { stood := { row := fnExactReplaceAtUptoRow, standIns := [], harness := (true, "e4c2f148560ca18842f5b19769e6e8bb5a38078bd4a821cd02751381d7fb3a2a"), looks := true }, kinds := [], alts := [], laidByText := true, laidKinds := [.data], laidTests := true, laidLooks := .later }
def FnExactReplaceAtUptoCardSaid : Prop := Claim7.holds Tryd.pinned (.plain (OpenSpec.upto fnExactReplaceAtSpec)) fnExactReplaceAtUptoCard
end Rows
end Go.Proofs.YtdgfkmnnjhlpbaaDoor
