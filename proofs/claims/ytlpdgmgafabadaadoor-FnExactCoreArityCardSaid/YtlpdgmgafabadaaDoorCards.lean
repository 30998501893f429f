/-
  DERIVED. GIVEN WITH THE SEED: THE CARDS: each row of YtlpdgmgafabadaaDoorRows.lean that lists a variable, with what it lists TIED to the program's text (the seventh form; the later family's looks); each row that meets fmt, with fmt's text TOLD by the authors' own Lean function (tested against real Go, not proved from fmt's source: count such statements apart). THE CARD IS WHAT COUNTS. Prove the row's statement (the work); the ties are given (YtlpdgmgafabadaaDoorTie.lean); close each card by the builder's one call (the guide's Derived/Test/ToyasCard.lean, 'card_holds'). Laid BY PROGRAM, IN A SANDBOX (cutbox-door.mjs). By AI agents, Wed Nov 11 2026. No macro, syntax, notation, axiom, sorry.
-/
import Derived.Test.YtlpdgmgafabadaaDoorRows
import GoSem.ClaimSeven
namespace Go.Proofs.YtlpdgmgafabadaaDoor
namespace Rows

/-- THE TIED CARD OF 'laws.FnExactMeetType'. -/
def fnExactMeetTypeCard : Claim7 := { stood := { row := fnExactMeetTypeRow, standIns := [], harness := (true, "fc04eae3b1e21021db0f8903345647326cc192c43a696cd10cdd39b5b855b1e7"), looks := true }, kinds := [], alts := [], laidByText := true, laidKinds := [.data], laidTests := true, laidLooks := .later }
def FnExactMeetTypeCardSaid : Prop := Claim7.holds Tryd.pinned (.plain (OpenSpec.ofChange fnExactMeetTypeSpec)) fnExactMeetTypeCard

/-- THE TIED CARD OF 'laws.FnExactIsEdit'. -/
def fnExactIsEditCard : Claim7 := { stood := { row := fnExactIsEditRow, standIns := [], harness := (true, "fc04eae3b1e21021db0f8903345647326cc192c43a696cd10cdd39b5b855b1e7"), looks := true }, kinds := [], alts := [], laidByText := true, laidKinds := [.data], laidTests := true, laidLooks := .later }
def FnExactIsEditCardSaid : Prop := Claim7.holds Tryd.pinned (.plain (OpenSpec.ofChange fnExactIsEditSpec)) fnExactIsEditCard

/-- THE TIED CARD OF 'laws.FnExactFormatAction'. -/
def fnExactFormatActionCard : Claim7 := { stood := { row := fnExactFormatActionRow, standIns := [], harness := (true, "fc04eae3b1e21021db0f8903345647326cc192c43a696cd10cdd39b5b855b1e7"), looks := true }, kinds := [], alts := [], laidByText := true, laidKinds := [.data, .data, .data, .data], laidTests := true, laidLooks := .later }
def FnExactFormatActionCardSaid : Prop := Claim7.holds Tryd.pinned (.plain (OpenSpec.ofChange fnExactFormatActionSpec)) fnExactFormatActionCard

/-- THE TIED CARD OF 'laws.FnExactCoreArity'. -/
def fnExactCoreArityCard : Claim7 := { stood := { row := fnExactCoreArityRow, standIns := [], harness := (true, "fc04eae3b1e21021db0f8903345647326cc192c43a696cd10cdd39b5b855b1e7"), looks := true }, kinds := [], alts := [], laidByText := true, laidKinds := [.data], laidTests := true, laidLooks := .later }
def FnExactCoreArityCardSaid : Prop := Claim7.holds Tryd.pinned (.plain (OpenSpec.ofChange fnExactCoreAritySpec)) fnExactCoreArityCard

/-- THE SECOND FORM's CARD OF 'laws.FnExactMeetType'. -/
def fnExactMeetTypeUptoCard : Claim7 := { stood := { row := fnExactMeetTypeUptoRow, standIns := [], harness := (true, "fc04eae3b1e21021db0f8903345647326cc192c43a696cd10cdd39b5b855b1e7"), looks := true }, kinds := [], alts := [], laidByText := true, laidKinds := [.data], laidTests := true, laidLooks := .later }
def FnExactMeetTypeUptoCardSaid : Prop := Claim7.holds Tryd.pinned (.plain (OpenSpec.upto fnExactMeetTypeSpec)) fnExactMeetTypeUptoCard

/-- THE SECOND FORM's CARD OF 'laws.FnExactIsEdit'. -/
def fnExactIsEditUptoCard : Claim7 := { stood := { row := fnExactIsEditUptoRow, standIns := [], harness := (true, "fc04eae3b1e21021db0f8903345647326cc192c43a696cd10cdd39b5b855b1e7"), looks := true }, kinds := [], alts := [], laidByText := true, laidKinds := [.data], laidTests := true, laidLooks := .later }
def FnExactIsEditUptoCardSaid : Prop := Claim7.holds Tryd.pinned (.plain (OpenSpec.upto fnExactIsEditSpec)) fnExactIsEditUptoCard

/-- THE SECOND FORM's CARD OF 'laws.FnExactFormatAction'. -/
def fnExactFormatActionUptoCard : Claim7 := { stood := { row := fnExactFormatActionUptoRow, standIns := [], harness := (true, "fc04eae3b1e21021db0f8903345647326cc192c43a696cd10cdd39b5b855b1e7"), looks := true }, kinds := [], alts := [], laidByText := true, laidKinds := [.data, .data, .data, .data], laidTests := true, laidLooks := .later }
def FnExactFormatActionUptoCardSaid : Prop := Claim7.holds Tryd.pinned (.plain (OpenSpec.upto fnExactFormatActionSpec)) fnExactFormatActionUptoCard

/-- THE SECOND FORM's CARD OF 'laws.FnExactCoreArity'. -/
def fnExactCoreArityUptoCard : Claim7 := { stood := { row := fnExactCoreArityUptoRow, standIns := [], harness := (true, "fc04eae3b1e21021db0f8903345647326cc192c43a696cd10cdd39b5b855b1e7"), looks := true }, kinds := [], alts := [], laidByText := true, laidKinds := [.data], laidTests := true, laidLooks := .later }
def FnExactCoreArityUptoCardSaid : Prop := Claim7.holds Tryd.pinned (.plain (OpenSpec.upto fnExactCoreAritySpec)) fnExactCoreArityUptoCard
end Rows
end Go.Proofs.YtlpdgmgafabadaaDoor
