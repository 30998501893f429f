/-
  DERIVED. GIVEN WITH THE SEED: THE CARDS: each row of YteffjeejbdjjpaaGreatDoorRows.lean that lists a variable, with what it lists TIED to the program's text (the seventh form; the later family's looks); each row that meets fmt, with fmt's text TOLD by the authors' own Lean function (tested against real Go, not proved from fmt's source: count such statements apart). THE CARD IS WHAT COUNTS. Prove the row's statement (the work); the ties are given (YteffjeejbdjjpaaGreatDoorTie.lean); close each card by the builder's one call (the guide's Derived/Test/ToyasCard.lean, 'card_holds'). Laid BY PROGRAM, IN A SANDBOX (cutbox-door.mjs). By AI agents, Wed Nov 11 2026. No macro, syntax, notation, axiom, sorry.
-/
import Derived.Test.YteffjeejbdjjpaaGreatDoorRows
import GoSem.ClaimSeven
namespace Go.Proofs.YteffjeejbdjjpaaGreatDoor
namespace Rows

/-- THE TIED CARD OF 'laws.FnExactSynthType'. -/
def fnExactSynthTypeCard : Claim7 := { stood := { row := fnExactSynthTypeRow, standIns := [], harness := (true, "8a10325bff8a30238d6ea581a3c2c276aacdbfd5eac627cf47a88670fc8e9549"), looks := true }, kinds := [], alts := [], laidByText := true, laidKinds := [.data, .data, .sentinel], laidTests := true, laidLooks := .later }
def FnExactSynthTypeCardSaid : Prop := Claim7.holds Tryz.pinned (.plain (OpenSpec.ofChange fnExactSynthTypeSpec)) fnExactSynthTypeCard

/-- THE TIED CARD OF 'laws.FnExactCheckType'. -/
def fnExactCheckTypeCard : Claim7 := { stood := { row := fnExactCheckTypeRow, standIns := [], harness := (true, "8a10325bff8a30238d6ea581a3c2c276aacdbfd5eac627cf47a88670fc8e9549"), looks := true }, kinds := [], alts := [], laidByText := true, laidKinds := [.data, .data, .sentinel], laidTests := true, laidLooks := .later }
def FnExactCheckTypeCardSaid : Prop := Claim7.holds Tryz.pinned (.plain (OpenSpec.ofChange fnExactCheckTypeSpec)) fnExactCheckTypeCard

/-- THE TIED CARD OF 'laws.FnExactIsWellTyped'. -/
def fnExactIsWellTypedCard : Claim7 := { stood := { row := fnExactIsWellTypedRow, standIns := [], harness := (true, "8a10325bff8a30238d6ea581a3c2c276aacdbfd5eac627cf47a88670fc8e9549"), looks := true }, kinds := [], alts := [], laidByText := true, laidKinds := [.data, .data, .sentinel], laidTests := true, laidLooks := .later }
def FnExactIsWellTypedCardSaid : Prop := Claim7.holds Tryz.pinned (.plain (OpenSpec.ofChange fnExactIsWellTypedSpec)) fnExactIsWellTypedCard

/-- THE SECOND FORM's CARD OF 'laws.FnExactSynthType'. -/
def fnExactSynthTypeUptoCard : Claim7 := { stood := { row := fnExactSynthTypeUptoRow, standIns := [], harness := (true, "8a10325bff8a30238d6ea581a3c2c276aacdbfd5eac627cf47a88670fc8e9549"), looks := true }, kinds := [], alts := [], laidByText := true, laidKinds := [.data, .data, .sentinel], laidTests := true, laidLooks := .later }
def FnExactSynthTypeUptoCardSaid : Prop := Claim7.holds Tryz.pinned (.plain (OpenSpec.upto fnExactSynthTypeSpec)) fnExactSynthTypeUptoCard

/-- THE SECOND FORM's CARD OF 'laws.FnExactCheckType'. -/
def fnExactCheckTypeUptoCard : Claim7 := { stood := { row := fnExactCheckTypeUptoRow, standIns := [], harness := (true, "8a10325bff8a30238d6ea581a3c2c276aacdbfd5eac627cf47a88670fc8e9549"), looks := true }, kinds := [], alts := [], laidByText := true, laidKinds := [.data, .data, .sentinel], laidTests := true, laidLooks := .later }
def FnExactCheckTypeUptoCardSaid : Prop := Claim7.holds Tryz.pinned (.plain (OpenSpec.upto fnExactCheckTypeSpec)) fnExactCheckTypeUptoCard

/-- THE SECOND FORM's CARD OF 'laws.FnExactIsWellTyped'. -/
def fnExactIsWellTypedUptoCard : Claim7 := { stood := { row := fnExactIsWellTypedUptoRow, standIns := [], harness := (true, "8a10325bff8a30238d6ea581a3c2c276aacdbfd5eac627cf47a88670fc8e9549"), looks := true }, kinds := [], alts := [], laidByText := true, laidKinds := [.data, .data, .sentinel], laidTests := true, laidLooks := .later }
def FnExactIsWellTypedUptoCardSaid : Prop := Claim7.holds Tryz.pinned (.plain (OpenSpec.upto fnExactIsWellTypedSpec)) fnExactIsWellTypedUptoCard
end Rows
end Go.Proofs.YteffjeejbdjjpaaGreatDoor
