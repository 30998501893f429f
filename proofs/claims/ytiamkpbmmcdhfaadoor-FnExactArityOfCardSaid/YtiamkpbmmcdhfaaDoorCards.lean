/-
  DERIVED. GIVEN WITH THE SEED: THE CARDS: each row of YtiamkpbmmcdhfaaDoorRows.lean that lists a variable, with what it lists TIED to the program's text (the seventh form; the later family's looks); each row that meets fmt, with fmt's text TOLD by the authors' own Lean function (tested against real Go, not proved from fmt's source: count such statements apart). THE CARD IS WHAT COUNTS. Prove the row's statement (the work); the ties are given (YtiamkpbmmcdhfaaDoorTie.lean); close each card by the builder's one call (the guide's Derived/Test/ToyasCard.lean, 'card_holds'). Laid BY PROGRAM, IN A SANDBOX (cutbox-door.mjs). By AI agents, Wed Nov 11 2026. No macro, syntax, notation, axiom, sorry.
-/
import Derived.Test.YtiamkpbmmcdhfaaDoorRows
import GoSem.ClaimSeven
namespace Go.Proofs.YtiamkpbmmcdhfaaDoor
namespace Rows

/-- THE TIED CARD OF 'laws.FnExprs'. -/
def fnExprsCard : Claim7 := { stood := { row := fnExprsRow, standIns := [], harness := (true, "2c49fc2a297753acdcc63d3df065d4f7fd43d72c2d1cd62c9307cbea266f8836"), looks := true }, kinds := [], alts := [], laidByText := true, laidKinds := [.data], laidTests := true, laidLooks := .later }
def FnExprsCardSaid : Prop := Claim7.holds Tryd.pinned (.plain (OpenSpec.ofChange fnExprsSpec)) fnExprsCard

/-- THE TIED CARD OF 'laws.FnExactArityOf'. -/
def fnExactArityOfCard : Claim7 := { stood := { row := fnExactArityOfRow, standIns := [], harness := (true, "2c49fc2a297753acdcc63d3df065d4f7fd43d72c2d1cd62c9307cbea266f8836"), looks := true }, kinds := [], alts := [], laidByText := true, laidKinds := [.data], laidTests := true, laidLooks := .later }
def FnExactArityOfCardSaid : Prop := Claim7.holds Tryd.pinned (.plain (OpenSpec.ofChange fnExactArityOfSpec)) fnExactArityOfCard

/-- THE TIED CARD OF 'laws.FnExactIsValidExpr'. -/
def fnExactIsValidExprCard : Claim7 := { stood := { row := fnExactIsValidExprRow, standIns := [], harness := (true, "2c49fc2a297753acdcc63d3df065d4f7fd43d72c2d1cd62c9307cbea266f8836"), looks := true }, kinds := [], alts := [], laidByText := true, laidKinds := [.data], laidTests := true, laidLooks := .later }
def FnExactIsValidExprCardSaid : Prop := Claim7.holds Tryd.pinned (.plain (OpenSpec.ofChange fnExactIsValidExprSpec)) fnExactIsValidExprCard

/-- THE TIED CARD OF 'laws.FnExactIsRaw'. -/
def fnExactIsRawCard : Claim7 := { stood := { row := fnExactIsRawRow, standIns := [], harness := (true, "2c49fc2a297753acdcc63d3df065d4f7fd43d72c2d1cd62c9307cbea266f8836"), looks := true }, kinds := [], alts := [], laidByText := true, laidKinds := [.data], laidTests := true, laidLooks := .later }
def FnExactIsRawCardSaid : Prop := Claim7.holds Tryd.pinned (.plain (OpenSpec.ofChange fnExactIsRawSpec)) fnExactIsRawCard

/-- THE TIED CARD OF 'laws.FnExactIsCompleteExpr'. -/
def fnExactIsCompleteExprCard : Claim7 := { stood := { row := fnExactIsCompleteExprRow, standIns := [], harness := (true, "2c49fc2a297753acdcc63d3df065d4f7fd43d72c2d1cd62c9307cbea266f8836"), looks := true }, kinds := [], alts := [], laidByText := true, laidKinds := [.data], laidTests := true, laidLooks := .later }
def FnExactIsCompleteExprCardSaid : Prop := Claim7.holds Tryd.pinned (.plain (OpenSpec.ofChange fnExactIsCompleteExprSpec)) fnExactIsCompleteExprCard

/-- THE TIED CARD OF 'laws.FnExactFormatExpr'. -/
def fnExactFormatExprCard : Claim7 := { stood := { row := fnExactFormatExprRow, standIns := [], harness := (true, "2c49fc2a297753acdcc63d3df065d4f7fd43d72c2d1cd62c9307cbea266f8836"), looks := true }, kinds := [], alts := [], laidByText := true, laidKinds := [.data, .data, .data, .data], laidTests := true, laidLooks := .later }
def FnExactFormatExprCardSaid : Prop := Claim7.holds Tryd.pinned (.plain (OpenSpec.ofChange fnExactFormatExprSpec)) fnExactFormatExprCard

/-- THE SECOND FORM's CARD OF 'laws.FnExprs'. -/
def fnExprsUptoCard : Claim7 := { stood := { row := fnExprsUptoRow, standIns := [], harness := (true, "2c49fc2a297753acdcc63d3df065d4f7fd43d72c2d1cd62c9307cbea266f8836"), looks := true }, kinds := [], alts := [], laidByText := true, laidKinds := [.data], laidTests := true, laidLooks := .later }
def FnExprsUptoCardSaid : Prop := Claim7.holds Tryd.pinned (.plain (OpenSpec.upto fnExprsSpec)) fnExprsUptoCard

/-- THE SECOND FORM's CARD OF 'laws.FnExactArityOf'. -/
def fnExactArityOfUptoCard : Claim7 := { stood := { row := fnExactArityOfUptoRow, standIns := [], harness := (true, "2c49fc2a297753acdcc63d3df065d4f7fd43d72c2d1cd62c9307cbea266f8836"), looks := true }, kinds := [], alts := [], laidByText := true, laidKinds := [.data], laidTests := true, laidLooks := .later }
def FnExactArityOfUptoCardSaid : Prop := Claim7.holds Tryd.pinned (.plain (OpenSpec.upto fnExactArityOfSpec)) fnExactArityOfUptoCard

/-- THE SECOND FORM's CARD OF 'laws.FnExactIsValidExpr'. -/
def fnExactIsValidExprUptoCard : Claim7 := { stood := { row := fnExactIsValidExprUptoRow, standIns := [], harness := (true, "2c49fc2a297753acdcc63d3df065d4f7fd43d72c2d1cd62c9307cbea266f8836"), looks := true }, kinds := [], alts := [], laidByText := true, laidKinds := [.data], laidTests := true, laidLooks := .later }
def FnExactIsValidExprUptoCardSaid : Prop := Claim7.holds Tryd.pinned (.plain (OpenSpec.upto fnExactIsValidExprSpec)) fnExactIsValidExprUptoCard

/-- THE SECOND FORM's CARD OF 'laws.FnExactIsRaw'. -/
def fnExactIsRawUptoCard : Claim7 := { stood := { row := fnExactIsRawUptoRow, standIns := [], harness := (true, "2c49fc2a297753acdcc63d3df065d4f7fd43d72c2d1cd62c9307cbea266f8836"), looks := true }, kinds := [], alts := [], laidByText := true, laidKinds := [.data], laidTests := true, laidLooks := .later }
def FnExactIsRawUptoCardSaid : Prop := Claim7.holds Tryd.pinned (.plain (OpenSpec.upto fnExactIsRawSpec)) fnExactIsRawUptoCard

/-- THE SECOND FORM's CARD OF 'laws.FnExactIsCompleteExpr'. -/
def fnExactIsCompleteExprUptoCard : Claim7 := { stood := { row := fnExactIsCompleteExprUptoRow, standIns := [], harness := (true, "2c49fc2a297753acdcc63d3df065d4f7fd43d72c2d1cd62c9307cbea266f8836"), looks := true }, kinds := [], alts := [], laidByText := true, laidKinds := [.data], laidTests := true, laidLooks := .later }
def FnExactIsCompleteExprUptoCardSaid : Prop := Claim7.holds Tryd.pinned (.plain (OpenSpec.upto fnExactIsCompleteExprSpec)) fnExactIsCompleteExprUptoCard

/-- THE SECOND FORM's CARD OF 'laws.FnExactFormatExpr'. -/
def fnExactFormatExprUptoCard : Claim7 := { stood := { row := fnExactFormatExprUptoRow, standIns := [], harness := (true, "2c49fc2a297753acdcc63d3df065d4f7fd43d72c2d1cd62c9307cbea266f8836"), looks := true }, kinds := [], alts := [], laidByText := true, laidKinds := [.data, .data, .data, .data], laidTests := true, laidLooks := .later }
def FnExactFormatExprUptoCardSaid : Prop := Claim7.holds Tryd.pinned (.plain (OpenSpec.upto fnExactFormatExprSpec)) fnExactFormatExprUptoCard
end Rows
end Go.Proofs.YtiamkpbmmcdhfaaDoor
