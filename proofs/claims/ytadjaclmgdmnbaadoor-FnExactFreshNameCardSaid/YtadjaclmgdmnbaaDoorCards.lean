/-
  DERIVED. GIVEN WITH THE SEED: THE CARDS: each row of YtadjaclmgdmnbaaDoorRows.lean that lists a variable, with what it lists TIED to the program's text (the seventh form; the later family's looks); each row that meets fmt, with fmt's text TOLD by the authors' own Lean function (tested against real Go, not proved from fmt's source: count such statements apart). THE CARD IS WHAT COUNTS. Prove the row's statement (the work); the ties are given (YtadjaclmgdmnbaaDoorTie.lean); close each card by the builder's one call (the guide's Derived/Test/ToyasCard.lean, 'card_holds'). Laid BY PROGRAM, IN A SANDBOX (cutbox-door.mjs). By AI agents, Wed Nov 11 2026. No macro, syntax, notation, axiom, sorry.
-/
import Derived.Test.YtadjaclmgdmnbaaDoorRows
import GoSem.ClaimSeven
namespace Go.Proofs.YtadjaclmgdmnbaaDoor
namespace Rows

/-- THE TIED CARD OF 'laws.FnExactIsValidExpr'. -/
def fnExactIsValidExprCard : Claim7 := { stood := { row := fnExactIsValidExprRow, standIns := [], harness := (true, "ef1371c31a008b72fee57b7b56b10a04ed80d8d53a630c428469b498f78441a4"), looks := false }, kinds := [], alts := [], laidByText := true, laidKinds := [.data], laidTests := true, laidLooks := .later }
def FnExactIsValidExprCardSaid : Prop := Claim7.holds Tryd.pinned (.plain (OpenSpec.ofChange fnExactIsValidExprSpec)) fnExactIsValidExprCard

/-- THE TIED CARD OF 'laws.FnExactIsRaw'. -/
def fnExactIsRawCard : Claim7 := { stood := { row := fnExactIsRawRow, standIns := [], harness := (true, "ef1371c31a008b72fee57b7b56b10a04ed80d8d53a630c428469b498f78441a4"), looks := false }, kinds := [], alts := [], laidByText := true, laidKinds := [.data], laidTests := true, laidLooks := .later }
def FnExactIsRawCardSaid : Prop := Claim7.holds Tryd.pinned (.plain (OpenSpec.ofChange fnExactIsRawSpec)) fnExactIsRawCard

/-- THE TIED CARD OF 'laws.FnExactIsCompleteExpr'. -/
def fnExactIsCompleteExprCard : Claim7 := { stood := { row := fnExactIsCompleteExprRow, standIns := [], harness := (true, "ef1371c31a008b72fee57b7b56b10a04ed80d8d53a630c428469b498f78441a4"), looks := false }, kinds := [], alts := [], laidByText := true, laidKinds := [.data], laidTests := true, laidLooks := .later }
def FnExactIsCompleteExprCardSaid : Prop := Claim7.holds Tryd.pinned (.plain (OpenSpec.ofChange fnExactIsCompleteExprSpec)) fnExactIsCompleteExprCard

/-- THE TIED CARD OF 'laws.FnExactFreshName'. -/
def fnExactFreshNameCard : Claim7 := { stood := { row := fnExactFreshNameRow, standIns := [], harness := (true, "ef1371c31a008b72fee57b7b56b10a04ed80d8d53a630c428469b498f78441a4"), looks := false }, kinds := [], alts := [], laidByText := true, laidKinds := [.data, .data, .data], laidTests := true, laidLooks := .later }
def FnExactFreshNameCardSaid : Prop := Claim7.holds Tryd.pinned (.plain (OpenSpec.ofChange fnExactFreshNameSpec)) fnExactFreshNameCard

/-- THE TIED CARD OF 'laws.FnExactCoreArity'. -/
def fnExactCoreArityCard : Claim7 := { stood := { row := fnExactCoreArityRow, standIns := [], harness := (true, "ef1371c31a008b72fee57b7b56b10a04ed80d8d53a630c428469b498f78441a4"), looks := false }, kinds := [], alts := [], laidByText := true, laidKinds := [.data], laidTests := true, laidLooks := .later }
def FnExactCoreArityCardSaid : Prop := Claim7.holds Tryd.pinned (.plain (OpenSpec.ofChange fnExactCoreAritySpec)) fnExactCoreArityCard

/-- THE SECOND FORM's CARD OF 'laws.FnExactIsValidExpr'. -/
def fnExactIsValidExprUptoCard : Claim7 := { stood := { row := fnExactIsValidExprUptoRow, standIns := [], harness := (true, "ef1371c31a008b72fee57b7b56b10a04ed80d8d53a630c428469b498f78441a4"), looks := false }, kinds := [], alts := [], laidByText := true, laidKinds := [.data], laidTests := true, laidLooks := .later }
def FnExactIsValidExprUptoCardSaid : Prop := Claim7.holds Tryd.pinned (.plain (OpenSpec.upto fnExactIsValidExprSpec)) fnExactIsValidExprUptoCard

/-- THE SECOND FORM's CARD OF 'laws.FnExactIsRaw'. -/
def fnExactIsRawUptoCard : Claim7 := { stood := { row := fnExactIsRawUptoRow, standIns := [], harness := (true, "ef1371c31a008b72fee57b7b56b10a04ed80d8d53a630c428469b498f78441a4"), looks := false }, kinds := [], alts := [], laidByText := true, laidKinds := [.data], laidTests := true, laidLooks := .later }
def FnExactIsRawUptoCardSaid : Prop := Claim7.holds Tryd.pinned (.plain (OpenSpec.upto fnExactIsRawSpec)) fnExactIsRawUptoCard

/-- THE SECOND FORM's CARD OF 'laws.FnExactIsCompleteExpr'. -/
def fnExactIsCompleteExprUptoCard : Claim7 := { stood := { row := fnExactIsCompleteExprUptoRow, standIns := [], harness := (true, "ef1371c31a008b72fee57b7b56b10a04ed80d8d53a630c428469b498f78441a4"), looks := false }, kinds := [], alts := [], laidByText := true, laidKinds := [.data], laidTests := true, laidLooks := .later }
def FnExactIsCompleteExprUptoCardSaid : Prop := Claim7.holds Tryd.pinned (.plain (OpenSpec.upto fnExactIsCompleteExprSpec)) fnExactIsCompleteExprUptoCard

/-- THE SECOND FORM's CARD OF 'laws.FnExactFreshName'. -/
def fnExactFreshNameUptoCard : Claim7 := { stood := { row := fnExactFreshNameUptoRow, standIns := [], harness := (true, "ef1371c31a008b72fee57b7b56b10a04ed80d8d53a630c428469b498f78441a4"), looks := false }, kinds := [], alts := [], laidByText := true, laidKinds := [.data, .data, .data], laidTests := true, laidLooks := .later }
def FnExactFreshNameUptoCardSaid : Prop := Claim7.holds Tryd.pinned (.plain (OpenSpec.upto fnExactFreshNameSpec)) fnExactFreshNameUptoCard

/-- THE SECOND FORM's CARD OF 'laws.FnExactCoreArity'. -/
def fnExactCoreArityUptoCard : Claim7 := { stood := { row := fnExactCoreArityUptoRow, standIns := [], harness := (true, "ef1371c31a008b72fee57b7b56b10a04ed80d8d53a630c428469b498f78441a4"), looks := false }, kinds := [], alts := [], laidByText := true, laidKinds := [.data], laidTests := true, laidLooks := .later }
def FnExactCoreArityUptoCardSaid : Prop := Claim7.holds Tryd.pinned (.plain (OpenSpec.upto fnExactCoreAritySpec)) fnExactCoreArityUptoCard
end Rows
end Go.Proofs.YtadjaclmgdmnbaaDoor
