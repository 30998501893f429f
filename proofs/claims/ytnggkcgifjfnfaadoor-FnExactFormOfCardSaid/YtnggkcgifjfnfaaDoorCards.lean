/-
  DERIVED. GIVEN WITH THE SEED: THE CARDS: each row of YtnggkcgifjfnfaaDoorRows.lean that lists a variable, with what it lists TIED to the program's text (the seventh form; the later family's looks); each row that meets fmt, with fmt's text TOLD by the authors' own Lean function (tested against real Go, not proved from fmt's source: count such statements apart). THE CARD IS WHAT COUNTS. Prove the row's statement (the work); the ties are given (YtnggkcgifjfnfaaDoorTie.lean); close each card by the builder's one call (the guide's Derived/Test/ToyasCard.lean, 'card_holds'). Laid BY PROGRAM, IN A SANDBOX (cutbox-door.mjs). By AI agents, Wed Nov 11 2026. No macro, syntax, notation, axiom, sorry.
-/
import Derived.Test.YtnggkcgifjfnfaaDoorRows
import GoSem.ClaimSeven
namespace Go.Proofs.YtnggkcgifjfnfaaDoor
namespace Rows

/-- THE TIED CARD OF 'laws.FnExactFormOf'. -/
def fnExactFormOfCard : Claim7 := { stood := { row := fnExactFormOfRow, standIns := [], harness := (true, "ef6bdfabe1d4a5e248790535b1bcf4c9cd2835c012bf3323220e6365059d314c"), looks := true }, kinds := [], alts := [], laidByText := true, laidKinds := [.data], laidTests := true, laidLooks := .later }
def FnExactFormOfCardSaid : Prop := Claim7.holds Tryd.pinned (.plain (OpenSpec.ofChange fnExactFormOfSpec)) fnExactFormOfCard

/-- THE TIED CARD OF 'laws.FnExactCoreText'. -/
def fnExactCoreTextCard : Claim7 := { stood := { row := fnExactCoreTextRow, standIns := [], harness := (true, "ef6bdfabe1d4a5e248790535b1bcf4c9cd2835c012bf3323220e6365059d314c"), looks := true }, kinds := [], alts := [], laidByText := true, laidKinds := [.data, .data, .data, .data], laidTests := true, laidLooks := .later }
def FnExactCoreTextCardSaid : Prop := Claim7.holds Tryd.pinned (.plain (OpenSpec.ofChange fnExactCoreTextSpec)) fnExactCoreTextCard

/-- THE SECOND FORM's CARD OF 'laws.FnExactFormOf'. -/
def fnExactFormOfUptoCard : Claim7 := { stood := { row := fnExactFormOfUptoRow, standIns := [], harness := (true, "ef6bdfabe1d4a5e248790535b1bcf4c9cd2835c012bf3323220e6365059d314c"), looks := true }, kinds := [], alts := [], laidByText := true, laidKinds := [.data], laidTests := true, laidLooks := .later }
def FnExactFormOfUptoCardSaid : Prop := Claim7.holds Tryd.pinned (.plain (OpenSpec.upto fnExactFormOfSpec)) fnExactFormOfUptoCard

/-- THE SECOND FORM's CARD OF 'laws.FnExactCoreText'. -/
def fnExactCoreTextUptoCard : Claim7 := { stood := { row := fnExactCoreTextUptoRow, standIns := [], harness := (true, "ef6bdfabe1d4a5e248790535b1bcf4c9cd2835c012bf3323220e6365059d314c"), looks := true }, kinds := [], alts := [], laidByText := true, laidKinds := [.data, .data, .data, .data], laidTests := true, laidLooks := .later }
def FnExactCoreTextUptoCardSaid : Prop := Claim7.holds Tryd.pinned (.plain (OpenSpec.upto fnExactCoreTextSpec)) fnExactCoreTextUptoCard
end Rows
end Go.Proofs.YtnggkcgifjfnfaaDoor
