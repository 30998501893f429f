/-
  DERIVED. GIVEN WITH THE SEED: THE CARDS: each row of YtcohfbdhdngplaaDoorRows.lean that lists a variable, with what it lists TIED to the program's text (the seventh form; the later family's looks); each row that meets fmt, with fmt's text TOLD by the authors' own Lean function (tested against real Go, not proved from fmt's source: count such statements apart). THE CARD IS WHAT COUNTS. Prove the row's statement (the work); the ties are given (YtcohfbdhdngplaaDoorTie.lean); close each card by the builder's one call (the guide's Derived/Test/ToyasCard.lean, 'card_holds'). Laid BY PROGRAM, IN A SANDBOX (cutbox-door.mjs). By AI agents, Wed Nov 11 2026. No macro, syntax, notation, axiom, sorry.
-/
import Derived.Test.YtcohfbdhdngplaaDoorRows
import GoSem.ClaimSeven
namespace Go.Proofs.YtcohfbdhdngplaaDoor
namespace Rows

/-- THE TIED CARD OF 'laws.FnExactReplaceAt'. -/
def fnExactReplaceAtCard : Claim7 := { stood := { row := fnExactReplaceAtRow, standIns := [], harness := (true, "2fd8f290d9bf750bd1c6d12aabad0972f60fc1f820c8d4cb75a56a30a6141f62"), looks := true }, kinds := [], alts := [], laidByText := true, laidKinds := [.data], laidTests := true, laidLooks := .later }
def FnExactReplaceAtCardSaid : Prop := Claim7.holds Tryd.pinned (.plain (OpenSpec.ofChange fnExactReplaceAtSpec)) fnExactReplaceAtCard

/-- THE TIED CARD OF 'laws.FnExactFillExpr'. -/
def fnExactFillExprCard : Claim7 := { stood := { row := fnExactFillExprRow, standIns := [], harness := (true, "2fd8f290d9bf750bd1c6d12aabad0972f60fc1f820c8d4cb75a56a30a6141f62"), looks := true }, kinds := [], alts := [], laidByText := true, laidKinds := [.data], laidTests := true, laidLooks := .later }
def FnExactFillExprCardSaid : Prop := Claim7.holds Tryd.pinned (.plain (OpenSpec.ofChange fnExactFillExprSpec)) fnExactFillExprCard

/-- THE TIED CARD OF 'laws.FnExactMoveNext'. -/
def fnExactMoveNextCard : Claim7 := { stood := { row := fnExactMoveNextRow, standIns := [], harness := (true, "2fd8f290d9bf750bd1c6d12aabad0972f60fc1f820c8d4cb75a56a30a6141f62"), looks := true }, kinds := [], alts := [], laidByText := true, laidKinds := [.data], laidTests := true, laidLooks := .later }
def FnExactMoveNextCardSaid : Prop := Claim7.holds Tryd.pinned (.plain (OpenSpec.ofChange fnExactMoveNextSpec)) fnExactMoveNextCard

/-- THE TIED CARD OF 'laws.FnExactCoreText'. -/
def fnExactCoreTextCard : Claim7 := { stood := { row := fnExactCoreTextRow, standIns := [], harness := (true, "2fd8f290d9bf750bd1c6d12aabad0972f60fc1f820c8d4cb75a56a30a6141f62"), looks := true }, kinds := [], alts := [], laidByText := true, laidKinds := [.data, .data, .data, .data], laidTests := true, laidLooks := .later }
def FnExactCoreTextCardSaid : Prop := Claim7.holds Tryd.pinned (.plain (OpenSpec.ofChange fnExactCoreTextSpec)) fnExactCoreTextCard

/-- THE SECOND FORM's CARD OF 'laws.FnExactReplaceAt'. -/
def fnExactReplaceAtUptoCard : Claim7 := { stood := { row := fnExactReplaceAtUptoRow, standIns := [], harness := (true, "2fd8f290d9bf750bd1c6d12aabad0972f60fc1f820c8d4cb75a56a30a6141f62"), looks := true }, kinds := [], alts := [], laidByText := true, laidKinds := [.data], laidTests := true, laidLooks := .later }
def FnExactReplaceAtUptoCardSaid : Prop := Claim7.holds Tryd.pinned (.plain (OpenSpec.upto fnExactReplaceAtSpec)) fnExactReplaceAtUptoCard

/-- THE SECOND FORM's CARD OF 'laws.FnExactFillExpr'. -/
def fnExactFillExprUptoCard : Claim7 := { stood := { row := fnExactFillExprUptoRow, standIns := [], harness := (true, "2fd8f290d9bf750bd1c6d12aabad0972f60fc1f820c8d4cb75a56a30a6141f62"), looks := true }, kinds := [], alts := [], laidByText := true, laidKinds := [.data], laidTests := true, laidLooks := .later }
def FnExactFillExprUptoCardSaid : Prop := Claim7.holds Tryd.pinned (.plain (OpenSpec.upto fnExactFillExprSpec)) fnExactFillExprUptoCard

/-- THE SECOND FORM's CARD OF 'laws.FnExactMoveNext'. -/
def fnExactMoveNextUptoCard : Claim7 := { stood := { row := fnExactMoveNextUptoRow, standIns := [], harness := (true, "2fd8f290d9bf750bd1c6d12aabad0972f60fc1f820c8d4cb75a56a30a6141f62"), looks := true }, kinds := [], alts := [], laidByText := true, laidKinds := [.data], laidTests := true, laidLooks := .later }
def FnExactMoveNextUptoCardSaid : Prop := Claim7.holds Tryd.pinned (.plain (OpenSpec.upto fnExactMoveNextSpec)) fnExactMoveNextUptoCard

/-- THE SECOND FORM's CARD OF 'laws.FnExactCoreText'. -/
def fnExactCoreTextUptoCard : Claim7 := { stood := { row := fnExactCoreTextUptoRow, standIns := [], harness := (true, "2fd8f290d9bf750bd1c6d12aabad0972f60fc1f820c8d4cb75a56a30a6141f62"), looks := true }, kinds := [], alts := [], laidByText := true, laidKinds := [.data, .data, .data, .data], laidTests := true, laidLooks := .later }
def FnExactCoreTextUptoCardSaid : Prop := Claim7.holds Tryd.pinned (.plain (OpenSpec.upto fnExactCoreTextSpec)) fnExactCoreTextUptoCard
end Rows
end Go.Proofs.YtcohfbdhdngplaaDoor
