/-
  DERIVED. GIVEN WITH THE SEED: THE CARDS: each row of YteeojgefnoaajaaDoorRows.lean that lists a variable, with what it lists TIED to the program's text (the seventh form; the later family's looks); each row that meets fmt, with fmt's text TOLD by the authors' own Lean function (tested against real Go, not proved from fmt's source: count such statements apart). THE CARD IS WHAT COUNTS. Prove the row's statement (the work); the ties are given (YteeojgefnoaajaaDoorTie.lean); close each card by the builder's one call (the guide's Derived/Test/ToyasCard.lean, 'card_holds'). Laid BY PROGRAM, IN A SANDBOX (cutbox-door.mjs). By AI agents, Wed Nov 11 2026. No macro, syntax, notation, axiom, sorry.
-/
import Derived.Test.YteeojgefnoaajaaDoorRows
import GoSem.ClaimSeven
namespace Go.Proofs.YteeojgefnoaajaaDoor
namespace Rows

/-- THE TIED CARD OF 'laws.FnExactIsCore'. -/
def fnExactIsCoreCard : Claim7 := { stood := { row := fnExactIsCoreRow, standIns := [], harness := (true, "d1d018e7967912c53aeb0f7de6a793123e750a924f130607d569ee685cb2b95b"), looks := true }, kinds := [], alts := [], laidByText := true, laidKinds := [.data], laidTests := true, laidLooks := .later }
def FnExactIsCoreCardSaid : Prop := Claim7.holds Tryd.pinned (.plain (OpenSpec.ofChange fnExactIsCoreSpec)) fnExactIsCoreCard

/-- THE TIED CARD OF 'laws.FnExactIsAnswer'. -/
def fnExactIsAnswerCard : Claim7 := { stood := { row := fnExactIsAnswerRow, standIns := [], harness := (true, "d1d018e7967912c53aeb0f7de6a793123e750a924f130607d569ee685cb2b95b"), looks := true }, kinds := [], alts := [], laidByText := true, laidKinds := [.data], laidTests := true, laidLooks := .later }
def FnExactIsAnswerCardSaid : Prop := Claim7.holds Tryd.pinned (.plain (OpenSpec.ofChange fnExactIsAnswerSpec)) fnExactIsAnswerCard

/-- THE TIED CARD OF 'laws.FnExactFormOf'. -/
def fnExactFormOfCard : Claim7 := { stood := { row := fnExactFormOfRow, standIns := [], harness := (true, "d1d018e7967912c53aeb0f7de6a793123e750a924f130607d569ee685cb2b95b"), looks := true }, kinds := [], alts := [], laidByText := true, laidKinds := [.data], laidTests := true, laidLooks := .later }
def FnExactFormOfCardSaid : Prop := Claim7.holds Tryd.pinned (.plain (OpenSpec.ofChange fnExactFormOfSpec)) fnExactFormOfCard

/-- THE TIED CARD OF 'laws.FnExactCoreText'. -/
def fnExactCoreTextCard : Claim7 := { stood := { row := fnExactCoreTextRow, standIns := [], harness := (true, "d1d018e7967912c53aeb0f7de6a793123e750a924f130607d569ee685cb2b95b"), looks := true }, kinds := [], alts := [], laidByText := true, laidKinds := [.data, .data, .data, .data], laidTests := true, laidLooks := .later }
def FnExactCoreTextCardSaid : Prop := Claim7.holds Tryd.pinned (.plain (OpenSpec.ofChange fnExactCoreTextSpec)) fnExactCoreTextCard

/-- THE TIED CARD OF 'laws.FnExactFormatExpr'. -/
def fnExactFormatExprCard : Claim7 := { stood := { row := fnExactFormatExprRow, standIns := [], harness := (true, "d1d018e7967912c53aeb0f7de6a793123e750a924f130607d569ee685cb2b95b"), looks := true }, kinds := [], alts := [], laidByText := true, laidKinds := [.data, .data, .data, .data], laidTests := true, laidLooks := .later }
def FnExactFormatExprCardSaid : Prop := Claim7.holds Tryd.pinned (.plain (OpenSpec.ofChange fnExactFormatExprSpec)) fnExactFormatExprCard

/-- THE TIED CARD OF 'laws.FnExactMoveNext'. -/
def fnExactMoveNextCard : Claim7 := { stood := { row := fnExactMoveNextRow, standIns := [], harness := (true, "d1d018e7967912c53aeb0f7de6a793123e750a924f130607d569ee685cb2b95b"), looks := true }, kinds := [], alts := [], laidByText := true, laidKinds := [.data], laidTests := true, laidLooks := .later }
def FnExactMoveNextCardSaid : Prop := Claim7.holds Tryd.pinned (.plain (OpenSpec.ofChange fnExactMoveNextSpec)) fnExactMoveNextCard

/-- THE TIED CARD OF 'laws.FnExactReplaceAt'. -/
def fnExactReplaceAtCard : Claim7 := { stood := { row := fnExactReplaceAtRow, standIns := [], harness := (true, "d1d018e7967912c53aeb0f7de6a793123e750a924f130607d569ee685cb2b95b"), looks := true }, kinds := [], alts := [], laidByText := true, laidKinds := [.data], laidTests := true, laidLooks := .later }
def FnExactReplaceAtCardSaid : Prop := Claim7.holds Tryd.pinned (.plain (OpenSpec.ofChange fnExactReplaceAtSpec)) fnExactReplaceAtCard

/-- THE SECOND FORM's CARD OF 'laws.FnExactIsCore'. -/
def fnExactIsCoreUptoCard : Claim7 := { stood := { row := fnExactIsCoreUptoRow, standIns := [], harness := (true, "d1d018e7967912c53aeb0f7de6a793123e750a924f130607d569ee685cb2b95b"), looks := true }, kinds := [], alts := [], laidByText := true, laidKinds := [.data], laidTests := true, laidLooks := .later }
def FnExactIsCoreUptoCardSaid : Prop := Claim7.holds Tryd.pinned (.plain (OpenSpec.upto fnExactIsCoreSpec)) fnExactIsCoreUptoCard

/-- THE SECOND FORM's CARD OF 'laws.FnExactIsAnswer'. -/
def fnExactIsAnswerUptoCard : Claim7 := { stood := { row := fnExactIsAnswerUptoRow, standIns := [], harness := (true, "d1d018e7967912c53aeb0f7de6a793123e750a924f130607d569ee685cb2b95b"), looks := true }, kinds := [], alts := [], laidByText := true, laidKinds := [.data], laidTests := true, laidLooks := .later }
def FnExactIsAnswerUptoCardSaid : Prop := Claim7.holds Tryd.pinned (.plain (OpenSpec.upto fnExactIsAnswerSpec)) fnExactIsAnswerUptoCard

/-- THE SECOND FORM's CARD OF 'laws.FnExactFormOf'. -/
def fnExactFormOfUptoCard : Claim7 := { stood := { row := fnExactFormOfUptoRow, standIns := [], harness := (true, "d1d018e7967912c53aeb0f7de6a793123e750a924f130607d569ee685cb2b95b"), looks := true }, kinds := [], alts := [], laidByText := true, laidKinds := [.data], laidTests := true, laidLooks := .later }
def FnExactFormOfUptoCardSaid : Prop := Claim7.holds Tryd.pinned (.plain (OpenSpec.upto fnExactFormOfSpec)) fnExactFormOfUptoCard

/-- THE SECOND FORM's CARD OF 'laws.FnExactCoreText'. -/
def fnExactCoreTextUptoCard : Claim7 := { stood := { row := fnExactCoreTextUptoRow, standIns := [], harness := (true, "d1d018e7967912c53aeb0f7de6a793123e750a924f130607d569ee685cb2b95b"), looks := true }, kinds := [], alts := [], laidByText := true, laidKinds := [.data, .data, .data, .data], laidTests := true, laidLooks := .later }
def FnExactCoreTextUptoCardSaid : Prop := Claim7.holds Tryd.pinned (.plain (OpenSpec.upto fnExactCoreTextSpec)) fnExactCoreTextUptoCard

/-- THE SECOND FORM's CARD OF 'laws.FnExactFormatExpr'. -/
def fnExactFormatExprUptoCard : Claim7 := { stood := { row := fnExactFormatExprUptoRow, standIns := [], harness := (true, "d1d018e7967912c53aeb0f7de6a793123e750a924f130607d569ee685cb2b95b"), looks := true }, kinds := [], alts := [], laidByText := true, laidKinds := [.data, .data, .data, .data], laidTests := true, laidLooks := .later }
def FnExactFormatExprUptoCardSaid : Prop := Claim7.holds Tryd.pinned (.plain (OpenSpec.upto fnExactFormatExprSpec)) fnExactFormatExprUptoCard

/-- THE SECOND FORM's CARD OF 'laws.FnExactMoveNext'. -/
def fnExactMoveNextUptoCard : Claim7 := { stood := { row := fnExactMoveNextUptoRow, standIns := [], harness := (true, "d1d018e7967912c53aeb0f7de6a793123e750a924f130607d569ee685cb2b95b"), looks := true }, kinds := [], alts := [], laidByText := true, laidKinds := [.data], laidTests := true, laidLooks := .later }
def FnExactMoveNextUptoCardSaid : Prop := Claim7.holds Tryd.pinned (.plain (OpenSpec.upto fnExactMoveNextSpec)) fnExactMoveNextUptoCard

/-- THE SECOND FORM's CARD OF 'laws.FnExactReplaceAt'. -/
def fnExactReplaceAtUptoCard : Claim7 := { stood := { row := fnExactReplaceAtUptoRow, standIns := [], harness := (true, "d1d018e7967912c53aeb0f7de6a793123e750a924f130607d569ee685cb2b95b"), looks := true }, kinds := [], alts := [], laidByText := true, laidKinds := [.data], laidTests := true, laidLooks := .later }
def FnExactReplaceAtUptoCardSaid : Prop := Claim7.holds Tryd.pinned (.plain (OpenSpec.upto fnExactReplaceAtSpec)) fnExactReplaceAtUptoCard
end Rows
end Go.Proofs.YteeojgefnoaajaaDoor
