/-
  DERIVED. GIVEN WITH THE SEED: THE CARDS: each row of YtmmnjdhmankieaaDoorRows.lean that lists a variable, with what it lists TIED to the program's text (the seventh form; the later family's looks); each row that meets fmt, with fmt's text TOLD by the authors' own Lean function (tested against real Go, not proved from fmt's source: count such statements apart). THE CARD IS WHAT COUNTS. Prove the row's statement (the work); the ties are given (YtmmnjdhmankieaaDoorTie.lean); close each card by the builder's one call (the guide's Derived/Test/ToyasCard.lean, 'card_holds'). Laid BY PROGRAM, IN A SANDBOX (cutbox-door.mjs). By AI agents, Wed Nov 11 2026. No macro, syntax, notation, axiom, sorry.
-/
import Derived.Test.YtmmnjdhmankieaaDoorRows
import GoSem.ClaimSeven
namespace Go.Proofs.YtmmnjdhmankieaaDoor
namespace Rows

/-- THE TIED CARD OF 'laws.FnExactMoveUp'. -/
def fnExactMoveUpCard : Claim7 := { stood := { row := fnExactMoveUpRow, standIns := [], harness := (true, "ee0dc62c98390b8b74fc429f828152c0824edb6b1725bebd72707aa29699494d"), looks := false }, kinds := [], alts := [], laidByText := true, laidKinds := [.data], laidTests := true, laidLooks := .later }
def FnExactMoveUpCardSaid : Prop := Claim7.holds Tryd.pinned (.plain (OpenSpec.ofChange fnExactMoveUpSpec)) fnExactMoveUpCard

/-- THE TIED CARD OF 'laws.FnExactMoveDown'. -/
def fnExactMoveDownCard : Claim7 := { stood := { row := fnExactMoveDownRow, standIns := [], harness := (true, "ee0dc62c98390b8b74fc429f828152c0824edb6b1725bebd72707aa29699494d"), looks := false }, kinds := [], alts := [], laidByText := true, laidKinds := [.data], laidTests := true, laidLooks := .later }
def FnExactMoveDownCardSaid : Prop := Claim7.holds Tryd.pinned (.plain (OpenSpec.ofChange fnExactMoveDownSpec)) fnExactMoveDownCard

/-- THE TIED CARD OF 'laws.FnExactConsistent'. -/
def fnExactConsistentCard : Claim7 := { stood := { row := fnExactConsistentRow, standIns := [], harness := (true, "ee0dc62c98390b8b74fc429f828152c0824edb6b1725bebd72707aa29699494d"), looks := false }, kinds := [], alts := [], laidByText := true, laidKinds := [.data], laidTests := true, laidLooks := .later }
def FnExactConsistentCardSaid : Prop := Claim7.holds Tryd.pinned (.plain (OpenSpec.ofChange fnExactConsistentSpec)) fnExactConsistentCard

/-- THE TIED CARD OF 'laws.FnExactMeetType'. -/
def fnExactMeetTypeCard : Claim7 := { stood := { row := fnExactMeetTypeRow, standIns := [], harness := (true, "ee0dc62c98390b8b74fc429f828152c0824edb6b1725bebd72707aa29699494d"), looks := false }, kinds := [], alts := [], laidByText := true, laidKinds := [.data], laidTests := true, laidLooks := .later }
def FnExactMeetTypeCardSaid : Prop := Claim7.holds Tryd.pinned (.plain (OpenSpec.ofChange fnExactMeetTypeSpec)) fnExactMeetTypeCard

/-- THE SECOND FORM's CARD OF 'laws.FnExactMoveUp'. -/
def fnExactMoveUpUptoCard : Claim7 := { stood := { row := fnExactMoveUpUptoRow, standIns := [], harness := (true, "ee0dc62c98390b8b74fc429f828152c0824edb6b1725bebd72707aa29699494d"), looks := false }, kinds := [], alts := [], laidByText := true, laidKinds := [.data], laidTests := true, laidLooks := .later }
def FnExactMoveUpUptoCardSaid : Prop := Claim7.holds Tryd.pinned (.plain (OpenSpec.upto fnExactMoveUpSpec)) fnExactMoveUpUptoCard

/-- THE SECOND FORM's CARD OF 'laws.FnExactMoveDown'. -/
def fnExactMoveDownUptoCard : Claim7 := { stood := { row := fnExactMoveDownUptoRow, standIns := [], harness := (true, "ee0dc62c98390b8b74fc429f828152c0824edb6b1725bebd72707aa29699494d"), looks := false }, kinds := [], alts := [], laidByText := true, laidKinds := [.data], laidTests := true, laidLooks := .later }
def FnExactMoveDownUptoCardSaid : Prop := Claim7.holds Tryd.pinned (.plain (OpenSpec.upto fnExactMoveDownSpec)) fnExactMoveDownUptoCard

/-- THE SECOND FORM's CARD OF 'laws.FnExactConsistent'. -/
def fnExactConsistentUptoCard : Claim7 := { stood := { row := fnExactConsistentUptoRow, standIns := [], harness := (true, "ee0dc62c98390b8b74fc429f828152c0824edb6b1725bebd72707aa29699494d"), looks := false }, kinds := [], alts := [], laidByText := true, laidKinds := [.data], laidTests := true, laidLooks := .later }
def FnExactConsistentUptoCardSaid : Prop := Claim7.holds Tryd.pinned (.plain (OpenSpec.upto fnExactConsistentSpec)) fnExactConsistentUptoCard

/-- THE SECOND FORM's CARD OF 'laws.FnExactMeetType'. -/
def fnExactMeetTypeUptoCard : Claim7 := { stood := { row := fnExactMeetTypeUptoRow, standIns := [], harness := (true, "ee0dc62c98390b8b74fc429f828152c0824edb6b1725bebd72707aa29699494d"), looks := false }, kinds := [], alts := [], laidByText := true, laidKinds := [.data], laidTests := true, laidLooks := .later }
def FnExactMeetTypeUptoCardSaid : Prop := Claim7.holds Tryd.pinned (.plain (OpenSpec.upto fnExactMeetTypeSpec)) fnExactMeetTypeUptoCard
end Rows
end Go.Proofs.YtmmnjdhmankieaaDoor
