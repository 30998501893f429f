/-
  NARROWER THAN 'FOR EVERY INPUT', by the rows' own cells (each row's printed sentence says how): FnExactMoveUp: loops, laid · FnExactMoveDown: loops, laid · FnExactConsistent: loops, laid · FnExactMeetType: loops, laid.
  DERIVED. THE GIVEN ROWS OF THIS SEAT. 4 by the template 'for every input the law returns true; each argument reads behind the call as it read before'; 0 by the template 'total and deterministic' (their statements: YtmmnjdhmankieaaDoorTotals.lean).
  GIVEN WITH THE SEED: the statements are not yours to turn. If you find one false, say at which input.
  Laid BY PROGRAM, IN A SANDBOX (cutbox-rows.mjs): the forced cells as the released guide's own fill.sh prints them over the translation ea476723f3f5ed8f… (all of the seat's roots in one cut). By AI agents, Wed Nov 11 2026. No macro, syntax, notation, axiom, sorry.
-/
import Derived.Test.YtmmnjdhmankieaaDoorChecked
import GoSem.Claim
import GoSem.ClaimJoined
import GoSem.ClaimMapViews
import Derived.JoinedTies
import Derived.KernelRfl
namespace Go.Proofs.YtmmnjdhmankieaaDoor
/- THE CELL 'sum', in the pinned program and in every row, IS THE sha256 OF THE DUMP (.gsa) THAT YtmmnjdhmankieaaDoorProg.lean LOADS. Nothing in Lean hashes anything: it is a label: what it is worth is what the hold of that sum in a sandbox is worth. -/
noncomputable def Tryd.pinned : Pinned := { name := "ytmmnjdhmankieaadoor", sum := "ea476723f3f5ed8f1df393590997dd1516863cca23cc9dd78d2d58207327e471", checked := Tryd.checked }
namespace Rows
def none {H : Type} : Left H := { results := [], args := [] }

/- WHAT THE LISTED PACKAGE-LEVEL VARIABLES READ AS WHEN THE CALL BEGINS. Each datum BY PROGRAM (the guide's laid-datum.mjs) off the statement by which the dump's own 'gosem.cut.vars' lays the variable. In a bare row this is a premise. The card (YtmmnjdhmankieaaDoorCards.lean) ties it to the program's text. -/
def laid_loop_example_g00585_impl_arities {H : Type} : DataW H := .agg [.lit (.int .i64 0), .lit (.int .i64 0), .lit (.int .i64 0), .lit (.int .i64 1), .lit (.int .i64 2), .lit (.int .i64 0), .lit (.int .i64 2), .lit (.int .i64 2), .lit (.int .i64 0), .lit (.int .i64 3), .lit (.int .i64 2), .lit (.int .i64 1), .lit (.int .i64 1), .lit (.int .i64 1), .lit (.int .i64 1)]
def laid_loop_example_g00585_impl_meetings {H : Type} : DataW H := .agg [.agg [.agg [.lit (.int .i64 1), .lit (.int .i64 1)], .lit (.int .i64 0)], .agg [.agg [.lit (.int .i64 1), .lit (.int .i64 2)], .lit (.int .i64 1)], .agg [.agg [.lit (.int .i64 1), .lit (.int .i64 3)], .lit (.int .i64 1)], .agg [.agg [.lit (.int .i64 1), .lit (.int .i64 4)], .lit (.int .i64 1)], .agg [.agg [.lit (.int .i64 1), .lit (.int .i64 5)], .lit (.int .i64 1)], .agg [.agg [.lit (.int .i64 2), .lit (.int .i64 1)], .lit (.int .i64 0)], .agg [.agg [.lit (.int .i64 3), .lit (.int .i64 1)], .lit (.int .i64 0)], .agg [.agg [.lit (.int .i64 4), .lit (.int .i64 1)], .lit (.int .i64 0)], .agg [.agg [.lit (.int .i64 5), .lit (.int .i64 1)], .lit (.int .i64 0)], .agg [.agg [.lit (.int .i64 2), .lit (.int .i64 2)], .lit (.int .i64 0)], .agg [.agg [.lit (.int .i64 3), .lit (.int .i64 3)], .lit (.int .i64 0)], .agg [.agg [.lit (.int .i64 4), .lit (.int .i64 4)], .lit (.int .i64 2)], .agg [.agg [.lit (.int .i64 5), .lit (.int .i64 5)], .lit (.int .i64 2)]]

/-- 'laws.FnExactMoveUp': WHATEVER THE INPUT: true; the input reads as it did. -/
def fnExactMoveUpSpec : ChangeSpec := { name := "fnExactMoveUp", vars := ["loop.example/g00585/impl.arities"], fn := fun _ => fun
  | [d, g1] => { results := [.lit (.bool true)], args := [d], vars := [g1] }
  | _ => none }
def fnExactMoveUpRow : OpenClaim := { program := "ytmmnjdhmankieaadoor", sum := "ea476723f3f5ed8f1df393590997dd1516863cca23cc9dd78d2d58207327e471", func := "loop.example/g00585/laws.FnExactMoveUp", spec := "fnExactMoveUp", unfollowed := true, recurses := true, named := ["loop.example/g00585/impl.arities"], loops := true, apart := false, laid := [("loop.example/g00585/impl.arities", laid_loop_example_g00585_impl_arities)] }
def FnExactMoveUpSaid : Prop := fnExactMoveUpRow.holds Tryd.pinned (OpenSpec.ofChange fnExactMoveUpSpec)

/-- ITS FALSE NEIGHBOUR: 'it returns false'. Refute it at one input. -/
def fnExactMoveUpWrong : ChangeSpec := { name := "fnExactMoveUp", vars := ["loop.example/g00585/impl.arities"], fn := fun _ => fun
  | [d, g1] => { results := [.lit (.bool false)], args := [d], vars := [g1] }
  | _ => none }
def FnExactMoveUpWrongFalsely : Prop := fnExactMoveUpRow.holds Tryd.pinned (OpenSpec.ofChange fnExactMoveUpWrong)

/-- 'laws.FnExactMoveDown': WHATEVER THE INPUT: true; the input reads as it did. -/
def fnExactMoveDownSpec : ChangeSpec := { name := "fnExactMoveDown", vars := ["loop.example/g00585/impl.arities"], fn := fun _ => fun
  | [d1, d2, g1] => { results := [.lit (.bool true)], args := [d1, d2], vars := [g1] }
  | _ => none }
def fnExactMoveDownRow : OpenClaim := { program := "ytmmnjdhmankieaadoor", sum := "ea476723f3f5ed8f1df393590997dd1516863cca23cc9dd78d2d58207327e471", func := "loop.example/g00585/laws.FnExactMoveDown", spec := "fnExactMoveDown", unfollowed := true, recurses := true, named := ["loop.example/g00585/impl.arities"], loops := true, apart := false, laid := [("loop.example/g00585/impl.arities", laid_loop_example_g00585_impl_arities)] }
def FnExactMoveDownSaid : Prop := fnExactMoveDownRow.holds Tryd.pinned (OpenSpec.ofChange fnExactMoveDownSpec)

/-- ITS FALSE NEIGHBOUR: 'it returns false'. Refute it at one input. -/
def fnExactMoveDownWrong : ChangeSpec := { name := "fnExactMoveDown", vars := ["loop.example/g00585/impl.arities"], fn := fun _ => fun
  | [d1, d2, g1] => { results := [.lit (.bool false)], args := [d1, d2], vars := [g1] }
  | _ => none }
def FnExactMoveDownWrongFalsely : Prop := fnExactMoveDownRow.holds Tryd.pinned (OpenSpec.ofChange fnExactMoveDownWrong)

/-- 'laws.FnExactConsistent': WHATEVER THE INPUT: true; the input reads as it did. -/
def fnExactConsistentSpec : ChangeSpec := { name := "fnExactConsistent", vars := ["loop.example/g00585/impl.meetings"], fn := fun _ => fun
  | [d1, d2, g1] => { results := [.lit (.bool true)], args := [d1, d2], vars := [g1] }
  | _ => none }
def fnExactConsistentRow : OpenClaim := { program := "ytmmnjdhmankieaadoor", sum := "ea476723f3f5ed8f1df393590997dd1516863cca23cc9dd78d2d58207327e471", func := "loop.example/g00585/laws.FnExactConsistent", spec := "fnExactConsistent", unfollowed := true, recurses := true, named := ["loop.example/g00585/impl.meetings"], loops := true, apart := false, laid := [("loop.example/g00585/impl.meetings", laid_loop_example_g00585_impl_meetings)] }
def FnExactConsistentSaid : Prop := fnExactConsistentRow.holds Tryd.pinned (OpenSpec.ofChange fnExactConsistentSpec)

/-- ITS FALSE NEIGHBOUR: 'it returns false'. Refute it at one input. -/
def fnExactConsistentWrong : ChangeSpec := { name := "fnExactConsistent", vars := ["loop.example/g00585/impl.meetings"], fn := fun _ => fun
  | [d1, d2, g1] => { results := [.lit (.bool false)], args := [d1, d2], vars := [g1] }
  | _ => none }
def FnExactConsistentWrongFalsely : Prop := fnExactConsistentRow.holds Tryd.pinned (OpenSpec.ofChange fnExactConsistentWrong)

/-- 'laws.FnExactMeetType': WHATEVER THE INPUT: true; the input reads as it did. -/
def fnExactMeetTypeSpec : ChangeSpec := { name := "fnExactMeetType", vars := ["loop.example/g00585/impl.meetings"], fn := fun _ => fun
  | [d1, d2, g1] => { results := [.lit (.bool true)], args := [d1, d2], vars := [g1] }
  | _ => none }
def fnExactMeetTypeRow : OpenClaim := { program := "ytmmnjdhmankieaadoor", sum := "ea476723f3f5ed8f1df393590997dd1516863cca23cc9dd78d2d58207327e471", func := "loop.example/g00585/laws.FnExactMeetType", spec := "fnExactMeetType", unfollowed := true, recurses := true, named := ["loop.example/g00585/impl.meetings"], loops := true, apart := false, laid := [("loop.example/g00585/impl.meetings", laid_loop_example_g00585_impl_meetings)] }
def FnExactMeetTypeSaid : Prop := fnExactMeetTypeRow.holds Tryd.pinned (OpenSpec.ofChange fnExactMeetTypeSpec)

/-- ITS FALSE NEIGHBOUR: 'it returns false'. Refute it at one input. -/
def fnExactMeetTypeWrong : ChangeSpec := { name := "fnExactMeetType", vars := ["loop.example/g00585/impl.meetings"], fn := fun _ => fun
  | [d1, d2, g1] => { results := [.lit (.bool false)], args := [d1, d2], vars := [g1] }
  | _ => none }
def FnExactMeetTypeWrongFalsely : Prop := fnExactMeetTypeRow.holds Tryd.pinned (OpenSpec.ofChange fnExactMeetTypeWrong)

/- THE SECOND FORM. 'bulk': how many values and letters a reading holds, each counted each time it is reached (what is shared counts as often as it is met; a slice's spare places count too). A statement '..UptoSaid' is the law's where the arguments, and the package variables that the reading takes, are together of bulk at most 1048576: NARROWER than '..Said'. Prove '..Said' where nothing that the law and all that it calls make is longer than what came in: it says more and counts as full. Else prove '..UptoSaid'. A law counts once. -/
mutual
def uptoBulk {H : Type} : DataW H → Nat
  | .lit (.string bytes) => bytes.length + 1
  | .lit _ => 1
  | .nil => 1
  | .ptr d => uptoBulk d + 1
  | .slice elems spare => uptoBulkAll elems + uptoBulkAll spare + 1
  | .agg parts => uptoBulkAll parts + 1
  | .iface _ d => uptoBulk d + 1
  | .map entries => uptoBulkEntries entries + 1
  | .held _ => 1
def uptoBulkAll {H : Type} : List (DataW H) → Nat
  | [] => 0
  | d :: r => uptoBulk d + uptoBulkAll r
def uptoBulkEntries {H : Type} : List (Lit × DataW H) → Nat
  | [] => 0
  | x :: r => uptoBulkEntry x + uptoBulkEntries r
def uptoBulkEntry {H : Type} : Lit × DataW H → Nat
  | (.string bytes, d) => bytes.length + uptoBulk d + 1
  | (_, d) => uptoBulk d + 1
 end
def uptoSmall : (H : Type) → List (DataW H) → Bool := fun _ ds => decide (uptoBulkAll ds ≤ 1048576)
def OpenSpec.upto (s : _root_.Go.ChangeSpec) : _root_.Go.OpenSpec := { _root_.Go.OpenSpec.ofChange s with cond := some uptoSmall }

/-- 'laws.FnExactMoveUp', WHERE WHAT IT READS IS OF BULK AT MOST 1048576: true; the input reads as it did. -/
def fnExactMoveUpUptoRow : OpenClaim := { program := "ytmmnjdhmankieaadoor", sum := "ea476723f3f5ed8f1df393590997dd1516863cca23cc9dd78d2d58207327e471", func := "loop.example/g00585/laws.FnExactMoveUp", spec := "fnExactMoveUp", unfollowed := true, recurses := true, named := ["loop.example/g00585/impl.arities"], loops := true, apart := false, laid := [("loop.example/g00585/impl.arities", laid_loop_example_g00585_impl_arities)], narrowed := true }
def FnExactMoveUpUptoSaid : Prop := fnExactMoveUpUptoRow.holds Tryd.pinned (OpenSpec.upto fnExactMoveUpSpec)

/-- 'laws.FnExactMoveDown', WHERE WHAT IT READS IS OF BULK AT MOST 1048576: true; the input reads as it did. -/
def fnExactMoveDownUptoRow : OpenClaim := { program := "ytmmnjdhmankieaadoor", sum := "ea476723f3f5ed8f1df393590997dd1516863cca23cc9dd78d2d58207327e471", func := "loop.example/g00585/laws.FnExactMoveDown", spec := "fnExactMoveDown", unfollowed := true, recurses := true, named := ["loop.example/g00585/impl.arities"], loops := true, apart := false, laid := [("loop.example/g00585/impl.arities", laid_loop_example_g00585_impl_arities)], narrowed := true }
def FnExactMoveDownUptoSaid : Prop := fnExactMoveDownUptoRow.holds Tryd.pinned (OpenSpec.upto fnExactMoveDownSpec)

/-- 'laws.FnExactConsistent', WHERE WHAT IT READS IS OF BULK AT MOST 1048576: true; the input reads as it did. -/
def fnExactConsistentUptoRow : OpenClaim := { program := "ytmmnjdhmankieaadoor", sum := "ea476723f3f5ed8f1df393590997dd1516863cca23cc9dd78d2d58207327e471", func := "loop.example/g00585/laws.FnExactConsistent", spec := "fnExactConsistent", unfollowed := true, recurses := true, named := ["loop.example/g00585/impl.meetings"], loops := true, apart := false, laid := [("loop.example/g00585/impl.meetings", laid_loop_example_g00585_impl_meetings)], narrowed := true }
def FnExactConsistentUptoSaid : Prop := fnExactConsistentUptoRow.holds Tryd.pinned (OpenSpec.upto fnExactConsistentSpec)

/-- 'laws.FnExactMeetType', WHERE WHAT IT READS IS OF BULK AT MOST 1048576: true; the input reads as it did. -/
def fnExactMeetTypeUptoRow : OpenClaim := { program := "ytmmnjdhmankieaadoor", sum := "ea476723f3f5ed8f1df393590997dd1516863cca23cc9dd78d2d58207327e471", func := "loop.example/g00585/laws.FnExactMeetType", spec := "fnExactMeetType", unfollowed := true, recurses := true, named := ["loop.example/g00585/impl.meetings"], loops := true, apart := false, laid := [("loop.example/g00585/impl.meetings", laid_loop_example_g00585_impl_meetings)], narrowed := true }
def FnExactMeetTypeUptoSaid : Prop := fnExactMeetTypeUptoRow.holds Tryd.pinned (OpenSpec.upto fnExactMeetTypeSpec)

end Rows
end Go.Proofs.YtmmnjdhmankieaaDoor
