/-
  NARROWER THAN 'FOR EVERY INPUT', by the rows' own cells (each row's printed sentence says how): FnExactFirstHole: loops · FnExactSameShape: loops · FnExactAllPaths: loops · FnExactEraseMarks: loops · FnExactRenumberHoles: loops · FnExactInvertChanges: loops · FnExactUndoEdit: loops · FnExactRedoEdit: loops · FnExactFreeVars: loops.
  DERIVED. THE GIVEN ROWS OF THIS SEAT. 9 by the template 'for every input the law returns true; each argument reads behind the call as it read before'; 0 by the template 'total and deterministic' (their statements: YtimigpdbegfjaaaTotals.lean).
  GIVEN WITH THE SEED: the statements are not yours to turn. If you find one false, say at which input.
  Laid BY PROGRAM, IN A SANDBOX (cutbox-rows.mjs): the forced cells as the released guide's own fill.sh prints them over the translation 42a00a89a2f9c74c… (all of the seat's roots in one cut). By AI agents, Wed Nov 11 2026. No macro, syntax, notation, axiom, sorry.
-/
import Derived.Test.YtimigpdbegfjaaaChecked
import GoSem.Claim
import GoSem.ClaimJoined
import GoSem.ClaimMapViews
import Derived.JoinedTies
import Derived.KernelRfl
namespace Go.Proofs.Ytimigpdbegfjaaa
/- THE CELL 'sum', in the pinned program and in every row, IS THE sha256 OF THE DUMP (.gsa) THAT YtimigpdbegfjaaaProg.lean LOADS. Nothing in Lean hashes anything: it is a label: what it is worth is what the hold of that sum in a sandbox is worth. -/
noncomputable def Try.pinned : Pinned := { name := "ytimigpdbegfjaaa", sum := "42a00a89a2f9c74cbb0230be7d6e06435c13b372b950e5a26a2d7c01e467cf17", checked := Try.checked }
namespace Rows
def none {H : Type} : Left H := { results := [], args := [] }

/-- 'laws.FnExactFirstHole': WHATEVER THE INPUT: true; the input reads as it did. -/
def fnExactFirstHoleSpec : ChangeSpec := { name := "fnExactFirstHole", fn := fun _ => fun
  | [d] => { results := [.lit (.bool true)], args := [d] }
  | _ => none }
def fnExactFirstHoleRow : OpenClaim := { program := "ytimigpdbegfjaaa", sum := "42a00a89a2f9c74cbb0230be7d6e06435c13b372b950e5a26a2d7c01e467cf17", func := "loop.example/g00585/laws.FnExactFirstHole", spec := "fnExactFirstHole", recurses := true, loops := true, apart := false }
def FnExactFirstHoleSaid : Prop := fnExactFirstHoleRow.holds Try.pinned (OpenSpec.ofChange fnExactFirstHoleSpec)

/-- ITS FALSE NEIGHBOUR: 'it returns false'. Refute it at one input. -/
def fnExactFirstHoleWrong : ChangeSpec := { name := "fnExactFirstHole", fn := fun _ => fun
  | [d] => { results := [.lit (.bool false)], args := [d] }
  | _ => none }
def FnExactFirstHoleWrongFalsely : Prop := fnExactFirstHoleRow.holds Try.pinned (OpenSpec.ofChange fnExactFirstHoleWrong)

/-- 'laws.FnExactSameShape': WHATEVER THE INPUT: true; the input reads as it did. -/
def fnExactSameShapeSpec : ChangeSpec := { name := "fnExactSameShape", fn := fun _ => fun
  | [d1, d2] => { results := [.lit (.bool true)], args := [d1, d2] }
  | _ => none }
def fnExactSameShapeRow : OpenClaim := { program := "ytimigpdbegfjaaa", sum := "42a00a89a2f9c74cbb0230be7d6e06435c13b372b950e5a26a2d7c01e467cf17", func := "loop.example/g00585/laws.FnExactSameShape", spec := "fnExactSameShape", unfollowed := true, recurses := true, loops := true, apart := false }
def FnExactSameShapeSaid : Prop := fnExactSameShapeRow.holds Try.pinned (OpenSpec.ofChange fnExactSameShapeSpec)

/-- ITS FALSE NEIGHBOUR: 'it returns false'. Refute it at one input. -/
def fnExactSameShapeWrong : ChangeSpec := { name := "fnExactSameShape", fn := fun _ => fun
  | [d1, d2] => { results := [.lit (.bool false)], args := [d1, d2] }
  | _ => none }
def FnExactSameShapeWrongFalsely : Prop := fnExactSameShapeRow.holds Try.pinned (OpenSpec.ofChange fnExactSameShapeWrong)

/-- 'laws.FnExactAllPaths': WHATEVER THE INPUT: true; the input reads as it did. -/
def fnExactAllPathsSpec : ChangeSpec := { name := "fnExactAllPaths", fn := fun _ => fun
  | [d] => { results := [.lit (.bool true)], args := [d] }
  | _ => none }
def fnExactAllPathsRow : OpenClaim := { program := "ytimigpdbegfjaaa", sum := "42a00a89a2f9c74cbb0230be7d6e06435c13b372b950e5a26a2d7c01e467cf17", func := "loop.example/g00585/laws.FnExactAllPaths", spec := "fnExactAllPaths", recurses := true, loops := true, apart := false }
def FnExactAllPathsSaid : Prop := fnExactAllPathsRow.holds Try.pinned (OpenSpec.ofChange fnExactAllPathsSpec)

/-- ITS FALSE NEIGHBOUR: 'it returns false'. Refute it at one input. -/
def fnExactAllPathsWrong : ChangeSpec := { name := "fnExactAllPaths", fn := fun _ => fun
  | [d] => { results := [.lit (.bool false)], args := [d] }
  | _ => none }
def FnExactAllPathsWrongFalsely : Prop := fnExactAllPathsRow.holds Try.pinned (OpenSpec.ofChange fnExactAllPathsWrong)

/-- 'laws.FnExactEraseMarks': WHATEVER THE INPUT: true; the input reads as it did. -/
def fnExactEraseMarksSpec : ChangeSpec := { name := "fnExactEraseMarks", fn := fun _ => fun
  | [d] => { results := [.lit (.bool true)], args := [d] }
  | _ => none }
def fnExactEraseMarksRow : OpenClaim := { program := "ytimigpdbegfjaaa", sum := "42a00a89a2f9c74cbb0230be7d6e06435c13b372b950e5a26a2d7c01e467cf17", func := "loop.example/g00585/laws.FnExactEraseMarks", spec := "fnExactEraseMarks", unfollowed := true, recurses := true, loops := true, apart := false }
def FnExactEraseMarksSaid : Prop := fnExactEraseMarksRow.holds Try.pinned (OpenSpec.ofChange fnExactEraseMarksSpec)

/-- ITS FALSE NEIGHBOUR: 'it returns false'. Refute it at one input. -/
def fnExactEraseMarksWrong : ChangeSpec := { name := "fnExactEraseMarks", fn := fun _ => fun
  | [d] => { results := [.lit (.bool false)], args := [d] }
  | _ => none }
def FnExactEraseMarksWrongFalsely : Prop := fnExactEraseMarksRow.holds Try.pinned (OpenSpec.ofChange fnExactEraseMarksWrong)

/-- 'laws.FnExactRenumberHoles': WHATEVER THE INPUT: true; the input reads as it did. -/
def fnExactRenumberHolesSpec : ChangeSpec := { name := "fnExactRenumberHoles", fn := fun _ => fun
  | [d] => { results := [.lit (.bool true)], args := [d] }
  | _ => none }
def fnExactRenumberHolesRow : OpenClaim := { program := "ytimigpdbegfjaaa", sum := "42a00a89a2f9c74cbb0230be7d6e06435c13b372b950e5a26a2d7c01e467cf17", func := "loop.example/g00585/laws.FnExactRenumberHoles", spec := "fnExactRenumberHoles", unfollowed := true, recurses := true, loops := true, apart := false }
def FnExactRenumberHolesSaid : Prop := fnExactRenumberHolesRow.holds Try.pinned (OpenSpec.ofChange fnExactRenumberHolesSpec)

/-- ITS FALSE NEIGHBOUR: 'it returns false'. Refute it at one input. -/
def fnExactRenumberHolesWrong : ChangeSpec := { name := "fnExactRenumberHoles", fn := fun _ => fun
  | [d] => { results := [.lit (.bool false)], args := [d] }
  | _ => none }
def FnExactRenumberHolesWrongFalsely : Prop := fnExactRenumberHolesRow.holds Try.pinned (OpenSpec.ofChange fnExactRenumberHolesWrong)

/-- 'laws.FnExactInvertChanges': WHATEVER THE INPUT: true; the input reads as it did. -/
def fnExactInvertChangesSpec : ChangeSpec := { name := "fnExactInvertChanges", fn := fun _ => fun
  | [d1, d2] => { results := [.lit (.bool true)], args := [d1, d2] }
  | _ => none }
def fnExactInvertChangesRow : OpenClaim := { program := "ytimigpdbegfjaaa", sum := "42a00a89a2f9c74cbb0230be7d6e06435c13b372b950e5a26a2d7c01e467cf17", func := "loop.example/g00585/laws.FnExactInvertChanges", spec := "fnExactInvertChanges", recurses := true, loops := true, apart := false }
def FnExactInvertChangesSaid : Prop := fnExactInvertChangesRow.holds Try.pinned (OpenSpec.ofChange fnExactInvertChangesSpec)

/-- ITS FALSE NEIGHBOUR: 'it returns false'. Refute it at one input. -/
def fnExactInvertChangesWrong : ChangeSpec := { name := "fnExactInvertChanges", fn := fun _ => fun
  | [d1, d2] => { results := [.lit (.bool false)], args := [d1, d2] }
  | _ => none }
def FnExactInvertChangesWrongFalsely : Prop := fnExactInvertChangesRow.holds Try.pinned (OpenSpec.ofChange fnExactInvertChangesWrong)

/-- 'laws.FnExactUndoEdit': WHATEVER THE INPUT: true; the input reads as it did. -/
def fnExactUndoEditSpec : ChangeSpec := { name := "fnExactUndoEdit", fn := fun _ => fun
  | [d] => { results := [.lit (.bool true)], args := [d] }
  | _ => none }
def fnExactUndoEditRow : OpenClaim := { program := "ytimigpdbegfjaaa", sum := "42a00a89a2f9c74cbb0230be7d6e06435c13b372b950e5a26a2d7c01e467cf17", func := "loop.example/g00585/laws.FnExactUndoEdit", spec := "fnExactUndoEdit", recurses := true, loops := true, apart := false }
def FnExactUndoEditSaid : Prop := fnExactUndoEditRow.holds Try.pinned (OpenSpec.ofChange fnExactUndoEditSpec)

/-- ITS FALSE NEIGHBOUR: 'it returns false'. Refute it at one input. -/
def fnExactUndoEditWrong : ChangeSpec := { name := "fnExactUndoEdit", fn := fun _ => fun
  | [d] => { results := [.lit (.bool false)], args := [d] }
  | _ => none }
def FnExactUndoEditWrongFalsely : Prop := fnExactUndoEditRow.holds Try.pinned (OpenSpec.ofChange fnExactUndoEditWrong)

/-- 'laws.FnExactRedoEdit': WHATEVER THE INPUT: true; the input reads as it did. -/
def fnExactRedoEditSpec : ChangeSpec := { name := "fnExactRedoEdit", fn := fun _ => fun
  | [d] => { results := [.lit (.bool true)], args := [d] }
  | _ => none }
def fnExactRedoEditRow : OpenClaim := { program := "ytimigpdbegfjaaa", sum := "42a00a89a2f9c74cbb0230be7d6e06435c13b372b950e5a26a2d7c01e467cf17", func := "loop.example/g00585/laws.FnExactRedoEdit", spec := "fnExactRedoEdit", recurses := true, loops := true, apart := false }
def FnExactRedoEditSaid : Prop := fnExactRedoEditRow.holds Try.pinned (OpenSpec.ofChange fnExactRedoEditSpec)

/-- ITS FALSE NEIGHBOUR: 'it returns false'. Refute it at one input. -/
def fnExactRedoEditWrong : ChangeSpec := { name := "fnExactRedoEdit", fn := fun _ => fun
  | [d] => { results := [.lit (.bool false)], args := [d] }
  | _ => none }
def FnExactRedoEditWrongFalsely : Prop := fnExactRedoEditRow.holds Try.pinned (OpenSpec.ofChange fnExactRedoEditWrong)

/-- 'laws.FnExactFreeVars': WHATEVER THE INPUT: true; the input reads as it did. -/
def fnExactFreeVarsSpec : ChangeSpec := { name := "fnExactFreeVars", fn := fun _ => fun
  | [d] => { results := [.lit (.bool true)], args := [d] }
  | _ => none }
def fnExactFreeVarsRow : OpenClaim := { program := "ytimigpdbegfjaaa", sum := "42a00a89a2f9c74cbb0230be7d6e06435c13b372b950e5a26a2d7c01e467cf17", func := "loop.example/g00585/laws.FnExactFreeVars", spec := "fnExactFreeVars", recurses := true, loops := true, apart := false }
def FnExactFreeVarsSaid : Prop := fnExactFreeVarsRow.holds Try.pinned (OpenSpec.ofChange fnExactFreeVarsSpec)

/-- ITS FALSE NEIGHBOUR: 'it returns false'. Refute it at one input. -/
def fnExactFreeVarsWrong : ChangeSpec := { name := "fnExactFreeVars", fn := fun _ => fun
  | [d] => { results := [.lit (.bool false)], args := [d] }
  | _ => none }
def FnExactFreeVarsWrongFalsely : Prop := fnExactFreeVarsRow.holds Try.pinned (OpenSpec.ofChange fnExactFreeVarsWrong)

/- THE SECOND FORM. 'bulk': how many values and letters a reading holds, each counted each time it is reached (what is shared counts as often as it is met; a slice's spare places count too). A statement '..UptoSaid' is the law's where the arguments, and the package variables that the reading takes, are together of bulk at most 1048576: NARROWER than '..Said'. Prove '..Said' where nothing that the law and all that it calls make is longer than what came in: it says more and counts as full. Else prove '..UptoSaid'. A law counts once. -/
mutual
def uptoBulk {H : Type} : DataW H → Nat
  | .lit (.string bytes) => bytes.length + 1
  | .lit _ => 1
  | .nil => 1
  | .ptr d => uptoBulk d + 1
  | .slice elems spare => uptoBulkAll elems + uptoBulkAll spare + 1
  | .agg parts => uptoBulkAll parts + 1
  | .iface _ d => uptoBulk d + 1
  | .map entries => uptoBulkEntries entries + 1
  | .held _ => 1
def uptoBulkAll {H : Type} : List (DataW H) → Nat
  | [] => 0
  | d :: r => uptoBulk d + uptoBulkAll r
def uptoBulkEntries {H : Type} : List (Lit × DataW H) → Nat
  | [] => 0
  | x :: r => uptoBulkEntry x + uptoBulkEntries r
def uptoBulkEntry {H : Type} : Lit × DataW H → Nat
  | (.string bytes, d) => bytes.length + uptoBulk d + 1
  | (_, d) => uptoBulk d + 1
 end
def uptoSmall : (H : Type) → List (DataW H) → Bool := fun _ ds => decide (uptoBulkAll ds ≤ 1048576)
def OpenSpec.upto (s : _root_.Go.ChangeSpec) : _root_.Go.OpenSpec := { _root_.Go.OpenSpec.ofChange s with cond := some uptoSmall }

/-- 'laws.FnExactFirstHole', WHERE WHAT IT READS IS OF BULK AT MOST 1048576: true; the input reads as it did. -/
def fnExactFirstHoleUptoRow : OpenClaim := { program := "ytimigpdbegfjaaa", sum := "42a00a89a2f9c74cbb0230be7d6e06435c13b372b950e5a26a2d7c01e467cf17", func := "loop.example/g00585/laws.FnExactFirstHole", spec := "fnExactFirstHole", recurses := true, loops := true, apart := false, narrowed := true }
def FnExactFirstHoleUptoSaid : Prop := fnExactFirstHoleUptoRow.holds Try.pinned (OpenSpec.upto fnExactFirstHoleSpec)

/-- 'laws.FnExactSameShape', WHERE WHAT IT READS IS OF BULK AT MOST 1048576: true; the input reads as it did. -/
def fnExactSameShapeUptoRow : OpenClaim := { program := "ytimigpdbegfjaaa", sum := "42a00a89a2f9c74cbb0230be7d6e06435c13b372b950e5a26a2d7c01e467cf17", func := "loop.example/g00585/laws.FnExactSameShape", spec := "fnExactSameShape", unfollowed := true, recurses := true, loops := true, apart := false, narrowed := true }
def FnExactSameShapeUptoSaid : Prop := fnExactSameShapeUptoRow.holds Try.pinned (OpenSpec.upto fnExactSameShapeSpec)

/-- 'laws.FnExactAllPaths', WHERE WHAT IT READS IS OF BULK AT MOST 1048576: true; the input reads as it did. -/
def fnExactAllPathsUptoRow : OpenClaim := { program := "ytimigpdbegfjaaa", sum := "42a00a89a2f9c74cbb0230be7d6e06435c13b372b950e5a26a2d7c01e467cf17", func := "loop.example/g00585/laws.FnExactAllPaths", spec := "fnExactAllPaths", recurses := true, loops := true, apart := false, narrowed := true }
def FnExactAllPathsUptoSaid : Prop := fnExactAllPathsUptoRow.holds Try.pinned (OpenSpec.upto fnExactAllPathsSpec)

/-- 'laws.FnExactEraseMarks', WHERE WHAT IT READS IS OF BULK AT MOST 1048576: true; the input reads as it did. -/
def fnExactEraseMarksUptoRow : OpenClaim := { program := "ytimigpdbegfjaaa", sum := "42a00a89a2f9c74cbb0230be7d6e06435c13b372b950e5a26a2d7c01e467cf17", func := "loop.example/g00585/laws.FnExactEraseMarks", spec := "fnExactEraseMarks", unfollowed := true, recurses := true, loops := true, apart := false, narrowed := true }
def FnExactEraseMarksUptoSaid : Prop := fnExactEraseMarksUptoRow.holds Try.pinned (OpenSpec.upto fnExactEraseMarksSpec)

/-- 'laws.FnExactRenumberHoles', WHERE WHAT IT READS IS OF BULK AT MOST 1048576: true; the input reads as it did. -/
def fnExactRenumberHolesUptoRow : OpenClaim := { program := "ytimigpdbegfjaaa", sum := "42a00a89a2f9c74cbb0230be7d6e06435c13b372b950e5a26a2d7c01e467cf17", func := "loop.example/g00585/laws.FnExactRenumberHoles", spec := "fnExactRenumberHoles", unfollowed := true, recurses := true, loops := true, apart := false, narrowed := true }
def FnExactRenumberHolesUptoSaid : Prop := fnExactRenumberHolesUptoRow.holds Try.pinned (OpenSpec.upto fnExactRenumberHolesSpec)

/-- 'laws.FnExactInvertChanges', WHERE WHAT IT READS IS OF BULK AT MOST 1048576: true; the input reads as it did. -/
def fnExactInvertChangesUptoRow : OpenClaim := { program := "ytimigpdbegfjaaa", sum := "42a00a89a2f9c74cbb0230be7d6e06435c13b372b950e5a26a2d7c01e467cf17", func := "loop.example/g00585/laws.FnExactInvertChanges", spec := "fnExactInvertChanges", recurses := true, loops := true, apart := false, narrowed := true }
def FnExactInvertChangesUptoSaid : Prop := fnExactInvertChangesUptoRow.holds Try.pinned (OpenSpec.upto fnExactInvertChangesSpec)

/-- 'laws.FnExactUndoEdit', WHERE WHAT IT READS IS OF BULK AT MOST 1048576: true; the input reads as it did. -/
def fnExactUndoEditUptoRow : OpenClaim := { program := "ytimigpdbegfjaaa", sum := "42a00a89a2f9c74cbb0230be7d6e06435c13b372b950e5a26a2d7c01e467cf17", func := "loop.example/g00585/laws.FnExactUndoEdit", spec := "fnExactUndoEdit", recurses := true, loops := true, apart := false, narrowed := true }
def FnExactUndoEditUptoSaid : Prop := fnExactUndoEditUptoRow.holds Try.pinned (OpenSpec.upto fnExactUndoEditSpec)

/-- 'laws.FnExactRedoEdit', WHERE WHAT IT READS IS OF BULK AT MOST 1048576: true; the input reads as it did. -/
def fnExactRedoEditUptoRow : OpenClaim := { program := "ytimigpdbegfjaaa", sum := "42a00a89a2f9c74cbb0230be7d6e06435c13b372b950e5a26a2d7c01e467cf17", func := "loop.example/g00585/laws.FnExactRedoEdit", spec := "fnExactRedoEdit", recurses := true, loops := true, apart := false, narrowed := true }
def FnExactRedoEditUptoSaid : Prop := fnExactRedoEditUptoRow.holds Try.pinned (OpenSpec.upto fnExactRedoEditSpec)

/-- 'laws.FnExactFreeVars', WHERE WHAT IT READS IS OF BULK AT MOST 1048576: true; the input reads as it did. -/
def fnExactFreeVarsUptoRow : OpenClaim := { program := "ytimigpdbegfjaaa", sum := "42a00a89a2f9c74cbb0230be7d6e06435c13b372b950e5a26a2d7c01e467cf17", func := "loop.example/g00585/laws.FnExactFreeVars", spec := "fnExactFreeVars", recurses := true, loops := true, apart := false, narrowed := true }
def FnExactFreeVarsUptoSaid : Prop := fnExactFreeVarsUptoRow.holds Try.pinned (OpenSpec.upto fnExactFreeVarsSpec)

end Rows
end Go.Proofs.Ytimigpdbegfjaaa
