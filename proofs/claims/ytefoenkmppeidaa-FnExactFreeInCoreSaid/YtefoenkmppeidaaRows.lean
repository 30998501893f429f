/-
  NARROWER THAN 'FOR EVERY INPUT', by the rows' own cells (each row's printed sentence says how): FnExactEraseMarks: loops · FnExactUndoEdit: loops · FnExactRedoEdit: loops · FnExactFreeInCore: loops · FnExactInvertChanges: loops.
  DERIVED. THE GIVEN ROWS OF THIS SEAT. 5 by the template 'for every input the law returns true; each argument reads behind the call as it read before'; 0 by the template 'total and deterministic' (their statements: YtefoenkmppeidaaTotals.lean).
  GIVEN WITH THE SEED: the statements are not yours to turn. If you find one false, say at which input.
  Laid BY PROGRAM, IN A SANDBOX (cutbox-rows.mjs): the forced cells as the released guide's own fill.sh prints them over the translation ec2e485268edafad… (all of the seat's roots in one cut). By AI agents, Wed Nov 11 2026. No macro, syntax, notation, axiom, sorry.
-/
import Derived.Test.YtefoenkmppeidaaChecked
import GoSem.Claim
import GoSem.ClaimJoined
import GoSem.ClaimMapViews
import Derived.JoinedTies
import Derived.KernelRfl
namespace Go.Proofs.Ytefoenkmppeidaa
/- THE CELL 'sum', in the pinned program and in every row, IS THE sha256 OF THE DUMP (.gsa) THAT YtefoenkmppeidaaProg.lean LOADS. Nothing in Lean hashes anything: it is a label: what it is worth is what the hold of that sum in a sandbox is worth. -/
noncomputable def Try.pinned : Pinned := { name := "ytefoenkmppeidaa", sum := "ec2e485268edafad4db4b1ff15f55d714468a0e63e497631b84b620a1f972f61", checked := Try.checked }
namespace Rows
def none {H : Type} : Left H := { results := [], args := [] }

/-- 'laws.FnExactEraseMarks': WHATEVER THE INPUT: true; the input reads as it did. -/
def fnExactEraseMarksSpec : ChangeSpec := { name := "fnExactEraseMarks", fn := fun _ => fun
  | [d] => { results := [.lit (.bool true)], args := [d] }
  | _ => none }
def fnExactEraseMarksRow : OpenClaim := { program := "ytefoenkmppeidaa", sum := "ec2e485268edafad4db4b1ff15f55d714468a0e63e497631b84b620a1f972f61", func := "loop.example/g00585/laws.FnExactEraseMarks", spec := "fnExactEraseMarks", unfollowed := true, recurses := true, loops := true, apart := false }
def FnExactEraseMarksSaid : Prop := fnExactEraseMarksRow.holds Try.pinned (OpenSpec.ofChange fnExactEraseMarksSpec)

/-- ITS FALSE NEIGHBOUR: 'it returns false'. Refute it at one input. -/
def fnExactEraseMarksWrong : ChangeSpec := { name := "fnExactEraseMarks", fn := fun _ => fun
  | [d] => { results := [.lit (.bool false)], args := [d] }
  | _ => none }
def FnExactEraseMarksWrongFalsely : Prop := fnExactEraseMarksRow.holds Try.pinned (OpenSpec.ofChange fnExactEraseMarksWrong)

/-- 'laws.FnExactUndoEdit': WHATEVER THE INPUT: true; the input reads as it did. -/
def fnExactUndoEditSpec : ChangeSpec := { name := "fnExactUndoEdit", fn := fun _ => fun
  | [d] => { results := [.lit (.bool true)], args := [d] }
  | _ => none }
def fnExactUndoEditRow : OpenClaim := { program := "ytefoenkmppeidaa", sum := "ec2e485268edafad4db4b1ff15f55d714468a0e63e497631b84b620a1f972f61", func := "loop.example/g00585/laws.FnExactUndoEdit", spec := "fnExactUndoEdit", recurses := true, loops := true, apart := false }
def FnExactUndoEditSaid : Prop := fnExactUndoEditRow.holds Try.pinned (OpenSpec.ofChange fnExactUndoEditSpec)

/-- ITS FALSE NEIGHBOUR: 'it returns false'. Refute it at one input. -/
def fnExactUndoEditWrong : ChangeSpec := { name := "fnExactUndoEdit", fn := fun _ => fun
  | [d] => { results := [.lit (.bool false)], args := [d] }
  | _ => none }
def FnExactUndoEditWrongFalsely : Prop := fnExactUndoEditRow.holds Try.pinned (OpenSpec.ofChange fnExactUndoEditWrong)

/-- 'laws.FnExactRedoEdit': WHATEVER THE INPUT: true; the input reads as it did. -/
def fnExactRedoEditSpec : ChangeSpec := { name := "fnExactRedoEdit", fn := fun _ => fun
  | [d] => { results := [.lit (.bool true)], args := [d] }
  | _ => none }
def fnExactRedoEditRow : OpenClaim := { program := "ytefoenkmppeidaa", sum := "ec2e485268edafad4db4b1ff15f55d714468a0e63e497631b84b620a1f972f61", func := "loop.example/g00585/laws.FnExactRedoEdit", spec := "fnExactRedoEdit", recurses := true, loops := true, apart := false }
def FnExactRedoEditSaid : Prop := fnExactRedoEditRow.holds Try.pinned (OpenSpec.ofChange fnExactRedoEditSpec)

/-- ITS FALSE NEIGHBOUR: 'it returns false'. Refute it at one input. -/
def fnExactRedoEditWrong : ChangeSpec := { name := "fnExactRedoEdit", fn := fun _ => fun
  | [d] => { results := [.lit (.bool false)], args := [d] }
  | _ => none }
def FnExactRedoEditWrongFalsely : Prop := fnExactRedoEditRow.holds Try.pinned (OpenSpec.ofChange fnExactRedoEditWrong)

/-- 'laws.FnExactFreeInCore': WHATEVER THE INPUT: true; the input reads as it did. -/
def fnExactFreeInCoreSpec : ChangeSpec := { name := "fnExactFreeInCore", fn := fun _ => fun
  | [d] => { results := [.lit (.bool true)], args := [d] }
  | _ => none }
def fnExactFreeInCoreRow : OpenClaim := { program := "ytefoenkmppeidaa", sum := "ec2e485268edafad4db4b1ff15f55d714468a0e63e497631b84b620a1f972f61", func := "loop.example/g00585/laws.FnExactFreeInCore", spec := "fnExactFreeInCore", recurses := true, loops := true, apart := false }
def FnExactFreeInCoreSaid : Prop := fnExactFreeInCoreRow.holds Try.pinned (OpenSpec.ofChange fnExactFreeInCoreSpec)

/-- ITS FALSE NEIGHBOUR: 'it returns false'. Refute it at one input. -/
def fnExactFreeInCoreWrong : ChangeSpec := { name := "fnExactFreeInCore", fn := fun _ => fun
  | [d] => { results := [.lit (.bool false)], args := [d] }
  | _ => none }
def FnExactFreeInCoreWrongFalsely : Prop := fnExactFreeInCoreRow.holds Try.pinned (OpenSpec.ofChange fnExactFreeInCoreWrong)

/-- 'laws.FnExactInvertChanges': WHATEVER THE INPUT: true; the input reads as it did. -/
def fnExactInvertChangesSpec : ChangeSpec := { name := "fnExactInvertChanges", fn := fun _ => fun
  | [d1, d2] => { results := [.lit (.bool true)], args := [d1, d2] }
  | _ => none }
def fnExactInvertChangesRow : OpenClaim := { program := "ytefoenkmppeidaa", sum := "ec2e485268edafad4db4b1ff15f55d714468a0e63e497631b84b620a1f972f61", func := "loop.example/g00585/laws.FnExactInvertChanges", spec := "fnExactInvertChanges", recurses := true, loops := true, apart := false }
def FnExactInvertChangesSaid : Prop := fnExactInvertChangesRow.holds Try.pinned (OpenSpec.ofChange fnExactInvertChangesSpec)

/-- ITS FALSE NEIGHBOUR: 'it returns false'. Refute it at one input. -/
def fnExactInvertChangesWrong : ChangeSpec := { name := "fnExactInvertChanges", fn := fun _ => fun
  | [d1, d2] => { results := [.lit (.bool false)], args := [d1, d2] }
  | _ => none }
def FnExactInvertChangesWrongFalsely : Prop := fnExactInvertChangesRow.holds Try.pinned (OpenSpec.ofChange fnExactInvertChangesWrong)

/- THE SECOND FORM. 'bulk': how many values and letters a reading holds, each counted each time it is reached (what is shared counts as often as it is met; a slice's spare places count too). A statement '..UptoSaid' is the law's where the arguments, and the package variables that the reading takes, are together of bulk at most 1048576: NARROWER than '..Said'. Prove '..Said' where nothing that the law and all that it calls make is longer than what came in: it says more and counts as full. Else prove '..UptoSaid'. A law counts once. -/
mutual
def uptoBulk {H : Type} : DataW H → Nat
  | .lit (.string bytes) => bytes.length + 1
  | .lit _ => 1
  | .nil => 1
  | .ptr d => uptoBulk d + 1
  | .slice elems spare => uptoBulkAll elems + uptoBulkAll spare + 1
  | .agg parts => uptoBulkAll parts + 1
  | .iface _ d => uptoBulk d + 1
  | .map entries => uptoBulkEntries entries + 1
  | .held _ => 1
def uptoBulkAll {H : Type} : List (DataW H) → Nat
  | [] => 0
  | d :: r => uptoBulk d + uptoBulkAll r
def uptoBulkEntries {H : Type} : List (Lit × DataW H) → Nat
  | [] => 0
  | x :: r => uptoBulkEntry x + uptoBulkEntries r
def uptoBulkEntry {H : Type} : Lit × DataW H → Nat
  | (.string bytes, d) => bytes.length + uptoBulk d + 1
  | (_, d) => uptoBulk d + 1
 end
def uptoSmall : (H : Type) → List (DataW H) → Bool := fun _ ds => decide (uptoBulkAll ds ≤ 1048576)
def OpenSpec.upto (s : _root_.Go.ChangeSpec) : _root_.Go.OpenSpec := { _root_.Go.OpenSpec.ofChange s with cond := some uptoSmall }

/-- 'laws.FnExactEraseMarks', WHERE WHAT IT READS IS OF BULK AT MOST 1048576: true; the input reads as it did. -/
def fnExactEraseMarksUptoRow : OpenClaim := { program := "ytefoenkmppeidaa", sum := "ec2e485268edafad4db4b1ff15f55d714468a0e63e497631b84b620a1f972f61", func := "loop.example/g00585/laws.FnExactEraseMarks", spec := "fnExactEraseMarks", unfollowed := true, recurses := true, loops := true, apart := false, narrowed := true }
def FnExactEraseMarksUptoSaid : Prop := fnExactEraseMarksUptoRow.holds Try.pinned (OpenSpec.upto fnExactEraseMarksSpec)

/-- 'laws.FnExactUndoEdit', WHERE WHAT IT READS IS OF BULK AT MOST 1048576: true; the input reads as it did. -/
def fnExactUndoEditUptoRow : OpenClaim := { program := "ytefoenkmppeidaa", sum := "ec2e485268edafad4db4b1ff15f55d714468a0e63e497631b84b620a1f972f61", func := "loop.example/g00585/laws.FnExactUndoEdit", spec := "fnExactUndoEdit", recurses := true, loops := true, apart := false, narrowed := true }
def FnExactUndoEditUptoSaid : Prop := fnExactUndoEditUptoRow.holds Try.pinned (OpenSpec.upto fnExactUndoEditSpec)

/-- 'laws.FnExactRedoEdit', WHERE WHAT IT READS IS OF BULK AT MOST 1048576: true; the input reads as it did. -/
def fnExactRedoEditUptoRow : OpenClaim := { program := "ytefoenkmppeidaa", sum := "ec2e485268edafad4db4b1ff15f55d714468a0e63e497631b84b620a1f972f61", func := "loop.example/g00585/laws.FnExactRedoEdit", spec := "fnExactRedoEdit", recurses := true, loops := true, apart := false, narrowed := true }
def FnExactRedoEditUptoSaid : Prop := fnExactRedoEditUptoRow.holds Try.pinned (OpenSpec.upto fnExactRedoEditSpec)

/-- 'laws.FnExactFreeInCore', WHERE WHAT IT READS IS OF BULK AT MOST 1048576: true; the input reads as it did. -/
def fnExactFreeInCoreUptoRow : OpenClaim := { program := "ytefoenkmppeidaa", sum := "ec2e485268edafad4db4b1ff15f55d714468a0e63e497631b84b620a1f972f61", func := "loop.example/g00585/laws.FnExactFreeInCore", spec := "fnExactFreeInCore", recurses := true, loops := true, apart := false, narrowed := true }
def FnExactFreeInCoreUptoSaid : Prop := fnExactFreeInCoreUptoRow.holds Try.pinned (OpenSpec.upto fnExactFreeInCoreSpec)

/-- 'laws.FnExactInvertChanges', WHERE WHAT IT READS IS OF BULK AT MOST 1048576: true; the input reads as it did. -/
def fnExactInvertChangesUptoRow : OpenClaim := { program := "ytefoenkmppeidaa", sum := "ec2e485268edafad4db4b1ff15f55d714468a0e63e497631b84b620a1f972f61", func := "loop.example/g00585/laws.FnExactInvertChanges", spec := "fnExactInvertChanges", recurses := true, loops := true, apart := false, narrowed := true }
def FnExactInvertChangesUptoSaid : Prop := fnExactInvertChangesUptoRow.holds Try.pinned (OpenSpec.upto fnExactInvertChangesSpec)

end Rows
end Go.Proofs.Ytefoenkmppeidaa
