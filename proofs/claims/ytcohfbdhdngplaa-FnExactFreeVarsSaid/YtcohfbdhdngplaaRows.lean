/-
  NARROWER THAN 'FOR EVERY INPUT', by the rows' own cells (each row's printed sentence says how): FnExactFreeVars: loops · FnExactEraseMarks: loops · FnExactUndoEdit: loops · FnExactRedoEdit: loops · FnExactFreeInCore: loops · FnExactInvertChanges: loops.
  DERIVED. THE GIVEN ROWS OF THIS SEAT. 7 by the template 'for every input the law returns true; each argument reads behind the call as it read before'; 0 by the template 'total and deterministic' (their statements: YtcohfbdhdngplaaTotals.lean).
  GIVEN WITH THE SEED: the statements are not yours to turn. If you find one false, say at which input.
  Laid BY PROGRAM, IN A SANDBOX (cutbox-rows.mjs): the forced cells as the released guide's own fill.sh prints them over the translation 3943c7b4db1e74cc… (all of the seat's roots in one cut). By AI agents, Wed Nov 11 2026. No macro, syntax, notation, axiom, sorry.
-/
import Derived.Test.YtcohfbdhdngplaaChecked
import GoSem.Claim
import GoSem.ClaimJoined
import GoSem.ClaimMapViews
import Derived.JoinedTies
import Derived.KernelRfl
namespace Go.Proofs.Ytcohfbdhdngplaa
/- THE CELL 'sum', in the pinned program and in every row, IS THE sha256 OF THE DUMP (.gsa) THAT YtcohfbdhdngplaaProg.lean LOADS. Nothing in Lean hashes anything: it is a label: what it is worth is what the hold of that sum in a sandbox is worth. -/
noncomputable def Try.pinned : Pinned := { name := "ytcohfbdhdngplaa", sum := "3943c7b4db1e74ccd8bbf6d98d6c6835c00f9c9c8a1aa9beee6f19a1c087a0f0", checked := Try.checked }
namespace Rows
def none {H : Type} : Left H := { results := [], args := [] }

/-- 'laws.FnExactFreeVars': WHATEVER THE INPUT: true; the input reads as it did. -/
def fnExactFreeVarsSpec : ChangeSpec := { name := "fnExactFreeVars", fn := fun _ => fun
  | [d] => { results := [.lit (.bool true)], args := [d] }
  | _ => none }
def fnExactFreeVarsRow : OpenClaim := { program := "ytcohfbdhdngplaa", sum := "3943c7b4db1e74ccd8bbf6d98d6c6835c00f9c9c8a1aa9beee6f19a1c087a0f0", func := "loop.example/g00585/laws.FnExactFreeVars", spec := "fnExactFreeVars", recurses := true, loops := true, apart := false }
def FnExactFreeVarsSaid : Prop := fnExactFreeVarsRow.holds Try.pinned (OpenSpec.ofChange fnExactFreeVarsSpec)

/-- ITS FALSE NEIGHBOUR: 'it returns false'. Refute it at one input. -/
def fnExactFreeVarsWrong : ChangeSpec := { name := "fnExactFreeVars", fn := fun _ => fun
  | [d] => { results := [.lit (.bool false)], args := [d] }
  | _ => none }
def FnExactFreeVarsWrongFalsely : Prop := fnExactFreeVarsRow.holds Try.pinned (OpenSpec.ofChange fnExactFreeVarsWrong)

/-- 'laws.FnExactEraseMarks': WHATEVER THE INPUT: true; the input reads as it did. -/
def fnExactEraseMarksSpec : ChangeSpec := { name := "fnExactEraseMarks", fn := fun _ => fun
  | [d] => { results := [.lit (.bool true)], args := [d] }
  | _ => none }
def fnExactEraseMarksRow : OpenClaim := { program := "ytcohfbdhdngplaa", sum := "3943c7b4db1e74ccd8bbf6d98d6c6835c00f9c9c8a1aa9beee6f19a1c087a0f0", func := "loop.example/g00585/laws.FnExactEraseMarks", spec := "fnExactEraseMarks", unfollowed := true, recurses := true, loops := true, apart := false }
def FnExactEraseMarksSaid : Prop := fnExactEraseMarksRow.holds Try.pinned (OpenSpec.ofChange fnExactEraseMarksSpec)

/-- ITS FALSE NEIGHBOUR: 'it returns false'. Refute it at one input. -/
def fnExactEraseMarksWrong : ChangeSpec := { name := "fnExactEraseMarks", fn := fun _ => fun
  | [d] => { results := [.lit (.bool false)], args := [d] }
  | _ => none }
def FnExactEraseMarksWrongFalsely : Prop := fnExactEraseMarksRow.holds Try.pinned (OpenSpec.ofChange fnExactEraseMarksWrong)

/-- 'laws.FnExactUndoEdit': WHATEVER THE INPUT: true; the input reads as it did. -/
def fnExactUndoEditSpec : ChangeSpec := { name := "fnExactUndoEdit", fn := fun _ => fun
  | [d] => { results := [.lit (.bool true)], args := [d] }
  | _ => none }
def fnExactUndoEditRow : OpenClaim := { program := "ytcohfbdhdngplaa", sum := "3943c7b4db1e74ccd8bbf6d98d6c6835c00f9c9c8a1aa9beee6f19a1c087a0f0", func := "loop.example/g00585/laws.FnExactUndoEdit", spec := "fnExactUndoEdit", recurses := true, loops := true, apart := false }
def FnExactUndoEditSaid : Prop := fnExactUndoEditRow.holds Try.pinned (OpenSpec.ofChange fnExactUndoEditSpec)

/-- ITS FALSE NEIGHBOUR: 'it returns false'. Refute it at one input. -/
def fnExactUndoEditWrong : ChangeSpec := { name := "fnExactUndoEdit", fn := fun _ => fun
  | [d] => { results := [.lit (.bool false)], args := [d] }
  | _ => none }
def FnExactUndoEditWrongFalsely : Prop := fnExactUndoEditRow.holds Try.pinned (OpenSpec.ofChange fnExactUndoEditWrong)

/-- 'laws.FnExactRedoEdit': WHATEVER THE INPUT: true; the input reads as it did. -/
def fnExactRedoEditSpec : ChangeSpec := { name := "fnExactRedoEdit", fn := fun _ => fun
  | [d] => { results := [.lit (.bool true)], args := [d] }
  | _ => none }
def fnExactRedoEditRow : OpenClaim := { program := "ytcohfbdhdngplaa", sum := "3943c7b4db1e74ccd8bbf6d98d6c6835c00f9c9c8a1aa9beee6f19a1c087a0f0", func := "loop.example/g00585/laws.FnExactRedoEdit", spec := "fnExactRedoEdit", recurses := true, loops := true, apart := false }
def FnExactRedoEditSaid : Prop := fnExactRedoEditRow.holds Try.pinned (OpenSpec.ofChange fnExactRedoEditSpec)

/-- ITS FALSE NEIGHBOUR: 'it returns false'. Refute it at one input. -/
def fnExactRedoEditWrong : ChangeSpec := { name := "fnExactRedoEdit", fn := fun _ => fun
  | [d] => { results := [.lit (.bool false)], args := [d] }
  | _ => none }
def FnExactRedoEditWrongFalsely : Prop := fnExactRedoEditRow.holds Try.pinned (OpenSpec.ofChange fnExactRedoEditWrong)

/-- 'laws.FnExactFreeInCore': WHATEVER THE INPUT: true; the input reads as it did. -/
def fnExactFreeInCoreSpec : ChangeSpec := { name := "fnExactFreeInCore", fn := fun _ => fun
  | [d] => { results := [.lit (.bool true)], args := [d] }
  | _ => none }
def fnExactFreeInCoreRow : OpenClaim := { program := "ytcohfbdhdngplaa", sum := "3943c7b4db1e74ccd8bbf6d98d6c6835c00f9c9c8a1aa9beee6f19a1c087a0f0", func := "loop.example/g00585/laws.FnExactFreeInCore", spec := "fnExactFreeInCore", recurses := true, loops := true, apart := false }
def FnExactFreeInCoreSaid : Prop := fnExactFreeInCoreRow.holds Try.pinned (OpenSpec.ofChange fnExactFreeInCoreSpec)

/-- ITS FALSE NEIGHBOUR: 'it returns false'. Refute it at one input. -/
def fnExactFreeInCoreWrong : ChangeSpec := { name := "fnExactFreeInCore", fn := fun _ => fun
  | [d] => { results := [.lit (.bool false)], args := [d] }
  | _ => none }
def FnExactFreeInCoreWrongFalsely : Prop := fnExactFreeInCoreRow.holds Try.pinned (OpenSpec.ofChange fnExactFreeInCoreWrong)

/-- 'laws.FnExactInvertChanges': WHATEVER THE INPUT: true; the input reads as it did. -/
def fnExactInvertChangesSpec : ChangeSpec := { name := "fnExactInvertChanges", fn := fun _ => fun
  | [d1, d2] => { results := [.lit (.bool true)], args := [d1, d2] }
  | _ => none }
def fnExactInvertChangesRow : OpenClaim := { program := "ytcohfbdhdngplaa", sum := "3943c7b4db1e74ccd8bbf6d98d6c6835c00f9c9c8a1aa9beee6f19a1c087a0f0", func := "loop.example/g00585/laws.FnExactInvertChanges", spec := "fnExactInvertChanges", recurses := true, loops := true, apart := false }
def FnExactInvertChangesSaid : Prop := fnExactInvertChangesRow.holds Try.pinned (OpenSpec.ofChange fnExactInvertChangesSpec)

/-- ITS FALSE NEIGHBOUR: 'it returns false'. Refute it at one input. -/
def fnExactInvertChangesWrong : ChangeSpec := { name := "fnExactInvertChanges", fn := fun _ => fun
  | [d1, d2] => { results := [.lit (.bool false)], args := [d1, d2] }
  | _ => none }
def FnExactInvertChangesWrongFalsely : Prop := fnExactInvertChangesRow.holds Try.pinned (OpenSpec.ofChange fnExactInvertChangesWrong)

/-- 'laws.FnExactNewSession': WHATEVER THE INPUT: true; the input reads as it did. -/
def fnExactNewSessionSpec : ChangeSpec := { name := "fnExactNewSession", fn := fun _ => fun
  | [] => { results := [.lit (.bool true)], args := [] }
  | _ => none }
def fnExactNewSessionRow : OpenClaim := { program := "ytcohfbdhdngplaa", sum := "3943c7b4db1e74ccd8bbf6d98d6c6835c00f9c9c8a1aa9beee6f19a1c087a0f0", func := "loop.example/g00585/laws.FnExactNewSession", spec := "fnExactNewSession", recurses := true, apart := false }
def FnExactNewSessionSaid : Prop := fnExactNewSessionRow.holds Try.pinned (OpenSpec.ofChange fnExactNewSessionSpec)

/-- ITS FALSE NEIGHBOUR: 'it returns false'. Refute it at one input. -/
def fnExactNewSessionWrong : ChangeSpec := { name := "fnExactNewSession", fn := fun _ => fun
  | [] => { results := [.lit (.bool false)], args := [] }
  | _ => none }
def FnExactNewSessionWrongFalsely : Prop := fnExactNewSessionRow.holds Try.pinned (OpenSpec.ofChange fnExactNewSessionWrong)

/- THE SECOND FORM. 'bulk': how many values and letters a reading holds, each counted each time it is reached (what is shared counts as often as it is met; a slice's spare places count too). A statement '..UptoSaid' is the law's where the arguments, and the package variables that the reading takes, are together of bulk at most 1048576: NARROWER than '..Said'. Prove '..Said' where nothing that the law and all that it calls make is longer than what came in: it says more and counts as full. Else prove '..UptoSaid'. A law counts once. -/
mutual
def uptoBulk {H : Type} : DataW H → Nat
  | .lit (.string bytes) => bytes.length + 1
  | .lit _ => 1
  | .nil => 1
  | .ptr d => uptoBulk d + 1
  | .slice elems spare => uptoBulkAll elems + uptoBulkAll spare + 1
  | .agg parts => uptoBulkAll parts + 1
  | .iface _ d => uptoBulk d + 1
  | .map entries => uptoBulkEntries entries + 1
  | .held _ => 1
def uptoBulkAll {H : Type} : List (DataW H) → Nat
  | [] => 0
  | d :: r => uptoBulk d + uptoBulkAll r
def uptoBulkEntries {H : Type} : List (Lit × DataW H) → Nat
  | [] => 0
  | x :: r => uptoBulkEntry x + uptoBulkEntries r
def uptoBulkEntry {H : Type} : Lit × DataW H → Nat
  | (.string bytes, d) => bytes.length + uptoBulk d + 1
  | (_, d) => uptoBulk d + 1
 end
def uptoSmall : (H : Type) → List (DataW H) → Bool := fun _ ds => decide (uptoBulkAll ds ≤ 1048576)
def OpenSpec.upto (s : _root_.Go.ChangeSpec) : _root_.Go.OpenSpec := { _root_.Go.OpenSpec.ofChange s with cond := some uptoSmall }

/-- 'laws.FnExactFreeVars', WHERE WHAT IT READS IS OF BULK AT MOST 1048576: true; the input reads as it did. -/
def fnExactFreeVarsUptoRow : OpenClaim := { program := "ytcohfbdhdngplaa", sum := "3943c7b4db1e74ccd8bbf6d98d6c6835c00f9c9c8a1aa9beee6f19a1c087a0f0", func := "loop.example/g00585/laws.FnExactFreeVars", spec := "fnExactFreeVars", recurses := true, loops := true, apart := false, narrowed := true }
def FnExactFreeVarsUptoSaid : Prop := fnExactFreeVarsUptoRow.holds Try.pinned (OpenSpec.upto fnExactFreeVarsSpec)

/-- 'laws.FnExactEraseMarks', WHERE WHAT IT READS IS OF BULK AT MOST 1048576: true; the input reads as it did. -/
def fnExactEraseMarksUptoRow : OpenClaim := { program := "ytcohfbdhdngplaa", sum := "3943c7b4db1e74ccd8bbf6d98d6c6835c00f9c9c8a1aa9beee6f19a1c087a0f0", func := "loop.example/g00585/laws.FnExactEraseMarks", spec := "fnExactEraseMarks", unfollowed := true, recurses := true, loops := true, apart := false, narrowed := true }
def FnExactEraseMarksUptoSaid : Prop := fnExactEraseMarksUptoRow.holds Try.pinned (OpenSpec.upto fnExactEraseMarksSpec)

/-- 'laws.FnExactUndoEdit', WHERE WHAT IT READS IS OF BULK AT MOST 1048576: true; the input reads as it did. -/
def fnExactUndoEditUptoRow : OpenClaim := { program := "ytcohfbdhdngplaa", sum := "3943c7b4db1e74ccd8bbf6d98d6c6835c00f9c9c8a1aa9beee6f19a1c087a0f0", func := "loop.example/g00585/laws.FnExactUndoEdit", spec := "fnExactUndoEdit", recurses := true, loops := true, apart := false, narrowed := true }
def FnExactUndoEditUptoSaid : Prop := fnExactUndoEditUptoRow.holds Try.pinned (OpenSpec.upto fnExactUndoEditSpec)

/-- 'laws.FnExactRedoEdit', WHERE WHAT IT READS IS OF BULK AT MOST 1048576: true; the input reads as it did. -/
def fnExactRedoEditUptoRow : OpenClaim := { program := "ytcohfbdhdngplaa", sum := "3943c7b4db1e74ccd8bbf6d98d6c6835c00f9c9c8a1aa9beee6f19a1c087a0f0", func := "loop.example/g00585/laws.FnExactRedoEdit", spec := "fnExactRedoEdit", recurses := true, loops := true, apart := false, narrowed := true }
def FnExactRedoEditUptoSaid : Prop := fnExactRedoEditUptoRow.holds Try.pinned (OpenSpec.upto fnExactRedoEditSpec)

/-- 'laws.FnExactFreeInCore', WHERE WHAT IT READS IS OF BULK AT MOST 1048576: true; the input reads as it did. -/
def fnExactFreeInCoreUptoRow : OpenClaim := { program := "ytcohfbdhdngplaa", sum := "3943c7b4db1e74ccd8bbf6d98d6c6835c00f9c9c8a1aa9beee6f19a1c087a0f0", func := "loop.example/g00585/laws.FnExactFreeInCore", spec := "fnExactFreeInCore", recurses := true, loops := true, apart := false, narrowed := true }
def FnExactFreeInCoreUptoSaid : Prop := fnExactFreeInCoreUptoRow.holds Try.pinned (OpenSpec.upto fnExactFreeInCoreSpec)

/-- 'laws.FnExactInvertChanges', WHERE WHAT IT READS IS OF BULK AT MOST 1048576: true; the input reads as it did. -/
def fnExactInvertChangesUptoRow : OpenClaim := { program := "ytcohfbdhdngplaa", sum := "3943c7b4db1e74ccd8bbf6d98d6c6835c00f9c9c8a1aa9beee6f19a1c087a0f0", func := "loop.example/g00585/laws.FnExactInvertChanges", spec := "fnExactInvertChanges", recurses := true, loops := true, apart := false, narrowed := true }
def FnExactInvertChangesUptoSaid : Prop := fnExactInvertChangesUptoRow.holds Try.pinned (OpenSpec.upto fnExactInvertChangesSpec)

/-- 'laws.FnExactNewSession', WHERE WHAT IT READS IS OF BULK AT MOST 1048576: true; the input reads as it did. -/
def fnExactNewSessionUptoRow : OpenClaim := { program := "ytcohfbdhdngplaa", sum := "3943c7b4db1e74ccd8bbf6d98d6c6835c00f9c9c8a1aa9beee6f19a1c087a0f0", func := "loop.example/g00585/laws.FnExactNewSession", spec := "fnExactNewSession", recurses := true, apart := false, narrowed := true }
def FnExactNewSessionUptoSaid : Prop := fnExactNewSessionUptoRow.holds Try.pinned (OpenSpec.upto fnExactNewSessionSpec)

end Rows
end Go.Proofs.Ytcohfbdhdngplaa
