/-
  NARROWER THAN 'FOR EVERY INPUT', by the rows' own cells (each row's printed sentence says how): FnExactEqualSession: loops · FnExactInvertChanges: loops · FnExactFirstHole: loops · FnExactRenumberHoles: loops · FnExactEraseMarks: loops · FnExactSameShape: loops · FnExactFreeVars: loops · FnExactAllPaths: loops.
  DERIVED. THE GIVEN ROWS OF THIS SEAT. 8 by the template 'for every input the law returns true; each argument reads behind the call as it read before'; 0 by the template 'total and deterministic' (their statements: YtmmnjdhmankieaaTotals.lean).
  GIVEN WITH THE SEED: the statements are not yours to turn. If you find one false, say at which input.
  Laid BY PROGRAM, IN A SANDBOX (cutbox-rows.mjs): the forced cells as the released guide's own fill.sh prints them over the translation 54befc45e57a4393… (all of the seat's roots in one cut). By AI agents, Wed Nov 11 2026. No macro, syntax, notation, axiom, sorry.
-/
import Derived.Test.YtmmnjdhmankieaaChecked
import GoSem.Claim
import GoSem.ClaimJoined
import GoSem.ClaimMapViews
import Derived.JoinedTies
import Derived.KernelRfl
namespace Go.Proofs.Ytmmnjdhmankieaa
/- THE CELL 'sum', in the pinned program and in every row, IS THE sha256 OF THE DUMP (.gsa) THAT YtmmnjdhmankieaaProg.lean LOADS. Nothing in Lean hashes anything: it is a label: what it is worth is what the hold of that sum in a sandbox is worth. -/
noncomputable def Try.pinned : Pinned := { name := "ytmmnjdhmankieaa", sum := "54befc45e57a4393bc6216f5c45c6fec87cb51018509c005018f95a597aeb551", checked := Try.checked }
namespace Rows
def none {H : Type} : Left H := { results := [], args := [] }

/-- 'laws.FnExactEqualSession': WHATEVER THE INPUT: true; the input reads as it did. -/
def fnExactEqualSessionSpec : ChangeSpec := { name := "fnExactEqualSession", fn := fun _ => fun
  | [d1, d2] => { results := [.lit (.bool true)], args := [d1, d2] }
  | _ => none }
def fnExactEqualSessionRow : OpenClaim := { program := "ytmmnjdhmankieaa", sum := "54befc45e57a4393bc6216f5c45c6fec87cb51018509c005018f95a597aeb551", func := "loop.example/g00585/laws.FnExactEqualSession", spec := "fnExactEqualSession", unfollowed := true, recurses := true, loops := true, apart := false }
def FnExactEqualSessionSaid : Prop := fnExactEqualSessionRow.holds Try.pinned (OpenSpec.ofChange fnExactEqualSessionSpec)

/-- ITS FALSE NEIGHBOUR: 'it returns false'. Refute it at one input. -/
def fnExactEqualSessionWrong : ChangeSpec := { name := "fnExactEqualSession", fn := fun _ => fun
  | [d1, d2] => { results := [.lit (.bool false)], args := [d1, d2] }
  | _ => none }
def FnExactEqualSessionWrongFalsely : Prop := fnExactEqualSessionRow.holds Try.pinned (OpenSpec.ofChange fnExactEqualSessionWrong)

/-- 'laws.FnExactInvertChanges': WHATEVER THE INPUT: true; the input reads as it did. -/
def fnExactInvertChangesSpec : ChangeSpec := { name := "fnExactInvertChanges", fn := fun _ => fun
  | [d1, d2] => { results := [.lit (.bool true)], args := [d1, d2] }
  | _ => none }
def fnExactInvertChangesRow : OpenClaim := { program := "ytmmnjdhmankieaa", sum := "54befc45e57a4393bc6216f5c45c6fec87cb51018509c005018f95a597aeb551", func := "loop.example/g00585/laws.FnExactInvertChanges", spec := "fnExactInvertChanges", recurses := true, loops := true, apart := false }
def FnExactInvertChangesSaid : Prop := fnExactInvertChangesRow.holds Try.pinned (OpenSpec.ofChange fnExactInvertChangesSpec)

/-- ITS FALSE NEIGHBOUR: 'it returns false'. Refute it at one input. -/
def fnExactInvertChangesWrong : ChangeSpec := { name := "fnExactInvertChanges", fn := fun _ => fun
  | [d1, d2] => { results := [.lit (.bool false)], args := [d1, d2] }
  | _ => none }
def FnExactInvertChangesWrongFalsely : Prop := fnExactInvertChangesRow.holds Try.pinned (OpenSpec.ofChange fnExactInvertChangesWrong)

/-- 'laws.FnExactFirstHole': WHATEVER THE INPUT: true; the input reads as it did. -/
def fnExactFirstHoleSpec : ChangeSpec := { name := "fnExactFirstHole", fn := fun _ => fun
  | [d] => { results := [.lit (.bool true)], args := [d] }
  | _ => none }
def fnExactFirstHoleRow : OpenClaim := { program := "ytmmnjdhmankieaa", sum := "54befc45e57a4393bc6216f5c45c6fec87cb51018509c005018f95a597aeb551", func := "loop.example/g00585/laws.FnExactFirstHole", spec := "fnExactFirstHole", recurses := true, loops := true, apart := false }
def FnExactFirstHoleSaid : Prop := fnExactFirstHoleRow.holds Try.pinned (OpenSpec.ofChange fnExactFirstHoleSpec)

/-- ITS FALSE NEIGHBOUR: 'it returns false'. Refute it at one input. -/
def fnExactFirstHoleWrong : ChangeSpec := { name := "fnExactFirstHole", fn := fun _ => fun
  | [d] => { results := [.lit (.bool false)], args := [d] }
  | _ => none }
def FnExactFirstHoleWrongFalsely : Prop := fnExactFirstHoleRow.holds Try.pinned (OpenSpec.ofChange fnExactFirstHoleWrong)

/-- 'laws.FnExactRenumberHoles': WHATEVER THE INPUT: true; the input reads as it did. -/
def fnExactRenumberHolesSpec : ChangeSpec := { name := "fnExactRenumberHoles", fn := fun _ => fun
  | [d] => { results := [.lit (.bool true)], args := [d] }
  | _ => none }
def fnExactRenumberHolesRow : OpenClaim := { program := "ytmmnjdhmankieaa", sum := "54befc45e57a4393bc6216f5c45c6fec87cb51018509c005018f95a597aeb551", func := "loop.example/g00585/laws.FnExactRenumberHoles", spec := "fnExactRenumberHoles", unfollowed := true, recurses := true, loops := true, apart := false }
def FnExactRenumberHolesSaid : Prop := fnExactRenumberHolesRow.holds Try.pinned (OpenSpec.ofChange fnExactRenumberHolesSpec)

/-- ITS FALSE NEIGHBOUR: 'it returns false'. Refute it at one input. -/
def fnExactRenumberHolesWrong : ChangeSpec := { name := "fnExactRenumberHoles", fn := fun _ => fun
  | [d] => { results := [.lit (.bool false)], args := [d] }
  | _ => none }
def FnExactRenumberHolesWrongFalsely : Prop := fnExactRenumberHolesRow.holds Try.pinned (OpenSpec.ofChange fnExactRenumberHolesWrong)

/-- 'laws.FnExactEraseMarks': WHATEVER THE INPUT: true; the input reads as it did. -/
def fnExactEraseMarksSpec : ChangeSpec := { name := "fnExactEraseMarks", fn := fun _ => fun
  | [d] => { results := [.lit (.bool true)], args := [d] }
  | _ => none }
def fnExactEraseMarksRow : OpenClaim := { program := "ytmmnjdhmankieaa", sum := "54befc45e57a4393bc6216f5c45c6fec87cb51018509c005018f95a597aeb551", func := "loop.example/g00585/laws.FnExactEraseMarks", spec := "fnExactEraseMarks", unfollowed := true, recurses := true, loops := true, apart := false }
def FnExactEraseMarksSaid : Prop := fnExactEraseMarksRow.holds Try.pinned (OpenSpec.ofChange fnExactEraseMarksSpec)

/-- ITS FALSE NEIGHBOUR: 'it returns false'. Refute it at one input. -/
def fnExactEraseMarksWrong : ChangeSpec := { name := "fnExactEraseMarks", fn := fun _ => fun
  | [d] => { results := [.lit (.bool false)], args := [d] }
  | _ => none }
def FnExactEraseMarksWrongFalsely : Prop := fnExactEraseMarksRow.holds Try.pinned (OpenSpec.ofChange fnExactEraseMarksWrong)

/-- 'laws.FnExactSameShape': WHATEVER THE INPUT: true; the input reads as it did. -/
def fnExactSameShapeSpec : ChangeSpec := { name := "fnExactSameShape", fn := fun _ => fun
  | [d1, d2] => { results := [.lit (.bool true)], args := [d1, d2] }
  | _ => none }
def fnExactSameShapeRow : OpenClaim := { program := "ytmmnjdhmankieaa", sum := "54befc45e57a4393bc6216f5c45c6fec87cb51018509c005018f95a597aeb551", func := "loop.example/g00585/laws.FnExactSameShape", spec := "fnExactSameShape", unfollowed := true, recurses := true, loops := true, apart := false }
def FnExactSameShapeSaid : Prop := fnExactSameShapeRow.holds Try.pinned (OpenSpec.ofChange fnExactSameShapeSpec)

/-- ITS FALSE NEIGHBOUR: 'it returns false'. Refute it at one input. -/
def fnExactSameShapeWrong : ChangeSpec := { name := "fnExactSameShape", fn := fun _ => fun
  | [d1, d2] => { results := [.lit (.bool false)], args := [d1, d2] }
  | _ => none }
def FnExactSameShapeWrongFalsely : Prop := fnExactSameShapeRow.holds Try.pinned (OpenSpec.ofChange fnExactSameShapeWrong)

/-- 'laws.FnExactFreeVars': WHATEVER THE INPUT: true; the input reads as it did. -/
def fnExactFreeVarsSpec : ChangeSpec := { name := "fnExactFreeVars", fn := fun _ => fun
  | [d] => { results := [.lit (.bool true)], args := [d] }
  | _ => none }
def fnExactFreeVarsRow : OpenClaim := { program := "ytmmnjdhmankieaa", sum := "54befc45e57a4393bc6216f5c45c6fec87cb51018509c005018f95a597aeb551", func := "loop.example/g00585/laws.FnExactFreeVars", spec := "fnExactFreeVars", recurses := true, loops := true, apart := false }
def FnExactFreeVarsSaid : Prop := fnExactFreeVarsRow.holds Try.pinned (OpenSpec.ofChange fnExactFreeVarsSpec)

/-- ITS FALSE NEIGHBOUR: 'it returns false'. Refute it at one input. -/
def fnExactFreeVarsWrong : ChangeSpec := { name := "fnExactFreeVars", fn := fun _ => fun
  | [d] => { results := [.lit (.bool false)], args := [d] }
  | _ => none }
def FnExactFreeVarsWrongFalsely : Prop := fnExactFreeVarsRow.holds Try.pinned (OpenSpec.ofChange fnExactFreeVarsWrong)

/-- 'laws.FnExactAllPaths': WHATEVER THE INPUT: true; the input reads as it did. -/
def fnExactAllPathsSpec : ChangeSpec := { name := "fnExactAllPaths", fn := fun _ => fun
  | [d] => { results := [.lit (.bool true)], args := [d] }
  | _ => none }
def fnExactAllPathsRow : OpenClaim := { program := "ytmmnjdhmankieaa", sum := "54befc45e57a4393bc6216f5c45c6fec87cb51018509c005018f95a597aeb551", func := "loop.example/g00585/laws.FnExactAllPaths", spec := "fnExactAllPaths", recurses := true, loops := true, apart := false }
def FnExactAllPathsSaid : Prop := fnExactAllPathsRow.holds Try.pinned (OpenSpec.ofChange fnExactAllPathsSpec)

/-- ITS FALSE NEIGHBOUR: 'it returns false'. Refute it at one input. -/
def fnExactAllPathsWrong : ChangeSpec := { name := "fnExactAllPaths", fn := fun _ => fun
  | [d] => { results := [.lit (.bool false)], args := [d] }
  | _ => none }
def FnExactAllPathsWrongFalsely : Prop := fnExactAllPathsRow.holds Try.pinned (OpenSpec.ofChange fnExactAllPathsWrong)

/- THE SECOND FORM. 'bulk': how many values and letters a reading holds, each counted each time it is reached (what is shared counts as often as it is met; a slice's spare places count too). A statement '..UptoSaid' is the law's where the arguments, and the package variables that the reading takes, are together of bulk at most 1048576: NARROWER than '..Said'. Prove '..Said' where nothing that the law and all that it calls make is longer than what came in: it says more and counts as full. Else prove '..UptoSaid'. A law counts once. -/
mutual
def uptoBulk {H : Type} : DataW H → Nat
  | .lit (.string bytes) => bytes.length + 1
  | .lit _ => 1
  | .nil => 1
  | .ptr d => uptoBulk d + 1
  | .slice elems spare => uptoBulkAll elems + uptoBulkAll spare + 1
  | .agg parts => uptoBulkAll parts + 1
  | .iface _ d => uptoBulk d + 1
  | .map entries => uptoBulkEntries entries + 1
  | .held _ => 1
def uptoBulkAll {H : Type} : List (DataW H) → Nat
  | [] => 0
  | d :: r => uptoBulk d + uptoBulkAll r
def uptoBulkEntries {H : Type} : List (Lit × DataW H) → Nat
  | [] => 0
  | x :: r => uptoBulkEntry x + uptoBulkEntries r
def uptoBulkEntry {H : Type} : Lit × DataW H → Nat
  | (.string bytes, d) => bytes.length + uptoBulk d + 1
  | (_, d) => uptoBulk d + 1
 end
def uptoSmall : (H : Type) → List (DataW H) → Bool := fun _ ds => decide (uptoBulkAll ds ≤ 1048576)
def OpenSpec.upto (s : _root_.Go.ChangeSpec) : _root_.Go.OpenSpec := { _root_.Go.OpenSpec.ofChange s with cond := some uptoSmall }

/-- 'laws.FnExactEqualSession', WHERE WHAT IT READS IS OF BULK AT MOST 1048576: true; the input reads as it did. -/
def fnExactEqualSessionUptoRow : OpenClaim := { program := "ytmmnjdhmankieaa", sum := "54befc45e57a4393bc6216f5c45c6fec87cb51018509c005018f95a597aeb551", func := "loop.example/g00585/laws.FnExactEqualSession", spec := "fnExactEqualSession", unfollowed := true, recurses := true, loops := true, apart := false, narrowed := true }
def FnExactEqualSessionUptoSaid : Prop := fnExactEqualSessionUptoRow.holds Try.pinned (OpenSpec.upto fnExactEqualSessionSpec)

/-- 'laws.FnExactInvertChanges', WHERE WHAT IT READS IS OF BULK AT MOST 1048576: true; the input reads as it did. -/
def fnExactInvertChangesUptoRow : OpenClaim := { program := "ytmmnjdhmankieaa", sum := "54befc45e57a4393bc6216f5c45c6fec87cb51018509c005018f95a597aeb551", func := "loop.example/g00585/laws.FnExactInvertChanges", spec := "fnExactInvertChanges", recurses := true, loops := true, apart := false, narrowed := true }
def FnExactInvertChangesUptoSaid : Prop := fnExactInvertChangesUptoRow.holds Try.pinned (OpenSpec.upto fnExactInvertChangesSpec)

/-- 'laws.FnExactFirstHole', WHERE WHAT IT READS IS OF BULK AT MOST 1048576: true; the input reads as it did. -/
def fnExactFirstHoleUptoRow : OpenClaim := { program := "ytmmnjdhmankieaa", sum := "54befc45e57a4393bc6216f5c45c6fec87cb51018509c005018f95a597aeb551", func := "loop.example/g00585/laws.FnExactFirstHole", spec := "fnExactFirstHole", recurses := true, loops := true, apart := false, narrowed := true }
def FnExactFirstHoleUptoSaid : Prop := fnExactFirstHoleUptoRow.holds Try.pinned (OpenSpec.upto fnExactFirstHoleSpec)

/-- 'laws.FnExactRenumberHoles', WHERE WHAT IT READS IS OF BULK AT MOST 1048576: true; the input reads as it did. -/
def fnExactRenumberHolesUptoRow : OpenClaim := { program := "ytmmnjdhmankieaa", sum := "54befc45e57a4393bc6216f5c45c6fec87cb51018509c005018f95a597aeb551", func := "loop.example/g00585/laws.FnExactRenumberHoles", spec := "fnExactRenumberHoles", unfollowed := true, recurses := true, loops := true, apart := false, narrowed := true }
def FnExactRenumberHolesUptoSaid : Prop := fnExactRenumberHolesUptoRow.holds Try.pinned (OpenSpec.upto fnExactRenumberHolesSpec)

/-- 'laws.FnExactEraseMarks', WHERE WHAT IT READS IS OF BULK AT MOST 1048576: true; the input reads as it did. -/
def fnExactEraseMarksUptoRow : OpenClaim := { program := "ytmmnjdhmankieaa", sum := "54befc45e57a4393bc6216f5c45c6fec87cb51018509c005018f95a597aeb551", func := "loop.example/g00585/laws.FnExactEraseMarks", spec := "fnExactEraseMarks", unfollowed := true, recurses := true, loops := true, apart := false, narrowed := true }
def FnExactEraseMarksUptoSaid : Prop := fnExactEraseMarksUptoRow.holds Try.pinned (OpenSpec.upto fnExactEraseMarksSpec)

/-- 'laws.FnExactSameShape', WHERE WHAT IT READS IS OF BULK AT MOST 1048576: true; the input reads as it did. -/
def fnExactSameShapeUptoRow : OpenClaim := { program := "ytmmnjdhmankieaa", sum := "54befc45e57a4393bc6216f5c45c6fec87cb51018509c005018f95a597aeb551", func := "loop.example/g00585/laws.FnExactSameShape", spec := "fnExactSameShape", unfollowed := true, recurses := true, loops := true, apart := false, narrowed := true }
def FnExactSameShapeUptoSaid : Prop := fnExactSameShapeUptoRow.holds Try.pinned (OpenSpec.upto fnExactSameShapeSpec)

/-- 'laws.FnExactFreeVars', WHERE WHAT IT READS IS OF BULK AT MOST 1048576: true; the input reads as it did. -/
def fnExactFreeVarsUptoRow : OpenClaim := { program := "ytmmnjdhmankieaa", sum := "54befc45e57a4393bc6216f5c45c6fec87cb51018509c005018f95a597aeb551", func := "loop.example/g00585/laws.FnExactFreeVars", spec := "fnExactFreeVars", recurses := true, loops := true, apart := false, narrowed := true }
def FnExactFreeVarsUptoSaid : Prop := fnExactFreeVarsUptoRow.holds Try.pinned (OpenSpec.upto fnExactFreeVarsSpec)

/-- 'laws.FnExactAllPaths', WHERE WHAT IT READS IS OF BULK AT MOST 1048576: true; the input reads as it did. -/
def fnExactAllPathsUptoRow : OpenClaim := { program := "ytmmnjdhmankieaa", sum := "54befc45e57a4393bc6216f5c45c6fec87cb51018509c005018f95a597aeb551", func := "loop.example/g00585/laws.FnExactAllPaths", spec := "fnExactAllPaths", recurses := true, loops := true, apart := false, narrowed := true }
def FnExactAllPathsUptoSaid : Prop := fnExactAllPathsUptoRow.holds Try.pinned (OpenSpec.upto fnExactAllPathsSpec)

end Rows
end Go.Proofs.Ytmmnjdhmankieaa
