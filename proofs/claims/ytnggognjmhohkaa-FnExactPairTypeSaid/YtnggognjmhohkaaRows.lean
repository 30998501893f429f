/-
  NARROWER THAN 'FOR EVERY INPUT', by the rows' own cells (each row's printed sentence says how): FnExactSizeOfType: loops · FnExactDepthOfType: loops · FnExactIsValidType: loops · FnExactEqualType: loops · FnExactArrowType: loops · FnExactPairType: loops · FnExactIsNote: loops.
  DERIVED. THE GIVEN ROWS OF THIS SEAT. 11 by the template 'for every input the law returns true; each argument reads behind the call as it read before'; 0 by the template 'total and deterministic' (their statements: YtnggognjmhohkaaTotals.lean).
  GIVEN WITH THE SEED: the statements are not yours to turn. If you find one false, say at which input.
  Laid BY PROGRAM, IN A SANDBOX (cutbox-rows.mjs): the forced cells as the released guide's own fill.sh prints them over the translation 9938b27fc6653b3f… (all of the seat's roots in one cut). By AI agents, Wed Nov 11 2026. No macro, syntax, notation, axiom, sorry.
-/
import Derived.Test.YtnggognjmhohkaaChecked
import GoSem.Claim
import GoSem.ClaimJoined
import GoSem.ClaimMapViews
import Derived.JoinedTies
import Derived.KernelRfl
namespace Go.Proofs.Ytnggognjmhohkaa
/- THE CELL 'sum', in the pinned program and in every row, IS THE sha256 OF THE DUMP (.gsa) THAT YtnggognjmhohkaaProg.lean LOADS. Nothing in Lean hashes anything: it is a label: what it is worth is what the hold of that sum in a sandbox is worth. -/
noncomputable def Try.pinned : Pinned := { name := "ytnggognjmhohkaa", sum := "9938b27fc6653b3f9d3e4f5ca7526d4eff30485e107c3883abeca41e50003ac8", checked := Try.checked }
namespace Rows
def none {H : Type} : Left H := { results := [], args := [] }

/-- 'laws.FnTypes': WHATEVER THE INPUT: true; the input reads as it did. -/
def fnTypesSpec : ChangeSpec := { name := "fnTypes", fn := fun _ => fun
  | [d] => { results := [.lit (.bool true)], args := [d] }
  | _ => none }
def fnTypesRow : OpenClaim := { program := "ytnggognjmhohkaa", sum := "9938b27fc6653b3f9d3e4f5ca7526d4eff30485e107c3883abeca41e50003ac8", func := "loop.example/g00585/laws.FnTypes", spec := "fnTypes", unfollowed := true, recurses := true, apart := false }
def FnTypesSaid : Prop := fnTypesRow.holds Try.pinned (OpenSpec.ofChange fnTypesSpec)

/-- ITS FALSE NEIGHBOUR: 'it returns false'. Refute it at one input. -/
def fnTypesWrong : ChangeSpec := { name := "fnTypes", fn := fun _ => fun
  | [d] => { results := [.lit (.bool false)], args := [d] }
  | _ => none }
def FnTypesWrongFalsely : Prop := fnTypesRow.holds Try.pinned (OpenSpec.ofChange fnTypesWrong)

/-- 'laws.FnExactSizeOfType': WHATEVER THE INPUT: true; the input reads as it did. -/
def fnExactSizeOfTypeSpec : ChangeSpec := { name := "fnExactSizeOfType", fn := fun _ => fun
  | [d] => { results := [.lit (.bool true)], args := [d] }
  | _ => none }
def fnExactSizeOfTypeRow : OpenClaim := { program := "ytnggognjmhohkaa", sum := "9938b27fc6653b3f9d3e4f5ca7526d4eff30485e107c3883abeca41e50003ac8", func := "loop.example/g00585/laws.FnExactSizeOfType", spec := "fnExactSizeOfType", recurses := true, loops := true, apart := false }
def FnExactSizeOfTypeSaid : Prop := fnExactSizeOfTypeRow.holds Try.pinned (OpenSpec.ofChange fnExactSizeOfTypeSpec)

/-- ITS FALSE NEIGHBOUR: 'it returns false'. Refute it at one input. -/
def fnExactSizeOfTypeWrong : ChangeSpec := { name := "fnExactSizeOfType", fn := fun _ => fun
  | [d] => { results := [.lit (.bool false)], args := [d] }
  | _ => none }
def FnExactSizeOfTypeWrongFalsely : Prop := fnExactSizeOfTypeRow.holds Try.pinned (OpenSpec.ofChange fnExactSizeOfTypeWrong)

/-- 'laws.FnExactDepthOfType': WHATEVER THE INPUT: true; the input reads as it did. -/
def fnExactDepthOfTypeSpec : ChangeSpec := { name := "fnExactDepthOfType", fn := fun _ => fun
  | [d] => { results := [.lit (.bool true)], args := [d] }
  | _ => none }
def fnExactDepthOfTypeRow : OpenClaim := { program := "ytnggognjmhohkaa", sum := "9938b27fc6653b3f9d3e4f5ca7526d4eff30485e107c3883abeca41e50003ac8", func := "loop.example/g00585/laws.FnExactDepthOfType", spec := "fnExactDepthOfType", recurses := true, loops := true, apart := false }
def FnExactDepthOfTypeSaid : Prop := fnExactDepthOfTypeRow.holds Try.pinned (OpenSpec.ofChange fnExactDepthOfTypeSpec)

/-- ITS FALSE NEIGHBOUR: 'it returns false'. Refute it at one input. -/
def fnExactDepthOfTypeWrong : ChangeSpec := { name := "fnExactDepthOfType", fn := fun _ => fun
  | [d] => { results := [.lit (.bool false)], args := [d] }
  | _ => none }
def FnExactDepthOfTypeWrongFalsely : Prop := fnExactDepthOfTypeRow.holds Try.pinned (OpenSpec.ofChange fnExactDepthOfTypeWrong)

/-- 'laws.FnExactIsValidType': WHATEVER THE INPUT: true; the input reads as it did. -/
def fnExactIsValidTypeSpec : ChangeSpec := { name := "fnExactIsValidType", fn := fun _ => fun
  | [d] => { results := [.lit (.bool true)], args := [d] }
  | _ => none }
def fnExactIsValidTypeRow : OpenClaim := { program := "ytnggognjmhohkaa", sum := "9938b27fc6653b3f9d3e4f5ca7526d4eff30485e107c3883abeca41e50003ac8", func := "loop.example/g00585/laws.FnExactIsValidType", spec := "fnExactIsValidType", unfollowed := true, recurses := true, loops := true, apart := false }
def FnExactIsValidTypeSaid : Prop := fnExactIsValidTypeRow.holds Try.pinned (OpenSpec.ofChange fnExactIsValidTypeSpec)

/-- ITS FALSE NEIGHBOUR: 'it returns false'. Refute it at one input. -/
def fnExactIsValidTypeWrong : ChangeSpec := { name := "fnExactIsValidType", fn := fun _ => fun
  | [d] => { results := [.lit (.bool false)], args := [d] }
  | _ => none }
def FnExactIsValidTypeWrongFalsely : Prop := fnExactIsValidTypeRow.holds Try.pinned (OpenSpec.ofChange fnExactIsValidTypeWrong)

/-- 'laws.FnExactEqualType': WHATEVER THE INPUT: true; the input reads as it did. -/
def fnExactEqualTypeSpec : ChangeSpec := { name := "fnExactEqualType", fn := fun _ => fun
  | [d1, d2] => { results := [.lit (.bool true)], args := [d1, d2] }
  | _ => none }
def fnExactEqualTypeRow : OpenClaim := { program := "ytnggognjmhohkaa", sum := "9938b27fc6653b3f9d3e4f5ca7526d4eff30485e107c3883abeca41e50003ac8", func := "loop.example/g00585/laws.FnExactEqualType", spec := "fnExactEqualType", recurses := true, loops := true, apart := false }
def FnExactEqualTypeSaid : Prop := fnExactEqualTypeRow.holds Try.pinned (OpenSpec.ofChange fnExactEqualTypeSpec)

/-- ITS FALSE NEIGHBOUR: 'it returns false'. Refute it at one input. -/
def fnExactEqualTypeWrong : ChangeSpec := { name := "fnExactEqualType", fn := fun _ => fun
  | [d1, d2] => { results := [.lit (.bool false)], args := [d1, d2] }
  | _ => none }
def FnExactEqualTypeWrongFalsely : Prop := fnExactEqualTypeRow.holds Try.pinned (OpenSpec.ofChange fnExactEqualTypeWrong)

/-- 'laws.FnExactNumType': WHATEVER THE INPUT: true; the input reads as it did. -/
def fnExactNumTypeSpec : ChangeSpec := { name := "fnExactNumType", fn := fun _ => fun
  | [] => { results := [.lit (.bool true)], args := [] }
  | _ => none }
def fnExactNumTypeRow : OpenClaim := { program := "ytnggognjmhohkaa", sum := "9938b27fc6653b3f9d3e4f5ca7526d4eff30485e107c3883abeca41e50003ac8", func := "loop.example/g00585/laws.FnExactNumType", spec := "fnExactNumType", recurses := true, apart := false }
def FnExactNumTypeSaid : Prop := fnExactNumTypeRow.holds Try.pinned (OpenSpec.ofChange fnExactNumTypeSpec)

/-- ITS FALSE NEIGHBOUR: 'it returns false'. Refute it at one input. -/
def fnExactNumTypeWrong : ChangeSpec := { name := "fnExactNumType", fn := fun _ => fun
  | [] => { results := [.lit (.bool false)], args := [] }
  | _ => none }
def FnExactNumTypeWrongFalsely : Prop := fnExactNumTypeRow.holds Try.pinned (OpenSpec.ofChange fnExactNumTypeWrong)

/-- 'laws.FnExactBoolType': WHATEVER THE INPUT: true; the input reads as it did. -/
def fnExactBoolTypeSpec : ChangeSpec := { name := "fnExactBoolType", fn := fun _ => fun
  | [] => { results := [.lit (.bool true)], args := [] }
  | _ => none }
def fnExactBoolTypeRow : OpenClaim := { program := "ytnggognjmhohkaa", sum := "9938b27fc6653b3f9d3e4f5ca7526d4eff30485e107c3883abeca41e50003ac8", func := "loop.example/g00585/laws.FnExactBoolType", spec := "fnExactBoolType", recurses := true, apart := false }
def FnExactBoolTypeSaid : Prop := fnExactBoolTypeRow.holds Try.pinned (OpenSpec.ofChange fnExactBoolTypeSpec)

/-- ITS FALSE NEIGHBOUR: 'it returns false'. Refute it at one input. -/
def fnExactBoolTypeWrong : ChangeSpec := { name := "fnExactBoolType", fn := fun _ => fun
  | [] => { results := [.lit (.bool false)], args := [] }
  | _ => none }
def FnExactBoolTypeWrongFalsely : Prop := fnExactBoolTypeRow.holds Try.pinned (OpenSpec.ofChange fnExactBoolTypeWrong)

/-- 'laws.FnExactUnknownType': WHATEVER THE INPUT: true; the input reads as it did. -/
def fnExactUnknownTypeSpec : ChangeSpec := { name := "fnExactUnknownType", fn := fun _ => fun
  | [] => { results := [.lit (.bool true)], args := [] }
  | _ => none }
def fnExactUnknownTypeRow : OpenClaim := { program := "ytnggognjmhohkaa", sum := "9938b27fc6653b3f9d3e4f5ca7526d4eff30485e107c3883abeca41e50003ac8", func := "loop.example/g00585/laws.FnExactUnknownType", spec := "fnExactUnknownType", recurses := true, apart := false }
def FnExactUnknownTypeSaid : Prop := fnExactUnknownTypeRow.holds Try.pinned (OpenSpec.ofChange fnExactUnknownTypeSpec)

/-- ITS FALSE NEIGHBOUR: 'it returns false'. Refute it at one input. -/
def fnExactUnknownTypeWrong : ChangeSpec := { name := "fnExactUnknownType", fn := fun _ => fun
  | [] => { results := [.lit (.bool false)], args := [] }
  | _ => none }
def FnExactUnknownTypeWrongFalsely : Prop := fnExactUnknownTypeRow.holds Try.pinned (OpenSpec.ofChange fnExactUnknownTypeWrong)

/-- 'laws.FnExactArrowType': WHATEVER THE INPUT: true; the input reads as it did. -/
def fnExactArrowTypeSpec : ChangeSpec := { name := "fnExactArrowType", fn := fun _ => fun
  | [d1, d2] => { results := [.lit (.bool true)], args := [d1, d2] }
  | _ => none }
def fnExactArrowTypeRow : OpenClaim := { program := "ytnggognjmhohkaa", sum := "9938b27fc6653b3f9d3e4f5ca7526d4eff30485e107c3883abeca41e50003ac8", func := "loop.example/g00585/laws.FnExactArrowType", spec := "fnExactArrowType", recurses := true, loops := true, apart := false }
def FnExactArrowTypeSaid : Prop := fnExactArrowTypeRow.holds Try.pinned (OpenSpec.ofChange fnExactArrowTypeSpec)

/-- ITS FALSE NEIGHBOUR: 'it returns false'. Refute it at one input. -/
def fnExactArrowTypeWrong : ChangeSpec := { name := "fnExactArrowType", fn := fun _ => fun
  | [d1, d2] => { results := [.lit (.bool false)], args := [d1, d2] }
  | _ => none }
def FnExactArrowTypeWrongFalsely : Prop := fnExactArrowTypeRow.holds Try.pinned (OpenSpec.ofChange fnExactArrowTypeWrong)

/-- 'laws.FnExactPairType': WHATEVER THE INPUT: true; the input reads as it did. -/
def fnExactPairTypeSpec : ChangeSpec := { name := "fnExactPairType", fn := fun _ => fun
  | [d1, d2] => { results := [.lit (.bool true)], args := [d1, d2] }
  | _ => none }
def fnExactPairTypeRow : OpenClaim := { program := "ytnggognjmhohkaa", sum := "9938b27fc6653b3f9d3e4f5ca7526d4eff30485e107c3883abeca41e50003ac8", func := "loop.example/g00585/laws.FnExactPairType", spec := "fnExactPairType", recurses := true, loops := true, apart := false }
def FnExactPairTypeSaid : Prop := fnExactPairTypeRow.holds Try.pinned (OpenSpec.ofChange fnExactPairTypeSpec)

/-- ITS FALSE NEIGHBOUR: 'it returns false'. Refute it at one input. -/
def fnExactPairTypeWrong : ChangeSpec := { name := "fnExactPairType", fn := fun _ => fun
  | [d1, d2] => { results := [.lit (.bool false)], args := [d1, d2] }
  | _ => none }
def FnExactPairTypeWrongFalsely : Prop := fnExactPairTypeRow.holds Try.pinned (OpenSpec.ofChange fnExactPairTypeWrong)

/-- 'laws.FnExactIsNote': WHATEVER THE INPUT: true; the input reads as it did. -/
def fnExactIsNoteSpec : ChangeSpec := { name := "fnExactIsNote", fn := fun _ => fun
  | [d] => { results := [.lit (.bool true)], args := [d] }
  | _ => none }
def fnExactIsNoteRow : OpenClaim := { program := "ytnggognjmhohkaa", sum := "9938b27fc6653b3f9d3e4f5ca7526d4eff30485e107c3883abeca41e50003ac8", func := "loop.example/g00585/laws.FnExactIsNote", spec := "fnExactIsNote", unfollowed := true, recurses := true, loops := true, apart := false }
def FnExactIsNoteSaid : Prop := fnExactIsNoteRow.holds Try.pinned (OpenSpec.ofChange fnExactIsNoteSpec)

/-- ITS FALSE NEIGHBOUR: 'it returns false'. Refute it at one input. -/
def fnExactIsNoteWrong : ChangeSpec := { name := "fnExactIsNote", fn := fun _ => fun
  | [d] => { results := [.lit (.bool false)], args := [d] }
  | _ => none }
def FnExactIsNoteWrongFalsely : Prop := fnExactIsNoteRow.holds Try.pinned (OpenSpec.ofChange fnExactIsNoteWrong)

/- THE SECOND FORM. 'bulk': how many values and letters a reading holds, each counted each time it is reached (what is shared counts as often as it is met; a slice's spare places count too). A statement '..UptoSaid' is the law's where the arguments, and the package variables that the reading takes, are together of bulk at most 1048576: NARROWER than '..Said'. Prove '..Said' where nothing that the law and all that it calls make is longer than what came in: it says more and counts as full. Else prove '..UptoSaid'. A law counts once. -/
mutual
def uptoBulk {H : Type} : DataW H → Nat
  | .lit (.string bytes) => bytes.length + 1
  | .lit _ => 1
  | .nil => 1
  | .ptr d => uptoBulk d + 1
  | .slice elems spare => uptoBulkAll elems + uptoBulkAll spare + 1
  | .agg parts => uptoBulkAll parts + 1
  | .iface _ d => uptoBulk d + 1
  | .map entries => uptoBulkEntries entries + 1
  | .held _ => 1
def uptoBulkAll {H : Type} : List (DataW H) → Nat
  | [] => 0
  | d :: r => uptoBulk d + uptoBulkAll r
def uptoBulkEntries {H : Type} : List (Lit × DataW H) → Nat
  | [] => 0
  | x :: r => uptoBulkEntry x + uptoBulkEntries r
def uptoBulkEntry {H : Type} : Lit × DataW H → Nat
  | (.string bytes, d) => bytes.length + uptoBulk d + 1
  | (_, d) => uptoBulk d + 1
 end
def uptoSmall : (H : Type) → List (DataW H) → Bool := fun _ ds => decide (uptoBulkAll ds ≤ 1048576)
def OpenSpec.upto (s : _root_.Go.ChangeSpec) : _root_.Go.OpenSpec := { _root_.Go.OpenSpec.ofChange s with cond := some uptoSmall }

/-- 'laws.FnTypes', WHERE WHAT IT READS IS OF BULK AT MOST 1048576: true; the input reads as it did. -/
def fnTypesUptoRow : OpenClaim := { program := "ytnggognjmhohkaa", sum := "9938b27fc6653b3f9d3e4f5ca7526d4eff30485e107c3883abeca41e50003ac8", func := "loop.example/g00585/laws.FnTypes", spec := "fnTypes", unfollowed := true, recurses := true, apart := false, narrowed := true }
def FnTypesUptoSaid : Prop := fnTypesUptoRow.holds Try.pinned (OpenSpec.upto fnTypesSpec)

/-- 'laws.FnExactSizeOfType', WHERE WHAT IT READS IS OF BULK AT MOST 1048576: true; the input reads as it did. -/
def fnExactSizeOfTypeUptoRow : OpenClaim := { program := "ytnggognjmhohkaa", sum := "9938b27fc6653b3f9d3e4f5ca7526d4eff30485e107c3883abeca41e50003ac8", func := "loop.example/g00585/laws.FnExactSizeOfType", spec := "fnExactSizeOfType", recurses := true, loops := true, apart := false, narrowed := true }
def FnExactSizeOfTypeUptoSaid : Prop := fnExactSizeOfTypeUptoRow.holds Try.pinned (OpenSpec.upto fnExactSizeOfTypeSpec)

/-- 'laws.FnExactDepthOfType', WHERE WHAT IT READS IS OF BULK AT MOST 1048576: true; the input reads as it did. -/
def fnExactDepthOfTypeUptoRow : OpenClaim := { program := "ytnggognjmhohkaa", sum := "9938b27fc6653b3f9d3e4f5ca7526d4eff30485e107c3883abeca41e50003ac8", func := "loop.example/g00585/laws.FnExactDepthOfType", spec := "fnExactDepthOfType", recurses := true, loops := true, apart := false, narrowed := true }
def FnExactDepthOfTypeUptoSaid : Prop := fnExactDepthOfTypeUptoRow.holds Try.pinned (OpenSpec.upto fnExactDepthOfTypeSpec)

/-- 'laws.FnExactIsValidType', WHERE WHAT IT READS IS OF BULK AT MOST 1048576: true; the input reads as it did. -/
def fnExactIsValidTypeUptoRow : OpenClaim := { program := "ytnggognjmhohkaa", sum := "9938b27fc6653b3f9d3e4f5ca7526d4eff30485e107c3883abeca41e50003ac8", func := "loop.example/g00585/laws.FnExactIsValidType", spec := "fnExactIsValidType", unfollowed := true, recurses := true, loops := true, apart := false, narrowed := true }
def FnExactIsValidTypeUptoSaid : Prop := fnExactIsValidTypeUptoRow.holds Try.pinned (OpenSpec.upto fnExactIsValidTypeSpec)

/-- 'laws.FnExactEqualType', WHERE WHAT IT READS IS OF BULK AT MOST 1048576: true; the input reads as it did. -/
def fnExactEqualTypeUptoRow : OpenClaim := { program := "ytnggognjmhohkaa", sum := "9938b27fc6653b3f9d3e4f5ca7526d4eff30485e107c3883abeca41e50003ac8", func := "loop.example/g00585/laws.FnExactEqualType", spec := "fnExactEqualType", recurses := true, loops := true, apart := false, narrowed := true }
def FnExactEqualTypeUptoSaid : Prop := fnExactEqualTypeUptoRow.holds Try.pinned (OpenSpec.upto fnExactEqualTypeSpec)

/-- 'laws.FnExactNumType', WHERE WHAT IT READS IS OF BULK AT MOST 1048576: true; the input reads as it did. -/
def fnExactNumTypeUptoRow : OpenClaim := { program := "ytnggognjmhohkaa", sum := "9938b27fc6653b3f9d3e4f5ca7526d4eff30485e107c3883abeca41e50003ac8", func := "loop.example/g00585/laws.FnExactNumType", spec := "fnExactNumType", recurses := true, apart := false, narrowed := true }
def FnExactNumTypeUptoSaid : Prop := fnExactNumTypeUptoRow.holds Try.pinned (OpenSpec.upto fnExactNumTypeSpec)

/-- 'laws.FnExactBoolType', WHERE WHAT IT READS IS OF BULK AT MOST 1048576: true; the input reads as it did. -/
def fnExactBoolTypeUptoRow : OpenClaim := { program := "ytnggognjmhohkaa", sum := "9938b27fc6653b3f9d3e4f5ca7526d4eff30485e107c3883abeca41e50003ac8", func := "loop.example/g00585/laws.FnExactBoolType", spec := "fnExactBoolType", recurses := true, apart := false, narrowed := true }
def FnExactBoolTypeUptoSaid : Prop := fnExactBoolTypeUptoRow.holds Try.pinned (OpenSpec.upto fnExactBoolTypeSpec)

/-- 'laws.FnExactUnknownType', WHERE WHAT IT READS IS OF BULK AT MOST 1048576: true; the input reads as it did. -/
def fnExactUnknownTypeUptoRow : OpenClaim := { program := "ytnggognjmhohkaa", sum := "9938b27fc6653b3f9d3e4f5ca7526d4eff30485e107c3883abeca41e50003ac8", func := "loop.example/g00585/laws.FnExactUnknownType", spec := "fnExactUnknownType", recurses := true, apart := false, narrowed := true }
def FnExactUnknownTypeUptoSaid : Prop := fnExactUnknownTypeUptoRow.holds Try.pinned (OpenSpec.upto fnExactUnknownTypeSpec)

/-- 'laws.FnExactArrowType', WHERE WHAT IT READS IS OF BULK AT MOST 1048576: true; the input reads as it did. -/
def fnExactArrowTypeUptoRow : OpenClaim := { program := "ytnggognjmhohkaa", sum := "9938b27fc6653b3f9d3e4f5ca7526d4eff30485e107c3883abeca41e50003ac8", func := "loop.example/g00585/laws.FnExactArrowType", spec := "fnExactArrowType", recurses := true, loops := true, apart := false, narrowed := true }
def FnExactArrowTypeUptoSaid : Prop := fnExactArrowTypeUptoRow.holds Try.pinned (OpenSpec.upto fnExactArrowTypeSpec)

/-- 'laws.FnExactPairType', WHERE WHAT IT READS IS OF BULK AT MOST 1048576: true; the input reads as it did. -/
def fnExactPairTypeUptoRow : OpenClaim := { program := "ytnggognjmhohkaa", sum := "9938b27fc6653b3f9d3e4f5ca7526d4eff30485e107c3883abeca41e50003ac8", func := "loop.example/g00585/laws.FnExactPairType", spec := "fnExactPairType", recurses := true, loops := true, apart := false, narrowed := true }
def FnExactPairTypeUptoSaid : Prop := fnExactPairTypeUptoRow.holds Try.pinned (OpenSpec.upto fnExactPairTypeSpec)

/-- 'laws.FnExactIsNote', WHERE WHAT IT READS IS OF BULK AT MOST 1048576: true; the input reads as it did. -/
def fnExactIsNoteUptoRow : OpenClaim := { program := "ytnggognjmhohkaa", sum := "9938b27fc6653b3f9d3e4f5ca7526d4eff30485e107c3883abeca41e50003ac8", func := "loop.example/g00585/laws.FnExactIsNote", spec := "fnExactIsNote", unfollowed := true, recurses := true, loops := true, apart := false, narrowed := true }
def FnExactIsNoteUptoSaid : Prop := fnExactIsNoteUptoRow.holds Try.pinned (OpenSpec.upto fnExactIsNoteSpec)

end Rows
end Go.Proofs.Ytnggognjmhohkaa
