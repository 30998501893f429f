/-
  NARROWER THAN 'FOR EVERY INPUT', by the rows' own cells (each row's printed sentence says how): FnExactCountHoles: loops · FnExactEqualClosure: loops · FnExactEqualChanges: loops · FnExactFirstHole: loops.
  DERIVED. THE GIVEN ROWS OF THIS SEAT. 8 by the template 'for every input the law returns true; each argument reads behind the call as it read before'; 0 by the template 'total and deterministic' (their statements: YtajikfageppobaaTotals.lean).
  GIVEN WITH THE SEED: the statements are not yours to turn. If you find one false, say at which input.
  Laid BY PROGRAM, IN A SANDBOX (cutbox-rows.mjs): the forced cells as the released guide's own fill.sh prints them over the translation 14862d30f8233822… (all of the seat's roots in one cut). By AI agents, Wed Nov 11 2026. No macro, syntax, notation, axiom, sorry.
-/
import Derived.Test.YtajikfageppobaaChecked
import GoSem.Claim
import GoSem.ClaimJoined
import GoSem.ClaimMapViews
import Derived.JoinedTies
import Derived.KernelRfl
namespace Go.Proofs.Ytajikfageppobaa
/- THE CELL 'sum', in the pinned program and in every row, IS THE sha256 OF THE DUMP (.gsa) THAT YtajikfageppobaaProg.lean LOADS. Nothing in Lean hashes anything: it is a label: what it is worth is what the hold of that sum in a sandbox is worth. -/
noncomputable def Try.pinned : Pinned := { name := "ytajikfageppobaa", sum := "14862d30f823382297bbad5211687e907582557f048b46b28097abe050bdf5f1", checked := Try.checked }
namespace Rows
def none {H : Type} : Left H := { results := [], args := [] }

/-- 'laws.FnExactFormName': WHATEVER THE INPUT: true; the input reads as it did. -/
def fnExactFormNameSpec : ChangeSpec := { name := "fnExactFormName", fn := fun _ => fun
  | [d] => { results := [.lit (.bool true)], args := [d] }
  | _ => none }
def fnExactFormNameRow : OpenClaim := { program := "ytajikfageppobaa", sum := "14862d30f823382297bbad5211687e907582557f048b46b28097abe050bdf5f1", func := "loop.example/g00585/laws.FnExactFormName", spec := "fnExactFormName", apart := false }
def FnExactFormNameSaid : Prop := fnExactFormNameRow.holds Try.pinned (OpenSpec.ofChange fnExactFormNameSpec)

/-- ITS FALSE NEIGHBOUR: 'it returns false'. Refute it at one input. -/
def fnExactFormNameWrong : ChangeSpec := { name := "fnExactFormName", fn := fun _ => fun
  | [d] => { results := [.lit (.bool false)], args := [d] }
  | _ => none }
def FnExactFormNameWrongFalsely : Prop := fnExactFormNameRow.holds Try.pinned (OpenSpec.ofChange fnExactFormNameWrong)

/-- 'laws.FnExactStatusText': WHATEVER THE INPUT: true; the input reads as it did. -/
def fnExactStatusTextSpec : ChangeSpec := { name := "fnExactStatusText", fn := fun _ => fun
  | [d] => { results := [.lit (.bool true)], args := [d] }
  | _ => none }
def fnExactStatusTextRow : OpenClaim := { program := "ytajikfageppobaa", sum := "14862d30f823382297bbad5211687e907582557f048b46b28097abe050bdf5f1", func := "loop.example/g00585/laws.FnExactStatusText", spec := "fnExactStatusText", apart := false }
def FnExactStatusTextSaid : Prop := fnExactStatusTextRow.holds Try.pinned (OpenSpec.ofChange fnExactStatusTextSpec)

/-- ITS FALSE NEIGHBOUR: 'it returns false'. Refute it at one input. -/
def fnExactStatusTextWrong : ChangeSpec := { name := "fnExactStatusText", fn := fun _ => fun
  | [d] => { results := [.lit (.bool false)], args := [d] }
  | _ => none }
def FnExactStatusTextWrongFalsely : Prop := fnExactStatusTextRow.holds Try.pinned (OpenSpec.ofChange fnExactStatusTextWrong)

/-- 'laws.FnExactExampleText': WHATEVER THE INPUT: true; the input reads as it did. -/
def fnExactExampleTextSpec : ChangeSpec := { name := "fnExactExampleText", fn := fun _ => fun
  | [d] => { results := [.lit (.bool true)], args := [d] }
  | _ => none }
def fnExactExampleTextRow : OpenClaim := { program := "ytajikfageppobaa", sum := "14862d30f823382297bbad5211687e907582557f048b46b28097abe050bdf5f1", func := "loop.example/g00585/laws.FnExactExampleText", spec := "fnExactExampleText", apart := false }
def FnExactExampleTextSaid : Prop := fnExactExampleTextRow.holds Try.pinned (OpenSpec.ofChange fnExactExampleTextSpec)

/-- ITS FALSE NEIGHBOUR: 'it returns false'. Refute it at one input. -/
def fnExactExampleTextWrong : ChangeSpec := { name := "fnExactExampleText", fn := fun _ => fun
  | [d] => { results := [.lit (.bool false)], args := [d] }
  | _ => none }
def FnExactExampleTextWrongFalsely : Prop := fnExactExampleTextRow.holds Try.pinned (OpenSpec.ofChange fnExactExampleTextWrong)

/-- 'laws.FnExactCountHoles': WHATEVER THE INPUT: true; the input reads as it did. -/
def fnExactCountHolesSpec : ChangeSpec := { name := "fnExactCountHoles", fn := fun _ => fun
  | [d] => { results := [.lit (.bool true)], args := [d] }
  | _ => none }
def fnExactCountHolesRow : OpenClaim := { program := "ytajikfageppobaa", sum := "14862d30f823382297bbad5211687e907582557f048b46b28097abe050bdf5f1", func := "loop.example/g00585/laws.FnExactCountHoles", spec := "fnExactCountHoles", unfollowed := true, recurses := true, loops := true, apart := false }
def FnExactCountHolesSaid : Prop := fnExactCountHolesRow.holds Try.pinned (OpenSpec.ofChange fnExactCountHolesSpec)

/-- ITS FALSE NEIGHBOUR: 'it returns false'. Refute it at one input. -/
def fnExactCountHolesWrong : ChangeSpec := { name := "fnExactCountHoles", fn := fun _ => fun
  | [d] => { results := [.lit (.bool false)], args := [d] }
  | _ => none }
def FnExactCountHolesWrongFalsely : Prop := fnExactCountHolesRow.holds Try.pinned (OpenSpec.ofChange fnExactCountHolesWrong)

/-- 'laws.FnExactEqualClosure': WHATEVER THE INPUT: true; the input reads as it did. -/
def fnExactEqualClosureSpec : ChangeSpec := { name := "fnExactEqualClosure", fn := fun _ => fun
  | [d1, d2] => { results := [.lit (.bool true)], args := [d1, d2] }
  | _ => none }
def fnExactEqualClosureRow : OpenClaim := { program := "ytajikfageppobaa", sum := "14862d30f823382297bbad5211687e907582557f048b46b28097abe050bdf5f1", func := "loop.example/g00585/laws.FnExactEqualClosure", spec := "fnExactEqualClosure", recurses := true, loops := true, apart := false }
def FnExactEqualClosureSaid : Prop := fnExactEqualClosureRow.holds Try.pinned (OpenSpec.ofChange fnExactEqualClosureSpec)

/-- ITS FALSE NEIGHBOUR: 'it returns false'. Refute it at one input. -/
def fnExactEqualClosureWrong : ChangeSpec := { name := "fnExactEqualClosure", fn := fun _ => fun
  | [d1, d2] => { results := [.lit (.bool false)], args := [d1, d2] }
  | _ => none }
def FnExactEqualClosureWrongFalsely : Prop := fnExactEqualClosureRow.holds Try.pinned (OpenSpec.ofChange fnExactEqualClosureWrong)

/-- 'laws.FnExactEqualChanges': WHATEVER THE INPUT: true; the input reads as it did. -/
def fnExactEqualChangesSpec : ChangeSpec := { name := "fnExactEqualChanges", fn := fun _ => fun
  | [d1, d2] => { results := [.lit (.bool true)], args := [d1, d2] }
  | _ => none }
def fnExactEqualChangesRow : OpenClaim := { program := "ytajikfageppobaa", sum := "14862d30f823382297bbad5211687e907582557f048b46b28097abe050bdf5f1", func := "loop.example/g00585/laws.FnExactEqualChanges", spec := "fnExactEqualChanges", unfollowed := true, recurses := true, loops := true, apart := false }
def FnExactEqualChangesSaid : Prop := fnExactEqualChangesRow.holds Try.pinned (OpenSpec.ofChange fnExactEqualChangesSpec)

/-- ITS FALSE NEIGHBOUR: 'it returns false'. Refute it at one input. -/
def fnExactEqualChangesWrong : ChangeSpec := { name := "fnExactEqualChanges", fn := fun _ => fun
  | [d1, d2] => { results := [.lit (.bool false)], args := [d1, d2] }
  | _ => none }
def FnExactEqualChangesWrongFalsely : Prop := fnExactEqualChangesRow.holds Try.pinned (OpenSpec.ofChange fnExactEqualChangesWrong)

/-- 'laws.FnExactEqualConflicts': WHATEVER THE INPUT: true; the input reads as it did. -/
def fnExactEqualConflictsSpec : ChangeSpec := { name := "fnExactEqualConflicts", fn := fun _ => fun
  | [d1, d2] => { results := [.lit (.bool true)], args := [d1, d2] }
  | _ => none }
def fnExactEqualConflictsRow : OpenClaim := { program := "ytajikfageppobaa", sum := "14862d30f823382297bbad5211687e907582557f048b46b28097abe050bdf5f1", func := "loop.example/g00585/laws.FnExactEqualConflicts", spec := "fnExactEqualConflicts", unfollowed := true, recurses := true, apart := false }
def FnExactEqualConflictsSaid : Prop := fnExactEqualConflictsRow.holds Try.pinned (OpenSpec.ofChange fnExactEqualConflictsSpec)

/-- ITS FALSE NEIGHBOUR: 'it returns false'. Refute it at one input. -/
def fnExactEqualConflictsWrong : ChangeSpec := { name := "fnExactEqualConflicts", fn := fun _ => fun
  | [d1, d2] => { results := [.lit (.bool false)], args := [d1, d2] }
  | _ => none }
def FnExactEqualConflictsWrongFalsely : Prop := fnExactEqualConflictsRow.holds Try.pinned (OpenSpec.ofChange fnExactEqualConflictsWrong)

/-- 'laws.FnExactFirstHole': WHATEVER THE INPUT: true; the input reads as it did. -/
def fnExactFirstHoleSpec : ChangeSpec := { name := "fnExactFirstHole", fn := fun _ => fun
  | [d] => { results := [.lit (.bool true)], args := [d] }
  | _ => none }
def fnExactFirstHoleRow : OpenClaim := { program := "ytajikfageppobaa", sum := "14862d30f823382297bbad5211687e907582557f048b46b28097abe050bdf5f1", func := "loop.example/g00585/laws.FnExactFirstHole", spec := "fnExactFirstHole", recurses := true, loops := true, apart := false }
def FnExactFirstHoleSaid : Prop := fnExactFirstHoleRow.holds Try.pinned (OpenSpec.ofChange fnExactFirstHoleSpec)

/-- ITS FALSE NEIGHBOUR: 'it returns false'. Refute it at one input. -/
def fnExactFirstHoleWrong : ChangeSpec := { name := "fnExactFirstHole", fn := fun _ => fun
  | [d] => { results := [.lit (.bool false)], args := [d] }
  | _ => none }
def FnExactFirstHoleWrongFalsely : Prop := fnExactFirstHoleRow.holds Try.pinned (OpenSpec.ofChange fnExactFirstHoleWrong)

/- THE SECOND FORM. 'bulk': how many values and letters a reading holds, each counted each time it is reached (what is shared counts as often as it is met; a slice's spare places count too). A statement '..UptoSaid' is the law's where the arguments, and the package variables that the reading takes, are together of bulk at most 1048576: NARROWER than '..Said'. Prove '..Said' where nothing that the law and all that it calls make is longer than what came in: it says more and counts as full. Else prove '..UptoSaid'. A law counts once. -/
mutual
def uptoBulk {H : Type} : DataW H → Nat
  | .lit (.string bytes) => bytes.length + 1
  | .lit _ => 1
  | .nil => 1
  | .ptr d => uptoBulk d + 1
  | .slice elems spare => uptoBulkAll elems + uptoBulkAll spare + 1
  | .agg parts => uptoBulkAll parts + 1
  | .iface _ d => uptoBulk d + 1
  | .map entries => uptoBulkEntries entries + 1
  | .held _ => 1
def uptoBulkAll {H : Type} : List (DataW H) → Nat
  | [] => 0
  | d :: r => uptoBulk d + uptoBulkAll r
def uptoBulkEntries {H : Type} : List (Lit × DataW H) → Nat
  | [] => 0
  | x :: r => uptoBulkEntry x + uptoBulkEntries r
def uptoBulkEntry {H : Type} : Lit × DataW H → Nat
  | (.string bytes, d) => bytes.length + uptoBulk d + 1
  | (_, d) => uptoBulk d + 1
 end
def uptoSmall : (H : Type) → List (DataW H) → Bool := fun _ ds => decide (uptoBulkAll ds ≤ 1048576)
def OpenSpec.upto (s : _root_.Go.ChangeSpec) : _root_.Go.OpenSpec := { _root_.Go.OpenSpec.ofChange s with cond := some uptoSmall }

/-- 'laws.FnExactFormName', WHERE WHAT IT READS IS OF BULK AT MOST 1048576: true; the input reads as it did. -/
def fnExactFormNameUptoRow : OpenClaim := { program := "ytajikfageppobaa", sum := "14862d30f823382297bbad5211687e907582557f048b46b28097abe050bdf5f1", func := "loop.example/g00585/laws.FnExactFormName", spec := "fnExactFormName", apart := false, narrowed := true }
def FnExactFormNameUptoSaid : Prop := fnExactFormNameUptoRow.holds Try.pinned (OpenSpec.upto fnExactFormNameSpec)

/-- 'laws.FnExactStatusText', WHERE WHAT IT READS IS OF BULK AT MOST 1048576: true; the input reads as it did. -/
def fnExactStatusTextUptoRow : OpenClaim := { program := "ytajikfageppobaa", sum := "14862d30f823382297bbad5211687e907582557f048b46b28097abe050bdf5f1", func := "loop.example/g00585/laws.FnExactStatusText", spec := "fnExactStatusText", apart := false, narrowed := true }
def FnExactStatusTextUptoSaid : Prop := fnExactStatusTextUptoRow.holds Try.pinned (OpenSpec.upto fnExactStatusTextSpec)

/-- 'laws.FnExactExampleText', WHERE WHAT IT READS IS OF BULK AT MOST 1048576: true; the input reads as it did. -/
def fnExactExampleTextUptoRow : OpenClaim := { program := "ytajikfageppobaa", sum := "14862d30f823382297bbad5211687e907582557f048b46b28097abe050bdf5f1", func := "loop.example/g00585/laws.FnExactExampleText", spec := "fnExactExampleText", apart := false, narrowed := true }
def FnExactExampleTextUptoSaid : Prop := fnExactExampleTextUptoRow.holds Try.pinned (OpenSpec.upto fnExactExampleTextSpec)

/-- 'laws.FnExactCountHoles', WHERE WHAT IT READS IS OF BULK AT MOST 1048576: true; the input reads as it did. -/
def fnExactCountHolesUptoRow : OpenClaim := { program := "ytajikfageppobaa", sum := "14862d30f823382297bbad5211687e907582557f048b46b28097abe050bdf5f1", func := "loop.example/g00585/laws.FnExactCountHoles", spec := "fnExactCountHoles", unfollowed := true, recurses := true, loops := true, apart := false, narrowed := true }
def FnExactCountHolesUptoSaid : Prop := fnExactCountHolesUptoRow.holds Try.pinned (OpenSpec.upto fnExactCountHolesSpec)

/-- 'laws.FnExactEqualClosure', WHERE WHAT IT READS IS OF BULK AT MOST 1048576: true; the input reads as it did. -/
def fnExactEqualClosureUptoRow : OpenClaim := { program := "ytajikfageppobaa", sum := "14862d30f823382297bbad5211687e907582557f048b46b28097abe050bdf5f1", func := "loop.example/g00585/laws.FnExactEqualClosure", spec := "fnExactEqualClosure", recurses := true, loops := true, apart := false, narrowed := true }
def FnExactEqualClosureUptoSaid : Prop := fnExactEqualClosureUptoRow.holds Try.pinned (OpenSpec.upto fnExactEqualClosureSpec)

/-- 'laws.FnExactEqualChanges', WHERE WHAT IT READS IS OF BULK AT MOST 1048576: true; the input reads as it did. -/
def fnExactEqualChangesUptoRow : OpenClaim := { program := "ytajikfageppobaa", sum := "14862d30f823382297bbad5211687e907582557f048b46b28097abe050bdf5f1", func := "loop.example/g00585/laws.FnExactEqualChanges", spec := "fnExactEqualChanges", unfollowed := true, recurses := true, loops := true, apart := false, narrowed := true }
def FnExactEqualChangesUptoSaid : Prop := fnExactEqualChangesUptoRow.holds Try.pinned (OpenSpec.upto fnExactEqualChangesSpec)

/-- 'laws.FnExactEqualConflicts', WHERE WHAT IT READS IS OF BULK AT MOST 1048576: true; the input reads as it did. -/
def fnExactEqualConflictsUptoRow : OpenClaim := { program := "ytajikfageppobaa", sum := "14862d30f823382297bbad5211687e907582557f048b46b28097abe050bdf5f1", func := "loop.example/g00585/laws.FnExactEqualConflicts", spec := "fnExactEqualConflicts", unfollowed := true, recurses := true, apart := false, narrowed := true }
def FnExactEqualConflictsUptoSaid : Prop := fnExactEqualConflictsUptoRow.holds Try.pinned (OpenSpec.upto fnExactEqualConflictsSpec)

/-- 'laws.FnExactFirstHole', WHERE WHAT IT READS IS OF BULK AT MOST 1048576: true; the input reads as it did. -/
def fnExactFirstHoleUptoRow : OpenClaim := { program := "ytajikfageppobaa", sum := "14862d30f823382297bbad5211687e907582557f048b46b28097abe050bdf5f1", func := "loop.example/g00585/laws.FnExactFirstHole", spec := "fnExactFirstHole", recurses := true, loops := true, apart := false, narrowed := true }
def FnExactFirstHoleUptoSaid : Prop := fnExactFirstHoleUptoRow.holds Try.pinned (OpenSpec.upto fnExactFirstHoleSpec)

end Rows
end Go.Proofs.Ytajikfageppobaa
