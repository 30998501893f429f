/-
  NARROWER THAN 'FOR EVERY INPUT', by the rows' own cells (each row's printed sentence says how): FnExactCountMarks: loops · FnExactHasUniqueHoles: loops.
  DERIVED. THE GIVEN ROWS OF THIS SEAT. 2 by the template 'for every input the law returns true; each argument reads behind the call as it read before'; 0 by the template 'total and deterministic' (their statements: YtpioddfihaabdaaTotals.lean).
  GIVEN WITH THE SEED: the statements are not yours to turn. If you find one false, say at which input.
  Laid BY PROGRAM, IN A SANDBOX (cutbox-rows.mjs): the forced cells as the released guide's own fill.sh prints them over the translation 3fef225c0c7dfd07… (all of the seat's roots in one cut). By AI agents, Wed Nov 11 2026. No macro, syntax, notation, axiom, sorry.
-/
import Derived.Test.YtpioddfihaabdaaChecked
import GoSem.Claim
import GoSem.ClaimJoined
import GoSem.ClaimMapViews
import Derived.JoinedTies
import Derived.KernelRfl
namespace Go.Proofs.Ytpioddfihaabdaa
/- THE CELL 'sum', in the pinned program and in every row, IS THE sha256 OF THE DUMP (.gsa) THAT YtpioddfihaabdaaProg.lean LOADS. Nothing in Lean hashes anything: it is a label: what it is worth is what the hold of that sum in a sandbox is worth. -/
noncomputable def Try.pinned : Pinned := { name := "ytpioddfihaabdaa", sum := "3fef225c0c7dfd07450d50ee22235675b497b473c86a494642cccf46206eb4fb", checked := Try.checked }
namespace Rows
def none {H : Type} : Left H := { results := [], args := [] }

/-- 'laws.FnExactCountMarks': WHATEVER THE INPUT: true; the input reads as it did. -/
def fnExactCountMarksSpec : ChangeSpec := { name := "fnExactCountMarks", fn := fun _ => fun
  | [d] => { results := [.lit (.bool true)], args := [d] }
  | _ => none }
def fnExactCountMarksRow : OpenClaim := { program := "ytpioddfihaabdaa", sum := "3fef225c0c7dfd07450d50ee22235675b497b473c86a494642cccf46206eb4fb", func := "loop.example/g00585/laws.FnExactCountMarks", spec := "fnExactCountMarks", unfollowed := true, recurses := true, loops := true, apart := false }
def FnExactCountMarksSaid : Prop := fnExactCountMarksRow.holds Try.pinned (OpenSpec.ofChange fnExactCountMarksSpec)

/-- ITS FALSE NEIGHBOUR: 'it returns false'. Refute it at one input. -/
def fnExactCountMarksWrong : ChangeSpec := { name := "fnExactCountMarks", fn := fun _ => fun
  | [d] => { results := [.lit (.bool false)], args := [d] }
  | _ => none }
def FnExactCountMarksWrongFalsely : Prop := fnExactCountMarksRow.holds Try.pinned (OpenSpec.ofChange fnExactCountMarksWrong)

/-- 'laws.FnExactHasUniqueHoles': WHATEVER THE INPUT: true; the input reads as it did. -/
def fnExactHasUniqueHolesSpec : ChangeSpec := { name := "fnExactHasUniqueHoles", fn := fun _ => fun
  | [d] => { results := [.lit (.bool true)], args := [d] }
  | _ => none }
def fnExactHasUniqueHolesRow : OpenClaim := { program := "ytpioddfihaabdaa", sum := "3fef225c0c7dfd07450d50ee22235675b497b473c86a494642cccf46206eb4fb", func := "loop.example/g00585/laws.FnExactHasUniqueHoles", spec := "fnExactHasUniqueHoles", unfollowed := true, recurses := true, loops := true, apart := false }
def FnExactHasUniqueHolesSaid : Prop := fnExactHasUniqueHolesRow.holds Try.pinned (OpenSpec.ofChange fnExactHasUniqueHolesSpec)

/-- ITS FALSE NEIGHBOUR: 'it returns false'. Refute it at one input. -/
def fnExactHasUniqueHolesWrong : ChangeSpec := { name := "fnExactHasUniqueHoles", fn := fun _ => fun
  | [d] => { results := [.lit (.bool false)], args := [d] }
  | _ => none }
def FnExactHasUniqueHolesWrongFalsely : Prop := fnExactHasUniqueHolesRow.holds Try.pinned (OpenSpec.ofChange fnExactHasUniqueHolesWrong)

/- THE SECOND FORM. 'bulk': how many values and letters a reading holds, each counted each time it is reached (what is shared counts as often as it is met; a slice's spare places count too). A statement '..UptoSaid' is the law's where the arguments, and the package variables that the reading takes, are together of bulk at most 1048576: NARROWER than '..Said'. Prove '..Said' where nothing that the law and all that it calls make is longer than what came in: it says more and counts as full. Else prove '..UptoSaid'. A law counts once. -/
mutual
def uptoBulk {H : Type} : DataW H → Nat
  | .lit (.string bytes) => bytes.length + 1
  | .lit _ => 1
  | .nil => 1
  | .ptr d => uptoBulk d + 1
  | .slice elems spare => uptoBulkAll elems + uptoBulkAll spare + 1
  | .agg parts => uptoBulkAll parts + 1
  | .iface _ d => uptoBulk d + 1
  | .map entries => uptoBulkEntries entries + 1
  | .held _ => 1
def uptoBulkAll {H : Type} : List (DataW H) → Nat
  | [] => 0
  | d :: r => uptoBulk d + uptoBulkAll r
def uptoBulkEntries {H : Type} : List (Lit × DataW H) → Nat
  | [] => 0
  | x :: r => uptoBulkEntry x + uptoBulkEntries r
def uptoBulkEntry {H : Type} : Lit × DataW H → Nat
  | (.string bytes, d) => bytes.length + uptoBulk d + 1
  | (_, d) => uptoBulk d + 1
 end
def uptoSmall : (H : Type) → List (DataW H) → Bool := fun _ ds => decide (uptoBulkAll ds ≤ 1048576)
def OpenSpec.upto (s : _root_.Go.ChangeSpec) : _root_.Go.OpenSpec := { _root_.Go.OpenSpec.ofChange s with cond := some uptoSmall }

/-- 'laws.FnExactCountMarks', WHERE WHAT IT READS IS OF BULK AT MOST 1048576: true; the input reads as it did. -/
def fnExactCountMarksUptoRow : OpenClaim := { program := "ytpioddfihaabdaa", sum := "3fef225c0c7dfd07450d50ee22235675b497b473c86a494642cccf46206eb4fb", func := "loop.example/g00585/laws.FnExactCountMarks", spec := "fnExactCountMarks", unfollowed := true, recurses := true, loops := true, apart := false, narrowed := true }
def FnExactCountMarksUptoSaid : Prop := fnExactCountMarksUptoRow.holds Try.pinned (OpenSpec.upto fnExactCountMarksSpec)

/-- 'laws.FnExactHasUniqueHoles', WHERE WHAT IT READS IS OF BULK AT MOST 1048576: true; the input reads as it did. -/
def fnExactHasUniqueHolesUptoRow : OpenClaim := { program := "ytpioddfihaabdaa", sum := "3fef225c0c7dfd07450d50ee22235675b497b473c86a494642cccf46206eb4fb", func := "loop.example/g00585/laws.FnExactHasUniqueHoles", spec := "fnExactHasUniqueHoles", unfollowed := true, recurses := true, loops := true, apart := false, narrowed := true }
def FnExactHasUniqueHolesUptoSaid : Prop := fnExactHasUniqueHolesUptoRow.holds Try.pinned (OpenSpec.upto fnExactHasUniqueHolesSpec)

end Rows
end Go.Proofs.Ytpioddfihaabdaa
