/-
  NARROWER THAN 'FOR EVERY INPUT', by the rows' own cells (each row's printed sentence says how): FnExactEqualHistory: loops · FnExactEqualSession: loops · FnExactStartHistory: loops.
  DERIVED. THE GIVEN ROWS OF THIS SEAT. 4 by the template 'for every input the law returns true; each argument reads behind the call as it read before'; 0 by the template 'total and deterministic' (their statements: YtddfeecnimdikaaTotals.lean).
  GIVEN WITH THE SEED: the statements are not yours to turn. If you find one false, say at which input.
  Laid BY PROGRAM, IN A SANDBOX (cutbox-rows.mjs): the forced cells as the released guide's own fill.sh prints them over the translation 0533945937baceb7… (all of the seat's roots in one cut). By AI agents, Wed Nov 11 2026. No macro, syntax, notation, axiom, sorry.
-/
import Derived.Test.YtddfeecnimdikaaChecked
import GoSem.Claim
import GoSem.ClaimJoined
import GoSem.ClaimMapViews
import Derived.JoinedTies
import Derived.KernelRfl
namespace Go.Proofs.Ytddfeecnimdikaa
/- THE CELL 'sum', in the pinned program and in every row, IS THE sha256 OF THE DUMP (.gsa) THAT YtddfeecnimdikaaProg.lean LOADS. Nothing in Lean hashes anything: it is a label: what it is worth is what the hold of that sum in a sandbox is worth. -/
noncomputable def Try.pinned : Pinned := { name := "ytddfeecnimdikaa", sum := "0533945937baceb7afee5f9a8b31f8d0b04e343193bc3477bdc5ba812b0ea38c", checked := Try.checked }
namespace Rows
def none {H : Type} : Left H := { results := [], args := [] }

/-- 'laws.FnExactEqualHistory': WHATEVER THE INPUT: true; the input reads as it did. -/
def fnExactEqualHistorySpec : ChangeSpec := { name := "fnExactEqualHistory", fn := fun _ => fun
  | [d1, d2] => { results := [.lit (.bool true)], args := [d1, d2] }
  | _ => none }
def fnExactEqualHistoryRow : OpenClaim := { program := "ytddfeecnimdikaa", sum := "0533945937baceb7afee5f9a8b31f8d0b04e343193bc3477bdc5ba812b0ea38c", func := "loop.example/g00585/laws.FnExactEqualHistory", spec := "fnExactEqualHistory", unfollowed := true, recurses := true, loops := true, apart := false }
def FnExactEqualHistorySaid : Prop := fnExactEqualHistoryRow.holds Try.pinned (OpenSpec.ofChange fnExactEqualHistorySpec)

/-- ITS FALSE NEIGHBOUR: 'it returns false'. Refute it at one input. -/
def fnExactEqualHistoryWrong : ChangeSpec := { name := "fnExactEqualHistory", fn := fun _ => fun
  | [d1, d2] => { results := [.lit (.bool false)], args := [d1, d2] }
  | _ => none }
def FnExactEqualHistoryWrongFalsely : Prop := fnExactEqualHistoryRow.holds Try.pinned (OpenSpec.ofChange fnExactEqualHistoryWrong)

/-- 'laws.FnExactEqualSession': WHATEVER THE INPUT: true; the input reads as it did. -/
def fnExactEqualSessionSpec : ChangeSpec := { name := "fnExactEqualSession", fn := fun _ => fun
  | [d1, d2] => { results := [.lit (.bool true)], args := [d1, d2] }
  | _ => none }
def fnExactEqualSessionRow : OpenClaim := { program := "ytddfeecnimdikaa", sum := "0533945937baceb7afee5f9a8b31f8d0b04e343193bc3477bdc5ba812b0ea38c", func := "loop.example/g00585/laws.FnExactEqualSession", spec := "fnExactEqualSession", unfollowed := true, recurses := true, loops := true, apart := false }
def FnExactEqualSessionSaid : Prop := fnExactEqualSessionRow.holds Try.pinned (OpenSpec.ofChange fnExactEqualSessionSpec)

/-- ITS FALSE NEIGHBOUR: 'it returns false'. Refute it at one input. -/
def fnExactEqualSessionWrong : ChangeSpec := { name := "fnExactEqualSession", fn := fun _ => fun
  | [d1, d2] => { results := [.lit (.bool false)], args := [d1, d2] }
  | _ => none }
def FnExactEqualSessionWrongFalsely : Prop := fnExactEqualSessionRow.holds Try.pinned (OpenSpec.ofChange fnExactEqualSessionWrong)

/-- 'laws.FnExactStartHistory': WHATEVER THE INPUT: true; the input reads as it did. -/
def fnExactStartHistorySpec : ChangeSpec := { name := "fnExactStartHistory", fn := fun _ => fun
  | [d] => { results := [.lit (.bool true)], args := [d] }
  | _ => none }
def fnExactStartHistoryRow : OpenClaim := { program := "ytddfeecnimdikaa", sum := "0533945937baceb7afee5f9a8b31f8d0b04e343193bc3477bdc5ba812b0ea38c", func := "loop.example/g00585/laws.FnExactStartHistory", spec := "fnExactStartHistory", recurses := true, loops := true, apart := false }
def FnExactStartHistorySaid : Prop := fnExactStartHistoryRow.holds Try.pinned (OpenSpec.ofChange fnExactStartHistorySpec)

/-- ITS FALSE NEIGHBOUR: 'it returns false'. Refute it at one input. -/
def fnExactStartHistoryWrong : ChangeSpec := { name := "fnExactStartHistory", fn := fun _ => fun
  | [d] => { results := [.lit (.bool false)], args := [d] }
  | _ => none }
def FnExactStartHistoryWrongFalsely : Prop := fnExactStartHistoryRow.holds Try.pinned (OpenSpec.ofChange fnExactStartHistoryWrong)

/-- 'laws.FnExactNewSession': WHATEVER THE INPUT: true; the input reads as it did. -/
def fnExactNewSessionSpec : ChangeSpec := { name := "fnExactNewSession", fn := fun _ => fun
  | [] => { results := [.lit (.bool true)], args := [] }
  | _ => none }
def fnExactNewSessionRow : OpenClaim := { program := "ytddfeecnimdikaa", sum := "0533945937baceb7afee5f9a8b31f8d0b04e343193bc3477bdc5ba812b0ea38c", func := "loop.example/g00585/laws.FnExactNewSession", spec := "fnExactNewSession", recurses := true, apart := false }
def FnExactNewSessionSaid : Prop := fnExactNewSessionRow.holds Try.pinned (OpenSpec.ofChange fnExactNewSessionSpec)

/-- ITS FALSE NEIGHBOUR: 'it returns false'. Refute it at one input. -/
def fnExactNewSessionWrong : ChangeSpec := { name := "fnExactNewSession", fn := fun _ => fun
  | [] => { results := [.lit (.bool false)], args := [] }
  | _ => none }
def FnExactNewSessionWrongFalsely : Prop := fnExactNewSessionRow.holds Try.pinned (OpenSpec.ofChange fnExactNewSessionWrong)

/- THE SECOND FORM. 'bulk': how many values and letters a reading holds, each counted each time it is reached (what is shared counts as often as it is met; a slice's spare places count too). A statement '..UptoSaid' is the law's where the arguments, and the package variables that the reading takes, are together of bulk at most 1048576: NARROWER than '..Said'. Prove '..Said' where nothing that the law and all that it calls make is longer than what came in: it says more and counts as full. Else prove '..UptoSaid'. A law counts once. -/
mutual
def uptoBulk {H : Type} : DataW H → Nat
  | .lit (.string bytes) => bytes.length + 1
  | .lit _ => 1
  | .nil => 1
  | .ptr d => uptoBulk d + 1
  | .slice elems spare => uptoBulkAll elems + uptoBulkAll spare + 1
  | .agg parts => uptoBulkAll parts + 1
  | .iface _ d => uptoBulk d + 1
  | .map entries => uptoBulkEntries entries + 1
  | .held _ => 1
def uptoBulkAll {H : Type} : List (DataW H) → Nat
  | [] => 0
  | d :: r => uptoBulk d + uptoBulkAll r
def uptoBulkEntries {H : Type} : List (Lit × DataW H) → Nat
  | [] => 0
  | x :: r => uptoBulkEntry x + uptoBulkEntries r
def uptoBulkEntry {H : Type} : Lit × DataW H → Nat
  | (.string bytes, d) => bytes.length + uptoBulk d + 1
  | (_, d) => uptoBulk d + 1
 end
def uptoSmall : (H : Type) → List (DataW H) → Bool := fun _ ds => decide (uptoBulkAll ds ≤ 1048576)
def OpenSpec.upto (s : _root_.Go.ChangeSpec) : _root_.Go.OpenSpec := { _root_.Go.OpenSpec.ofChange s with cond := some uptoSmall }

/-- 'laws.FnExactEqualHistory', WHERE WHAT IT READS IS OF BULK AT MOST 1048576: true; the input reads as it did. -/
def fnExactEqualHistoryUptoRow : OpenClaim := { program := "ytddfeecnimdikaa", sum := "0533945937baceb7afee5f9a8b31f8d0b04e343193bc3477bdc5ba812b0ea38c", func := "loop.example/g00585/laws.FnExactEqualHistory", spec := "fnExactEqualHistory", unfollowed := true, recurses := true, loops := true, apart := false, narrowed := true }
def FnExactEqualHistoryUptoSaid : Prop := fnExactEqualHistoryUptoRow.holds Try.pinned (OpenSpec.upto fnExactEqualHistorySpec)

/-- 'laws.FnExactEqualSession', WHERE WHAT IT READS IS OF BULK AT MOST 1048576: true; the input reads as it did. -/
def fnExactEqualSessionUptoRow : OpenClaim := { program := "ytddfeecnimdikaa", sum := "0533945937baceb7afee5f9a8b31f8d0b04e343193bc3477bdc5ba812b0ea38c", func := "loop.example/g00585/laws.FnExactEqualSession", spec := "fnExactEqualSession", unfollowed := true, recurses := true, loops := true, apart := false, narrowed := true }
def FnExactEqualSessionUptoSaid : Prop := fnExactEqualSessionUptoRow.holds Try.pinned (OpenSpec.upto fnExactEqualSessionSpec)

/-- 'laws.FnExactStartHistory', WHERE WHAT IT READS IS OF BULK AT MOST 1048576: true; the input reads as it did. -/
def fnExactStartHistoryUptoRow : OpenClaim := { program := "ytddfeecnimdikaa", sum := "0533945937baceb7afee5f9a8b31f8d0b04e343193bc3477bdc5ba812b0ea38c", func := "loop.example/g00585/laws.FnExactStartHistory", spec := "fnExactStartHistory", recurses := true, loops := true, apart := false, narrowed := true }
def FnExactStartHistoryUptoSaid : Prop := fnExactStartHistoryUptoRow.holds Try.pinned (OpenSpec.upto fnExactStartHistorySpec)

/-- 'laws.FnExactNewSession', WHERE WHAT IT READS IS OF BULK AT MOST 1048576: true; the input reads as it did. -/
def fnExactNewSessionUptoRow : OpenClaim := { program := "ytddfeecnimdikaa", sum := "0533945937baceb7afee5f9a8b31f8d0b04e343193bc3477bdc5ba812b0ea38c", func := "loop.example/g00585/laws.FnExactNewSession", spec := "fnExactNewSession", recurses := true, apart := false, narrowed := true }
def FnExactNewSessionUptoSaid : Prop := fnExactNewSessionUptoRow.holds Try.pinned (OpenSpec.upto fnExactNewSessionSpec)

end Rows
end Go.Proofs.Ytddfeecnimdikaa
