/-
  NARROWER THAN 'FOR EVERY INPUT', by the rows' own cells (each row's printed sentence says how): FnExactSubtermAt: loops · FnExactLookupCtx: loops · FnExactStartHistory: loops · FnExactEqualHistory: loops · FnExactCountMarks: loops · FnExactSizeOfCore: loops · FnExactEqualCore: loops · FnExactEqualBinds: loops.
  DERIVED. THE GIVEN ROWS OF THIS SEAT. 8 by the template 'for every input the law returns true; each argument reads behind the call as it read before'; 0 by the template 'total and deterministic' (their statements: YtfidcblaabeaaaaTotals.lean).
  GIVEN WITH THE SEED: the statements are not yours to turn. If you find one false, say at which input.
  Laid BY PROGRAM, IN A SANDBOX (cutbox-rows.mjs): the forced cells as the released guide's own fill.sh prints them over the translation af95af86fbc77901… (all of the seat's roots in one cut). By AI agents, Wed Nov 11 2026. No macro, syntax, notation, axiom, sorry.
-/
import Derived.Test.YtfidcblaabeaaaaChecked
import GoSem.Claim
import GoSem.ClaimJoined
import GoSem.ClaimMapViews
import Derived.JoinedTies
import Derived.KernelRfl
namespace Go.Proofs.Ytfidcblaabeaaaa
/- THE CELL 'sum', in the pinned program and in every row, IS THE sha256 OF THE DUMP (.gsa) THAT YtfidcblaabeaaaaProg.lean LOADS. Nothing in Lean hashes anything: it is a label: what it is worth is what the hold of that sum in a sandbox is worth. -/
noncomputable def Try.pinned : Pinned := { name := "ytfidcblaabeaaaa", sum := "af95af86fbc779017f85b4be2828e9ff5b58f97affe2249b311dae468093610a", checked := Try.checked }
namespace Rows
def none {H : Type} : Left H := { results := [], args := [] }

/-- 'laws.FnExactSubtermAt': WHATEVER THE INPUT: true; the input reads as it did. -/
def fnExactSubtermAtSpec : ChangeSpec := { name := "fnExactSubtermAt", fn := fun _ => fun
  | [d1, d2] => { results := [.lit (.bool true)], args := [d1, d2] }
  | _ => none }
def fnExactSubtermAtRow : OpenClaim := { program := "ytfidcblaabeaaaa", sum := "af95af86fbc779017f85b4be2828e9ff5b58f97affe2249b311dae468093610a", func := "loop.example/g00585/laws.FnExactSubtermAt", spec := "fnExactSubtermAt", recurses := true, loops := true, apart := false }
def FnExactSubtermAtSaid : Prop := fnExactSubtermAtRow.holds Try.pinned (OpenSpec.ofChange fnExactSubtermAtSpec)

/-- ITS FALSE NEIGHBOUR: 'it returns false'. Refute it at one input. -/
def fnExactSubtermAtWrong : ChangeSpec := { name := "fnExactSubtermAt", fn := fun _ => fun
  | [d1, d2] => { results := [.lit (.bool false)], args := [d1, d2] }
  | _ => none }
def FnExactSubtermAtWrongFalsely : Prop := fnExactSubtermAtRow.holds Try.pinned (OpenSpec.ofChange fnExactSubtermAtWrong)

/-- 'laws.FnExactLookupCtx': WHATEVER THE INPUT: true; the input reads as it did. -/
def fnExactLookupCtxSpec : ChangeSpec := { name := "fnExactLookupCtx", fn := fun _ => fun
  | [d1, d2] => { results := [.lit (.bool true)], args := [d1, d2] }
  | _ => none }
def fnExactLookupCtxRow : OpenClaim := { program := "ytfidcblaabeaaaa", sum := "af95af86fbc779017f85b4be2828e9ff5b58f97affe2249b311dae468093610a", func := "loop.example/g00585/laws.FnExactLookupCtx", spec := "fnExactLookupCtx", recurses := true, loops := true, apart := false }
def FnExactLookupCtxSaid : Prop := fnExactLookupCtxRow.holds Try.pinned (OpenSpec.ofChange fnExactLookupCtxSpec)

/-- ITS FALSE NEIGHBOUR: 'it returns false'. Refute it at one input. -/
def fnExactLookupCtxWrong : ChangeSpec := { name := "fnExactLookupCtx", fn := fun _ => fun
  | [d1, d2] => { results := [.lit (.bool false)], args := [d1, d2] }
  | _ => none }
def FnExactLookupCtxWrongFalsely : Prop := fnExactLookupCtxRow.holds Try.pinned (OpenSpec.ofChange fnExactLookupCtxWrong)

/-- 'laws.FnExactStartHistory': WHATEVER THE INPUT: true; the input reads as it did. -/
def fnExactStartHistorySpec : ChangeSpec := { name := "fnExactStartHistory", fn := fun _ => fun
  | [d] => { results := [.lit (.bool true)], args := [d] }
  | _ => none }
def fnExactStartHistoryRow : OpenClaim := { program := "ytfidcblaabeaaaa", sum := "af95af86fbc779017f85b4be2828e9ff5b58f97affe2249b311dae468093610a", func := "loop.example/g00585/laws.FnExactStartHistory", spec := "fnExactStartHistory", recurses := true, loops := true, apart := false }
def FnExactStartHistorySaid : Prop := fnExactStartHistoryRow.holds Try.pinned (OpenSpec.ofChange fnExactStartHistorySpec)

/-- ITS FALSE NEIGHBOUR: 'it returns false'. Refute it at one input. -/
def fnExactStartHistoryWrong : ChangeSpec := { name := "fnExactStartHistory", fn := fun _ => fun
  | [d] => { results := [.lit (.bool false)], args := [d] }
  | _ => none }
def FnExactStartHistoryWrongFalsely : Prop := fnExactStartHistoryRow.holds Try.pinned (OpenSpec.ofChange fnExactStartHistoryWrong)

/-- 'laws.FnExactEqualHistory': WHATEVER THE INPUT: true; the input reads as it did. -/
def fnExactEqualHistorySpec : ChangeSpec := { name := "fnExactEqualHistory", fn := fun _ => fun
  | [d1, d2] => { results := [.lit (.bool true)], args := [d1, d2] }
  | _ => none }
def fnExactEqualHistoryRow : OpenClaim := { program := "ytfidcblaabeaaaa", sum := "af95af86fbc779017f85b4be2828e9ff5b58f97affe2249b311dae468093610a", func := "loop.example/g00585/laws.FnExactEqualHistory", spec := "fnExactEqualHistory", unfollowed := true, recurses := true, loops := true, apart := false }
def FnExactEqualHistorySaid : Prop := fnExactEqualHistoryRow.holds Try.pinned (OpenSpec.ofChange fnExactEqualHistorySpec)

/-- ITS FALSE NEIGHBOUR: 'it returns false'. Refute it at one input. -/
def fnExactEqualHistoryWrong : ChangeSpec := { name := "fnExactEqualHistory", fn := fun _ => fun
  | [d1, d2] => { results := [.lit (.bool false)], args := [d1, d2] }
  | _ => none }
def FnExactEqualHistoryWrongFalsely : Prop := fnExactEqualHistoryRow.holds Try.pinned (OpenSpec.ofChange fnExactEqualHistoryWrong)

/-- 'laws.FnExactCountMarks': WHATEVER THE INPUT: true; the input reads as it did. -/
def fnExactCountMarksSpec : ChangeSpec := { name := "fnExactCountMarks", fn := fun _ => fun
  | [d] => { results := [.lit (.bool true)], args := [d] }
  | _ => none }
def fnExactCountMarksRow : OpenClaim := { program := "ytfidcblaabeaaaa", sum := "af95af86fbc779017f85b4be2828e9ff5b58f97affe2249b311dae468093610a", func := "loop.example/g00585/laws.FnExactCountMarks", spec := "fnExactCountMarks", unfollowed := true, recurses := true, loops := true, apart := false }
def FnExactCountMarksSaid : Prop := fnExactCountMarksRow.holds Try.pinned (OpenSpec.ofChange fnExactCountMarksSpec)

/-- ITS FALSE NEIGHBOUR: 'it returns false'. Refute it at one input. -/
def fnExactCountMarksWrong : ChangeSpec := { name := "fnExactCountMarks", fn := fun _ => fun
  | [d] => { results := [.lit (.bool false)], args := [d] }
  | _ => none }
def FnExactCountMarksWrongFalsely : Prop := fnExactCountMarksRow.holds Try.pinned (OpenSpec.ofChange fnExactCountMarksWrong)

/-- 'laws.FnExactSizeOfCore': WHATEVER THE INPUT: true; the input reads as it did. -/
def fnExactSizeOfCoreSpec : ChangeSpec := { name := "fnExactSizeOfCore", fn := fun _ => fun
  | [d] => { results := [.lit (.bool true)], args := [d] }
  | _ => none }
def fnExactSizeOfCoreRow : OpenClaim := { program := "ytfidcblaabeaaaa", sum := "af95af86fbc779017f85b4be2828e9ff5b58f97affe2249b311dae468093610a", func := "loop.example/g00585/laws.FnExactSizeOfCore", spec := "fnExactSizeOfCore", recurses := true, loops := true, apart := false }
def FnExactSizeOfCoreSaid : Prop := fnExactSizeOfCoreRow.holds Try.pinned (OpenSpec.ofChange fnExactSizeOfCoreSpec)

/-- ITS FALSE NEIGHBOUR: 'it returns false'. Refute it at one input. -/
def fnExactSizeOfCoreWrong : ChangeSpec := { name := "fnExactSizeOfCore", fn := fun _ => fun
  | [d] => { results := [.lit (.bool false)], args := [d] }
  | _ => none }
def FnExactSizeOfCoreWrongFalsely : Prop := fnExactSizeOfCoreRow.holds Try.pinned (OpenSpec.ofChange fnExactSizeOfCoreWrong)

/-- 'laws.FnExactEqualCore': WHATEVER THE INPUT: true; the input reads as it did. -/
def fnExactEqualCoreSpec : ChangeSpec := { name := "fnExactEqualCore", fn := fun _ => fun
  | [d1, d2] => { results := [.lit (.bool true)], args := [d1, d2] }
  | _ => none }
def fnExactEqualCoreRow : OpenClaim := { program := "ytfidcblaabeaaaa", sum := "af95af86fbc779017f85b4be2828e9ff5b58f97affe2249b311dae468093610a", func := "loop.example/g00585/laws.FnExactEqualCore", spec := "fnExactEqualCore", recurses := true, loops := true, apart := false }
def FnExactEqualCoreSaid : Prop := fnExactEqualCoreRow.holds Try.pinned (OpenSpec.ofChange fnExactEqualCoreSpec)

/-- ITS FALSE NEIGHBOUR: 'it returns false'. Refute it at one input. -/
def fnExactEqualCoreWrong : ChangeSpec := { name := "fnExactEqualCore", fn := fun _ => fun
  | [d1, d2] => { results := [.lit (.bool false)], args := [d1, d2] }
  | _ => none }
def FnExactEqualCoreWrongFalsely : Prop := fnExactEqualCoreRow.holds Try.pinned (OpenSpec.ofChange fnExactEqualCoreWrong)

/-- 'laws.FnExactEqualBinds': WHATEVER THE INPUT: true; the input reads as it did. -/
def fnExactEqualBindsSpec : ChangeSpec := { name := "fnExactEqualBinds", fn := fun _ => fun
  | [d1, d2] => { results := [.lit (.bool true)], args := [d1, d2] }
  | _ => none }
def fnExactEqualBindsRow : OpenClaim := { program := "ytfidcblaabeaaaa", sum := "af95af86fbc779017f85b4be2828e9ff5b58f97affe2249b311dae468093610a", func := "loop.example/g00585/laws.FnExactEqualBinds", spec := "fnExactEqualBinds", recurses := true, loops := true, apart := false }
def FnExactEqualBindsSaid : Prop := fnExactEqualBindsRow.holds Try.pinned (OpenSpec.ofChange fnExactEqualBindsSpec)

/-- ITS FALSE NEIGHBOUR: 'it returns false'. Refute it at one input. -/
def fnExactEqualBindsWrong : ChangeSpec := { name := "fnExactEqualBinds", fn := fun _ => fun
  | [d1, d2] => { results := [.lit (.bool false)], args := [d1, d2] }
  | _ => none }
def FnExactEqualBindsWrongFalsely : Prop := fnExactEqualBindsRow.holds Try.pinned (OpenSpec.ofChange fnExactEqualBindsWrong)

/- THE SECOND FORM. 'bulk': how many values and letters a reading holds, each counted each time it is reached (what is shared counts as often as it is met; a slice's spare places count too). A statement '..UptoSaid' is the law's where the arguments, and the package variables that the reading takes, are together of bulk at most 1048576: NARROWER than '..Said'. Prove '..Said' where nothing that the law and all that it calls make is longer than what came in: it says more and counts as full. Else prove '..UptoSaid'. A law counts once. -/
mutual
def uptoBulk {H : Type} : DataW H → Nat
  | .lit (.string bytes) => bytes.length + 1
  | .lit _ => 1
  | .nil => 1
  | .ptr d => uptoBulk d + 1
  | .slice elems spare => uptoBulkAll elems + uptoBulkAll spare + 1
  | .agg parts => uptoBulkAll parts + 1
  | .iface _ d => uptoBulk d + 1
  | .map entries => uptoBulkEntries entries + 1
  | .held _ => 1
def uptoBulkAll {H : Type} : List (DataW H) → Nat
  | [] => 0
  | d :: r => uptoBulk d + uptoBulkAll r
def uptoBulkEntries {H : Type} : List (Lit × DataW H) → Nat
  | [] => 0
  | x :: r => uptoBulkEntry x + uptoBulkEntries r
def uptoBulkEntry {H : Type} : Lit × DataW H → Nat
  | (.string bytes, d) => bytes.length + uptoBulk d + 1
  | (_, d) => uptoBulk d + 1
 end
def uptoSmall : (H : Type) → List (DataW H) → Bool := fun _ ds => decide (uptoBulkAll ds ≤ 1048576)
def OpenSpec.upto (s : _root_.Go.ChangeSpec) : _root_.Go.OpenSpec := { _root_.Go.OpenSpec.ofChange s with cond := some uptoSmall }

/-- 'laws.FnExactSubtermAt', WHERE WHAT IT READS IS OF BULK AT MOST 1048576: true; the input reads as it did. -/
def fnExactSubtermAtUptoRow : OpenClaim := { program := "ytfidcblaabeaaaa", sum := "af95af86fbc779017f85b4be2828e9ff5b58f97affe2249b311dae468093610a", func := "loop.example/g00585/laws.FnExactSubtermAt", spec := "fnExactSubtermAt", recurses := true, loops := true, apart := false, narrowed := true }
def FnExactSubtermAtUptoSaid : Prop := fnExactSubtermAtUptoRow.holds Try.pinned (OpenSpec.upto fnExactSubtermAtSpec)

/-- 'laws.FnExactLookupCtx', WHERE WHAT IT READS IS OF BULK AT MOST 1048576: true; the input reads as it did. -/
def fnExactLookupCtxUptoRow : OpenClaim := { program := "ytfidcblaabeaaaa", sum := "af95af86fbc779017f85b4be2828e9ff5b58f97affe2249b311dae468093610a", func := "loop.example/g00585/laws.FnExactLookupCtx", spec := "fnExactLookupCtx", recurses := true, loops := true, apart := false, narrowed := true }
def FnExactLookupCtxUptoSaid : Prop := fnExactLookupCtxUptoRow.holds Try.pinned (OpenSpec.upto fnExactLookupCtxSpec)

/-- 'laws.FnExactStartHistory', WHERE WHAT IT READS IS OF BULK AT MOST 1048576: true; the input reads as it did. -/
def fnExactStartHistoryUptoRow : OpenClaim := { program := "ytfidcblaabeaaaa", sum := "af95af86fbc779017f85b4be2828e9ff5b58f97affe2249b311dae468093610a", func := "loop.example/g00585/laws.FnExactStartHistory", spec := "fnExactStartHistory", recurses := true, loops := true, apart := false, narrowed := true }
def FnExactStartHistoryUptoSaid : Prop := fnExactStartHistoryUptoRow.holds Try.pinned (OpenSpec.upto fnExactStartHistorySpec)

/-- 'laws.FnExactEqualHistory', WHERE WHAT IT READS IS OF BULK AT MOST 1048576: true; the input reads as it did. -/
def fnExactEqualHistoryUptoRow : OpenClaim := { program := "ytfidcblaabeaaaa", sum := "af95af86fbc779017f85b4be2828e9ff5b58f97affe2249b311dae468093610a", func := "loop.example/g00585/laws.FnExactEqualHistory", spec := "fnExactEqualHistory", unfollowed := true, recurses := true, loops := true, apart := false, narrowed := true }
def FnExactEqualHistoryUptoSaid : Prop := fnExactEqualHistoryUptoRow.holds Try.pinned (OpenSpec.upto fnExactEqualHistorySpec)

/-- 'laws.FnExactCountMarks', WHERE WHAT IT READS IS OF BULK AT MOST 1048576: true; the input reads as it did. -/
def fnExactCountMarksUptoRow : OpenClaim := { program := "ytfidcblaabeaaaa", sum := "af95af86fbc779017f85b4be2828e9ff5b58f97affe2249b311dae468093610a", func := "loop.example/g00585/laws.FnExactCountMarks", spec := "fnExactCountMarks", unfollowed := true, recurses := true, loops := true, apart := false, narrowed := true }
def FnExactCountMarksUptoSaid : Prop := fnExactCountMarksUptoRow.holds Try.pinned (OpenSpec.upto fnExactCountMarksSpec)

/-- 'laws.FnExactSizeOfCore', WHERE WHAT IT READS IS OF BULK AT MOST 1048576: true; the input reads as it did. -/
def fnExactSizeOfCoreUptoRow : OpenClaim := { program := "ytfidcblaabeaaaa", sum := "af95af86fbc779017f85b4be2828e9ff5b58f97affe2249b311dae468093610a", func := "loop.example/g00585/laws.FnExactSizeOfCore", spec := "fnExactSizeOfCore", recurses := true, loops := true, apart := false, narrowed := true }
def FnExactSizeOfCoreUptoSaid : Prop := fnExactSizeOfCoreUptoRow.holds Try.pinned (OpenSpec.upto fnExactSizeOfCoreSpec)

/-- 'laws.FnExactEqualCore', WHERE WHAT IT READS IS OF BULK AT MOST 1048576: true; the input reads as it did. -/
def fnExactEqualCoreUptoRow : OpenClaim := { program := "ytfidcblaabeaaaa", sum := "af95af86fbc779017f85b4be2828e9ff5b58f97affe2249b311dae468093610a", func := "loop.example/g00585/laws.FnExactEqualCore", spec := "fnExactEqualCore", recurses := true, loops := true, apart := false, narrowed := true }
def FnExactEqualCoreUptoSaid : Prop := fnExactEqualCoreUptoRow.holds Try.pinned (OpenSpec.upto fnExactEqualCoreSpec)

/-- 'laws.FnExactEqualBinds', WHERE WHAT IT READS IS OF BULK AT MOST 1048576: true; the input reads as it did. -/
def fnExactEqualBindsUptoRow : OpenClaim := { program := "ytfidcblaabeaaaa", sum := "af95af86fbc779017f85b4be2828e9ff5b58f97affe2249b311dae468093610a", func := "loop.example/g00585/laws.FnExactEqualBinds", spec := "fnExactEqualBinds", recurses := true, loops := true, apart := false, narrowed := true }
def FnExactEqualBindsUptoSaid : Prop := fnExactEqualBindsUptoRow.holds Try.pinned (OpenSpec.upto fnExactEqualBindsSpec)

end Rows
end Go.Proofs.Ytfidcblaabeaaaa
