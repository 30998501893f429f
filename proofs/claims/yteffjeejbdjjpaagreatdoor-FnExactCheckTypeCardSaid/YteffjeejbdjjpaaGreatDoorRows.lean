/-
  NARROWER THAN 'FOR EVERY INPUT', by the rows' own cells (each row's printed sentence says how): FnExactSynthType: loops, ifaces, laid · FnExactCheckType: loops, ifaces, laid · FnExactIsWellTyped: loops, ifaces, laid.
  DERIVED. THE GIVEN ROWS OF THIS SEAT. 3 by the template 'for every input the law returns true; each argument reads behind the call as it read before'; 0 by the template 'total and deterministic' (their statements: YteffjeejbdjjpaaGreatDoorTotals.lean).
  GIVEN WITH THE SEED: the statements are not yours to turn. If you find one false, say at which input.
  Laid BY PROGRAM, IN A SANDBOX (cutbox-rows.mjs): the forced cells as the released guide's own fill.sh prints them over the translation 24f33fabd8bd2adf… (all of the seat's roots in one cut). By AI agents, Wed Nov 11 2026. No macro, syntax, notation, axiom, sorry.
-/
import Derived.Test.YteffjeejbdjjpaaGreatDoorChecked
import GoSem.Claim
import GoSem.ClaimJoined
import GoSem.ClaimMapViews
import Derived.JoinedTies
import Derived.KernelRfl
namespace Go.Proofs.YteffjeejbdjjpaaGreatDoor
/- THE CELL 'sum', in the pinned program and in every row, IS THE sha256 OF THE DUMP (.gsa) THAT YteffjeejbdjjpaaGreatDoorProg.lean LOADS. Nothing in Lean hashes anything: it is a label: what it is worth is what the hold of that sum in a sandbox is worth. -/
noncomputable def Tryz.pinned : Pinned := { name := "yteffjeejbdjjpaagreatdoor", sum := "24f33fabd8bd2adf3d8a5e05314946e9b958af53fc4fca81c53a19dca87a2b38", checked := Tryz.checked }
namespace Rows
def none {H : Type} : Left H := { results := [], args := [] }

/- WHAT THE LISTED PACKAGE-LEVEL VARIABLES READ AS WHEN THE CALL BEGINS. Each datum BY PROGRAM (the guide's laid-datum.mjs) off the statement by which the dump's own 'gosem.cut.vars' lays the variable. In a bare row this is a premise. The card (YteffjeejbdjjpaaGreatDoorCards.lean) ties it to the program's text. -/
def laid_loop_example_g00585_impl_meetings {H : Type} : DataW H := .agg [.agg [.agg [.lit (.int .i64 1), .lit (.int .i64 1)], .lit (.int .i64 0)], .agg [.agg [.lit (.int .i64 1), .lit (.int .i64 2)], .lit (.int .i64 1)], .agg [.agg [.lit (.int .i64 1), .lit (.int .i64 3)], .lit (.int .i64 1)], .agg [.agg [.lit (.int .i64 1), .lit (.int .i64 4)], .lit (.int .i64 1)], .agg [.agg [.lit (.int .i64 1), .lit (.int .i64 5)], .lit (.int .i64 1)], .agg [.agg [.lit (.int .i64 2), .lit (.int .i64 1)], .lit (.int .i64 0)], .agg [.agg [.lit (.int .i64 3), .lit (.int .i64 1)], .lit (.int .i64 0)], .agg [.agg [.lit (.int .i64 4), .lit (.int .i64 1)], .lit (.int .i64 0)], .agg [.agg [.lit (.int .i64 5), .lit (.int .i64 1)], .lit (.int .i64 0)], .agg [.agg [.lit (.int .i64 2), .lit (.int .i64 2)], .lit (.int .i64 0)], .agg [.agg [.lit (.int .i64 3), .lit (.int .i64 3)], .lit (.int .i64 0)], .agg [.agg [.lit (.int .i64 4), .lit (.int .i64 4)], .lit (.int .i64 2)], .agg [.agg [.lit (.int .i64 5), .lit (.int .i64 5)], .lit (.int .i64 2)]]
def laid_loop_example_g00585_impl_arities {H : Type} : DataW H := .agg [.lit (.int .i64 0), .lit (.int .i64 0), .lit (.int .i64 0), .lit (.int .i64 1), .lit (.int .i64 2), .lit (.int .i64 0), .lit (.int .i64 2), .lit (.int .i64 2), .lit (.int .i64 0), .lit (.int .i64 3), .lit (.int .i64 2), .lit (.int .i64 1), .lit (.int .i64 1), .lit (.int .i64 1), .lit (.int .i64 1)]
def laid_loop_example_g00585_impl_errNoFit {H : Type} : DataW H := .iface "*errors.errorString" (.ptr (.agg [.lit (.string [97, 32, 112, 97, 114, 116, 32, 100, 111, 101, 115, 32, 110, 111, 116, 32, 102, 105, 116])]))

/-- 'laws.FnExactSynthType': WHATEVER THE INPUT: true; the input reads as it did. -/
def fnExactSynthTypeSpec : ChangeSpec := { name := "fnExactSynthType", vars := ["loop.example/g00585/impl.errNoFit", "loop.example/g00585/impl.arities", "loop.example/g00585/impl.meetings"], fn := fun _ => fun
  | [d1, d2, g1, g2, g3] => { results := [.lit (.bool true)], args := [d1, d2], vars := [g1, g2, g3] }
  | _ => none }
def fnExactSynthTypeRow : OpenClaim := { program := "yteffjeejbdjjpaagreatdoor", sum := "24f33fabd8bd2adf3d8a5e05314946e9b958af53fc4fca81c53a19dca87a2b38", func := "loop.example/g00585/laws.FnExactSynthType", spec := "fnExactSynthType", inPlace := ["internal/reflectlite.TypeOf"], unfollowed := true, recurses := true, named := ["loop.example/g00585/impl.errNoFit", "loop.example/g00585/impl.arities", "loop.example/g00585/impl.meetings"], ifaces := true, loops := true, apart := false, laid := [("loop.example/g00585/impl.meetings", laid_loop_example_g00585_impl_meetings), ("loop.example/g00585/impl.arities", laid_loop_example_g00585_impl_arities), ("loop.example/g00585/impl.errNoFit", laid_loop_example_g00585_impl_errNoFit)] }
def FnExactSynthTypeSaid : Prop := fnExactSynthTypeRow.holds Tryz.pinned (OpenSpec.ofChange fnExactSynthTypeSpec)

/-- ITS FALSE NEIGHBOUR: 'it returns false'. Refute it at one input. -/
def fnExactSynthTypeWrong : ChangeSpec := { name := "fnExactSynthType", vars := ["loop.example/g00585/impl.errNoFit", "loop.example/g00585/impl.arities", "loop.example/g00585/impl.meetings"], fn := fun _ => fun
  | [d1, d2, g1, g2, g3] => { results := [.lit (.bool false)], args := [d1, d2], vars := [g1, g2, g3] }
  | _ => none }
def FnExactSynthTypeWrongFalsely : Prop := fnExactSynthTypeRow.holds Tryz.pinned (OpenSpec.ofChange fnExactSynthTypeWrong)

/-- 'laws.FnExactCheckType': WHATEVER THE INPUT: true; the input reads as it did. -/
def fnExactCheckTypeSpec : ChangeSpec := { name := "fnExactCheckType", vars := ["loop.example/g00585/impl.errNoFit", "loop.example/g00585/impl.arities", "loop.example/g00585/impl.meetings"], fn := fun _ => fun
  | [d1, d2, d3, g1, g2, g3] => { results := [.lit (.bool true)], args := [d1, d2, d3], vars := [g1, g2, g3] }
  | _ => none }
def fnExactCheckTypeRow : OpenClaim := { program := "yteffjeejbdjjpaagreatdoor", sum := "24f33fabd8bd2adf3d8a5e05314946e9b958af53fc4fca81c53a19dca87a2b38", func := "loop.example/g00585/laws.FnExactCheckType", spec := "fnExactCheckType", inPlace := ["internal/reflectlite.TypeOf"], unfollowed := true, recurses := true, named := ["loop.example/g00585/impl.errNoFit", "loop.example/g00585/impl.arities", "loop.example/g00585/impl.meetings"], ifaces := true, loops := true, apart := false, laid := [("loop.example/g00585/impl.meetings", laid_loop_example_g00585_impl_meetings), ("loop.example/g00585/impl.arities", laid_loop_example_g00585_impl_arities), ("loop.example/g00585/impl.errNoFit", laid_loop_example_g00585_impl_errNoFit)] }
def FnExactCheckTypeSaid : Prop := fnExactCheckTypeRow.holds Tryz.pinned (OpenSpec.ofChange fnExactCheckTypeSpec)

/-- ITS FALSE NEIGHBOUR: 'it returns false'. Refute it at one input. -/
def fnExactCheckTypeWrong : ChangeSpec := { name := "fnExactCheckType", vars := ["loop.example/g00585/impl.errNoFit", "loop.example/g00585/impl.arities", "loop.example/g00585/impl.meetings"], fn := fun _ => fun
  | [d1, d2, d3, g1, g2, g3] => { results := [.lit (.bool false)], args := [d1, d2, d3], vars := [g1, g2, g3] }
  | _ => none }
def FnExactCheckTypeWrongFalsely : Prop := fnExactCheckTypeRow.holds Tryz.pinned (OpenSpec.ofChange fnExactCheckTypeWrong)

/-- 'laws.FnExactIsWellTyped': WHATEVER THE INPUT: true; the input reads as it did. -/
def fnExactIsWellTypedSpec : ChangeSpec := { name := "fnExactIsWellTyped", vars := ["loop.example/g00585/impl.errNoFit", "loop.example/g00585/impl.arities", "loop.example/g00585/impl.meetings"], fn := fun _ => fun
  | [d1, d2, g1, g2, g3] => { results := [.lit (.bool true)], args := [d1, d2], vars := [g1, g2, g3] }
  | _ => none }
def fnExactIsWellTypedRow : OpenClaim := { program := "yteffjeejbdjjpaagreatdoor", sum := "24f33fabd8bd2adf3d8a5e05314946e9b958af53fc4fca81c53a19dca87a2b38", func := "loop.example/g00585/laws.FnExactIsWellTyped", spec := "fnExactIsWellTyped", inPlace := ["internal/reflectlite.TypeOf"], unfollowed := true, recurses := true, named := ["loop.example/g00585/impl.errNoFit", "loop.example/g00585/impl.arities", "loop.example/g00585/impl.meetings"], ifaces := true, loops := true, apart := false, laid := [("loop.example/g00585/impl.meetings", laid_loop_example_g00585_impl_meetings), ("loop.example/g00585/impl.arities", laid_loop_example_g00585_impl_arities), ("loop.example/g00585/impl.errNoFit", laid_loop_example_g00585_impl_errNoFit)] }
def FnExactIsWellTypedSaid : Prop := fnExactIsWellTypedRow.holds Tryz.pinned (OpenSpec.ofChange fnExactIsWellTypedSpec)

/-- ITS FALSE NEIGHBOUR: 'it returns false'. Refute it at one input. -/
def fnExactIsWellTypedWrong : ChangeSpec := { name := "fnExactIsWellTyped", vars := ["loop.example/g00585/impl.errNoFit", "loop.example/g00585/impl.arities", "loop.example/g00585/impl.meetings"], fn := fun _ => fun
  | [d1, d2, g1, g2, g3] => { results := [.lit (.bool false)], args := [d1, d2], vars := [g1, g2, g3] }
  | _ => none }
def FnExactIsWellTypedWrongFalsely : Prop := fnExactIsWellTypedRow.holds Tryz.pinned (OpenSpec.ofChange fnExactIsWellTypedWrong)

/- THE SECOND FORM. 'bulk': how many values and letters a reading holds, each counted each time it is reached (what is shared counts as often as it is met; a slice's spare places count too). A statement '..UptoSaid' is the law's where the arguments, and the package variables that the reading takes, are together of bulk at most 1048576: NARROWER than '..Said'. Prove '..Said' where nothing that the law and all that it calls make is longer than what came in: it says more and counts as full. Else prove '..UptoSaid'. A law counts once. -/
mutual
def uptoBulk {H : Type} : DataW H → Nat
  | .lit (.string bytes) => bytes.length + 1
  | .lit _ => 1
  | .nil => 1
  | .ptr d => uptoBulk d + 1
  | .slice elems spare => uptoBulkAll elems + uptoBulkAll spare + 1
  | .agg parts => uptoBulkAll parts + 1
  | .iface _ d => uptoBulk d + 1
  | .map entries => uptoBulkEntries entries + 1
  | .held _ => 1
def uptoBulkAll {H : Type} : List (DataW H) → Nat
  | [] => 0
  | d :: r => uptoBulk d + uptoBulkAll r
def uptoBulkEntries {H : Type} : List (Lit × DataW H) → Nat
  | [] => 0
  | x :: r => uptoBulkEntry x + uptoBulkEntries r
def uptoBulkEntry {H : Type} : Lit × DataW H → Nat
  | (.string bytes, d) => bytes.length + uptoBulk d + 1
  | (_, d) => uptoBulk d + 1
 end
def uptoSmall : (H : Type) → List (DataW H) → Bool := fun _ ds => decide (uptoBulkAll ds ≤ 1048576)
def OpenSpec.upto (s : _root_.Go.ChangeSpec) : _root_.Go.OpenSpec := { _root_.Go.OpenSpec.ofChange s with cond := some uptoSmall }

/-- 'laws.FnExactSynthType', WHERE WHAT IT READS IS OF BULK AT MOST 1048576: true; the input reads as it did. -/
def fnExactSynthTypeUptoRow : OpenClaim := { program := "yteffjeejbdjjpaagreatdoor", sum := "24f33fabd8bd2adf3d8a5e05314946e9b958af53fc4fca81c53a19dca87a2b38", func := "loop.example/g00585/laws.FnExactSynthType", spec := "fnExactSynthType", inPlace := ["internal/reflectlite.TypeOf"], unfollowed := true, recurses := true, named := ["loop.example/g00585/impl.errNoFit", "loop.example/g00585/impl.arities", "loop.example/g00585/impl.meetings"], ifaces := true, loops := true, apart := false, laid := [("loop.example/g00585/impl.meetings", laid_loop_example_g00585_impl_meetings), ("loop.example/g00585/impl.arities", laid_loop_example_g00585_impl_arities), ("loop.example/g00585/impl.errNoFit", laid_loop_example_g00585_impl_errNoFit)], narrowed := true }
def FnExactSynthTypeUptoSaid : Prop := fnExactSynthTypeUptoRow.holds Tryz.pinned (OpenSpec.upto fnExactSynthTypeSpec)

/-- 'laws.FnExactCheckType', WHERE WHAT IT READS IS OF BULK AT MOST 1048576: true; the input reads as it did. -/
def fnExactCheckTypeUptoRow : OpenClaim := { program := "yteffjeejbdjjpaagreatdoor", sum := "24f33fabd8bd2adf3d8a5e05314946e9b958af53fc4fca81c53a19dca87a2b38", func := "loop.example/g00585/laws.FnExactCheckType", spec := "fnExactCheckType", inPlace := ["internal/reflectlite.TypeOf"], unfollowed := true, recurses := true, named := ["loop.example/g00585/impl.errNoFit", "loop.example/g00585/impl.arities", "loop.example/g00585/impl.meetings"], ifaces := true, loops := true, apart := false, laid := [("loop.example/g00585/impl.meetings", laid_loop_example_g00585_impl_meetings), ("loop.example/g00585/impl.arities", laid_loop_example_g00585_impl_arities), ("loop.example/g00585/impl.errNoFit", laid_loop_example_g00585_impl_errNoFit)], narrowed := true }
def FnExactCheckTypeUptoSaid : Prop := fnExactCheckTypeUptoRow.holds Tryz.pinned (OpenSpec.upto fnExactCheckTypeSpec)

/-- 'laws.FnExactIsWellTyped', WHERE WHAT IT READS IS OF BULK AT MOST 1048576: true; the input reads as it did. -/
def fnExactIsWellTypedUptoRow : OpenClaim := { program := "yteffjeejbdjjpaagreatdoor", sum := "24f33fabd8bd2adf3d8a5e05314946e9b958af53fc4fca81c53a19dca87a2b38", func := "loop.example/g00585/laws.FnExactIsWellTyped", spec := "fnExactIsWellTyped", inPlace := ["internal/reflectlite.TypeOf"], unfollowed := true, recurses := true, named := ["loop.example/g00585/impl.errNoFit", "loop.example/g00585/impl.arities", "loop.example/g00585/impl.meetings"], ifaces := true, loops := true, apart := false, laid := [("loop.example/g00585/impl.meetings", laid_loop_example_g00585_impl_meetings), ("loop.example/g00585/impl.arities", laid_loop_example_g00585_impl_arities), ("loop.example/g00585/impl.errNoFit", laid_loop_example_g00585_impl_errNoFit)], narrowed := true }
def FnExactIsWellTypedUptoSaid : Prop := fnExactIsWellTypedUptoRow.holds Tryz.pinned (OpenSpec.upto fnExactIsWellTypedSpec)

end Rows
end Go.Proofs.YteffjeejbdjjpaaGreatDoor
