/-
  NARROWER THAN 'FOR EVERY INPUT', by the rows' own cells (each row's printed sentence says how): FnExactHolesIn: loops · FnExactMatchArrow: loops · FnExactMatchPair: loops · FnExactFreshHole: loops · FnExactIsCtx: loops.
  DERIVED. THE GIVEN ROWS OF THIS SEAT. 7 by the template 'for every input the law returns true; each argument reads behind the call as it read before'; 0 by the template 'total and deterministic' (their statements: YtadjaclmgdmnbaaTotals.lean).
  GIVEN WITH THE SEED: the statements are not yours to turn. If you find one false, say at which input.
  Laid BY PROGRAM, IN A SANDBOX (cutbox-rows.mjs): the forced cells as the released guide's own fill.sh prints them over the translation a0e752687c8ad733… (all of the seat's roots in one cut). By AI agents, Wed Nov 11 2026. No macro, syntax, notation, axiom, sorry.
-/
import Derived.Test.YtadjaclmgdmnbaaChecked
import GoSem.Claim
import GoSem.ClaimJoined
import GoSem.ClaimMapViews
import Derived.JoinedTies
import Derived.KernelRfl
namespace Go.Proofs.Ytadjaclmgdmnbaa
/- THE CELL 'sum', in the pinned program and in every row, IS THE sha256 OF THE DUMP (.gsa) THAT YtadjaclmgdmnbaaProg.lean LOADS. Nothing in Lean hashes anything: it is a label: what it is worth is what the hold of that sum in a sandbox is worth. -/
noncomputable def Try.pinned : Pinned := { name := "ytadjaclmgdmnbaa", sum := "a0e752687c8ad7334e4dfb6f6ec75fba32050587d2a7583add00b45a99283c16", checked := Try.checked }
namespace Rows
def none {H : Type} : Left H := { results := [], args := [] }

/-- 'laws.FnExactHolesIn': WHATEVER THE INPUT: true; the input reads as it did. -/
def fnExactHolesInSpec : ChangeSpec := { name := "fnExactHolesIn", fn := fun _ => fun
  | [d] => { results := [.lit (.bool true)], args := [d] }
  | _ => none }
def fnExactHolesInRow : OpenClaim := { program := "ytadjaclmgdmnbaa", sum := "a0e752687c8ad7334e4dfb6f6ec75fba32050587d2a7583add00b45a99283c16", func := "loop.example/g00585/laws.FnExactHolesIn", spec := "fnExactHolesIn", recurses := true, loops := true, apart := false }
def FnExactHolesInSaid : Prop := fnExactHolesInRow.holds Try.pinned (OpenSpec.ofChange fnExactHolesInSpec)

/-- ITS FALSE NEIGHBOUR: 'it returns false'. Refute it at one input. -/
def fnExactHolesInWrong : ChangeSpec := { name := "fnExactHolesIn", fn := fun _ => fun
  | [d] => { results := [.lit (.bool false)], args := [d] }
  | _ => none }
def FnExactHolesInWrongFalsely : Prop := fnExactHolesInRow.holds Try.pinned (OpenSpec.ofChange fnExactHolesInWrong)

/-- 'laws.FnExactWithoutName': WHATEVER THE INPUT: true; the input reads as it did. -/
def fnExactWithoutNameSpec : ChangeSpec := { name := "fnExactWithoutName", fn := fun _ => fun
  | [d1, d2] => { results := [.lit (.bool true)], args := [d1, d2] }
  | _ => none }
def fnExactWithoutNameRow : OpenClaim := { program := "ytadjaclmgdmnbaa", sum := "a0e752687c8ad7334e4dfb6f6ec75fba32050587d2a7583add00b45a99283c16", func := "loop.example/g00585/laws.FnExactWithoutName", spec := "fnExactWithoutName", apart := false }
def FnExactWithoutNameSaid : Prop := fnExactWithoutNameRow.holds Try.pinned (OpenSpec.ofChange fnExactWithoutNameSpec)

/-- ITS FALSE NEIGHBOUR: 'it returns false'. Refute it at one input. -/
def fnExactWithoutNameWrong : ChangeSpec := { name := "fnExactWithoutName", fn := fun _ => fun
  | [d1, d2] => { results := [.lit (.bool false)], args := [d1, d2] }
  | _ => none }
def FnExactWithoutNameWrongFalsely : Prop := fnExactWithoutNameRow.holds Try.pinned (OpenSpec.ofChange fnExactWithoutNameWrong)

/-- 'laws.FnExactUniteNames': WHATEVER THE INPUT: true; the input reads as it did. -/
def fnExactUniteNamesSpec : ChangeSpec := { name := "fnExactUniteNames", fn := fun _ => fun
  | [d1, d2] => { results := [.lit (.bool true)], args := [d1, d2] }
  | _ => none }
def fnExactUniteNamesRow : OpenClaim := { program := "ytadjaclmgdmnbaa", sum := "a0e752687c8ad7334e4dfb6f6ec75fba32050587d2a7583add00b45a99283c16", func := "loop.example/g00585/laws.FnExactUniteNames", spec := "fnExactUniteNames", apart := false }
def FnExactUniteNamesSaid : Prop := fnExactUniteNamesRow.holds Try.pinned (OpenSpec.ofChange fnExactUniteNamesSpec)

/-- ITS FALSE NEIGHBOUR: 'it returns false'. Refute it at one input. -/
def fnExactUniteNamesWrong : ChangeSpec := { name := "fnExactUniteNames", fn := fun _ => fun
  | [d1, d2] => { results := [.lit (.bool false)], args := [d1, d2] }
  | _ => none }
def FnExactUniteNamesWrongFalsely : Prop := fnExactUniteNamesRow.holds Try.pinned (OpenSpec.ofChange fnExactUniteNamesWrong)

/-- 'laws.FnExactMatchArrow': WHATEVER THE INPUT: true; the input reads as it did. -/
def fnExactMatchArrowSpec : ChangeSpec := { name := "fnExactMatchArrow", fn := fun _ => fun
  | [d] => { results := [.lit (.bool true)], args := [d] }
  | _ => none }
def fnExactMatchArrowRow : OpenClaim := { program := "ytadjaclmgdmnbaa", sum := "a0e752687c8ad7334e4dfb6f6ec75fba32050587d2a7583add00b45a99283c16", func := "loop.example/g00585/laws.FnExactMatchArrow", spec := "fnExactMatchArrow", unfollowed := true, recurses := true, loops := true, apart := false }
def FnExactMatchArrowSaid : Prop := fnExactMatchArrowRow.holds Try.pinned (OpenSpec.ofChange fnExactMatchArrowSpec)

/-- ITS FALSE NEIGHBOUR: 'it returns false'. Refute it at one input. -/
def fnExactMatchArrowWrong : ChangeSpec := { name := "fnExactMatchArrow", fn := fun _ => fun
  | [d] => { results := [.lit (.bool false)], args := [d] }
  | _ => none }
def FnExactMatchArrowWrongFalsely : Prop := fnExactMatchArrowRow.holds Try.pinned (OpenSpec.ofChange fnExactMatchArrowWrong)

/-- 'laws.FnExactMatchPair': WHATEVER THE INPUT: true; the input reads as it did. -/
def fnExactMatchPairSpec : ChangeSpec := { name := "fnExactMatchPair", fn := fun _ => fun
  | [d] => { results := [.lit (.bool true)], args := [d] }
  | _ => none }
def fnExactMatchPairRow : OpenClaim := { program := "ytadjaclmgdmnbaa", sum := "a0e752687c8ad7334e4dfb6f6ec75fba32050587d2a7583add00b45a99283c16", func := "loop.example/g00585/laws.FnExactMatchPair", spec := "fnExactMatchPair", unfollowed := true, recurses := true, loops := true, apart := false }
def FnExactMatchPairSaid : Prop := fnExactMatchPairRow.holds Try.pinned (OpenSpec.ofChange fnExactMatchPairSpec)

/-- ITS FALSE NEIGHBOUR: 'it returns false'. Refute it at one input. -/
def fnExactMatchPairWrong : ChangeSpec := { name := "fnExactMatchPair", fn := fun _ => fun
  | [d] => { results := [.lit (.bool false)], args := [d] }
  | _ => none }
def FnExactMatchPairWrongFalsely : Prop := fnExactMatchPairRow.holds Try.pinned (OpenSpec.ofChange fnExactMatchPairWrong)

/-- 'laws.FnExactFreshHole': WHATEVER THE INPUT: true; the input reads as it did. -/
def fnExactFreshHoleSpec : ChangeSpec := { name := "fnExactFreshHole", fn := fun _ => fun
  | [d] => { results := [.lit (.bool true)], args := [d] }
  | _ => none }
def fnExactFreshHoleRow : OpenClaim := { program := "ytadjaclmgdmnbaa", sum := "a0e752687c8ad7334e4dfb6f6ec75fba32050587d2a7583add00b45a99283c16", func := "loop.example/g00585/laws.FnExactFreshHole", spec := "fnExactFreshHole", recurses := true, loops := true, apart := false }
def FnExactFreshHoleSaid : Prop := fnExactFreshHoleRow.holds Try.pinned (OpenSpec.ofChange fnExactFreshHoleSpec)

/-- ITS FALSE NEIGHBOUR: 'it returns false'. Refute it at one input. -/
def fnExactFreshHoleWrong : ChangeSpec := { name := "fnExactFreshHole", fn := fun _ => fun
  | [d] => { results := [.lit (.bool false)], args := [d] }
  | _ => none }
def FnExactFreshHoleWrongFalsely : Prop := fnExactFreshHoleRow.holds Try.pinned (OpenSpec.ofChange fnExactFreshHoleWrong)

/-- 'laws.FnExactIsCtx': WHATEVER THE INPUT: true; the input reads as it did. -/
def fnExactIsCtxSpec : ChangeSpec := { name := "fnExactIsCtx", fn := fun _ => fun
  | [d] => { results := [.lit (.bool true)], args := [d] }
  | _ => none }
def fnExactIsCtxRow : OpenClaim := { program := "ytadjaclmgdmnbaa", sum := "a0e752687c8ad7334e4dfb6f6ec75fba32050587d2a7583add00b45a99283c16", func := "loop.example/g00585/laws.FnExactIsCtx", spec := "fnExactIsCtx", unfollowed := true, recurses := true, loops := true, apart := false }
def FnExactIsCtxSaid : Prop := fnExactIsCtxRow.holds Try.pinned (OpenSpec.ofChange fnExactIsCtxSpec)

/-- ITS FALSE NEIGHBOUR: 'it returns false'. Refute it at one input. -/
def fnExactIsCtxWrong : ChangeSpec := { name := "fnExactIsCtx", fn := fun _ => fun
  | [d] => { results := [.lit (.bool false)], args := [d] }
  | _ => none }
def FnExactIsCtxWrongFalsely : Prop := fnExactIsCtxRow.holds Try.pinned (OpenSpec.ofChange fnExactIsCtxWrong)

/- THE SECOND FORM. 'bulk': how many values and letters a reading holds, each counted each time it is reached (what is shared counts as often as it is met; a slice's spare places count too). A statement '..UptoSaid' is the law's where the arguments, and the package variables that the reading takes, are together of bulk at most 1048576: NARROWER than '..Said'. Prove '..Said' where nothing that the law and all that it calls make is longer than what came in: it says more and counts as full. Else prove '..UptoSaid'. A law counts once. -/
mutual
def uptoBulk {H : Type} : DataW H → Nat
  | .lit (.string bytes) => bytes.length + 1
  | .lit _ => 1
  | .nil => 1
  | .ptr d => uptoBulk d + 1
  | .slice elems spare => uptoBulkAll elems + uptoBulkAll spare + 1
  | .agg parts => uptoBulkAll parts + 1
  | .iface _ d => uptoBulk d + 1
  | .map entries => uptoBulkEntries entries + 1
  | .held _ => 1
def uptoBulkAll {H : Type} : List (DataW H) → Nat
  | [] => 0
  | d :: r => uptoBulk d + uptoBulkAll r
def uptoBulkEntries {H : Type} : List (Lit × DataW H) → Nat
  | [] => 0
  | x :: r => uptoBulkEntry x + uptoBulkEntries r
def uptoBulkEntry {H : Type} : Lit × DataW H → Nat
  | (.string bytes, d) => bytes.length + uptoBulk d + 1
  | (_, d) => uptoBulk d + 1
 end
def uptoSmall : (H : Type) → List (DataW H) → Bool := fun _ ds => decide (uptoBulkAll ds ≤ 1048576)
def OpenSpec.upto (s : _root_.Go.ChangeSpec) : _root_.Go.OpenSpec := { _root_.Go.OpenSpec.ofChange s with cond := some uptoSmall }

/-- 'laws.FnExactHolesIn', WHERE WHAT IT READS IS OF BULK AT MOST 1048576: true; the input reads as it did. -/
def fnExactHolesInUptoRow : OpenClaim := { program := "ytadjaclmgdmnbaa", sum := "a0e752687c8ad7334e4dfb6f6ec75fba32050587d2a7583add00b45a99283c16", func := "loop.example/g00585/laws.FnExactHolesIn", spec := "fnExactHolesIn", recurses := true, loops := true, apart := false, narrowed := true }
def FnExactHolesInUptoSaid : Prop := fnExactHolesInUptoRow.holds Try.pinned (OpenSpec.upto fnExactHolesInSpec)

/-- 'laws.FnExactWithoutName', WHERE WHAT IT READS IS OF BULK AT MOST 1048576: true; the input reads as it did. -/
def fnExactWithoutNameUptoRow : OpenClaim := { program := "ytadjaclmgdmnbaa", sum := "a0e752687c8ad7334e4dfb6f6ec75fba32050587d2a7583add00b45a99283c16", func := "loop.example/g00585/laws.FnExactWithoutName", spec := "fnExactWithoutName", apart := false, narrowed := true }
def FnExactWithoutNameUptoSaid : Prop := fnExactWithoutNameUptoRow.holds Try.pinned (OpenSpec.upto fnExactWithoutNameSpec)

/-- 'laws.FnExactUniteNames', WHERE WHAT IT READS IS OF BULK AT MOST 1048576: true; the input reads as it did. -/
def fnExactUniteNamesUptoRow : OpenClaim := { program := "ytadjaclmgdmnbaa", sum := "a0e752687c8ad7334e4dfb6f6ec75fba32050587d2a7583add00b45a99283c16", func := "loop.example/g00585/laws.FnExactUniteNames", spec := "fnExactUniteNames", apart := false, narrowed := true }
def FnExactUniteNamesUptoSaid : Prop := fnExactUniteNamesUptoRow.holds Try.pinned (OpenSpec.upto fnExactUniteNamesSpec)

/-- 'laws.FnExactMatchArrow', WHERE WHAT IT READS IS OF BULK AT MOST 1048576: true; the input reads as it did. -/
def fnExactMatchArrowUptoRow : OpenClaim := { program := "ytadjaclmgdmnbaa", sum := "a0e752687c8ad7334e4dfb6f6ec75fba32050587d2a7583add00b45a99283c16", func := "loop.example/g00585/laws.FnExactMatchArrow", spec := "fnExactMatchArrow", unfollowed := true, recurses := true, loops := true, apart := false, narrowed := true }
def FnExactMatchArrowUptoSaid : Prop := fnExactMatchArrowUptoRow.holds Try.pinned (OpenSpec.upto fnExactMatchArrowSpec)

/-- 'laws.FnExactMatchPair', WHERE WHAT IT READS IS OF BULK AT MOST 1048576: true; the input reads as it did. -/
def fnExactMatchPairUptoRow : OpenClaim := { program := "ytadjaclmgdmnbaa", sum := "a0e752687c8ad7334e4dfb6f6ec75fba32050587d2a7583add00b45a99283c16", func := "loop.example/g00585/laws.FnExactMatchPair", spec := "fnExactMatchPair", unfollowed := true, recurses := true, loops := true, apart := false, narrowed := true }
def FnExactMatchPairUptoSaid : Prop := fnExactMatchPairUptoRow.holds Try.pinned (OpenSpec.upto fnExactMatchPairSpec)

/-- 'laws.FnExactFreshHole', WHERE WHAT IT READS IS OF BULK AT MOST 1048576: true; the input reads as it did. -/
def fnExactFreshHoleUptoRow : OpenClaim := { program := "ytadjaclmgdmnbaa", sum := "a0e752687c8ad7334e4dfb6f6ec75fba32050587d2a7583add00b45a99283c16", func := "loop.example/g00585/laws.FnExactFreshHole", spec := "fnExactFreshHole", recurses := true, loops := true, apart := false, narrowed := true }
def FnExactFreshHoleUptoSaid : Prop := fnExactFreshHoleUptoRow.holds Try.pinned (OpenSpec.upto fnExactFreshHoleSpec)

/-- 'laws.FnExactIsCtx', WHERE WHAT IT READS IS OF BULK AT MOST 1048576: true; the input reads as it did. -/
def fnExactIsCtxUptoRow : OpenClaim := { program := "ytadjaclmgdmnbaa", sum := "a0e752687c8ad7334e4dfb6f6ec75fba32050587d2a7583add00b45a99283c16", func := "loop.example/g00585/laws.FnExactIsCtx", spec := "fnExactIsCtx", unfollowed := true, recurses := true, loops := true, apart := false, narrowed := true }
def FnExactIsCtxUptoSaid : Prop := fnExactIsCtxUptoRow.holds Try.pinned (OpenSpec.upto fnExactIsCtxSpec)

end Rows
end Go.Proofs.Ytadjaclmgdmnbaa
