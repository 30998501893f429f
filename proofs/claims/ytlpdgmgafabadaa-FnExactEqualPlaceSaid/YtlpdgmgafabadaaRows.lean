/-
  NARROWER THAN 'FOR EVERY INPUT', by the rows' own cells (each row's printed sentence says how): FnExactMatchArrow: loops · FnExactMatchPair: loops · FnExactIsCtx: loops · FnExactLookupCtx: loops · FnExactEqualPlace: loops · FnExactEqualEdit: loops · FnExactIsAction: loops.
  DERIVED. THE GIVEN ROWS OF THIS SEAT. 8 by the template 'for every input the law returns true; each argument reads behind the call as it read before'; 0 by the template 'total and deterministic' (their statements: YtlpdgmgafabadaaTotals.lean).
  GIVEN WITH THE SEED: the statements are not yours to turn. If you find one false, say at which input.
  Laid BY PROGRAM, IN A SANDBOX (cutbox-rows.mjs): the forced cells as the released guide's own fill.sh prints them over the translation 8aa9daac165f78d1… (all of the seat's roots in one cut). By AI agents, Wed Nov 11 2026. No macro, syntax, notation, axiom, sorry.
-/
import Derived.Test.YtlpdgmgafabadaaChecked
import GoSem.Claim
import GoSem.ClaimJoined
import GoSem.ClaimMapViews
import Derived.JoinedTies
import Derived.KernelRfl
namespace Go.Proofs.Ytlpdgmgafabadaa
/- THE CELL 'sum', in the pinned program and in every row, IS THE sha256 OF THE DUMP (.gsa) THAT YtlpdgmgafabadaaProg.lean LOADS. Nothing in Lean hashes anything: it is a label: what it is worth is what the hold of that sum in a sandbox is worth. -/
noncomputable def Try.pinned : Pinned := { name := "ytlpdgmgafabadaa", sum := "8aa9daac165f78d13aa0d207a5120f2c189606830462773ff5aa042b738cb41e", checked := Try.checked }
namespace Rows
def none {H : Type} : Left H := { results := [], args := [] }

/-- 'laws.FnExactMatchArrow': WHATEVER THE INPUT: true; the input reads as it did. -/
def fnExactMatchArrowSpec : ChangeSpec := { name := "fnExactMatchArrow", fn := fun _ => fun
  | [d] => { results := [.lit (.bool true)], args := [d] }
  | _ => none }
def fnExactMatchArrowRow : OpenClaim := { program := "ytlpdgmgafabadaa", sum := "8aa9daac165f78d13aa0d207a5120f2c189606830462773ff5aa042b738cb41e", func := "loop.example/g00585/laws.FnExactMatchArrow", spec := "fnExactMatchArrow", unfollowed := true, recurses := true, loops := true, apart := false }
def FnExactMatchArrowSaid : Prop := fnExactMatchArrowRow.holds Try.pinned (OpenSpec.ofChange fnExactMatchArrowSpec)

/-- ITS FALSE NEIGHBOUR: 'it returns false'. Refute it at one input. -/
def fnExactMatchArrowWrong : ChangeSpec := { name := "fnExactMatchArrow", fn := fun _ => fun
  | [d] => { results := [.lit (.bool false)], args := [d] }
  | _ => none }
def FnExactMatchArrowWrongFalsely : Prop := fnExactMatchArrowRow.holds Try.pinned (OpenSpec.ofChange fnExactMatchArrowWrong)

/-- 'laws.FnExactMatchPair': WHATEVER THE INPUT: true; the input reads as it did. -/
def fnExactMatchPairSpec : ChangeSpec := { name := "fnExactMatchPair", fn := fun _ => fun
  | [d] => { results := [.lit (.bool true)], args := [d] }
  | _ => none }
def fnExactMatchPairRow : OpenClaim := { program := "ytlpdgmgafabadaa", sum := "8aa9daac165f78d13aa0d207a5120f2c189606830462773ff5aa042b738cb41e", func := "loop.example/g00585/laws.FnExactMatchPair", spec := "fnExactMatchPair", unfollowed := true, recurses := true, loops := true, apart := false }
def FnExactMatchPairSaid : Prop := fnExactMatchPairRow.holds Try.pinned (OpenSpec.ofChange fnExactMatchPairSpec)

/-- ITS FALSE NEIGHBOUR: 'it returns false'. Refute it at one input. -/
def fnExactMatchPairWrong : ChangeSpec := { name := "fnExactMatchPair", fn := fun _ => fun
  | [d] => { results := [.lit (.bool false)], args := [d] }
  | _ => none }
def FnExactMatchPairWrongFalsely : Prop := fnExactMatchPairRow.holds Try.pinned (OpenSpec.ofChange fnExactMatchPairWrong)

/-- 'laws.FnExactIsCtx': WHATEVER THE INPUT: true; the input reads as it did. -/
def fnExactIsCtxSpec : ChangeSpec := { name := "fnExactIsCtx", fn := fun _ => fun
  | [d] => { results := [.lit (.bool true)], args := [d] }
  | _ => none }
def fnExactIsCtxRow : OpenClaim := { program := "ytlpdgmgafabadaa", sum := "8aa9daac165f78d13aa0d207a5120f2c189606830462773ff5aa042b738cb41e", func := "loop.example/g00585/laws.FnExactIsCtx", spec := "fnExactIsCtx", unfollowed := true, recurses := true, loops := true, apart := false }
def FnExactIsCtxSaid : Prop := fnExactIsCtxRow.holds Try.pinned (OpenSpec.ofChange fnExactIsCtxSpec)

/-- ITS FALSE NEIGHBOUR: 'it returns false'. Refute it at one input. -/
def fnExactIsCtxWrong : ChangeSpec := { name := "fnExactIsCtx", fn := fun _ => fun
  | [d] => { results := [.lit (.bool false)], args := [d] }
  | _ => none }
def FnExactIsCtxWrongFalsely : Prop := fnExactIsCtxRow.holds Try.pinned (OpenSpec.ofChange fnExactIsCtxWrong)

/-- 'laws.FnExactLookupCtx': WHATEVER THE INPUT: true; the input reads as it did. -/
def fnExactLookupCtxSpec : ChangeSpec := { name := "fnExactLookupCtx", fn := fun _ => fun
  | [d1, d2] => { results := [.lit (.bool true)], args := [d1, d2] }
  | _ => none }
def fnExactLookupCtxRow : OpenClaim := { program := "ytlpdgmgafabadaa", sum := "8aa9daac165f78d13aa0d207a5120f2c189606830462773ff5aa042b738cb41e", func := "loop.example/g00585/laws.FnExactLookupCtx", spec := "fnExactLookupCtx", recurses := true, loops := true, apart := false }
def FnExactLookupCtxSaid : Prop := fnExactLookupCtxRow.holds Try.pinned (OpenSpec.ofChange fnExactLookupCtxSpec)

/-- ITS FALSE NEIGHBOUR: 'it returns false'. Refute it at one input. -/
def fnExactLookupCtxWrong : ChangeSpec := { name := "fnExactLookupCtx", fn := fun _ => fun
  | [d1, d2] => { results := [.lit (.bool false)], args := [d1, d2] }
  | _ => none }
def FnExactLookupCtxWrongFalsely : Prop := fnExactLookupCtxRow.holds Try.pinned (OpenSpec.ofChange fnExactLookupCtxWrong)

/-- 'laws.FnExactEqualPlace': WHATEVER THE INPUT: true; the input reads as it did. -/
def fnExactEqualPlaceSpec : ChangeSpec := { name := "fnExactEqualPlace", fn := fun _ => fun
  | [d1, d2] => { results := [.lit (.bool true)], args := [d1, d2] }
  | _ => none }
def fnExactEqualPlaceRow : OpenClaim := { program := "ytlpdgmgafabadaa", sum := "8aa9daac165f78d13aa0d207a5120f2c189606830462773ff5aa042b738cb41e", func := "loop.example/g00585/laws.FnExactEqualPlace", spec := "fnExactEqualPlace", unfollowed := true, recurses := true, loops := true, apart := false }
def FnExactEqualPlaceSaid : Prop := fnExactEqualPlaceRow.holds Try.pinned (OpenSpec.ofChange fnExactEqualPlaceSpec)

/-- ITS FALSE NEIGHBOUR: 'it returns false'. Refute it at one input. -/
def fnExactEqualPlaceWrong : ChangeSpec := { name := "fnExactEqualPlace", fn := fun _ => fun
  | [d1, d2] => { results := [.lit (.bool false)], args := [d1, d2] }
  | _ => none }
def FnExactEqualPlaceWrongFalsely : Prop := fnExactEqualPlaceRow.holds Try.pinned (OpenSpec.ofChange fnExactEqualPlaceWrong)

/-- 'laws.FnExactStartEdit': WHATEVER THE INPUT: true; the input reads as it did. -/
def fnExactStartEditSpec : ChangeSpec := { name := "fnExactStartEdit", fn := fun _ => fun
  | [] => { results := [.lit (.bool true)], args := [] }
  | _ => none }
def fnExactStartEditRow : OpenClaim := { program := "ytlpdgmgafabadaa", sum := "8aa9daac165f78d13aa0d207a5120f2c189606830462773ff5aa042b738cb41e", func := "loop.example/g00585/laws.FnExactStartEdit", spec := "fnExactStartEdit", recurses := true, apart := false }
def FnExactStartEditSaid : Prop := fnExactStartEditRow.holds Try.pinned (OpenSpec.ofChange fnExactStartEditSpec)

/-- ITS FALSE NEIGHBOUR: 'it returns false'. Refute it at one input. -/
def fnExactStartEditWrong : ChangeSpec := { name := "fnExactStartEdit", fn := fun _ => fun
  | [] => { results := [.lit (.bool false)], args := [] }
  | _ => none }
def FnExactStartEditWrongFalsely : Prop := fnExactStartEditRow.holds Try.pinned (OpenSpec.ofChange fnExactStartEditWrong)

/-- 'laws.FnExactEqualEdit': WHATEVER THE INPUT: true; the input reads as it did. -/
def fnExactEqualEditSpec : ChangeSpec := { name := "fnExactEqualEdit", fn := fun _ => fun
  | [d1, d2] => { results := [.lit (.bool true)], args := [d1, d2] }
  | _ => none }
def fnExactEqualEditRow : OpenClaim := { program := "ytlpdgmgafabadaa", sum := "8aa9daac165f78d13aa0d207a5120f2c189606830462773ff5aa042b738cb41e", func := "loop.example/g00585/laws.FnExactEqualEdit", spec := "fnExactEqualEdit", recurses := true, loops := true, apart := false }
def FnExactEqualEditSaid : Prop := fnExactEqualEditRow.holds Try.pinned (OpenSpec.ofChange fnExactEqualEditSpec)

/-- ITS FALSE NEIGHBOUR: 'it returns false'. Refute it at one input. -/
def fnExactEqualEditWrong : ChangeSpec := { name := "fnExactEqualEdit", fn := fun _ => fun
  | [d1, d2] => { results := [.lit (.bool false)], args := [d1, d2] }
  | _ => none }
def FnExactEqualEditWrongFalsely : Prop := fnExactEqualEditRow.holds Try.pinned (OpenSpec.ofChange fnExactEqualEditWrong)

/-- 'laws.FnExactIsAction': WHATEVER THE INPUT: true; the input reads as it did. -/
def fnExactIsActionSpec : ChangeSpec := { name := "fnExactIsAction", fn := fun _ => fun
  | [d] => { results := [.lit (.bool true)], args := [d] }
  | _ => none }
def fnExactIsActionRow : OpenClaim := { program := "ytlpdgmgafabadaa", sum := "8aa9daac165f78d13aa0d207a5120f2c189606830462773ff5aa042b738cb41e", func := "loop.example/g00585/laws.FnExactIsAction", spec := "fnExactIsAction", unfollowed := true, recurses := true, loops := true, apart := false }
def FnExactIsActionSaid : Prop := fnExactIsActionRow.holds Try.pinned (OpenSpec.ofChange fnExactIsActionSpec)

/-- ITS FALSE NEIGHBOUR: 'it returns false'. Refute it at one input. -/
def fnExactIsActionWrong : ChangeSpec := { name := "fnExactIsAction", fn := fun _ => fun
  | [d] => { results := [.lit (.bool false)], args := [d] }
  | _ => none }
def FnExactIsActionWrongFalsely : Prop := fnExactIsActionRow.holds Try.pinned (OpenSpec.ofChange fnExactIsActionWrong)

/- THE SECOND FORM. 'bulk': how many values and letters a reading holds, each counted each time it is reached (what is shared counts as often as it is met; a slice's spare places count too). A statement '..UptoSaid' is the law's where the arguments, and the package variables that the reading takes, are together of bulk at most 1048576: NARROWER than '..Said'. Prove '..Said' where nothing that the law and all that it calls make is longer than what came in: it says more and counts as full. Else prove '..UptoSaid'. A law counts once. -/
mutual
def uptoBulk {H : Type} : DataW H → Nat
  | .lit (.string bytes) => bytes.length + 1
  | .lit _ => 1
  | .nil => 1
  | .ptr d => uptoBulk d + 1
  | .slice elems spare => uptoBulkAll elems + uptoBulkAll spare + 1
  | .agg parts => uptoBulkAll parts + 1
  | .iface _ d => uptoBulk d + 1
  | .map entries => uptoBulkEntries entries + 1
  | .held _ => 1
def uptoBulkAll {H : Type} : List (DataW H) → Nat
  | [] => 0
  | d :: r => uptoBulk d + uptoBulkAll r
def uptoBulkEntries {H : Type} : List (Lit × DataW H) → Nat
  | [] => 0
  | x :: r => uptoBulkEntry x + uptoBulkEntries r
def uptoBulkEntry {H : Type} : Lit × DataW H → Nat
  | (.string bytes, d) => bytes.length + uptoBulk d + 1
  | (_, d) => uptoBulk d + 1
 end
def uptoSmall : (H : Type) → List (DataW H) → Bool := fun _ ds => decide (uptoBulkAll ds ≤ 1048576)
def OpenSpec.upto (s : _root_.Go.ChangeSpec) : _root_.Go.OpenSpec := { _root_.Go.OpenSpec.ofChange s with cond := some uptoSmall }

/-- 'laws.FnExactMatchArrow', WHERE WHAT IT READS IS OF BULK AT MOST 1048576: true; the input reads as it did. -/
def fnExactMatchArrowUptoRow : OpenClaim := { program := "ytlpdgmgafabadaa", sum := "8aa9daac165f78d13aa0d207a5120f2c189606830462773ff5aa042b738cb41e", func := "loop.example/g00585/laws.FnExactMatchArrow", spec := "fnExactMatchArrow", unfollowed := true, recurses := true, loops := true, apart := false, narrowed := true }
def FnExactMatchArrowUptoSaid : Prop := fnExactMatchArrowUptoRow.holds Try.pinned (OpenSpec.upto fnExactMatchArrowSpec)

/-- 'laws.FnExactMatchPair', WHERE WHAT IT READS IS OF BULK AT MOST 1048576: true; the input reads as it did. -/
def fnExactMatchPairUptoRow : OpenClaim := { program := "ytlpdgmgafabadaa", sum := "8aa9daac165f78d13aa0d207a5120f2c189606830462773ff5aa042b738cb41e", func := "loop.example/g00585/laws.FnExactMatchPair", spec := "fnExactMatchPair", unfollowed := true, recurses := true, loops := true, apart := false, narrowed := true }
def FnExactMatchPairUptoSaid : Prop := fnExactMatchPairUptoRow.holds Try.pinned (OpenSpec.upto fnExactMatchPairSpec)

/-- 'laws.FnExactIsCtx', WHERE WHAT IT READS IS OF BULK AT MOST 1048576: true; the input reads as it did. -/
def fnExactIsCtxUptoRow : OpenClaim := { program := "ytlpdgmgafabadaa", sum := "8aa9daac165f78d13aa0d207a5120f2c189606830462773ff5aa042b738cb41e", func := "loop.example/g00585/laws.FnExactIsCtx", spec := "fnExactIsCtx", unfollowed := true, recurses := true, loops := true, apart := false, narrowed := true }
def FnExactIsCtxUptoSaid : Prop := fnExactIsCtxUptoRow.holds Try.pinned (OpenSpec.upto fnExactIsCtxSpec)

/-- 'laws.FnExactLookupCtx', WHERE WHAT IT READS IS OF BULK AT MOST 1048576: true; the input reads as it did. -/
def fnExactLookupCtxUptoRow : OpenClaim := { program := "ytlpdgmgafabadaa", sum := "8aa9daac165f78d13aa0d207a5120f2c189606830462773ff5aa042b738cb41e", func := "loop.example/g00585/laws.FnExactLookupCtx", spec := "fnExactLookupCtx", recurses := true, loops := true, apart := false, narrowed := true }
def FnExactLookupCtxUptoSaid : Prop := fnExactLookupCtxUptoRow.holds Try.pinned (OpenSpec.upto fnExactLookupCtxSpec)

/-- 'laws.FnExactEqualPlace', WHERE WHAT IT READS IS OF BULK AT MOST 1048576: true; the input reads as it did. -/
def fnExactEqualPlaceUptoRow : OpenClaim := { program := "ytlpdgmgafabadaa", sum := "8aa9daac165f78d13aa0d207a5120f2c189606830462773ff5aa042b738cb41e", func := "loop.example/g00585/laws.FnExactEqualPlace", spec := "fnExactEqualPlace", unfollowed := true, recurses := true, loops := true, apart := false, narrowed := true }
def FnExactEqualPlaceUptoSaid : Prop := fnExactEqualPlaceUptoRow.holds Try.pinned (OpenSpec.upto fnExactEqualPlaceSpec)

/-- 'laws.FnExactStartEdit', WHERE WHAT IT READS IS OF BULK AT MOST 1048576: true; the input reads as it did. -/
def fnExactStartEditUptoRow : OpenClaim := { program := "ytlpdgmgafabadaa", sum := "8aa9daac165f78d13aa0d207a5120f2c189606830462773ff5aa042b738cb41e", func := "loop.example/g00585/laws.FnExactStartEdit", spec := "fnExactStartEdit", recurses := true, apart := false, narrowed := true }
def FnExactStartEditUptoSaid : Prop := fnExactStartEditUptoRow.holds Try.pinned (OpenSpec.upto fnExactStartEditSpec)

/-- 'laws.FnExactEqualEdit', WHERE WHAT IT READS IS OF BULK AT MOST 1048576: true; the input reads as it did. -/
def fnExactEqualEditUptoRow : OpenClaim := { program := "ytlpdgmgafabadaa", sum := "8aa9daac165f78d13aa0d207a5120f2c189606830462773ff5aa042b738cb41e", func := "loop.example/g00585/laws.FnExactEqualEdit", spec := "fnExactEqualEdit", recurses := true, loops := true, apart := false, narrowed := true }
def FnExactEqualEditUptoSaid : Prop := fnExactEqualEditUptoRow.holds Try.pinned (OpenSpec.upto fnExactEqualEditSpec)

/-- 'laws.FnExactIsAction', WHERE WHAT IT READS IS OF BULK AT MOST 1048576: true; the input reads as it did. -/
def fnExactIsActionUptoRow : OpenClaim := { program := "ytlpdgmgafabadaa", sum := "8aa9daac165f78d13aa0d207a5120f2c189606830462773ff5aa042b738cb41e", func := "loop.example/g00585/laws.FnExactIsAction", spec := "fnExactIsAction", unfollowed := true, recurses := true, loops := true, apart := false, narrowed := true }
def FnExactIsActionUptoSaid : Prop := fnExactIsActionUptoRow.holds Try.pinned (OpenSpec.upto fnExactIsActionSpec)

end Rows
end Go.Proofs.Ytlpdgmgafabadaa
