/-
  NARROWER THAN 'FOR EVERY INPUT', by the rows' own cells (each row's printed sentence says how): FnExactReplaceAt: loops, laid · FnExactFillExpr: loops, laid · FnExactMoveNext: loops, laid · FnExactCoreText: loops, laid.
  DERIVED. THE GIVEN ROWS OF THIS SEAT. 4 by the template 'for every input the law returns true; each argument reads behind the call as it read before'; 0 by the template 'total and deterministic' (their statements: YtcohfbdhdngplaaDoorTotals.lean).
  GIVEN WITH THE SEED: the statements are not yours to turn. If you find one false, say at which input.
  Laid BY PROGRAM, IN A SANDBOX (cutbox-rows.mjs): the forced cells as the released guide's own fill.sh prints them over the translation 9369304d35f70bd8… (all of the seat's roots in one cut). By AI agents, Wed Nov 11 2026. No macro, syntax, notation, axiom, sorry.
-/
import Derived.Test.YtcohfbdhdngplaaDoorChecked
import GoSem.Claim
import GoSem.ClaimJoined
import GoSem.ClaimMapViews
import Derived.JoinedTies
import Derived.KernelRfl
namespace Go.Proofs.YtcohfbdhdngplaaDoor
/- THE CELL 'sum', in the pinned program and in every row, IS THE sha256 OF THE DUMP (.gsa) THAT YtcohfbdhdngplaaDoorProg.lean LOADS. Nothing in Lean hashes anything: it is a label: what it is worth is what the hold of that sum in a sandbox is worth. -/
noncomputable def Tryd.pinned : Pinned := { name := "ytcohfbdhdngplaadoor", sum := "9369304d35f70bd8b569f11c5044997243e13b48b9264457d9b433162aac833f", checked := Tryd.checked }
namespace Rows
def none {H : Type} : Left H := { results := [], args := [] }

/- WHAT THE LISTED PACKAGE-LEVEL VARIABLES READ AS WHEN THE CALL BEGINS. Each datum BY PROGRAM (the guide's laid-datum.mjs) off the statement by which the dump's own 'gosem.cut.vars' lays the variable. In a bare row this is a premise. The card (YtcohfbdhdngplaaDoorCards.lean) ties it to the program's text. -/
def laid_loop_example_g00585_impl_arities {H : Type} : DataW H := .agg [.lit (.int .i64 0), .lit (.int .i64 0), .lit (.int .i64 0), .lit (.int .i64 1), .lit (.int .i64 2), .lit (.int .i64 0), .lit (.int .i64 2), .lit (.int .i64 2), .lit (.int .i64 0), .lit (.int .i64 3), .lit (.int .i64 2), .lit (.int .i64 1), .lit (.int .i64 1), .lit (.int .i64 1), .lit (.int .i64 1)]
def laid_math_bits_deBruijn32tab {H : Type} : DataW H := .agg [.lit (.int .u8 0), .lit (.int .u8 1), .lit (.int .u8 28), .lit (.int .u8 2), .lit (.int .u8 29), .lit (.int .u8 14), .lit (.int .u8 24), .lit (.int .u8 3), .lit (.int .u8 30), .lit (.int .u8 22), .lit (.int .u8 20), .lit (.int .u8 15), .lit (.int .u8 25), .lit (.int .u8 17), .lit (.int .u8 4), .lit (.int .u8 8), .lit (.int .u8 31), .lit (.int .u8 27), .lit (.int .u8 13), .lit (.int .u8 23), .lit (.int .u8 21), .lit (.int .u8 19), .lit (.int .u8 16), .lit (.int .u8 7), .lit (.int .u8 26), .lit (.int .u8 12), .lit (.int .u8 18), .lit (.int .u8 6), .lit (.int .u8 11), .lit (.int .u8 5), .lit (.int .u8 10), .lit (.int .u8 9)]
def laid_math_bits_deBruijn64tab {H : Type} : DataW H := .agg [.lit (.int .u8 0), .lit (.int .u8 1), .lit (.int .u8 56), .lit (.int .u8 2), .lit (.int .u8 57), .lit (.int .u8 49), .lit (.int .u8 28), .lit (.int .u8 3), .lit (.int .u8 61), .lit (.int .u8 58), .lit (.int .u8 42), .lit (.int .u8 50), .lit (.int .u8 38), .lit (.int .u8 29), .lit (.int .u8 17), .lit (.int .u8 4), .lit (.int .u8 62), .lit (.int .u8 47), .lit (.int .u8 59), .lit (.int .u8 36), .lit (.int .u8 45), .lit (.int .u8 43), .lit (.int .u8 51), .lit (.int .u8 22), .lit (.int .u8 53), .lit (.int .u8 39), .lit (.int .u8 33), .lit (.int .u8 30), .lit (.int .u8 24), .lit (.int .u8 18), .lit (.int .u8 12), .lit (.int .u8 5), .lit (.int .u8 63), .lit (.int .u8 55), .lit (.int .u8 48), .lit (.int .u8 27), .lit (.int .u8 60), .lit (.int .u8 41), .lit (.int .u8 37), .lit (.int .u8 16), .lit (.int .u8 46), .lit (.int .u8 35), .lit (.int .u8 44), .lit (.int .u8 21), .lit (.int .u8 52), .lit (.int .u8 32), .lit (.int .u8 23), .lit (.int .u8 11), .lit (.int .u8 54), .lit (.int .u8 26), .lit (.int .u8 40), .lit (.int .u8 15), .lit (.int .u8 34), .lit (.int .u8 20), .lit (.int .u8 31), .lit (.int .u8 10), .lit (.int .u8 25), .lit (.int .u8 14), .lit (.int .u8 19), .lit (.int .u8 9), .lit (.int .u8 13), .lit (.int .u8 8), .lit (.int .u8 7), .lit (.int .u8 6)]
def laid_internal_strconv_uint64pow10 {H : Type} : DataW H := .agg [.lit (.int .u64 1), .lit (.int .u64 10), .lit (.int .u64 100), .lit (.int .u64 1000), .lit (.int .u64 10000), .lit (.int .u64 100000), .lit (.int .u64 1000000), .lit (.int .u64 10000000), .lit (.int .u64 100000000), .lit (.int .u64 1000000000), .lit (.int .u64 10000000000), .lit (.int .u64 100000000000), .lit (.int .u64 1000000000000), .lit (.int .u64 10000000000000), .lit (.int .u64 100000000000000), .lit (.int .u64 1000000000000000), .lit (.int .u64 10000000000000000), .lit (.int .u64 100000000000000000), .lit (.int .u64 1000000000000000000), .lit (.int .u64 10000000000000000000)]
def laid_loop_example_g00585_impl_coreForms {H : Type} : DataW H := .agg [.agg [.lit (.int .i64 0), .lit (.bool false), .lit (.bool false), .agg [.lit (.bool false), .lit (.bool false)]], .agg [.lit (.int .i64 0), .lit (.bool false), .lit (.bool true), .agg [.lit (.bool false), .lit (.bool false)]], .agg [.lit (.int .i64 1), .lit (.bool false), .lit (.bool true), .agg [.lit (.bool false), .lit (.bool false)]], .agg [.lit (.int .i64 0), .lit (.bool true), .lit (.bool false), .agg [.lit (.bool false), .lit (.bool false)]], .agg [.lit (.int .i64 1), .lit (.bool true), .lit (.bool false), .agg [.lit (.bool false), .lit (.bool true)]], .agg [.lit (.int .i64 2), .lit (.bool false), .lit (.bool false), .agg [.lit (.bool false), .lit (.bool false)]], .agg [.lit (.int .i64 0), .lit (.bool false), .lit (.bool false), .agg [.lit (.bool false), .lit (.bool false)]], .agg [.lit (.int .i64 2), .lit (.bool false), .lit (.bool false), .agg [.lit (.bool false), .lit (.bool false)]], .agg [.lit (.int .i64 2), .lit (.bool false), .lit (.bool false), .agg [.lit (.bool false), .lit (.bool false)]], .agg [.lit (.int .i64 0), .lit (.bool false), .lit (.bool false), .agg [.lit (.bool false), .lit (.bool false)]], .agg [.lit (.int .i64 3), .lit (.bool false), .lit (.bool false), .agg [.lit (.bool false), .lit (.bool false)]], .agg [.lit (.int .i64 2), .lit (.bool false), .lit (.bool false), .agg [.lit (.bool false), .lit (.bool false)]], .agg [.lit (.int .i64 1), .lit (.bool false), .lit (.bool false), .agg [.lit (.bool false), .lit (.bool false)]], .agg [.lit (.int .i64 1), .lit (.bool false), .lit (.bool false), .agg [.lit (.bool false), .lit (.bool false)]], .agg [.lit (.int .i64 1), .lit (.bool false), .lit (.bool false), .agg [.lit (.bool true), .lit (.bool true)]], .agg [.lit (.int .i64 1), .lit (.bool false), .lit (.bool false), .agg [.lit (.bool true), .lit (.bool true)]]]

/-- 'laws.FnExactReplaceAt': WHATEVER THE INPUT: true; the input reads as it did. -/
def fnExactReplaceAtSpec : ChangeSpec := { name := "fnExactReplaceAt", vars := ["loop.example/g00585/impl.arities"], fn := fun _ => fun
  | [d1, d2, d3, g1] => { results := [.lit (.bool true)], args := [d1, d2, d3], vars := [g1] }
  | _ => none }
def fnExactReplaceAtRow : OpenClaim := { program := "ytcohfbdhdngplaadoor", sum := "9369304d35f70bd8b569f11c5044997243e13b48b9264457d9b433162aac833f", func := "loop.example/g00585/laws.FnExactReplaceAt", spec := "fnExactReplaceAt", unfollowed := true, recurses := true, named := ["loop.example/g00585/impl.arities"], loops := true, apart := false, laid := [("loop.example/g00585/impl.arities", laid_loop_example_g00585_impl_arities)] }
def FnExactReplaceAtSaid : Prop := fnExactReplaceAtRow.holds Tryd.pinned (OpenSpec.ofChange fnExactReplaceAtSpec)

/-- ITS FALSE NEIGHBOUR: 'it returns false'. Refute it at one input. -/
def fnExactReplaceAtWrong : ChangeSpec := { name := "fnExactReplaceAt", vars := ["loop.example/g00585/impl.arities"], fn := fun _ => fun
  | [d1, d2, d3, g1] => { results := [.lit (.bool false)], args := [d1, d2, d3], vars := [g1] }
  | _ => none }
def FnExactReplaceAtWrongFalsely : Prop := fnExactReplaceAtRow.holds Tryd.pinned (OpenSpec.ofChange fnExactReplaceAtWrong)

/-- 'laws.FnExactFillExpr': WHATEVER THE INPUT: true; the input reads as it did. -/
def fnExactFillExprSpec : ChangeSpec := { name := "fnExactFillExpr", vars := ["loop.example/g00585/impl.arities"], fn := fun _ => fun
  | [d1, d2, d3, g1] => { results := [.lit (.bool true)], args := [d1, d2, d3], vars := [g1] }
  | _ => none }
def fnExactFillExprRow : OpenClaim := { program := "ytcohfbdhdngplaadoor", sum := "9369304d35f70bd8b569f11c5044997243e13b48b9264457d9b433162aac833f", func := "loop.example/g00585/laws.FnExactFillExpr", spec := "fnExactFillExpr", unfollowed := true, recurses := true, named := ["loop.example/g00585/impl.arities"], loops := true, apart := false, laid := [("loop.example/g00585/impl.arities", laid_loop_example_g00585_impl_arities)] }
def FnExactFillExprSaid : Prop := fnExactFillExprRow.holds Tryd.pinned (OpenSpec.ofChange fnExactFillExprSpec)

/-- ITS FALSE NEIGHBOUR: 'it returns false'. Refute it at one input. -/
def fnExactFillExprWrong : ChangeSpec := { name := "fnExactFillExpr", vars := ["loop.example/g00585/impl.arities"], fn := fun _ => fun
  | [d1, d2, d3, g1] => { results := [.lit (.bool false)], args := [d1, d2, d3], vars := [g1] }
  | _ => none }
def FnExactFillExprWrongFalsely : Prop := fnExactFillExprRow.holds Tryd.pinned (OpenSpec.ofChange fnExactFillExprWrong)

/-- 'laws.FnExactMoveNext': WHATEVER THE INPUT: true; the input reads as it did. -/
def fnExactMoveNextSpec : ChangeSpec := { name := "fnExactMoveNext", vars := ["loop.example/g00585/impl.arities"], fn := fun _ => fun
  | [d, g1] => { results := [.lit (.bool true)], args := [d], vars := [g1] }
  | _ => none }
def fnExactMoveNextRow : OpenClaim := { program := "ytcohfbdhdngplaadoor", sum := "9369304d35f70bd8b569f11c5044997243e13b48b9264457d9b433162aac833f", func := "loop.example/g00585/laws.FnExactMoveNext", spec := "fnExactMoveNext", unfollowed := true, recurses := true, named := ["loop.example/g00585/impl.arities"], loops := true, apart := false, laid := [("loop.example/g00585/impl.arities", laid_loop_example_g00585_impl_arities)] }
def FnExactMoveNextSaid : Prop := fnExactMoveNextRow.holds Tryd.pinned (OpenSpec.ofChange fnExactMoveNextSpec)

/-- ITS FALSE NEIGHBOUR: 'it returns false'. Refute it at one input. -/
def fnExactMoveNextWrong : ChangeSpec := { name := "fnExactMoveNext", vars := ["loop.example/g00585/impl.arities"], fn := fun _ => fun
  | [d, g1] => { results := [.lit (.bool false)], args := [d], vars := [g1] }
  | _ => none }
def FnExactMoveNextWrongFalsely : Prop := fnExactMoveNextRow.holds Tryd.pinned (OpenSpec.ofChange fnExactMoveNextWrong)

/-- 'laws.FnExactCoreText': WHATEVER THE INPUT: true; the input reads as it did. -/
def fnExactCoreTextSpec : ChangeSpec := { name := "fnExactCoreText", vars := ["loop.example/g00585/impl.coreForms"], fn := fun _ => fun
  | [d, g1] => { results := [.lit (.bool true)], args := [d], vars := [g1] }
  | _ => none }
def fnExactCoreTextRow : OpenClaim := { program := "ytcohfbdhdngplaadoor", sum := "9369304d35f70bd8b569f11c5044997243e13b48b9264457d9b433162aac833f", func := "loop.example/g00585/laws.FnExactCoreText", spec := "fnExactCoreText", inPlace := ["internal/abi.NoEscape", "internal/bytealg.MakeNoZero"], unfollowed := true, recurses := true, named := ["loop.example/g00585/impl.coreForms", "internal/strconv.uint64pow10", "math/bits.deBruijn32tab", "math/bits.deBruijn64tab"], loops := true, apart := false, laid := [("math/bits.deBruijn32tab", laid_math_bits_deBruijn32tab), ("math/bits.deBruijn64tab", laid_math_bits_deBruijn64tab), ("internal/strconv.uint64pow10", laid_internal_strconv_uint64pow10), ("loop.example/g00585/impl.coreForms", laid_loop_example_g00585_impl_coreForms)] }
def FnExactCoreTextSaid : Prop := fnExactCoreTextRow.holds Tryd.pinned (OpenSpec.ofChange fnExactCoreTextSpec)

/-- ITS FALSE NEIGHBOUR: 'it returns false'. Refute it at one input. -/
def fnExactCoreTextWrong : ChangeSpec := { name := "fnExactCoreText", vars := ["loop.example/g00585/impl.coreForms"], fn := fun _ => fun
  | [d, g1] => { results := [.lit (.bool false)], args := [d], vars := [g1] }
  | _ => none }
def FnExactCoreTextWrongFalsely : Prop := fnExactCoreTextRow.holds Tryd.pinned (OpenSpec.ofChange fnExactCoreTextWrong)

/- THE SECOND FORM. 'bulk': how many values and letters a reading holds, each counted each time it is reached (what is shared counts as often as it is met; a slice's spare places count too). A statement '..UptoSaid' is the law's where the arguments, and the package variables that the reading takes, are together of bulk at most 1048576: NARROWER than '..Said'. Prove '..Said' where nothing that the law and all that it calls make is longer than what came in: it says more and counts as full. Else prove '..UptoSaid'. A law counts once. -/
mutual
def uptoBulk {H : Type} : DataW H → Nat
  | .lit (.string bytes) => bytes.length + 1
  | .lit _ => 1
  | .nil => 1
  | .ptr d => uptoBulk d + 1
  | .slice elems spare => uptoBulkAll elems + uptoBulkAll spare + 1
  | .agg parts => uptoBulkAll parts + 1
  | .iface _ d => uptoBulk d + 1
  | .map entries => uptoBulkEntries entries + 1
  | .held _ => 1
def uptoBulkAll {H : Type} : List (DataW H) → Nat
  | [] => 0
  | d :: r => uptoBulk d + uptoBulkAll r
def uptoBulkEntries {H : Type} : List (Lit × DataW H) → Nat
  | [] => 0
  | x :: r => uptoBulkEntry x + uptoBulkEntries r
def uptoBulkEntry {H : Type} : Lit × DataW H → Nat
  | (.string bytes, d) => bytes.length + uptoBulk d + 1
  | (_, d) => uptoBulk d + 1
 end
def uptoSmall : (H : Type) → List (DataW H) → Bool := fun _ ds => decide (uptoBulkAll ds ≤ 1048576)
def OpenSpec.upto (s : _root_.Go.ChangeSpec) : _root_.Go.OpenSpec := { _root_.Go.OpenSpec.ofChange s with cond := some uptoSmall }

/-- 'laws.FnExactReplaceAt', WHERE WHAT IT READS IS OF BULK AT MOST 1048576: true; the input reads as it did. -/
def fnExactReplaceAtUptoRow : OpenClaim := { program := "ytcohfbdhdngplaadoor", sum := "9369304d35f70bd8b569f11c5044997243e13b48b9264457d9b433162aac833f", func := "loop.example/g00585/laws.FnExactReplaceAt", spec := "fnExactReplaceAt", unfollowed := true, recurses := true, named := ["loop.example/g00585/impl.arities"], loops := true, apart := false, laid := [("loop.example/g00585/impl.arities", laid_loop_example_g00585_impl_arities)], narrowed := true }
def FnExactReplaceAtUptoSaid : Prop := fnExactReplaceAtUptoRow.holds Tryd.pinned (OpenSpec.upto fnExactReplaceAtSpec)

/-- 'laws.FnExactFillExpr', WHERE WHAT IT READS IS OF BULK AT MOST 1048576: true; the input reads as it did. -/
def fnExactFillExprUptoRow : OpenClaim := { program := "ytcohfbdhdngplaadoor", sum := "9369304d35f70bd8b569f11c5044997243e13b48b9264457d9b433162aac833f", func := "loop.example/g00585/laws.FnExactFillExpr", spec := "fnExactFillExpr", unfollowed := true, recurses := true, named := ["loop.example/g00585/impl.arities"], loops := true, apart := false, laid := [("loop.example/g00585/impl.arities", laid_loop_example_g00585_impl_arities)], narrowed := true }
def FnExactFillExprUptoSaid : Prop := fnExactFillExprUptoRow.holds Tryd.pinned (OpenSpec.upto fnExactFillExprSpec)

/-- 'laws.FnExactMoveNext', WHERE WHAT IT READS IS OF BULK AT MOST 1048576: true; the input reads as it did. -/
def fnExactMoveNextUptoRow : OpenClaim := { program := "ytcohfbdhdngplaadoor", sum := "9369304d35f70bd8b569f11c5044997243e13b48b9264457d9b433162aac833f", func := "loop.example/g00585/laws.FnExactMoveNext", spec := "fnExactMoveNext", unfollowed := true, recurses := true, named := ["loop.example/g00585/impl.arities"], loops := true, apart := false, laid := [("loop.example/g00585/impl.arities", laid_loop_example_g00585_impl_arities)], narrowed := true }
def FnExactMoveNextUptoSaid : Prop := fnExactMoveNextUptoRow.holds Tryd.pinned (OpenSpec.upto fnExactMoveNextSpec)

/-- 'laws.FnExactCoreText', WHERE WHAT IT READS IS OF BULK AT MOST 1048576: true; the input reads as it did. -/
def fnExactCoreTextUptoRow : OpenClaim := { program := "ytcohfbdhdngplaadoor", sum := "9369304d35f70bd8b569f11c5044997243e13b48b9264457d9b433162aac833f", func := "loop.example/g00585/laws.FnExactCoreText", spec := "fnExactCoreText", inPlace := ["internal/abi.NoEscape", "internal/bytealg.MakeNoZero"], unfollowed := true, recurses := true, named := ["loop.example/g00585/impl.coreForms", "internal/strconv.uint64pow10", "math/bits.deBruijn32tab", "math/bits.deBruijn64tab"], loops := true, apart := false, laid := [("math/bits.deBruijn32tab", laid_math_bits_deBruijn32tab), ("math/bits.deBruijn64tab", laid_math_bits_deBruijn64tab), ("internal/strconv.uint64pow10", laid_internal_strconv_uint64pow10), ("loop.example/g00585/impl.coreForms", laid_loop_example_g00585_impl_coreForms)], narrowed := true }
def FnExactCoreTextUptoSaid : Prop := fnExactCoreTextUptoRow.holds Tryd.pinned (OpenSpec.upto fnExactCoreTextSpec)

end Rows
end Go.Proofs.YtcohfbdhdngplaaDoor
