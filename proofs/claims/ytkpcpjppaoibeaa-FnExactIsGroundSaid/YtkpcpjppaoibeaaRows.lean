/-
  NARROWER THAN 'FOR EVERY INPUT', by the rows' own cells (each row's printed sentence says how): FnExactFormatType: loops · FnExactLessPrecise: loops · FnExactIsCompleteType: loops · FnExactMatchArrow: loops · FnExactMatchPair: loops · FnExactGroundOf: loops · FnExactIsGround: loops.
  DERIVED. THE GIVEN ROWS OF THIS SEAT. 9 by the template 'for every input the law returns true; each argument reads behind the call as it read before'; 0 by the template 'total and deterministic' (their statements: YtkpcpjppaoibeaaTotals.lean).
  GIVEN WITH THE SEED: the statements are not yours to turn. If you find one false, say at which input.
  Laid BY PROGRAM, IN A SANDBOX (cutbox-rows.mjs): the forced cells as the released guide's own fill.sh prints them over the translation 1fa84c25fa4fff69… (all of the seat's roots in one cut). By AI agents, Wed Nov 11 2026. No macro, syntax, notation, axiom, sorry.
-/
import Derived.Test.YtkpcpjppaoibeaaChecked
import GoSem.Claim
import GoSem.ClaimJoined
import GoSem.ClaimMapViews
import Derived.JoinedTies
import Derived.KernelRfl
namespace Go.Proofs.Ytkpcpjppaoibeaa
/- THE CELL 'sum', in the pinned program and in every row, IS THE sha256 OF THE DUMP (.gsa) THAT YtkpcpjppaoibeaaProg.lean LOADS. Nothing in Lean hashes anything: it is a label: what it is worth is what the hold of that sum in a sandbox is worth. -/
noncomputable def Try.pinned : Pinned := { name := "ytkpcpjppaoibeaa", sum := "1fa84c25fa4fff69a8197400a9b568fdcae2df5bac752f644f97743cad1cabc4", checked := Try.checked }
namespace Rows
def none {H : Type} : Left H := { results := [], args := [] }

/-- 'laws.FnTypeText': WHATEVER THE INPUT: true; the input reads as it did. -/
def fnTypeTextSpec : ChangeSpec := { name := "fnTypeText", fn := fun _ => fun
  | [d] => { results := [.lit (.bool true)], args := [d] }
  | _ => none }
def fnTypeTextRow : OpenClaim := { program := "ytkpcpjppaoibeaa", sum := "1fa84c25fa4fff69a8197400a9b568fdcae2df5bac752f644f97743cad1cabc4", func := "loop.example/g00585/laws.FnTypeText", spec := "fnTypeText", unfollowed := true, recurses := true, apart := false }
def FnTypeTextSaid : Prop := fnTypeTextRow.holds Try.pinned (OpenSpec.ofChange fnTypeTextSpec)

/-- ITS FALSE NEIGHBOUR: 'it returns false'. Refute it at one input. -/
def fnTypeTextWrong : ChangeSpec := { name := "fnTypeText", fn := fun _ => fun
  | [d] => { results := [.lit (.bool false)], args := [d] }
  | _ => none }
def FnTypeTextWrongFalsely : Prop := fnTypeTextRow.holds Try.pinned (OpenSpec.ofChange fnTypeTextWrong)

/-- 'laws.FnExactFormatType': WHATEVER THE INPUT: true; the input reads as it did. -/
def fnExactFormatTypeSpec : ChangeSpec := { name := "fnExactFormatType", fn := fun _ => fun
  | [d] => { results := [.lit (.bool true)], args := [d] }
  | _ => none }
def fnExactFormatTypeRow : OpenClaim := { program := "ytkpcpjppaoibeaa", sum := "1fa84c25fa4fff69a8197400a9b568fdcae2df5bac752f644f97743cad1cabc4", func := "loop.example/g00585/laws.FnExactFormatType", spec := "fnExactFormatType", unfollowed := true, recurses := true, loops := true, apart := false }
def FnExactFormatTypeSaid : Prop := fnExactFormatTypeRow.holds Try.pinned (OpenSpec.ofChange fnExactFormatTypeSpec)

/-- ITS FALSE NEIGHBOUR: 'it returns false'. Refute it at one input. -/
def fnExactFormatTypeWrong : ChangeSpec := { name := "fnExactFormatType", fn := fun _ => fun
  | [d] => { results := [.lit (.bool false)], args := [d] }
  | _ => none }
def FnExactFormatTypeWrongFalsely : Prop := fnExactFormatTypeRow.holds Try.pinned (OpenSpec.ofChange fnExactFormatTypeWrong)

/-- 'laws.FnExactParseType': WHATEVER THE INPUT: true; the input reads as it did. -/
def fnExactParseTypeSpec : ChangeSpec := { name := "fnExactParseType", fn := fun _ => fun
  | [d] => { results := [.lit (.bool true)], args := [d] }
  | _ => none }
def fnExactParseTypeRow : OpenClaim := { program := "ytkpcpjppaoibeaa", sum := "1fa84c25fa4fff69a8197400a9b568fdcae2df5bac752f644f97743cad1cabc4", func := "loop.example/g00585/laws.FnExactParseType", spec := "fnExactParseType", unfollowed := true, recurses := true, apart := false }
def FnExactParseTypeSaid : Prop := fnExactParseTypeRow.holds Try.pinned (OpenSpec.ofChange fnExactParseTypeSpec)

/-- ITS FALSE NEIGHBOUR: 'it returns false'. Refute it at one input. -/
def fnExactParseTypeWrong : ChangeSpec := { name := "fnExactParseType", fn := fun _ => fun
  | [d] => { results := [.lit (.bool false)], args := [d] }
  | _ => none }
def FnExactParseTypeWrongFalsely : Prop := fnExactParseTypeRow.holds Try.pinned (OpenSpec.ofChange fnExactParseTypeWrong)

/-- 'laws.FnExactLessPrecise': WHATEVER THE INPUT: true; the input reads as it did. -/
def fnExactLessPreciseSpec : ChangeSpec := { name := "fnExactLessPrecise", fn := fun _ => fun
  | [d1, d2] => { results := [.lit (.bool true)], args := [d1, d2] }
  | _ => none }
def fnExactLessPreciseRow : OpenClaim := { program := "ytkpcpjppaoibeaa", sum := "1fa84c25fa4fff69a8197400a9b568fdcae2df5bac752f644f97743cad1cabc4", func := "loop.example/g00585/laws.FnExactLessPrecise", spec := "fnExactLessPrecise", unfollowed := true, recurses := true, loops := true, apart := false }
def FnExactLessPreciseSaid : Prop := fnExactLessPreciseRow.holds Try.pinned (OpenSpec.ofChange fnExactLessPreciseSpec)

/-- ITS FALSE NEIGHBOUR: 'it returns false'. Refute it at one input. -/
def fnExactLessPreciseWrong : ChangeSpec := { name := "fnExactLessPrecise", fn := fun _ => fun
  | [d1, d2] => { results := [.lit (.bool false)], args := [d1, d2] }
  | _ => none }
def FnExactLessPreciseWrongFalsely : Prop := fnExactLessPreciseRow.holds Try.pinned (OpenSpec.ofChange fnExactLessPreciseWrong)

/-- 'laws.FnExactIsCompleteType': WHATEVER THE INPUT: true; the input reads as it did. -/
def fnExactIsCompleteTypeSpec : ChangeSpec := { name := "fnExactIsCompleteType", fn := fun _ => fun
  | [d] => { results := [.lit (.bool true)], args := [d] }
  | _ => none }
def fnExactIsCompleteTypeRow : OpenClaim := { program := "ytkpcpjppaoibeaa", sum := "1fa84c25fa4fff69a8197400a9b568fdcae2df5bac752f644f97743cad1cabc4", func := "loop.example/g00585/laws.FnExactIsCompleteType", spec := "fnExactIsCompleteType", unfollowed := true, recurses := true, loops := true, apart := false }
def FnExactIsCompleteTypeSaid : Prop := fnExactIsCompleteTypeRow.holds Try.pinned (OpenSpec.ofChange fnExactIsCompleteTypeSpec)

/-- ITS FALSE NEIGHBOUR: 'it returns false'. Refute it at one input. -/
def fnExactIsCompleteTypeWrong : ChangeSpec := { name := "fnExactIsCompleteType", fn := fun _ => fun
  | [d] => { results := [.lit (.bool false)], args := [d] }
  | _ => none }
def FnExactIsCompleteTypeWrongFalsely : Prop := fnExactIsCompleteTypeRow.holds Try.pinned (OpenSpec.ofChange fnExactIsCompleteTypeWrong)

/-- 'laws.FnExactMatchArrow': WHATEVER THE INPUT: true; the input reads as it did. -/
def fnExactMatchArrowSpec : ChangeSpec := { name := "fnExactMatchArrow", fn := fun _ => fun
  | [d] => { results := [.lit (.bool true)], args := [d] }
  | _ => none }
def fnExactMatchArrowRow : OpenClaim := { program := "ytkpcpjppaoibeaa", sum := "1fa84c25fa4fff69a8197400a9b568fdcae2df5bac752f644f97743cad1cabc4", func := "loop.example/g00585/laws.FnExactMatchArrow", spec := "fnExactMatchArrow", unfollowed := true, recurses := true, loops := true, apart := false }
def FnExactMatchArrowSaid : Prop := fnExactMatchArrowRow.holds Try.pinned (OpenSpec.ofChange fnExactMatchArrowSpec)

/-- ITS FALSE NEIGHBOUR: 'it returns false'. Refute it at one input. -/
def fnExactMatchArrowWrong : ChangeSpec := { name := "fnExactMatchArrow", fn := fun _ => fun
  | [d] => { results := [.lit (.bool false)], args := [d] }
  | _ => none }
def FnExactMatchArrowWrongFalsely : Prop := fnExactMatchArrowRow.holds Try.pinned (OpenSpec.ofChange fnExactMatchArrowWrong)

/-- 'laws.FnExactMatchPair': WHATEVER THE INPUT: true; the input reads as it did. -/
def fnExactMatchPairSpec : ChangeSpec := { name := "fnExactMatchPair", fn := fun _ => fun
  | [d] => { results := [.lit (.bool true)], args := [d] }
  | _ => none }
def fnExactMatchPairRow : OpenClaim := { program := "ytkpcpjppaoibeaa", sum := "1fa84c25fa4fff69a8197400a9b568fdcae2df5bac752f644f97743cad1cabc4", func := "loop.example/g00585/laws.FnExactMatchPair", spec := "fnExactMatchPair", unfollowed := true, recurses := true, loops := true, apart := false }
def FnExactMatchPairSaid : Prop := fnExactMatchPairRow.holds Try.pinned (OpenSpec.ofChange fnExactMatchPairSpec)

/-- ITS FALSE NEIGHBOUR: 'it returns false'. Refute it at one input. -/
def fnExactMatchPairWrong : ChangeSpec := { name := "fnExactMatchPair", fn := fun _ => fun
  | [d] => { results := [.lit (.bool false)], args := [d] }
  | _ => none }
def FnExactMatchPairWrongFalsely : Prop := fnExactMatchPairRow.holds Try.pinned (OpenSpec.ofChange fnExactMatchPairWrong)

/-- 'laws.FnExactGroundOf': WHATEVER THE INPUT: true; the input reads as it did. -/
def fnExactGroundOfSpec : ChangeSpec := { name := "fnExactGroundOf", fn := fun _ => fun
  | [d] => { results := [.lit (.bool true)], args := [d] }
  | _ => none }
def fnExactGroundOfRow : OpenClaim := { program := "ytkpcpjppaoibeaa", sum := "1fa84c25fa4fff69a8197400a9b568fdcae2df5bac752f644f97743cad1cabc4", func := "loop.example/g00585/laws.FnExactGroundOf", spec := "fnExactGroundOf", unfollowed := true, recurses := true, loops := true, apart := false }
def FnExactGroundOfSaid : Prop := fnExactGroundOfRow.holds Try.pinned (OpenSpec.ofChange fnExactGroundOfSpec)

/-- ITS FALSE NEIGHBOUR: 'it returns false'. Refute it at one input. -/
def fnExactGroundOfWrong : ChangeSpec := { name := "fnExactGroundOf", fn := fun _ => fun
  | [d] => { results := [.lit (.bool false)], args := [d] }
  | _ => none }
def FnExactGroundOfWrongFalsely : Prop := fnExactGroundOfRow.holds Try.pinned (OpenSpec.ofChange fnExactGroundOfWrong)

/-- 'laws.FnExactIsGround': WHATEVER THE INPUT: true; the input reads as it did. -/
def fnExactIsGroundSpec : ChangeSpec := { name := "fnExactIsGround", fn := fun _ => fun
  | [d] => { results := [.lit (.bool true)], args := [d] }
  | _ => none }
def fnExactIsGroundRow : OpenClaim := { program := "ytkpcpjppaoibeaa", sum := "1fa84c25fa4fff69a8197400a9b568fdcae2df5bac752f644f97743cad1cabc4", func := "loop.example/g00585/laws.FnExactIsGround", spec := "fnExactIsGround", unfollowed := true, recurses := true, loops := true, apart := false }
def FnExactIsGroundSaid : Prop := fnExactIsGroundRow.holds Try.pinned (OpenSpec.ofChange fnExactIsGroundSpec)

/-- ITS FALSE NEIGHBOUR: 'it returns false'. Refute it at one input. -/
def fnExactIsGroundWrong : ChangeSpec := { name := "fnExactIsGround", fn := fun _ => fun
  | [d] => { results := [.lit (.bool false)], args := [d] }
  | _ => none }
def FnExactIsGroundWrongFalsely : Prop := fnExactIsGroundRow.holds Try.pinned (OpenSpec.ofChange fnExactIsGroundWrong)

/- THE SECOND FORM. 'bulk': how many values and letters a reading holds, each counted each time it is reached (what is shared counts as often as it is met; a slice's spare places count too). A statement '..UptoSaid' is the law's where the arguments, and the package variables that the reading takes, are together of bulk at most 1048576: NARROWER than '..Said'. Prove '..Said' where nothing that the law and all that it calls make is longer than what came in: it says more and counts as full. Else prove '..UptoSaid'. A law counts once. -/
mutual
def uptoBulk {H : Type} : DataW H → Nat
  | .lit (.string bytes) => bytes.length + 1
  | .lit _ => 1
  | .nil => 1
  | .ptr d => uptoBulk d + 1
  | .slice elems spare => uptoBulkAll elems + uptoBulkAll spare + 1
  | .agg parts => uptoBulkAll parts + 1
  | .iface _ d => uptoBulk d + 1
  | .map entries => uptoBulkEntries entries + 1
  | .held _ => 1
def uptoBulkAll {H : Type} : List (DataW H) → Nat
  | [] => 0
  | d :: r => uptoBulk d + uptoBulkAll r
def uptoBulkEntries {H : Type} : List (Lit × DataW H) → Nat
  | [] => 0
  | x :: r => uptoBulkEntry x + uptoBulkEntries r
def uptoBulkEntry {H : Type} : Lit × DataW H → Nat
  | (.string bytes, d) => bytes.length + uptoBulk d + 1
  | (_, d) => uptoBulk d + 1
 end
def uptoSmall : (H : Type) → List (DataW H) → Bool := fun _ ds => decide (uptoBulkAll ds ≤ 1048576)
def OpenSpec.upto (s : _root_.Go.ChangeSpec) : _root_.Go.OpenSpec := { _root_.Go.OpenSpec.ofChange s with cond := some uptoSmall }

/-- 'laws.FnTypeText', WHERE WHAT IT READS IS OF BULK AT MOST 1048576: true; the input reads as it did. -/
def fnTypeTextUptoRow : OpenClaim := { program := "ytkpcpjppaoibeaa", sum := "1fa84c25fa4fff69a8197400a9b568fdcae2df5bac752f644f97743cad1cabc4", func := "loop.example/g00585/laws.FnTypeText", spec := "fnTypeText", unfollowed := true, recurses := true, apart := false, narrowed := true }
def FnTypeTextUptoSaid : Prop := fnTypeTextUptoRow.holds Try.pinned (OpenSpec.upto fnTypeTextSpec)

/-- 'laws.FnExactFormatType', WHERE WHAT IT READS IS OF BULK AT MOST 1048576: true; the input reads as it did. -/
def fnExactFormatTypeUptoRow : OpenClaim := { program := "ytkpcpjppaoibeaa", sum := "1fa84c25fa4fff69a8197400a9b568fdcae2df5bac752f644f97743cad1cabc4", func := "loop.example/g00585/laws.FnExactFormatType", spec := "fnExactFormatType", unfollowed := true, recurses := true, loops := true, apart := false, narrowed := true }
def FnExactFormatTypeUptoSaid : Prop := fnExactFormatTypeUptoRow.holds Try.pinned (OpenSpec.upto fnExactFormatTypeSpec)

/-- 'laws.FnExactParseType', WHERE WHAT IT READS IS OF BULK AT MOST 1048576: true; the input reads as it did. -/
def fnExactParseTypeUptoRow : OpenClaim := { program := "ytkpcpjppaoibeaa", sum := "1fa84c25fa4fff69a8197400a9b568fdcae2df5bac752f644f97743cad1cabc4", func := "loop.example/g00585/laws.FnExactParseType", spec := "fnExactParseType", unfollowed := true, recurses := true, apart := false, narrowed := true }
def FnExactParseTypeUptoSaid : Prop := fnExactParseTypeUptoRow.holds Try.pinned (OpenSpec.upto fnExactParseTypeSpec)

/-- 'laws.FnExactLessPrecise', WHERE WHAT IT READS IS OF BULK AT MOST 1048576: true; the input reads as it did. -/
def fnExactLessPreciseUptoRow : OpenClaim := { program := "ytkpcpjppaoibeaa", sum := "1fa84c25fa4fff69a8197400a9b568fdcae2df5bac752f644f97743cad1cabc4", func := "loop.example/g00585/laws.FnExactLessPrecise", spec := "fnExactLessPrecise", unfollowed := true, recurses := true, loops := true, apart := false, narrowed := true }
def FnExactLessPreciseUptoSaid : Prop := fnExactLessPreciseUptoRow.holds Try.pinned (OpenSpec.upto fnExactLessPreciseSpec)

/-- 'laws.FnExactIsCompleteType', WHERE WHAT IT READS IS OF BULK AT MOST 1048576: true; the input reads as it did. -/
def fnExactIsCompleteTypeUptoRow : OpenClaim := { program := "ytkpcpjppaoibeaa", sum := "1fa84c25fa4fff69a8197400a9b568fdcae2df5bac752f644f97743cad1cabc4", func := "loop.example/g00585/laws.FnExactIsCompleteType", spec := "fnExactIsCompleteType", unfollowed := true, recurses := true, loops := true, apart := false, narrowed := true }
def FnExactIsCompleteTypeUptoSaid : Prop := fnExactIsCompleteTypeUptoRow.holds Try.pinned (OpenSpec.upto fnExactIsCompleteTypeSpec)

/-- 'laws.FnExactMatchArrow', WHERE WHAT IT READS IS OF BULK AT MOST 1048576: true; the input reads as it did. -/
def fnExactMatchArrowUptoRow : OpenClaim := { program := "ytkpcpjppaoibeaa", sum := "1fa84c25fa4fff69a8197400a9b568fdcae2df5bac752f644f97743cad1cabc4", func := "loop.example/g00585/laws.FnExactMatchArrow", spec := "fnExactMatchArrow", unfollowed := true, recurses := true, loops := true, apart := false, narrowed := true }
def FnExactMatchArrowUptoSaid : Prop := fnExactMatchArrowUptoRow.holds Try.pinned (OpenSpec.upto fnExactMatchArrowSpec)

/-- 'laws.FnExactMatchPair', WHERE WHAT IT READS IS OF BULK AT MOST 1048576: true; the input reads as it did. -/
def fnExactMatchPairUptoRow : OpenClaim := { program := "ytkpcpjppaoibeaa", sum := "1fa84c25fa4fff69a8197400a9b568fdcae2df5bac752f644f97743cad1cabc4", func := "loop.example/g00585/laws.FnExactMatchPair", spec := "fnExactMatchPair", unfollowed := true, recurses := true, loops := true, apart := false, narrowed := true }
def FnExactMatchPairUptoSaid : Prop := fnExactMatchPairUptoRow.holds Try.pinned (OpenSpec.upto fnExactMatchPairSpec)

/-- 'laws.FnExactGroundOf', WHERE WHAT IT READS IS OF BULK AT MOST 1048576: true; the input reads as it did. -/
def fnExactGroundOfUptoRow : OpenClaim := { program := "ytkpcpjppaoibeaa", sum := "1fa84c25fa4fff69a8197400a9b568fdcae2df5bac752f644f97743cad1cabc4", func := "loop.example/g00585/laws.FnExactGroundOf", spec := "fnExactGroundOf", unfollowed := true, recurses := true, loops := true, apart := false, narrowed := true }
def FnExactGroundOfUptoSaid : Prop := fnExactGroundOfUptoRow.holds Try.pinned (OpenSpec.upto fnExactGroundOfSpec)

/-- 'laws.FnExactIsGround', WHERE WHAT IT READS IS OF BULK AT MOST 1048576: true; the input reads as it did. -/
def fnExactIsGroundUptoRow : OpenClaim := { program := "ytkpcpjppaoibeaa", sum := "1fa84c25fa4fff69a8197400a9b568fdcae2df5bac752f644f97743cad1cabc4", func := "loop.example/g00585/laws.FnExactIsGround", spec := "fnExactIsGround", unfollowed := true, recurses := true, loops := true, apart := false, narrowed := true }
def FnExactIsGroundUptoSaid : Prop := fnExactIsGroundUptoRow.holds Try.pinned (OpenSpec.upto fnExactIsGroundSpec)

end Rows
end Go.Proofs.Ytkpcpjppaoibeaa
