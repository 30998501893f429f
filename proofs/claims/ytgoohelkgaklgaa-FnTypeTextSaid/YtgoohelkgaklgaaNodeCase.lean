/-
  Proved: what an assertion on one of the five nodes yields (closed facts on the program's tables).
-/
import Derived.Test.YtgoohelkgaklgaaNodeOf
namespace Go.Proofs.Ytgoohelkgaklgaa
open Go.RowKit

theorem as_unknown_unknown (w : World) : (Instr.typeAssert (.iface 62 (.agg #[])) 59 62 true).run Try.prog w = .ok (.tuple #[.agg #[], .bool true]) w := by kernel_rfl
theorem as_unknown_num (w : World) : (Instr.typeAssert (.iface 62 (.agg #[])) 59 63 true).run Try.prog w = .ok (.tuple #[.agg #[], .bool false]) w := by kernel_rfl
theorem as_unknown_bool (w : World) : (Instr.typeAssert (.iface 62 (.agg #[])) 59 64 true).run Try.prog w = .ok (.tuple #[.agg #[], .bool false]) w := by kernel_rfl
theorem as_unknown_arrow (w : World) : (Instr.typeAssert (.iface 62 (.agg #[])) 59 66 true).run Try.prog w = .ok (.tuple #[.agg #[.int .i64 0, .slice none 0 0, .int .i64 0, .slice none 0 0], .bool false]) w := by kernel_rfl
theorem as_unknown_pair (w : World) : (Instr.typeAssert (.iface 62 (.agg #[])) 59 68 true).run Try.prog w = .ok (.tuple #[.agg #[.int .i64 0, .slice none 0 0, .int .i64 0, .slice none 0 0], .bool false]) w := by kernel_rfl
theorem as_num_unknown (w : World) : (Instr.typeAssert (.iface 63 (.agg #[])) 59 62 true).run Try.prog w = .ok (.tuple #[.agg #[], .bool false]) w := by kernel_rfl
theorem as_num_num (w : World) : (Instr.typeAssert (.iface 63 (.agg #[])) 59 63 true).run Try.prog w = .ok (.tuple #[.agg #[], .bool true]) w := by kernel_rfl
theorem as_num_bool (w : World) : (Instr.typeAssert (.iface 63 (.agg #[])) 59 64 true).run Try.prog w = .ok (.tuple #[.agg #[], .bool false]) w := by kernel_rfl
theorem as_num_arrow (w : World) : (Instr.typeAssert (.iface 63 (.agg #[])) 59 66 true).run Try.prog w = .ok (.tuple #[.agg #[.int .i64 0, .slice none 0 0, .int .i64 0, .slice none 0 0], .bool false]) w := by kernel_rfl
theorem as_num_pair (w : World) : (Instr.typeAssert (.iface 63 (.agg #[])) 59 68 true).run Try.prog w = .ok (.tuple #[.agg #[.int .i64 0, .slice none 0 0, .int .i64 0, .slice none 0 0], .bool false]) w := by kernel_rfl
theorem as_bool_unknown (w : World) : (Instr.typeAssert (.iface 64 (.agg #[])) 59 62 true).run Try.prog w = .ok (.tuple #[.agg #[], .bool false]) w := by kernel_rfl
theorem as_bool_num (w : World) : (Instr.typeAssert (.iface 64 (.agg #[])) 59 63 true).run Try.prog w = .ok (.tuple #[.agg #[], .bool false]) w := by kernel_rfl
theorem as_bool_bool (w : World) : (Instr.typeAssert (.iface 64 (.agg #[])) 59 64 true).run Try.prog w = .ok (.tuple #[.agg #[], .bool true]) w := by kernel_rfl
theorem as_bool_arrow (w : World) : (Instr.typeAssert (.iface 64 (.agg #[])) 59 66 true).run Try.prog w = .ok (.tuple #[.agg #[.int .i64 0, .slice none 0 0, .int .i64 0, .slice none 0 0], .bool false]) w := by kernel_rfl
theorem as_bool_pair (w : World) : (Instr.typeAssert (.iface 64 (.agg #[])) 59 68 true).run Try.prog w = .ok (.tuple #[.agg #[.int .i64 0, .slice none 0 0, .int .i64 0, .slice none 0 0], .bool false]) w := by kernel_rfl
theorem as_arrow_unknown (a b c d : Value) (w : World) : (Instr.typeAssert (.iface 66 (.agg #[a, b, c, d])) 59 62 true).run Try.prog w = .ok (.tuple #[.agg #[], .bool false]) w := by kernel_rfl
theorem as_arrow_num (a b c d : Value) (w : World) : (Instr.typeAssert (.iface 66 (.agg #[a, b, c, d])) 59 63 true).run Try.prog w = .ok (.tuple #[.agg #[], .bool false]) w := by kernel_rfl
theorem as_arrow_bool (a b c d : Value) (w : World) : (Instr.typeAssert (.iface 66 (.agg #[a, b, c, d])) 59 64 true).run Try.prog w = .ok (.tuple #[.agg #[], .bool false]) w := by kernel_rfl
theorem as_arrow_arrow (a b c d : Value) (w : World) : (Instr.typeAssert (.iface 66 (.agg #[a, b, c, d])) 59 66 true).run Try.prog w = .ok (.tuple #[.agg #[a, b, c, d], .bool true]) w := by kernel_rfl
theorem as_arrow_pair (a b c d : Value) (w : World) : (Instr.typeAssert (.iface 66 (.agg #[a, b, c, d])) 59 68 true).run Try.prog w = .ok (.tuple #[.agg #[.int .i64 0, .slice none 0 0, .int .i64 0, .slice none 0 0], .bool false]) w := by kernel_rfl
theorem as_pair_unknown (a b c d : Value) (w : World) : (Instr.typeAssert (.iface 68 (.agg #[a, b, c, d])) 59 62 true).run Try.prog w = .ok (.tuple #[.agg #[], .bool false]) w := by kernel_rfl
theorem as_pair_num (a b c d : Value) (w : World) : (Instr.typeAssert (.iface 68 (.agg #[a, b, c, d])) 59 63 true).run Try.prog w = .ok (.tuple #[.agg #[], .bool false]) w := by kernel_rfl
theorem as_pair_bool (a b c d : Value) (w : World) : (Instr.typeAssert (.iface 68 (.agg #[a, b, c, d])) 59 64 true).run Try.prog w = .ok (.tuple #[.agg #[], .bool false]) w := by kernel_rfl
theorem as_pair_arrow (a b c d : Value) (w : World) : (Instr.typeAssert (.iface 68 (.agg #[a, b, c, d])) 59 66 true).run Try.prog w = .ok (.tuple #[.agg #[.int .i64 0, .slice none 0 0, .int .i64 0, .slice none 0 0], .bool false]) w := by kernel_rfl
theorem as_pair_pair (a b c d : Value) (w : World) : (Instr.typeAssert (.iface 68 (.agg #[a, b, c, d])) 59 68 true).run Try.prog w = .ok (.tuple #[.agg #[a, b, c, d], .bool true]) w := by kernel_rfl
end Go.Proofs.Ytgoohelkgaklgaa
