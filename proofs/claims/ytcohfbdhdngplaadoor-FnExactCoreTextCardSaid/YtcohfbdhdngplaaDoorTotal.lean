/-
  Proved: how the number of bytes of a list of strings grows with the list. Plain mathematics, no program.
-/
import Derived.Lib.Join
namespace Go.Proofs.YtcohfbdhdngplaaDoor

/-- How many bytes the strings have. -/
def total : List ByteArray → Nat
  | [] => 0
  | s :: r => s.size + total r
theorem total_take (ss : List ByteArray) : ∀ k (h : k < ss.length), total (ss.take (k + 1)) = total (ss.take k) + ss[k].size := by
  induction ss with
  | nil => intro k h; simp at h
  | cons s r ih =>
    intro k h
    cases k with
    | zero => simp [total]
    | succ k =>
      simp only [List.take_succ_cons, total, List.getElem_cons_succ]
      rw [ih k (by simpa using h)]; omega

end Go.Proofs.YtcohfbdhdngplaaDoor
