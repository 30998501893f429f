/-
  Proved: plain facts on contexts; no program.
-/
import Derived.Test.YtlpdgmgafabadaaBindAt
import Derived.Test.YtlpdgmgafabadaaName
import Derived.Test.YtlpdgmgafabadaaSpecNote
namespace Go.Proofs.Ytlpdgmgafabadaa
open Go.RowKit

def Bi.ok (b : Bi) : Bool := nameB b.name && b.ty.note
/-- A context: at most eight typings, each of a name and a note. -/
def ctxB (bs : List Bi) : Bool := bs.all Bi.ok && decide (bs.length ≤ 8)
theorem all_next (bs : List Bi) (k : Nat) (h : k < bs.length) : (bs.take (k + 1)).all Bi.ok = ((bs.take k).all Bi.ok && bs[k].ok) := by
  rw [List.take_succ_eq_append_getElem h, List.all_append]
  simp
theorem all_bad (bs : List Bi) (k : Nat) (h : k < bs.length) (hb : bs[k].ok = false) : ctxB bs = false := by
  have : bs.all Bi.ok = false := by
    rw [List.all_eq_false]
    exact ⟨bs[k], List.getElem_mem h, by simp [hb]⟩
  simp [ctxB, this]
theorem ctx_long {bs : List Bi} (h : 8 < bs.length) : ctxB bs = false := by
  have : decide (bs.length ≤ 8) = false := decide_eq_false (by omega)
  simp [ctxB, this]
theorem ctx_all {bs : List Bi} (h : (bs.take bs.length).all Bi.ok = true) : ctxB bs = decide (bs.length ≤ 8) := by
  rw [List.take_length] at h
  simp [ctxB, h]
theorem bi_cells {w : World} {d : Nat} {c0 c1 c2 : Value} {b : Bi} (h : BiAt w d (.agg #[c0, c1, c2]) b) : ∃ tk ta tn tc, c0 = .string b.name ∧ c1 = .int .i64 tk ∧ c2 = .slice ta tn tc ∧ b.name.size ≤ 9223372036854775807 ∧ TyAt w d (.agg #[.int .i64 tk, .slice ta tn tc]) b.ty := by
  obtain ⟨tk, ta, tn, tc, hv, hn, ht⟩ := h
  injection hv with hv
  injection hv with hv
  simp at hv
  exact ⟨tk, ta, tn, tc, hv.1, hv.2.1, hv.2.2, hn, ht⟩
end Go.Proofs.Ytlpdgmgafabadaa
