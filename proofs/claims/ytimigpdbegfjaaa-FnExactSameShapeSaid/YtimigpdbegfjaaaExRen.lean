/-
  Proved: plain facts on an expression whose holes and marks are numbered anew; no program.
-/
import Derived.Test.YtimigpdbegfjaaaExHolesP
namespace Go.Proofs.Ytimigpdbegfjaaa
open Go.RowKit

mutual
/-- Holes and marks numbered from n on. -/
def Ex.ren : Ex → Int → Ex
  | .node k nm m ty es, n => if k = 1 ∨ k = 14 then .node k nm n ty (Ex.rens es (n + 1)) else .node k nm m ty (Ex.rens es n)
def Ex.rens : List Ex → Int → List Ex
  | [], _ => []
  | e :: r, n => e.ren n :: Ex.rens r (n + (e.holes.length : Int))
end
theorem Ex.rens_length : ∀ (es : List Ex) (n : Int), (Ex.rens es n).length = es.length
  | [], _ => rfl
  | e :: r, n => by simp [Ex.rens, Ex.rens_length r]
theorem Ex.rens_take : ∀ (es : List Ex) (n : Int) (k : Nat) (h : k < es.length), Ex.rens (es.take (k + 1)) n = Ex.rens (es.take k) n ++ [es[k].ren (n + ((Ex.holess (es.take k)).length : Int))]
  | [], _, _, h => by simp at h
  | e :: r, n, 0, _ => by simp [Ex.rens, Ex.holess]
  | e :: r, n, k + 1, h => by
    simp only [List.take_succ_cons, Ex.rens, List.getElem_cons_succ, List.cons_append, Ex.holess, List.length_append]
    rw [Ex.rens_take r _ k (by simpa using h)]
    congr 3
    push_cast
    rw [Int.add_assoc]
mutual
theorem Ex.ren_bulk : ∀ (e : Ex) (n : Int), (e.ren n).bulk = e.bulk
  | .node k nm m ty es, n => by
    unfold Ex.ren
    split
    · simp only [Ex.bulk, Ex.rens_bulk es (n + 1)]
    · simp only [Ex.bulk, Ex.rens_bulk es n]
theorem Ex.rens_bulk : ∀ (es : List Ex) (n : Int), Ex.bulks (Ex.rens es n) = Ex.bulks es
  | [], _ => rfl
  | e :: r, n => by simp only [Ex.rens, Ex.bulks, Ex.ren_bulk e n, Ex.rens_bulk r]
end
end Go.Proofs.Ytimigpdbegfjaaa
