/-
  Proved: plain facts on equal expressions; the memory that was there stays as it was.
-/
import Derived.Test.YtefoenkmppeidaaExTree
import Derived.Test.YtefoenkmppeidaaTyEq
namespace Go.Proofs.Ytefoenkmppeidaa
open Go.RowKit

theorem text_ne {a b : ByteArray} (h : a ≠ b) : (a.toList == b.toList) = false := by
  rw [ByteArray.toList_eq, ByteArray.toList_eq]
  refine beq_false_of_ne fun e => h ?_
  cases a; cases b
  exact congrArg ByteArray.mk (Array.toList_inj.1 e)
/-- Two expressions have equal roots: all fields but the parts, and the number of these. -/
def Ex.roots : Ex → Ex → Bool
  | .node k nm n ty es, .node l nl m tz fs => decide (k = l) && (decide (nm = nl) && (decide (n = m) && (ty.beq tz && decide (es.length = fs.length))))
mutual
def Ex.beq : Ex → Ex → Bool
  | .node k nm n ty es, .node l nl m tz fs => (decide (k = l) && (decide (nm = nl) && (decide (n = m) && (ty.beq tz && decide (es.length = fs.length))))) && Ex.beqs es fs
def Ex.beqs : List Ex → List Ex → Bool
  | [], [] => true
  | a :: r, b :: s => a.beq b && Ex.beqs r s
  | _, _ => false
end
theorem Ex.beqs_take : ∀ (cs bs : List Ex) (k : Nat) (h : k < cs.length) (h' : k < bs.length), Ex.beqs (cs.take (k + 1)) (bs.take (k + 1)) = (Ex.beqs (cs.take k) (bs.take k) && cs[k].beq bs[k])
  | [], _, _, h, _ => by simp at h
  | _ :: _, [], _, _, h => by simp at h
  | a :: r, b :: s, 0, _, _ => by simp [Ex.beqs]
  | a :: r, b :: s, k + 1, h, h' => by
    simp only [List.take_succ_cons, Ex.beqs, List.getElem_cons_succ]
    rw [Ex.beqs_take r s k (by simpa using h) (by simpa using h'), Bool.and_assoc]
theorem Ex.beqs_false : ∀ (cs bs : List Ex) (k : Nat), Ex.beqs (cs.take k) (bs.take k) = false → cs.length = bs.length → Ex.beqs cs bs = false
  | [], [], k, h, _ => by simp [Ex.beqs] at h
  | [], _ :: _, _, _, e => by simp at e
  | _ :: _, [], _, _, e => by simp at e
  | a :: r, b :: s, 0, h, _ => by simp [Ex.beqs] at h
  | a :: r, b :: s, k + 1, h, e => by
    simp only [List.take_succ_cons, Ex.beqs, Bool.and_eq_false_iff] at h ⊢
    rcases h with h | h
    · exact Or.inl h
    · exact Or.inr (Ex.beqs_false r s k h (by simpa using e))
end Go.Proofs.Ytefoenkmppeidaa
