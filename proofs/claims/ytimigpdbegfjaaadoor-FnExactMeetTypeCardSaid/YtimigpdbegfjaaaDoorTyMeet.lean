/-
  Proved: plain facts on the meet of two types.
-/
import Derived.Test.YtimigpdbegfjaaaDoorSpecValid
import Derived.Test.YtimigpdbegfjaaaDoorTyEq
import Derived.Test.YtimigpdbegfjaaaDoorPart
namespace Go.Proofs.YtimigpdbegfjaaaDoor
open Go.RowKit

mutual
/-- They agree: one is unknown, or the same kind with parts that agree. -/
def Ty.cons : Ty → Ty → Bool
  | .node k cs, .node l bs => (decide (k = 1) || decide (l = 1)) || (decide (k = l) && Ty.conss cs bs)
def Ty.conss : List Ty → List Ty → Bool
  | [], [] => true
  | a :: r, b :: s => a.cons b && Ty.conss r s
  | _, _ => false
end
mutual
/-- What both say together. -/
def Ty.meet : Ty → Ty → Ty
  | .node k cs, .node l bs => if k = 1 then .node l bs else if l = 1 then .node k cs else .node k (Ty.meets cs bs)
def Ty.meets : List Ty → List Ty → List Ty
  | a :: r, b :: s => a.meet b :: Ty.meets r s
  | _, _ => []
end
theorem Ty.conss_take : ∀ (cs bs : List Ty) (k : Nat) (h : k < cs.length) (h' : k < bs.length), Ty.conss (cs.take (k + 1)) (bs.take (k + 1)) = (Ty.conss (cs.take k) (bs.take k) && cs[k].cons bs[k])
  | [], _, _, h, _ => by simp at h
  | _ :: _, [], _, _, h => by simp at h
  | a :: r, b :: s, 0, _, _ => by simp [Ty.conss]
  | a :: r, b :: s, k + 1, h, h' => by
    simp only [List.take_succ_cons, Ty.conss, List.getElem_cons_succ]
    rw [Ty.conss_take r s k (by simpa using h) (by simpa using h'), Bool.and_assoc]
theorem Ty.conss_false : ∀ (cs bs : List Ty) (k : Nat), Ty.conss (cs.take k) (bs.take k) = false → cs.length = bs.length → Ty.conss cs bs = false
  | [], [], k, h, _ => by simp [Ty.conss] at h
  | [], _ :: _, _, _, e => by simp at e
  | _ :: _, [], _, _, e => by simp at e
  | a :: r, b :: s, 0, h, _ => by simp [Ty.conss] at h
  | a :: r, b :: s, k + 1, h, e => by
    simp only [List.take_succ_cons, Ty.conss, Bool.and_eq_false_iff] at h ⊢
    rcases h with h | h
    · exact Or.inl h
    · exact Or.inr (Ty.conss_false r s k h (by simpa using e))
theorem Ty.forms_getm (ts : List Ty) (h : Ty.forms ts = true) (k : Nat) (hk : k < ts.length) : ts[k].form = true := by
  have e := Ty.forms_take ts k hk
  cases hf : ts[k].form with
  | true => rfl
  | false =>
    rw [hf, Bool.and_false] at e
    rw [Ty.forms_false ts (k + 1) e] at h; cases h
theorem form_lenm {k : Int} {cs bs : List Ty} (h1 : (Ty.node k cs).form = true) (h2 : (Ty.node k bs).form = true) : bs.length = cs.length := by
  simp only [Ty.form, Bool.and_eq_true] at h1 h2
  have e1 := h1.2
  have e2 := h2.2
  unfold kindOk at e1 e2
  split at e1
  · rw [if_pos (by assumption)] at e2
    simp at e1 e2; rw [e1, e2]
  · split at e1
    · rw [if_neg (by assumption), if_pos (by assumption)] at e2
      simp at e1 e2; rw [e1, e2]
    · cases e1

theorem Ty.meets_take : ∀ (cs bs : List Ty) (k : Nat) (h : k < cs.length) (h' : k < bs.length), Ty.meets (cs.take (k + 1)) (bs.take (k + 1)) = Ty.meets (cs.take k) (bs.take k) ++ [cs[k].meet bs[k]]
  | [], _, _, h, _ => by simp at h
  | _ :: _, [], _, _, h => by simp at h
  | a :: r, b :: s, 0, _, _ => by simp [Ty.meets]
  | a :: r, b :: s, k + 1, h, h' => by
    simp only [List.take_succ_cons, Ty.meets, List.getElem_cons_succ, List.cons_append]
    rw [Ty.meets_take r s k (by simpa using h) (by simpa using h')]
theorem Ty.meets_length : ∀ (cs bs : List Ty), bs.length = cs.length → (Ty.meets cs bs).length = cs.length
  | [], _, _ => by simp [Ty.meets]
  | _ :: _, [], h => by simp at h
  | a :: r, b :: s, h => by
    simp only [Ty.meets, List.length_cons]
    rw [Ty.meets_length r s (by simpa using h)]
theorem kinds_of {k : Int} {ts : List Ty} (h : (Ty.node k ts).form = true) : (k = 1 ∨ k = 2 ∨ k = 3) ∧ ts = [] ∨ (k = 4 ∨ k = 5) ∧ ts.length = 2 := by
  simp only [Ty.form, Bool.and_eq_true] at h
  have e1 := h.2
  unfold kindOk at e1
  split at e1
  · left
    simp at e1
    exact ⟨by omega, e1⟩
  · split at e1
    · right
      simp at e1
      exact ⟨by omega, e1⟩
    · cases e1
end Go.Proofs.YtimigpdbegfjaaaDoor
