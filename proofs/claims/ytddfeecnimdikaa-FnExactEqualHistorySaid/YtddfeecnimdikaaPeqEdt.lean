/-
  Proved: plain facts on equal values of the kind Edit; no program.
-/
import Derived.Test.YtddfeecnimdikaaAtEdts
import Derived.Test.YtddfeecnimdikaaExEq
namespace Go.Proofs.Ytddfeecnimdikaa
open Go.RowKit

def Edt.beq (a b : Edt) : Bool := (Ex.beq a.ex b.ex) && (decide (a.path = b.path))
def Edt.beqs : List Edt → List Edt → Bool
  | [], [] => true
  | a :: r, b :: s => a.beq b && Edt.beqs r s
  | _, _ => false
theorem Edt.beqs_len : ∀ (cs bs : List Edt), cs.length ≠ bs.length → Edt.beqs cs bs = false
  | [], [], h => (h rfl).elim
  | [], _ :: _, _ => rfl
  | _ :: _, [], _ => rfl
  | a :: r, b :: s, h => by
    simp only [Edt.beqs, Edt.beqs_len r s (by simpa using h), Bool.and_false]
theorem Edt.beqs_take : ∀ (cs bs : List Edt) (k : Nat) (h : k < cs.length) (h' : k < bs.length), Edt.beqs (cs.take (k + 1)) (bs.take (k + 1)) = (Edt.beqs (cs.take k) (bs.take k) && cs[k].beq bs[k])
  | [], _, _, h, _ => by simp at h
  | _ :: _, [], _, _, h => by simp at h
  | a :: r, b :: s, 0, _, _ => by simp [Edt.beqs]
  | a :: r, b :: s, k + 1, h, h' => by
    simp only [List.take_succ_cons, Edt.beqs, List.getElem_cons_succ]
    rw [Edt.beqs_take r s k (by simpa using h) (by simpa using h'), Bool.and_assoc]
theorem Edt.beqs_false : ∀ (cs bs : List Edt) (k : Nat), Edt.beqs (cs.take k) (bs.take k) = false → cs.length = bs.length → Edt.beqs cs bs = false
  | [], [], k, h, _ => by simp [Edt.beqs] at h
  | [], _ :: _, _, _, e => by simp at e
  | _ :: _, [], _, _, e => by simp at e
  | a :: r, b :: s, 0, h, _ => by simp [Edt.beqs] at h
  | a :: r, b :: s, k + 1, h, e => by
    simp only [List.take_succ_cons, Edt.beqs, Bool.and_eq_false_iff] at h ⊢
    rcases h with h | h
    · exact Or.inl h
    · exact Or.inr (Edt.beqs_false r s k h (by simpa using e))
theorem Edt.beqs_bad {cs bs : List Edt} {k : Nat} (h : k < cs.length) (h' : k < bs.length) (e : cs.length = bs.length) (hb : cs[k].beq bs[k] = false) : Edt.beqs cs bs = false :=
  Edt.beqs_false cs bs (k + 1) (by rw [Edt.beqs_take cs bs k h h', hb, Bool.and_false]) e
end Go.Proofs.Ytddfeecnimdikaa
