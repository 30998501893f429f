/-
  Proved: plain facts on equal values of the kind Conflict; no program.
-/
import Derived.Test.YtajikfageppobaaAtCfls
import Derived.Test.YtajikfageppobaaExEq
namespace Go.Proofs.Ytajikfageppobaa
open Go.RowKit

def Cfl.beq (a b : Cfl) : Bool := (decide (a.ours = b.ours)) && (decide (a.theirs = b.theirs))
def Cfl.beqs : List Cfl → List Cfl → Bool
  | [], [] => true
  | a :: r, b :: s => a.beq b && Cfl.beqs r s
  | _, _ => false
theorem Cfl.beqs_len : ∀ (cs bs : List Cfl), cs.length ≠ bs.length → Cfl.beqs cs bs = false
  | [], [], h => (h rfl).elim
  | [], _ :: _, _ => rfl
  | _ :: _, [], _ => rfl
  | a :: r, b :: s, h => by
    simp only [Cfl.beqs, Cfl.beqs_len r s (by simpa using h), Bool.and_false]
theorem Cfl.beqs_take : ∀ (cs bs : List Cfl) (k : Nat) (h : k < cs.length) (h' : k < bs.length), Cfl.beqs (cs.take (k + 1)) (bs.take (k + 1)) = (Cfl.beqs (cs.take k) (bs.take k) && cs[k].beq bs[k])
  | [], _, _, h, _ => by simp at h
  | _ :: _, [], _, _, h => by simp at h
  | a :: r, b :: s, 0, _, _ => by simp [Cfl.beqs]
  | a :: r, b :: s, k + 1, h, h' => by
    simp only [List.take_succ_cons, Cfl.beqs, List.getElem_cons_succ]
    rw [Cfl.beqs_take r s k (by simpa using h) (by simpa using h'), Bool.and_assoc]
theorem Cfl.beqs_false : ∀ (cs bs : List Cfl) (k : Nat), Cfl.beqs (cs.take k) (bs.take k) = false → cs.length = bs.length → Cfl.beqs cs bs = false
  | [], [], k, h, _ => by simp [Cfl.beqs] at h
  | [], _ :: _, _, _, e => by simp at e
  | _ :: _, [], _, _, e => by simp at e
  | a :: r, b :: s, 0, h, _ => by simp [Cfl.beqs] at h
  | a :: r, b :: s, k + 1, h, e => by
    simp only [List.take_succ_cons, Cfl.beqs, Bool.and_eq_false_iff] at h ⊢
    rcases h with h | h
    · exact Or.inl h
    · exact Or.inr (Cfl.beqs_false r s k h (by simpa using e))
theorem Cfl.beqs_bad {cs bs : List Cfl} {k : Nat} (h : k < cs.length) (h' : k < bs.length) (e : cs.length = bs.length) (hb : cs[k].beq bs[k] = false) : Cfl.beqs cs bs = false :=
  Cfl.beqs_false cs bs (k + 1) (by rw [Cfl.beqs_take cs bs k h h', hb, Bool.and_false]) e
end Go.Proofs.Ytajikfageppobaa
