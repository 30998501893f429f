/-
  Proved: plain facts on equal values of the kind Change; no program.
-/
import Derived.Test.YtajikfageppobaaAtChgs
import Derived.Test.YtajikfageppobaaExEq
namespace Go.Proofs.Ytajikfageppobaa
open Go.RowKit

def Chg.beq (a b : Chg) : Bool := (decide (a.path = b.path)) && (Ex.beq a.ex b.ex)
def Chg.beqs : List Chg → List Chg → Bool
  | [], [] => true
  | a :: r, b :: s => a.beq b && Chg.beqs r s
  | _, _ => false
theorem Chg.beqs_len : ∀ (cs bs : List Chg), cs.length ≠ bs.length → Chg.beqs cs bs = false
  | [], [], h => (h rfl).elim
  | [], _ :: _, _ => rfl
  | _ :: _, [], _ => rfl
  | a :: r, b :: s, h => by
    simp only [Chg.beqs, Chg.beqs_len r s (by simpa using h), Bool.and_false]
theorem Chg.beqs_take : ∀ (cs bs : List Chg) (k : Nat) (h : k < cs.length) (h' : k < bs.length), Chg.beqs (cs.take (k + 1)) (bs.take (k + 1)) = (Chg.beqs (cs.take k) (bs.take k) && cs[k].beq bs[k])
  | [], _, _, h, _ => by simp at h
  | _ :: _, [], _, _, h => by simp at h
  | a :: r, b :: s, 0, _, _ => by simp [Chg.beqs]
  | a :: r, b :: s, k + 1, h, h' => by
    simp only [List.take_succ_cons, Chg.beqs, List.getElem_cons_succ]
    rw [Chg.beqs_take r s k (by simpa using h) (by simpa using h'), Bool.and_assoc]
theorem Chg.beqs_false : ∀ (cs bs : List Chg) (k : Nat), Chg.beqs (cs.take k) (bs.take k) = false → cs.length = bs.length → Chg.beqs cs bs = false
  | [], [], k, h, _ => by simp [Chg.beqs] at h
  | [], _ :: _, _, _, e => by simp at e
  | _ :: _, [], _, _, e => by simp at e
  | a :: r, b :: s, 0, h, _ => by simp [Chg.beqs] at h
  | a :: r, b :: s, k + 1, h, e => by
    simp only [List.take_succ_cons, Chg.beqs, Bool.and_eq_false_iff] at h ⊢
    rcases h with h | h
    · exact Or.inl h
    · exact Or.inr (Chg.beqs_false r s k h (by simpa using e))
theorem Chg.beqs_bad {cs bs : List Chg} {k : Nat} (h : k < cs.length) (h' : k < bs.length) (e : cs.length = bs.length) (hb : cs[k].beq bs[k] = false) : Chg.beqs cs bs = false :=
  Chg.beqs_false cs bs (k + 1) (by rw [Chg.beqs_take cs bs k h h', hb, Bool.and_false]) e
end Go.Proofs.Ytajikfageppobaa
