/-
  Proved: plain facts on equal typings and places; no program.
-/
import Derived.Test.YtlpdgmgafabadaaPlMem
import Derived.Test.YtlpdgmgafabadaaExEq
import Derived.Test.YtlpdgmgafabadaaCtxOk
namespace Go.Proofs.Ytlpdgmgafabadaa

def Bi.beq (a b : Bi) : Bool := decide (a.name = b.name) && a.ty.beq b.ty
def Bi.beqs : List Bi → List Bi → Bool
  | [], [] => true
  | a :: r, b :: s => a.beq b && Bi.beqs r s
  | _, _ => false
def Pl.beq (a b : Pl) : Bool := (decide (a.ana = b.ana) && a.ty.beq b.ty) && Bi.beqs a.ctx b.ctx
theorem Bi.beqs_len : ∀ (cs bs : List Bi), cs.length ≠ bs.length → Bi.beqs cs bs = false
  | [], [], h => (h rfl).elim
  | [], _ :: _, _ => rfl
  | _ :: _, [], _ => rfl
  | a :: r, b :: s, h => by
    simp only [Bi.beqs, Bi.beqs_len r s (by simpa using h), Bool.and_false]
theorem Bi.beqs_take : ∀ (cs bs : List Bi) (k : Nat) (h : k < cs.length) (h' : k < bs.length), Bi.beqs (cs.take (k + 1)) (bs.take (k + 1)) = (Bi.beqs (cs.take k) (bs.take k) && cs[k].beq bs[k])
  | [], _, _, h, _ => by simp at h
  | _ :: _, [], _, _, h => by simp at h
  | a :: r, b :: s, 0, _, _ => by simp [Bi.beqs]
  | a :: r, b :: s, k + 1, h, h' => by
    simp only [List.take_succ_cons, Bi.beqs, List.getElem_cons_succ]
    rw [Bi.beqs_take r s k (by simpa using h) (by simpa using h'), Bool.and_assoc]
theorem Bi.beqs_false : ∀ (cs bs : List Bi) (k : Nat), Bi.beqs (cs.take k) (bs.take k) = false → cs.length = bs.length → Bi.beqs cs bs = false
  | [], [], k, h, _ => by simp [Bi.beqs] at h
  | [], _ :: _, _, _, e => by simp at e
  | _ :: _, [], _, _, e => by simp at e
  | a :: r, b :: s, 0, h, _ => by simp [Bi.beqs] at h
  | a :: r, b :: s, k + 1, h, e => by
    simp only [List.take_succ_cons, Bi.beqs, Bool.and_eq_false_iff] at h ⊢
    rcases h with h | h
    · exact Or.inl h
    · exact Or.inr (Bi.beqs_false r s k h (by simpa using e))
theorem beqs_bad {cs bs : List Bi} {k : Nat} (h : k < cs.length) (h' : k < bs.length) (e : cs.length = bs.length) (hb : cs[k].beq bs[k] = false) : Bi.beqs cs bs = false :=
  Bi.beqs_false cs bs (k + 1) (by rw [Bi.beqs_take cs bs k h h', hb, Bool.and_false]) e
end Go.Proofs.Ytlpdgmgafabadaa
