/-
  Proved: plain facts on the form of core expressions: which names, numbers, types and environments a kind has, and what a whole tree of such nodes is.
-/
import Derived.Test.YtcohfbdhdngplaaDoorCoNum
import Derived.Test.YtcohfbdhdngplaaDoorCoreTab
import Derived.Test.YtcohfbdhdngplaaDoorCoLite
import Derived.Test.YtcohfbdhdngplaaDoorSeen
namespace Go.Proofs.YtcohfbdhdngplaaDoor
open Go.RowKit

def coNameFor (k : Int) (nm : ByteArray) : Bool := if k = 3 ∨ k = 4 then nameB nm else decide (nm.size = 0)
def coNumFor (k n : Int) : Bool := if k = 1 ∨ k = 2 then decide (1 ≤ n) && decide (n ≤ 99) else if k = 9 then decide (0 ≤ n) && decide (n ≤ 1) else if k = 6 then true else decide (n = 0)
def coTyFor (b : Bool) (t : Ty) : Bool := if b then t.valid else t.beq (.node 0 [])
def srcB (k : Int) : Bool := decide (k = 14) || decide (k = 15)
def tgtB (k : Int) : Bool := decide (k = 4) || srcB k
def boundB (k : Int) : Bool := decide (k = 1) || decide (k = 2)
def coTypesB (k : Int) (fr ty : Ty) : Bool := coTyFor (srcB k) fr && coTyFor (tgtB k) ty
def coFieldsB (k : Int) (nm : ByteArray) (n : Int) (fr ty : Ty) : Bool := coNameFor k nm && (coTypesB k fr ty && coNumFor k n)
/-- The names are names, each of them once and none of them in L. -/
def ownNames : List ByteArray → List ByteArray → Bool
  | _, [] => true
  | L, a :: r => nameB a && (!seenB L a.data.toList && ownNames (L ++ [a]) r)
theorem ownNames_take (ns : List ByteArray) : ∀ (L : List ByteArray) (k : Nat) (h : k < ns.length), ownNames L (ns.take (k + 1)) = (ownNames L (ns.take k) && (nameB ns[k] && !seenB (L ++ ns.take k) ns[k].data.toList)) := by
  induction ns with
  | nil => intro L k h; simp at h
  | cons a r ih =>
    intro L k h
    cases k with
    | zero => simp [ownNames]
    | succ k =>
      simp only [List.take_succ_cons, ownNames, List.getElem_cons_succ]
      rw [ih (L ++ [a]) k (by simpa using h), Bool.and_assoc, Bool.and_assoc, List.append_assoc]
      rfl
theorem ownNames_false (ns : List ByteArray) : ∀ (L : List ByteArray) (k : Nat), ownNames L (ns.take k) = false → ownNames L ns = false := by
  induction ns with
  | nil => intro L k h; simpa using h
  | cons a r ih =>
    intro L k h
    cases k with
    | zero => simp [ownNames] at h
    | succ k =>
      simp only [List.take_succ_cons, ownNames, Bool.and_eq_false_iff] at h ⊢
      rcases h with h | h | h
      · exact Or.inl h
      · exact Or.inr (Or.inl h)
      · exact Or.inr (Or.inr (ih _ k h))
/-- An environment stands only in holes and marks. -/
def envK (k : Int) (ns : List ByteArray) : Bool := decide (ns.length = 0) || boundB k
mutual
def Co.form : Co → Bool
  | .node k nm n fr ty es ns vs => Co.forms es && (coFieldsB k nm n fr ty && ((ownNames [] ns && (Co.forms vs && envK k ns)) && decide ((es.length : Int) = coArity k)))
def Co.forms : List Co → Bool
  | [] => true
  | e :: r => e.form && Co.forms r
end
theorem Co.forms_take (es : List Co) : ∀ k (h : k < es.length), Co.forms (es.take (k + 1)) = (Co.forms (es.take k) && es[k].form) := by
  induction es with
  | nil => intro k h; simp at h
  | cons s r ih =>
    intro k h
    cases k with
    | zero => simp [Co.forms]
    | succ k =>
      simp only [List.take_succ_cons, Co.forms, List.getElem_cons_succ]
      rw [ih k (by simpa using h), Bool.and_assoc]
theorem Co.forms_false (es : List Co) (k : Nat) (h : Co.forms (es.take k) = false) : Co.forms es = false := by
  induction es generalizing k with
  | nil => simp [Co.forms] at h
  | cons s r ih =>
    cases k with
    | zero => simp [Co.forms] at h
    | succ k =>
      simp only [List.take_succ_cons, Co.forms, Bool.and_eq_false_iff] at h ⊢
      rcases h with h | h
      · exact Or.inl h
      · exact Or.inr (ih k h)
theorem Co.forms_get (es : List Co) (k : Nat) (h : k < es.length) (hf : Co.forms es = true) : es[k].form = true := by
  have e := Co.forms_take es k h
  cases hk : es[k].form with
  | true => rfl
  | false =>
    rw [hk, Bool.and_false] at e
    rw [Co.forms_false es (k + 1) e] at hf; cases hf
theorem Co.counts_le_all (es : List Co) (k : Nat) : Co.counts (es.take k) ≤ Co.counts es := by
  induction es generalizing k with
  | nil => simp
  | cons s r ih =>
    cases k with
    | zero => simp [Co.counts]
    | succ k => simp only [List.take_succ_cons, Co.counts]; have := ih k; omega
/-- A valid core expression: at most 600 nodes, each of its kind's form. -/
def Co.valid (t : Co) : Bool := decide (t.count ≤ 600) && t.form
theorem valid_some {t : Ty} (h : t.valid = true) : t.beq (.node 0 []) = false := by
  cases t with
  | node k ts =>
    rw [co_beq_zero]
    cases hk : decide (k = 0) with
    | false => rfl
    | true =>
      have e := of_decide_eq_true hk
      subst e
      exfalso
      simp [Ty.valid, Ty.form, kindOk] at h
end Go.Proofs.YtcohfbdhdngplaaDoor
