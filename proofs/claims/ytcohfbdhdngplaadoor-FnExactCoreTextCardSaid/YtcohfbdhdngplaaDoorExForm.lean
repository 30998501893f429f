/-
  Proved: plain facts on the form of expressions: which names, numbers and types a kind has, and what a whole tree of such nodes is.
-/
import Derived.Test.YtcohfbdhdngplaaDoorExNum
import Derived.Test.YtcohfbdhdngplaaDoorName
import Derived.Test.YtcohfbdhdngplaaDoorArity
import Derived.Test.YtcohfbdhdngplaaDoorSpecNote
import Derived.Test.YtcohfbdhdngplaaDoorTyEq
namespace Go.Proofs.YtcohfbdhdngplaaDoor
open Go.RowKit

def nameFor (k : Int) (nm : ByteArray) : Bool := if k = 2 ∨ k = 3 then nameB nm else decide (nm.size = 0)
def numFor (k n : Int) : Bool := if k = 1 ∨ k = 14 then decide (1 ≤ n) && decide (n ≤ 99) else if k = 5 then decide (0 ≤ n) && decide (n ≤ 999) else if k = 8 then decide (0 ≤ n) && decide (n ≤ 1) else decide (n = 0)
def typeFor (k : Int) (t : Ty) : Bool := if k = 3 ∨ k = 13 then t.note else t.beq (.node 0 [])
def Ex.kind : Ex → Int
  | .node k _ _ _ _ => k
/-- The root has the fields and the number of parts that belong to its kind. -/
def fitsB (k : Int) (nm : ByteArray) (n : Int) (ty : Ty) (len : Nat) : Bool := decide ((len : Int) = arity k) && (nameFor k nm && (numFor k n && typeFor k ty))
/-- No mark stands right in a mark. -/
def bareB (k : Int) : List Ex → Bool
  | [] => true
  | e :: _ => !(decide (k = 14) && decide (e.kind = 14))
mutual
def Ex.form : Ex → Bool
  | .node k nm n ty es => Ex.forms es && (bareB k es && fitsB k nm n ty es.length)
def Ex.forms : List Ex → Bool
  | [] => true
  | e :: r => e.form && Ex.forms r
end
theorem Ex.forms_take (es : List Ex) : ∀ k (h : k < es.length), Ex.forms (es.take (k + 1)) = (Ex.forms (es.take k) && es[k].form) := by
  induction es with
  | nil => intro k h; simp at h
  | cons s r ih =>
    intro k h
    cases k with
    | zero => simp [Ex.forms]
    | succ k =>
      simp only [List.take_succ_cons, Ex.forms, List.getElem_cons_succ]
      rw [ih k (by simpa using h), Bool.and_assoc]
theorem Ex.forms_false (es : List Ex) (k : Nat) (h : Ex.forms (es.take k) = false) : Ex.forms es = false := by
  induction es generalizing k with
  | nil => simp [Ex.forms] at h
  | cons s r ih =>
    cases k with
    | zero => simp [Ex.forms] at h
    | succ k =>
      simp only [List.take_succ_cons, Ex.forms, Bool.and_eq_false_iff] at h ⊢
      rcases h with h | h
      · exact Or.inl h
      · exact Or.inr (ih k h)
theorem Ex.forms_get (es : List Ex) (k : Nat) (h : k < es.length) (hf : Ex.forms es = true) : es[k].form = true := by
  have e := Ex.forms_take es k h
  cases hk : es[k].form with
  | true => rfl
  | false =>
    rw [hk, Bool.and_false] at e
    rw [Ex.forms_false es (k + 1) e] at hf; cases hf
theorem Ex.highs_get (es : List Ex) (k : Nat) (h : k < es.length) : es[k].high ≤ Ex.highs es := by
  induction es generalizing k with
  | nil => simp at h
  | cons s r ih =>
    cases k with
    | zero => simp only [List.getElem_cons_zero, Ex.highs]; omega
    | succ k => simp only [List.getElem_cons_succ, Ex.highs]; have := ih k (by simpa using h); omega
theorem Ex.highs_upto (es : List Ex) (k : Nat) : Ex.highs (es.take k) ≤ Ex.highs es := by
  induction es generalizing k with
  | nil => simp
  | cons s r ih =>
    cases k with
    | zero => simp [Ex.highs]
    | succ k => simp only [List.take_succ_cons, Ex.highs]; have := ih k; omega
theorem Ex.counts_le_all (es : List Ex) (k : Nat) : Ex.counts (es.take k) ≤ Ex.counts es := by
  induction es generalizing k with
  | nil => simp
  | cons s r ih =>
    cases k with
    | zero => simp [Ex.counts]
    | succ k => simp only [List.take_succ_cons, Ex.counts]; have := ih k; omega
/-- A valid expression: at most 40 nodes, at most 12 deep (marks do not count), every node of its kind's form. -/
def Ex.valid (e : Ex) : Bool := decide (e.count ≤ 40) && (decide (e.high ≤ 12) && e.form)
theorem note_zero : (Ty.node 0 []).note = false := by
  simp [Ty.note, Ty.valid, Ty.form, Ty.forms, kindOk]
theorem beq_zero (k : Int) (ts : List Ty) : (Ty.node k ts).beq (.node 0 []) = (decide (k = 0) && decide (ts.length = 0)) := by
  cases ts with
  | nil => simp [Ty.beq, Ty.beqs]
  | cons a r => simp [Ty.beq, Ty.beqs]
theorem nameB_empty {s : ByteArray} (h : s.size = 0) : nameB s = false := by simp [nameB, h]
end Go.Proofs.YtcohfbdhdngplaaDoor
