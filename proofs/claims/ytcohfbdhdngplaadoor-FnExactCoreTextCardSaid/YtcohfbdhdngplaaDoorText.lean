/-
  Proved: plain facts on the texts of types; no program.
-/
import Derived.Test.YtcohfbdhdngplaaDoorSpecForm
namespace Go.Proofs.YtcohfbdhdngplaaDoor
open Go.RowKit

/-- The text of a node of kind k with these texts of its parts. -/
def textOf (k : Int) (xs : List ByteArray) : ByteArray :=
  if k = 1 then ⟨#[63]⟩ else if k = 2 then ⟨#[78]⟩ else if k = 3 then ⟨#[66]⟩ else
    match xs with
    | [x, y] => if k = 4 then ⟨#[40]⟩ ++ x ++ ⟨#[62]⟩ ++ y ++ ⟨#[41]⟩ else ⟨#[40]⟩ ++ x ++ ⟨#[42]⟩ ++ y ++ ⟨#[41]⟩
    | _ => ⟨#[]⟩
mutual
def Ty.text : Ty → ByteArray
  | .node k ts => textOf k (Ty.texts ts)
def Ty.texts : List Ty → List ByteArray
  | [] => []
  | t :: r => t.text :: Ty.texts r
end
theorem Ty.text_arrow (a b : Ty) : (Ty.node 4 [a, b]).text = ⟨#[40]⟩ ++ a.text ++ ⟨#[62]⟩ ++ b.text ++ ⟨#[41]⟩ := by simp [Ty.text, Ty.texts, textOf]
theorem Ty.text_pair (a b : Ty) : (Ty.node 5 [a, b]).text = ⟨#[40]⟩ ++ a.text ++ ⟨#[42]⟩ ++ b.text ++ ⟨#[41]⟩ := by simp [Ty.text, Ty.texts, textOf]
theorem size_one (c : UInt8) : (ByteArray.mk #[c]).size = 1 := rfl
theorem textOf_size (k : Int) (xs : List ByteArray) : (textOf k xs).size ≤ 3 + (xs.map ByteArray.size).sum := by
  unfold textOf
  split
  · show 1 ≤ _; omega
  · split
    · show 1 ≤ _; omega
    · split
      · show 1 ≤ _; omega
      · split
        · split
          · simp only [ByteArray.size_append, List.map_cons, List.map_nil, List.sum_cons, List.sum_nil, size_one]; omega
          · simp only [ByteArray.size_append, List.map_cons, List.map_nil, List.sum_cons, List.sum_nil, size_one]; omega
        · show 0 ≤ _; omega
mutual
theorem Ty.text_size : ∀ t : Ty, t.text.size ≤ 3 * t.size
  | .node k ts => by
    have h := textOf_size k (Ty.texts ts)
    have h2 := Ty.texts_size ts
    simp only [Ty.text, Ty.size]
    omega
theorem Ty.texts_size : ∀ ts : List Ty, ((Ty.texts ts).map ByteArray.size).sum ≤ 3 * Ty.sizes ts
  | [] => by simp [Ty.texts, Ty.sizes]
  | t :: r => by
    have h := Ty.text_size t
    have h2 := Ty.texts_size r
    simp only [Ty.texts, Ty.sizes, List.map_cons, List.sum_cons]
    omega
end
theorem kind_len {k : Int} {n : Nat} (h : kindOk k n = true) : n = 0 ∨ n = 2 := by
  unfold kindOk at h
  split at h
  · exact Or.inl (of_decide_eq_true h)
  · split at h
    · exact Or.inr (of_decide_eq_true h)
    · cases h
theorem form_two {k : Int} {a b : Ty} (h : (Ty.node k [a, b]).form = true) : a.form = true ∧ b.form = true := by
  simp only [Ty.form, Ty.forms, Bool.and_eq_true] at h
  exact ⟨h.1.1, h.1.2.1⟩
end Go.Proofs.YtcohfbdhdngplaaDoor
