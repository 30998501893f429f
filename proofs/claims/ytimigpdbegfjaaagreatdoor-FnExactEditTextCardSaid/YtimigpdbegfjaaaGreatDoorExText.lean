/-
  Proved: plain facts on the texts of expressions; no program.
-/
import Derived.Test.YtimigpdbegfjaaaGreatDoorExForm
import Derived.Test.YtimigpdbegfjaaaGreatDoorFormatText
import Derived.Test.YtimigpdbegfjaaaGreatDoorJoined
import Derived.Lib.ItoaLen
namespace Go.Proofs.YtimigpdbegfjaaaGreatDoor
open Go.RowKit

def numB (n : Int) : ByteArray := ⟨(Lib.itoa n).toArray⟩
theorem numB_size (n : Int) (h0 : -9223372036854775808 ≤ n) (h1 : n ≤ 9223372036854775807) : (numB n).size ≤ 21 := by
  show (Lib.itoa n).toArray.size ≤ 21
  rw [List.size_toArray]
  exact Lib.itoa_length_le n h0 h1
def sepB (k : Int) : ByteArray := if k = 4 then ⟨#[32]⟩ else if k = 6 then ⟨#[43]⟩ else if k = 7 then ⟨#[60]⟩ else ⟨#[44]⟩
/-- The text of a node with these texts of its parts. -/
def exSay (k : Int) (nm fs ts : ByteArray) (n : Int) (xs : List ByteArray) : ByteArray :=
  if k = 1 then ⟨#[63]⟩ ++ fs
  else if k = 2 then nm
  else if k = 5 then fs
  else if k = 8 then (if n = 1 then ⟨#[35, 116]⟩ else ⟨#[35, 102]⟩)
  else match xs with
    | [x] => if k = 3 then ⟨#[40, 92]⟩ ++ nm ++ ⟨#[58]⟩ ++ ts ++ ⟨#[46]⟩ ++ x ++ ⟨#[41]⟩
        else if k = 11 then ⟨#[40, 102, 115, 116, 32]⟩ ++ x ++ ⟨#[41]⟩
        else if k = 12 then ⟨#[40, 115, 110, 100, 32]⟩ ++ x ++ ⟨#[41]⟩
        else if k = 13 then ⟨#[40]⟩ ++ x ++ ⟨#[58]⟩ ++ ts ++ ⟨#[41]⟩
        else ⟨#[123]⟩ ++ fs ++ ⟨#[32]⟩ ++ x ++ ⟨#[125]⟩
    | [x, y] => ⟨#[40]⟩ ++ x ++ sepB k ++ y ++ ⟨#[41]⟩
    | [x, y, z] => ⟨#[40, 105, 102, 32]⟩ ++ (x ++ ⟨#[32]⟩ ++ y ++ ⟨#[32]⟩ ++ z) ++ ⟨#[41]⟩
    | _ => ⟨#[]⟩
mutual
def Ex.text : Ex → ByteArray
  | .node k nm n ty es => exSay k nm (numB n) ty.text n (Ex.texts es)
def Ex.texts : List Ex → List ByteArray
  | [] => []
  | e :: r => e.text :: Ex.texts r
end
theorem Ex.texts_length (es : List Ex) : (Ex.texts es).length = es.length := by
  induction es with
  | nil => simp [Ex.texts]
  | cons a r ih => simp [Ex.texts, ih]
theorem Ex.texts_get (es : List Ex) : ∀ (k : Nat) (h : k < es.length) (h2 : k < (Ex.texts es).length), (Ex.texts es)[k] = es[k].text := by
  induction es with
  | nil => intro k h; simp at h
  | cons a r ih =>
    intro k h h2
    cases k with
    | zero => simp [Ex.texts]
    | succ k => simp only [Ex.texts, List.getElem_cons_succ]; exact ih k (by simpa using h) _
theorem Ex.texts_take (es : List Ex) : ∀ (k : Nat) (h : k < es.length), Ex.texts (es.take (k + 1)) = Ex.texts (es.take k) ++ [es[k].text] := by
  induction es with
  | nil => intro k h; simp at h
  | cons a r ih =>
    intro k h
    cases k with
    | zero => simp [Ex.texts]
    | succ k => simp only [List.take_succ_cons, Ex.texts, List.getElem_cons_succ, List.cons_append]; rw [ih k (by simpa using h)]
theorem sizes_one (a : UInt8) : (ByteArray.mk #[a]).size = 1 := rfl
theorem sizes_two (a b : UInt8) : (ByteArray.mk #[a, b]).size = 2 := rfl
theorem sizes_four (a b c d : UInt8) : (ByteArray.mk #[a, b, c, d]).size = 4 := rfl
theorem sizes_five (a b c d e : UInt8) : (ByteArray.mk #[a, b, c, d, e]).size = 5 := rfl
theorem sepB_size (k : Int) : (sepB k).size = 1 := by
  unfold sepB
  split
  · rfl
  · split
    · rfl
    · split <;> rfl
theorem exSay_size (k : Int) (nm fs ts : ByteArray) (n : Int) (xs : List ByteArray) (hf : fs.size ≤ 21) : (exSay k nm fs ts n xs).size ≤ 30 + nm.size + ts.size + total xs := by
  unfold exSay
  split
  · rw [ByteArray.size_append, sizes_one]; omega
  · split
    · omega
    · split
      · omega
      · split
        · split <;> (rw [sizes_two]; omega)
        · split
          · repeat' split
            all_goals (simp only [ByteArray.size_append, sizes_one, sizes_two, sizes_five, total]; omega)
          · simp only [ByteArray.size_append, sizes_one, sepB_size, total]; omega
          · simp only [ByteArray.size_append, sizes_one, sizes_four, total]; omega
          · show 0 ≤ _; omega
theorem form_num {k : Int} {nm : ByteArray} {n : Int} {ty : Ty} {es : List Ex} (h : (Ex.node k nm n ty es).form = true) : 0 ≤ n ∧ n ≤ 999 := by
  simp only [Ex.form, fitsB, Bool.and_eq_true, numFor] at h
  have h2 := h.2.2.2.2.1
  split at h2
  · simp at h2; omega
  · split at h2
    · simp at h2; omega
    · split at h2
      · simp at h2; omega
      · simp at h2; omega
theorem form_parts {k : Int} {nm : ByteArray} {n : Int} {ty : Ty} {es : List Ex} (h : (Ex.node k nm n ty es).form = true) : Ex.forms es = true ∧ (es.length : Int) = arity k ∧ typeFor k ty = true := by
  simp only [Ex.form, fitsB, Bool.and_eq_true, decide_eq_true_eq] at h
  exact ⟨h.1, h.2.2.1, h.2.2.2.2.2⟩
theorem note_form {t : Ty} (h : t.note = true) : t.form = true ∧ t.valid = true := by
  simp only [Ty.note, Ty.valid, Bool.and_eq_true] at h
  refine ⟨h.1.2, ?_⟩
  simp only [Ty.valid, Bool.and_eq_true]
  exact h.1
mutual
theorem Ex.text_size : ∀ e : Ex, e.form = true → e.text.size ≤ 40 * (e.bulk + 1)
  | .node k nm n ty es, h => by
    have hn := form_num h
    have h2 := Ex.texts_size es (form_parts h).1
    have h3 := exSay_size k nm (numB n) ty.text n (Ex.texts es) (numB_size n (by omega) (by omega))
    have h4 := ty.text_size
    have h5 := ty.size_pos
    simp only [Ex.text, Ex.bulk]
    omega
theorem Ex.texts_size : ∀ es : List Ex, Ex.forms es = true → total (Ex.texts es) ≤ 40 * Ex.bulks es
  | [], _ => by simp [Ex.texts, total]
  | e :: r, h => by
    simp only [Ex.forms, Bool.and_eq_true] at h
    have h1 := Ex.text_size e h.1
    have h2 := Ex.texts_size r h.2
    simp only [Ex.texts, total, Ex.bulks]
    omega
end
theorem append_ext {a b c : ByteArray} : (a ++ b) ++ c = a ++ (b ++ c) := ByteArray.append_assoc
theorem join_two {xs : List ByteArray} {sep : ByteArray} (h : xs.length = 2) : (⟨(Lib.join (xs.map (·.data.toList)) sep.data.toList).toArray⟩ : ByteArray) = (xs[0]'(by omega)) ++ sep ++ (xs[1]'(by omega)) := by
  match xs, h with
  | [x, y], _ =>
    apply ByteArray.ext
    apply Array.toList_inj.1
    simp [Lib.join, ByteArray.data_append]
theorem join_three {xs : List ByteArray} {sep : ByteArray} (h : xs.length = 3) : (⟨(Lib.join (xs.map (·.data.toList)) sep.data.toList).toArray⟩ : ByteArray) = (xs[0]'(by omega)) ++ sep ++ (xs[1]'(by omega)) ++ sep ++ (xs[2]'(by omega)) := by
  match xs, h with
  | [x, y, z], _ =>
    apply ByteArray.ext
    apply Array.toList_inj.1
    simp [Lib.join, ByteArray.data_append]
/-- What FormatExpr gives. -/
def Ex.shown (e : Ex) : ByteArray := if e.valid = true then e.text else ⟨#[]⟩
theorem shown_bad {e : Ex} (h : e.valid = false) : e.shown = ⟨#[]⟩ := if_neg (by simp [h])
theorem shown_good {e : Ex} (h : e.valid = true) : e.shown = e.text := if_pos h
theorem shown_size (e : Ex) : e.shown.size ≤ 40 * (e.bulk + 1) := by
  unfold Ex.shown
  split
  · rename_i h
    simp only [Ex.valid, Bool.and_eq_true] at h
    exact e.text_size h.2.2
  · exact Nat.zero_le _
end Go.Proofs.YtimigpdbegfjaaaGreatDoor
