/-
  Proved: impl.FormatType gives the text of a valid type, the empty text for others; the memory that was there stays as it was.
-/
import Derived.Test.YtdgfkmnnjhlpbaaDoorSpecForm
import Derived.Test.YtdgfkmnnjhlpbaaDoorSpecValid
import Derived.Lib.Join
import Derived.WalkKit
import Derived.Test.YtdgfkmnnjhlpbaaDoorExForm
import Derived.Lib.ItoaLen
import Derived.Test.YtdgfkmnnjhlpbaaDoorOwnB
import Derived.WalkSpells
import Derived.WalkLawsBesides
import Derived.WalkSmall
import Derived.Lib.Hide
import Derived.Lib.AppendStr
import Derived.Test.YtdgfkmnnjhlpbaaDoorHold
import Derived.Test.YtdgfkmnnjhlpbaaDoorName
import Derived.Test.YtdgfkmnnjhlpbaaDoorSpecIn
import Derived.Test.YtdgfkmnnjhlpbaaDoorSzExpr
import Derived.BigQuiet
import Derived.Test.YtdgfkmnnjhlpbaaDoorArity
import Derived.Lib.UnsafeStr
import Derived.Laws.BytesArg
import Derived.Test.YtdgfkmnnjhlpbaaDoorShelfStr
import Derived.Lib.ItoaNum
import Derived.Lib.ItoaMem
import Derived.Test.YtdgfkmnnjhlpbaaDoorProg
import Derived.Test.YtdgfkmnnjhlpbaaDoorLaw
import Derived.Test.YtdgfkmnnjhlpbaaDoorShelfItoa
import Derived.Test.YtdgfkmnnjhlpbaaDoorInts
import Derived.Test.YtdgfkmnnjhlpbaaDoorPart
import Derived.Deep.QuietTactic
import Derived.Test.YtdgfkmnnjhlpbaaDoorOwnTree
import Derived.Test.YtdgfkmnnjhlpbaaDoorTwo
import Derived.Deep.RegionHeld3
/-
  Proved: plain facts on the texts of types; no program.
-/
namespace Go.Proofs.YtdgfkmnnjhlpbaaDoor
open Go.RowKit

/-- The text of a node of kind k with these texts of its parts. -/
def textOf (k : Int) (xs : List ByteArray) : ByteArray :=
  if k = 1 then ⟨#[63]⟩ else if k = 2 then ⟨#[78]⟩ else if k = 3 then ⟨#[66]⟩ else
    match xs with
    | [x, y] => if k = 4 then ⟨#[40]⟩ ++ x ++ ⟨#[62]⟩ ++ y ++ ⟨#[41]⟩ else ⟨#[40]⟩ ++ x ++ ⟨#[42]⟩ ++ y ++ ⟨#[41]⟩
    | _ => ⟨#[]⟩
mutual
def Ty.text : Ty → ByteArray
  | .node k ts => textOf k (Ty.texts ts)
def Ty.texts : List Ty → List ByteArray
  | [] => []
  | t :: r => t.text :: Ty.texts r
end
theorem Ty.text_arrow (a b : Ty) : (Ty.node 4 [a, b]).text = ⟨#[40]⟩ ++ a.text ++ ⟨#[62]⟩ ++ b.text ++ ⟨#[41]⟩ := by simp [Ty.text, Ty.texts, textOf]
theorem Ty.text_pair (a b : Ty) : (Ty.node 5 [a, b]).text = ⟨#[40]⟩ ++ a.text ++ ⟨#[42]⟩ ++ b.text ++ ⟨#[41]⟩ := by simp [Ty.text, Ty.texts, textOf]
theorem size_one (c : UInt8) : (ByteArray.mk #[c]).size = 1 := rfl
theorem textOf_size (k : Int) (xs : List ByteArray) : (textOf k xs).size ≤ 3 + (xs.map ByteArray.size).sum := by
  unfold textOf
  split
  · show 1 ≤ _; omega
  · split
    · show 1 ≤ _; omega
    · split
      · show 1 ≤ _; omega
      · split
        · split
          · simp only [ByteArray.size_append, List.map_cons, List.map_nil, List.sum_cons, List.sum_nil, size_one]; omega
          · simp only [ByteArray.size_append, List.map_cons, List.map_nil, List.sum_cons, List.sum_nil, size_one]; omega
        · show 0 ≤ _; omega
mutual
theorem Ty.text_size : ∀ t : Ty, t.text.size ≤ 3 * t.size
  | .node k ts => by
    have h := textOf_size k (Ty.texts ts)
    have h2 := Ty.texts_size ts
    simp only [Ty.text, Ty.size]
    omega
theorem Ty.texts_size : ∀ ts : List Ty, ((Ty.texts ts).map ByteArray.size).sum ≤ 3 * Ty.sizes ts
  | [] => by simp [Ty.texts, Ty.sizes]
  | t :: r => by
    have h := Ty.text_size t
    have h2 := Ty.texts_size r
    simp only [Ty.texts, Ty.sizes, List.map_cons, List.sum_cons]
    omega
end
theorem kind_len {k : Int} {n : Nat} (h : kindOk k n = true) : n = 0 ∨ n = 2 := by
  unfold kindOk at h
  split at h
  · exact Or.inl (of_decide_eq_true h)
  · split at h
    · exact Or.inr (of_decide_eq_true h)
    · cases h
theorem form_two {k : Int} {a b : Ty} (h : (Ty.node k [a, b]).form = true) : a.form = true ∧ b.form = true := by
  simp only [Ty.form, Ty.forms, Bool.and_eq_true] at h
  exact ⟨h.1.1, h.1.2.1⟩
end Go.Proofs.YtdgfkmnnjhlpbaaDoor
/-
  Proved: plain facts on what FormatType gives.
-/
namespace Go.Proofs.YtdgfkmnnjhlpbaaDoor
open Go.RowKit

def formatText (t : Ty) : ByteArray := if t.valid = true then t.text else ⟨#[]⟩
theorem format_bad {t : Ty} (h : t.valid = false) : formatText t = ⟨#[]⟩ := if_neg (by simp [h])
theorem format_good {t : Ty} (h : t.valid = true) : formatText t = t.text := if_pos h
end Go.Proofs.YtdgfkmnnjhlpbaaDoor
/-
  Proved: how the number of bytes of a list of strings grows with the list. Plain mathematics, no program.
-/
namespace Go.Proofs.YtdgfkmnnjhlpbaaDoor

/-- How many bytes the strings have. -/
def total : List ByteArray → Nat
  | [] => 0
  | s :: r => s.size + total r
theorem total_take (ss : List ByteArray) : ∀ k (h : k < ss.length), total (ss.take (k + 1)) = total (ss.take k) + ss[k].size := by
  induction ss with
  | nil => intro k h; simp at h
  | cons s r ih =>
    intro k h
    cases k with
    | zero => simp [total]
    | succ k =>
      simp only [List.take_succ_cons, total, List.getElem_cons_succ]
      rw [ih k (by simpa using h)]; omega

end Go.Proofs.YtdgfkmnnjhlpbaaDoor
/-
  Proved: what joining the first strings of a list gives, one by one, and how long it is. Plain mathematics, no program.
-/
namespace Go.Proofs.YtdgfkmnnjhlpbaaDoor
open Go.RowKit

/-- The first k strings, joined. -/
def joined (ss : List ByteArray) (sep : ByteArray) (k : Nat) : List UInt8 := Lib.join ((ss.take k).map (·.data.toList)) sep.data.toList
theorem join_snoc (x : List UInt8) (r : List (List UInt8)) (y sep : List UInt8) : Lib.join (x :: r ++ [y]) sep = Lib.join (x :: r) sep ++ sep ++ y := by
  rw [List.cons_append, Lib.join_cons, Lib.join_cons]
  have := Lib.joinTail_take_succ sep (r ++ [y]) r.length y (by simp)
  rw [List.take_of_length_le (by simp), List.take_left] at this
  rw [this]; simp
theorem joined_zero (ss : List ByteArray) (sep : ByteArray) : joined ss sep 0 = [] := rfl
theorem joined_one (ss : List ByteArray) (sep : ByteArray) (h : 0 < ss.length) : joined ss sep 1 = ss[0].data.toList := by
  unfold joined
  rw [show ss.take 1 = [ss[0]] from by rw [List.take_one]; simp [List.head?_eq_getElem?, h]]
  exact Lib.join_one _ _
theorem joined_next (ss : List ByteArray) (sep : ByteArray) (k : Nat) (h0 : 0 < k) (h : k < ss.length) : joined ss sep (k + 1) = joined ss sep k ++ sep.data.toList ++ ss[k].data.toList := by
  unfold joined
  rw [List.take_succ_eq_append_getElem h, List.map_append]
  cases hx : (ss.take k).map (·.data.toList) with
  | nil =>
    have := congrArg List.length hx
    rw [List.length_map, List.length_take, List.length_nil] at this; omega
  | cons x r => exact join_snoc x r _ _
theorem joined_all (ss : List ByteArray) (sep : ByteArray) : joined ss sep ss.length = Lib.join (ss.map (·.data.toList)) sep.data.toList := by
  unfold joined; rw [List.take_length]
theorem total_le (ss : List ByteArray) (k : Nat) : total (ss.take k) ≤ total ss := by
  induction ss generalizing k with
  | nil => simp
  | cons s r ih =>
    cases k with
    | zero => simp [total]
    | succ k => simp only [List.take_succ_cons, total]; have := ih k; omega
theorem size_le (ss : List ByteArray) (k : Nat) (h : k < ss.length) : ss[k].size ≤ total ss := by
  have h1 := total_take ss k h
  have h2 := total_le ss (k + 1)
  omega
theorem len_toList (s : ByteArray) : s.data.toList.length = s.size := by rw [Array.length_toList]; rfl
theorem joined_len (ss : List ByteArray) (sep : ByteArray) : ∀ k, k ≤ ss.length → (joined ss sep k).length ≤ total (ss.take k) + k * sep.size
  | 0, _ => by rw [joined_zero]; simp
  | k + 1, h => by
    have ih := joined_len ss sep k (by omega)
    have ht := total_take ss k (by omega)
    have hlt : k < ss.length := by omega
    by_cases h0 : 0 < k
    · rw [joined_next ss sep k h0 hlt, ht, Nat.succ_mul]
      simp only [List.length_append, len_toList]; omega
    · obtain rfl : k = 0 := by omega
      rw [joined_one ss sep (by omega), ht, len_toList]; omega
theorem joined_small (ss : List ByteArray) (sep : ByteArray) (k : Nat) (hk : k ≤ ss.length) (hn : ss.length ≤ 1048576) (ht : total ss ≤ 1073741824) (hs : sep.size ≤ 1048576) : (joined ss sep k).length ≤ 1100585369600 := by
  have h1 := joined_len ss sep k hk
  have h2 := total_le ss k
  have h3 : k * sep.size ≤ 1048576 * 1048576 := Nat.mul_le_mul (by omega) hs
  omega

/-- What joining ends in. -/
def JoinEnd (ss : List ByteArray) (sep : ByteArray) (w : World) (e : Ending) (w' : World) : Prop :=
  e = .returned (.string ⟨(Lib.join (ss.map (·.data.toList)) sep.data.toList).toArray⟩) ∧ Below w.heap.size w w'

end Go.Proofs.YtdgfkmnnjhlpbaaDoor
/-
  Proved: plain facts on the texts of expressions; no program.
-/
namespace Go.Proofs.YtdgfkmnnjhlpbaaDoor
open Go.RowKit

def numB (n : Int) : ByteArray := ⟨(Lib.itoa n).toArray⟩
theorem numB_size (n : Int) (h0 : -9223372036854775808 ≤ n) (h1 : n ≤ 9223372036854775807) : (numB n).size ≤ 21 := by
  show (Lib.itoa n).toArray.size ≤ 21
  rw [List.size_toArray]
  exact Lib.itoa_length_le n h0 h1
def sepB (k : Int) : ByteArray := if k = 4 then ⟨#[32]⟩ else if k = 6 then ⟨#[43]⟩ else if k = 7 then ⟨#[60]⟩ else ⟨#[44]⟩
/-- The text of a node with these texts of its parts. -/
def exSay (k : Int) (nm fs ts : ByteArray) (n : Int) (xs : List ByteArray) : ByteArray :=
  if k = 1 then ⟨#[63]⟩ ++ fs
  else if k = 2 then nm
  else if k = 5 then fs
  else if k = 8 then (if n = 1 then ⟨#[35, 116]⟩ else ⟨#[35, 102]⟩)
  else match xs with
    | [x] => if k = 3 then ⟨#[40, 92]⟩ ++ nm ++ ⟨#[58]⟩ ++ ts ++ ⟨#[46]⟩ ++ x ++ ⟨#[41]⟩
        else if k = 11 then ⟨#[40, 102, 115, 116, 32]⟩ ++ x ++ ⟨#[41]⟩
        else if k = 12 then ⟨#[40, 115, 110, 100, 32]⟩ ++ x ++ ⟨#[41]⟩
        else if k = 13 then ⟨#[40]⟩ ++ x ++ ⟨#[58]⟩ ++ ts ++ ⟨#[41]⟩
        else ⟨#[123]⟩ ++ fs ++ ⟨#[32]⟩ ++ x ++ ⟨#[125]⟩
    | [x, y] => ⟨#[40]⟩ ++ x ++ sepB k ++ y ++ ⟨#[41]⟩
    | [x, y, z] => ⟨#[40, 105, 102, 32]⟩ ++ (x ++ ⟨#[32]⟩ ++ y ++ ⟨#[32]⟩ ++ z) ++ ⟨#[41]⟩
    | _ => ⟨#[]⟩
mutual
def Ex.text : Ex → ByteArray
  | .node k nm n ty es => exSay k nm (numB n) ty.text n (Ex.texts es)
def Ex.texts : List Ex → List ByteArray
  | [] => []
  | e :: r => e.text :: Ex.texts r
end
theorem Ex.texts_length (es : List Ex) : (Ex.texts es).length = es.length := by
  induction es with
  | nil => simp [Ex.texts]
  | cons a r ih => simp [Ex.texts, ih]
theorem Ex.texts_get (es : List Ex) : ∀ (k : Nat) (h : k < es.length) (h2 : k < (Ex.texts es).length), (Ex.texts es)[k] = es[k].text := by
  induction es with
  | nil => intro k h; simp at h
  | cons a r ih =>
    intro k h h2
    cases k with
    | zero => simp [Ex.texts]
    | succ k => simp only [Ex.texts, List.getElem_cons_succ]; exact ih k (by simpa using h) _
theorem Ex.texts_take (es : List Ex) : ∀ (k : Nat) (h : k < es.length), Ex.texts (es.take (k + 1)) = Ex.texts (es.take k) ++ [es[k].text] := by
  induction es with
  | nil => intro k h; simp at h
  | cons a r ih =>
    intro k h
    cases k with
    | zero => simp [Ex.texts]
    | succ k => simp only [List.take_succ_cons, Ex.texts, List.getElem_cons_succ, List.cons_append]; rw [ih k (by simpa using h)]
theorem sizes_one (a : UInt8) : (ByteArray.mk #[a]).size = 1 := rfl
theorem sizes_two (a b : UInt8) : (ByteArray.mk #[a, b]).size = 2 := rfl
theorem sizes_four (a b c d : UInt8) : (ByteArray.mk #[a, b, c, d]).size = 4 := rfl
theorem sizes_five (a b c d e : UInt8) : (ByteArray.mk #[a, b, c, d, e]).size = 5 := rfl
theorem sepB_size (k : Int) : (sepB k).size = 1 := by
  unfold sepB
  split
  · rfl
  · split
    · rfl
    · split <;> rfl
theorem exSay_size (k : Int) (nm fs ts : ByteArray) (n : Int) (xs : List ByteArray) (hf : fs.size ≤ 21) : (exSay k nm fs ts n xs).size ≤ 30 + nm.size + ts.size + total xs := by
  unfold exSay
  split
  · rw [ByteArray.size_append, sizes_one]; omega
  · split
    · omega
    · split
      · omega
      · split
        · split <;> (rw [sizes_two]; omega)
        · split
          · repeat' split
            all_goals (simp only [ByteArray.size_append, sizes_one, sizes_two, sizes_five, total]; omega)
          · simp only [ByteArray.size_append, sizes_one, sepB_size, total]; omega
          · simp only [ByteArray.size_append, sizes_one, sizes_four, total]; omega
          · show 0 ≤ _; omega
theorem form_num {k : Int} {nm : ByteArray} {n : Int} {ty : Ty} {es : List Ex} (h : (Ex.node k nm n ty es).form = true) : 0 ≤ n ∧ n ≤ 999 := by
  simp only [Ex.form, fitsB, Bool.and_eq_true, numFor] at h
  have h2 := h.2.2.2.2.1
  split at h2
  · simp at h2; omega
  · split at h2
    · simp at h2; omega
    · split at h2
      · simp at h2; omega
      · simp at h2; omega
theorem form_parts {k : Int} {nm : ByteArray} {n : Int} {ty : Ty} {es : List Ex} (h : (Ex.node k nm n ty es).form = true) : Ex.forms es = true ∧ (es.length : Int) = arity k ∧ typeFor k ty = true := by
  simp only [Ex.form, fitsB, Bool.and_eq_true, decide_eq_true_eq] at h
  exact ⟨h.1, h.2.2.1, h.2.2.2.2.2⟩
theorem note_form {t : Ty} (h : t.note = true) : t.form = true ∧ t.valid = true := by
  simp only [Ty.note, Ty.valid, Bool.and_eq_true] at h
  refine ⟨h.1.2, ?_⟩
  simp only [Ty.valid, Bool.and_eq_true]
  exact h.1
mutual
theorem Ex.text_size : ∀ e : Ex, e.form = true → e.text.size ≤ 40 * (e.bulk + 1)
  | .node k nm n ty es, h => by
    have hn := form_num h
    have h2 := Ex.texts_size es (form_parts h).1
    have h3 := exSay_size k nm (numB n) ty.text n (Ex.texts es) (numB_size n (by omega) (by omega))
    have h4 := ty.text_size
    have h5 := ty.size_pos
    simp only [Ex.text, Ex.bulk]
    omega
theorem Ex.texts_size : ∀ es : List Ex, Ex.forms es = true → total (Ex.texts es) ≤ 40 * Ex.bulks es
  | [], _ => by simp [Ex.texts, total]
  | e :: r, h => by
    simp only [Ex.forms, Bool.and_eq_true] at h
    have h1 := Ex.text_size e h.1
    have h2 := Ex.texts_size r h.2
    simp only [Ex.texts, total, Ex.bulks]
    omega
end
theorem append_ext {a b c : ByteArray} : (a ++ b) ++ c = a ++ (b ++ c) := ByteArray.append_assoc
theorem join_two {xs : List ByteArray} {sep : ByteArray} (h : xs.length = 2) : (⟨(Lib.join (xs.map (·.data.toList)) sep.data.toList).toArray⟩ : ByteArray) = (xs[0]'(by omega)) ++ sep ++ (xs[1]'(by omega)) := by
  match xs, h with
  | [x, y], _ =>
    apply ByteArray.ext
    apply Array.toList_inj.1
    simp [Lib.join, ByteArray.data_append]
theorem join_three {xs : List ByteArray} {sep : ByteArray} (h : xs.length = 3) : (⟨(Lib.join (xs.map (·.data.toList)) sep.data.toList).toArray⟩ : ByteArray) = (xs[0]'(by omega)) ++ sep ++ (xs[1]'(by omega)) ++ sep ++ (xs[2]'(by omega)) := by
  match xs, h with
  | [x, y, z], _ =>
    apply ByteArray.ext
    apply Array.toList_inj.1
    simp [Lib.join, ByteArray.data_append]
/-- What FormatExpr gives. -/
def Ex.shown (e : Ex) : ByteArray := if e.valid = true then e.text else ⟨#[]⟩
theorem shown_bad {e : Ex} (h : e.valid = false) : e.shown = ⟨#[]⟩ := if_neg (by simp [h])
theorem shown_good {e : Ex} (h : e.valid = true) : e.shown = e.text := if_pos h
theorem shown_size (e : Ex) : e.shown.size ≤ 40 * (e.bulk + 1) := by
  unfold Ex.shown
  split
  · rename_i h
    simp only [Ex.valid, Bool.and_eq_true] at h
    exact e.text_size h.2.2
  · exact Nat.zero_le _
end Go.Proofs.YtdgfkmnnjhlpbaaDoor
/-
  Proved: what the laws' small helpers on slices of strings answer (copying, measuring, comparing), for every slice of strings of at most 2^20 elements; memory that was there stays as it was.
-/
namespace Go.Proofs.YtdgfkmnnjhlpbaaDoor
open Go.RowKit

/-- In the world w the slice value v reads as the strings ss. -/
def Strs (w : World) (v : Value) (ss : List ByteArray) : Prop :=
  ∃ a cap, v = .slice a ss.length cap ∧ ss.length ≤ cap ∧ ∀ j (h : j < ss.length), ∃ b off, a = some ⟨b, off, none⟩ ∧ b < w.heap.size ∧ w.cell? ⟨b, off + j, none⟩ = some (.string ss[j])
theorem Strs.parts {w : World} {v : Value} {ss : List ByteArray} (h : Strs w v ss) :
    (ss = [] ∧ ∃ a cap, v = .slice a 0 cap) ∨ (0 < ss.length ∧ ∃ b off cap, v = .slice (some ⟨b, off, none⟩) ss.length cap ∧ ss.length ≤ cap ∧ b < w.heap.size ∧ ∀ j (h : j < ss.length), w.cell? ⟨b, off + j, none⟩ = some (.string ss[j])) := by
  obtain ⟨a, cap, rfl, hc, h⟩ := h
  by_cases h0 : 0 < ss.length
  · obtain ⟨b, off, rfl, hb, _⟩ := h 0 h0
    refine Or.inr ⟨h0, b, off, cap, rfl, hc, hb, fun j hj => ?_⟩
    obtain ⟨b', off', e, _, hcell⟩ := h j hj
    cases e; exact hcell
  · have : ss = [] := List.length_eq_zero_iff.1 (by omega)
    subst this
    exact Or.inl ⟨rfl, a, cap, rfl⟩
theorem Strs.nil {w : World} (a : Option Addr) (cap : Nat) : Strs w (.slice a 0 cap) [] := ⟨a, cap, rfl, Nat.zero_le _, fun j h => by simp at h⟩
theorem Strs.mk {w : World} {ss : List ByteArray} {b off cap : Nat} (hc : ss.length ≤ cap) (hb : b < w.heap.size) (h : ∀ j (h : j < ss.length), w.cell? ⟨b, off + j, none⟩ = some (.string ss[j])) : Strs w (.slice (some ⟨b, off, none⟩) ss.length cap) ss :=
  ⟨_, cap, rfl, hc, fun j hj => ⟨b, off, rfl, hb, h j hj⟩⟩
theorem Strs.below {w w' : World} {v : Value} {ss : List ByteArray} (h : Strs w v ss) (hb : Below w.heap.size w w') : Strs w' v ss := by
  obtain ⟨a, cap, rfl, hc, h⟩ := h
  refine ⟨a, cap, rfl, hc, fun j hj => ?_⟩
  obtain ⟨b, off, rfl, hlt, hcell⟩ := h j hj
  exact ⟨b, off, rfl, Nat.lt_of_lt_of_le hlt hb.size, by rw [hb.cell (p := ⟨b, off + j, none⟩) hlt]; exact hcell⟩
theorem Strs.of_own {w : World} {base : Nat} {e : TypeId} {v : Value} {ss : List ByteArray} (h : w.ownsRow base e 1 v ss.length (ss.map Value.string)) : Strs w v ss := by
  have hlt := h.lt
  have hcells := fun g (hg : v.ownBlock = some g) => h.cells hg
  rcases h.2 with ⟨rfl, hn⟩ | ⟨g, cap, cur, rfl, hb, hg, hnc, _⟩
  · have : ss = [] := List.length_eq_zero_iff.1 hn
    subst this; exact Strs.nil _ _
  · refine Strs.mk hnc (hlt g rfl).2 fun j hj => ?_
    have := hcells g rfl j (.string ss[j]) (by simp [hj])
    rw [addr_add] at this; exact this

theorem strs_ext : ∀ {a b : List ByteArray}, a.map (·.data.toList) = b.map (·.data.toList) → a = b
  | [], [], _ => rfl
  | [], _ :: _, h => by simp at h
  | _ :: _, [], h => by simp at h
  | x :: a, y :: b, h => by
    simp only [List.map_cons, List.cons.injEq] at h
    rw [strs_ext h.2]
    have : x = y := by
      apply ByteArray.ext
      have := h.1
      cases hx : x.data; cases hy : y.data
      rw [hx, hy] at this
      simp at this; rw [this]
    rw [this]

theorem info_str : (Tryd.prog.info? 9).map (fun i => (i.zero, i.size, i.bytes)) = some (some (.string ⟨#[]⟩), 1, 16) := by kernel_rfl

/-- What a copy of a slice of strings ends in. -/
def CopyEnd (ss : List ByteArray) (w : World) (e : Ending) (w' : World) : Prop :=
  ∃ v', e = .returned v' ∧ w'.ownsRow w.heap.size 9 1 v' ss.length (ss.map Value.string) ∧ Below w.heap.size w w'
end Go.Proofs.YtdgfkmnnjhlpbaaDoor
/-
  Proved: plain facts on a row of strings of a call's own.
-/
namespace Go.Proofs.YtdgfkmnnjhlpbaaDoor
open Go.RowKit

/-- Block p holds the strings xs from its beginning on. -/
def ArgsAt (w : World) (p : Nat) (xs : List ByteArray) : Prop := p < w.heap.size ∧ ∀ j (h : j < xs.length), w.cell? ⟨p, j, none⟩ = some (.string xs[j])
theorem ArgsAt.below {w w' : World} {p : Nat} {xs : List ByteArray} (h : ArgsAt w p xs) (hb : Below w.heap.size w w') : ArgsAt w' p xs :=
  ⟨Nat.lt_of_lt_of_le h.1 hb.size, fun j hj => (hb.cell (p := ⟨p, j, none⟩) h.1).trans (h.2 j hj)⟩
theorem ArgsAt.of_own {w : World} {base : Nat} {e : TypeId} {p n c : Nat} {xs : List ByteArray} (h : w.ownsRow base e 1 (.slice (some ⟨p, 0, none⟩) n c) xs.length (xs.map Value.string)) : ArgsAt w p xs :=
  ⟨(h.lt p rfl).2, fun j hj => by
    have := h.cells rfl j (.string xs[j]) (by simp [hj])
    rw [addr_add] at this; simpa using this⟩
/-- One cell of a block that is there. -/
theorem below_qs {B : Nat} {a w : World} (h : Below B a w) (n : Nat) : Below B a (w.drewN n) := ⟨h.os, h.tape, h.output, h.size, h.block⟩
def CellAt (w : World) (b o : Nat) (v : Value) : Prop := b < w.heap.size ∧ w.cell? ⟨b, o, none⟩ = some v
theorem CellAt.below {w w' : World} {b o : Nat} {v : Value} (h : CellAt w b o v) (hb : Below w.heap.size w w') : CellAt w' b o v :=
  ⟨Nat.lt_of_lt_of_le h.1 hb.size, (hb.cell (p := ⟨b, o, none⟩) h.1).trans h.2⟩
theorem strs_pos {w : World} {oa : Option Addr} {n oc : Nat} {xs : List ByteArray} (h : Strs w (.slice oa n oc) xs) (hp : 0 < xs.length) : ∃ b off, oa = some ⟨b, off, none⟩ ∧ ∀ j (hj : j < xs.length), CellAt w b (off + j) (.string xs[j]) := by
  rcases h.parts with ⟨rfl, _⟩ | ⟨_, b, off, cap, hv, _, hb, hc⟩
  · simp at hp
  · injection hv with h1 h2 h3
    exact ⟨b, off, h1, fun j hj => ⟨hb, hc j hj⟩⟩
theorem strs_len {w : World} {oa : Option Addr} {n oc : Nat} {xs : List ByteArray} (h : Strs w (.slice oa n oc) xs) : n = xs.length := by
  obtain ⟨a, c, hv, _⟩ := h
  injection hv with h1 h2 h3
theorem form_bool {nm : ByteArray} {n : Int} {ty : Ty} {es : List Ex} (h : (Ex.node 8 nm n ty es).form = true) : n = 0 ∨ n = 1 := by
  simp only [Ex.form, fitsB, Bool.and_eq_true, numFor] at h
  have h2 := h.2.2.2.2.1
  simp at h2
  omega
theorem two_group {a x s y b : ByteArray} : a ++ x ++ s ++ y ++ b = a ++ (x ++ s ++ y) ++ b := by simp only [ByteArray.append_assoc]
/-- What the text of a node is, kind by kind. -/
theorem text_1 (nm : ByteArray) (n : Int) (ty : Ty) (es : List Ex) : (Ex.node 1 nm n ty es).text = ⟨#[63]⟩ ++ numB n := by simp [Ex.text, exSay]
theorem text_2 (nm : ByteArray) (n : Int) (ty : Ty) (es : List Ex) : (Ex.node 2 nm n ty es).text = nm := by simp [Ex.text, exSay]
theorem text_5 (nm : ByteArray) (n : Int) (ty : Ty) (es : List Ex) : (Ex.node 5 nm n ty es).text = numB n := by simp [Ex.text, exSay]
theorem text_8 (nm : ByteArray) (n : Int) (ty : Ty) (es : List Ex) : (Ex.node 8 nm n ty es).text = if n = 1 then ⟨#[35, 116]⟩ else ⟨#[35, 102]⟩ := by simp [Ex.text, exSay]
theorem xone_of {xs : List ByteArray} (h : xs.length = 1) : xs = [xs[0]'(by omega)] := by
  match xs, h with
  | [x], _ => rfl
theorem xtwo_of {xs : List ByteArray} (h : xs.length = 2) : xs = [xs[0]'(by omega), xs[1]'(by omega)] := by
  match xs, h with
  | [x, y], _ => rfl
theorem xthree_of {xs : List ByteArray} (h : xs.length = 3) : xs = [xs[0]'(by omega), xs[1]'(by omega), xs[2]'(by omega)] := by
  match xs, h with
  | [x, y, z], _ => rfl
theorem text_one (k : Int) (nm : ByteArray) (n : Int) (ty : Ty) (es : List Ex) (h : (Ex.texts es).length = 1) : (Ex.node k nm n ty es).text = exSay k nm (numB n) ty.text n [(Ex.texts es)[0]'(by omega)] := by
  simp only [Ex.text]; rw [← xone_of h]
theorem text_two (k : Int) (nm : ByteArray) (n : Int) (ty : Ty) (es : List Ex) (h : (Ex.texts es).length = 2) : (Ex.node k nm n ty es).text = exSay k nm (numB n) ty.text n [(Ex.texts es)[0]'(by omega), (Ex.texts es)[1]'(by omega)] := by
  simp only [Ex.text]; rw [← xtwo_of h]
theorem text_three (k : Int) (nm : ByteArray) (n : Int) (ty : Ty) (es : List Ex) (h : (Ex.texts es).length = 3) : (Ex.node k nm n ty es).text = exSay k nm (numB n) ty.text n [(Ex.texts es)[0]'(by omega), (Ex.texts es)[1]'(by omega), (Ex.texts es)[2]'(by omega)] := by
  simp only [Ex.text]; rw [← xthree_of h]
theorem form_kind {k : Int} {nm : ByteArray} {n : Int} {ty : Ty} {es : List Ex} (h : (Ex.node k nm n ty es).form = true) : 1 ≤ k ∧ k ≤ 14 := by
  have e := (form_parts h).2.1
  by_cases hk : 1 ≤ k ∧ k ≤ 14
  · exact hk
  · rw [arity_out hk] at e; omega
theorem total_get (xs : List ByteArray) (k : Nat) (h : k < xs.length) : xs[k].size ≤ total xs := size_le xs k h
end Go.Proofs.YtdgfkmnnjhlpbaaDoor
/-
  Proved: spec.IsName says whether a text is a name; the memory that was there stays as it was.
-/
namespace Go.Proofs.YtdgfkmnnjhlpbaaDoor
open Go.RowKit

set_option maxRecDepth 100000 in
set_option maxHeartbeats 4000000 in
theorem specName (s : ByteArray) (w : World) (hs : s.size ≤ 9223372036854775807) : Calls Tryd.prog 98 #[.string s] w fun e w' => e = .returned (.bool (nameB s)) ∧ w' = w := by
  go_enter Tryd.func98, Tryd.ntmps98
  go_wp2_with fail
  go_loop [3] (fun i => ∃ k : Nat, k ≤ s.size ∧ i = .int .i64 k ∧ okB s k = true) (fun i => s.size - (intOf i).toNat)
  case atStart => exact ⟨0, by omega, rfl, rfl⟩
  case round =>
    obtain ⟨k, hk, rfl, hf⟩ := hrel
    have HF := Lib.hid hf; clear hf
    by_cases hlt : k < s.size
    · skip
      have HSUC := Lib.hid (okB_succ s k hlt)
      have hc255 : (s[k]'hlt).toNat < 256 := UInt8.toNat_lt _
      by_cases l1 : 97 ≤ (s[k]'hlt).toNat ∧ (s[k]'hlt).toNat ≤ 122
      · have OK := Lib.hid (okAt_letter (k := k) l1.1 l1.2)
        obtain ⟨l1a, l1b⟩ := l1
        have l1d : decide ((97 : Int) ≤ ((s[k]'hlt).toNat : Int)) = true := by simpa using (by omega : (97 : Int) ≤ ((s[k]'hlt).toNat : Int))
        have l2d : decide (((s[k]'hlt).toNat : Int) ≤ 122) = true := by simpa using (by omega : ((s[k]'hlt).toNat : Int) ≤ 122)
        clear l1a l1b
        go_wp2_with fail
        exact ⟨⟨k + 1, by omega, by go_num, by rw [HSUC.out, HF.out, OK.out]; rfl⟩, by simp [intOf]; omega⟩
      · by_cases l3 : 97 ≤ (s[k]'hlt).toNat
        · skip
          by_cases z : k = 0
          · have OK := Lib.hid (okAt_bad (c := (s[k]'hlt).toNat) (k := k) (by omega) (Or.inl z))
            have l1d : decide ((97 : Int) ≤ ((s[k]'hlt).toNat : Int)) = true := by simpa using (by omega : (97 : Int) ≤ ((s[k]'hlt).toNat : Int))
            have l2d : decide (((s[k]'hlt).toNat : Int) ≤ 122) = false := by simpa using (by omega : (122 : Int) < ((s[k]'hlt).toNat : Int))
            have zb : ((k : Int) == 0) = true := by simp [z]
            clear l1 l3 z
            go_wp2_with fail
            go_ret
            exact ⟨by rw [nameB, okB_false s (k + 1) s.size (by rw [HSUC.out, HF.out, OK.out]; rfl) hlt]; simp, rfl⟩
          · have zb : ((k : Int) == 0) = false := by simpa using z
            have z1 : 1 ≤ k := by omega
            by_cases g1 : 48 ≤ (s[k]'hlt).toNat ∧ (s[k]'hlt).toNat ≤ 57
            · have OK := Lib.hid (okAt_digit (k := k) z1 g1.1 g1.2)
              obtain ⟨g1a, g1b⟩ := g1
              have l1d : decide ((97 : Int) ≤ ((s[k]'hlt).toNat : Int)) = true := by simpa using (by omega : (97 : Int) ≤ ((s[k]'hlt).toNat : Int))
              have l2d : decide (((s[k]'hlt).toNat : Int) ≤ 122) = false := by simpa using (by omega : (122 : Int) < ((s[k]'hlt).toNat : Int))
              have g1d : decide (((s[k]'hlt).toNat : Int) < 48) = false := by simpa using (by omega : (48 : Int) ≤ ((s[k]'hlt).toNat : Int))
              have g2d : decide ((57 : Int) < ((s[k]'hlt).toNat : Int)) = false := by simpa using (by omega : ((s[k]'hlt).toNat : Int) ≤ 57)
              clear z l1 l3 g1a g1b
              go_wp2_with fail
              exact ⟨⟨k + 1, by omega, by go_num, by rw [HSUC.out, HF.out, OK.out]; rfl⟩, by simp [intOf]; omega⟩
            · have OK := Lib.hid (okAt_bad (c := (s[k]'hlt).toNat) (k := k) (by omega) (Or.inr (by omega)))
              by_cases g2 : 48 ≤ (s[k]'hlt).toNat
              · skip
                have l1d : decide ((97 : Int) ≤ ((s[k]'hlt).toNat : Int)) = true := by simpa using (by omega : (97 : Int) ≤ ((s[k]'hlt).toNat : Int))
                have l2d : decide (((s[k]'hlt).toNat : Int) ≤ 122) = false := by simpa using (by omega : (122 : Int) < ((s[k]'hlt).toNat : Int))
                have g1d : decide (((s[k]'hlt).toNat : Int) < 48) = false := by simpa using (by omega : (48 : Int) ≤ ((s[k]'hlt).toNat : Int))
                have g2d : decide ((57 : Int) < ((s[k]'hlt).toNat : Int)) = true := by simpa using (by omega : (57 : Int) < ((s[k]'hlt).toNat : Int))
                clear z l1 l3 g1 g2
                go_wp2_with fail
                go_ret
                exact ⟨by rw [nameB, okB_false s (k + 1) s.size (by rw [HSUC.out, HF.out, OK.out]; rfl) hlt]; simp, rfl⟩
              · skip
                have l1d : decide ((97 : Int) ≤ ((s[k]'hlt).toNat : Int)) = true := by simpa using (by omega : (97 : Int) ≤ ((s[k]'hlt).toNat : Int))
                have l2d : decide (((s[k]'hlt).toNat : Int) ≤ 122) = false := by simpa using (by omega : (122 : Int) < ((s[k]'hlt).toNat : Int))
                have g1d : decide (((s[k]'hlt).toNat : Int) < 48) = true := by simpa using (by omega : ((s[k]'hlt).toNat : Int) < 48)
                clear z l1 l3 g1 g2
                go_wp2_with fail
                go_ret
                exact ⟨by rw [nameB, okB_false s (k + 1) s.size (by rw [HSUC.out, HF.out, OK.out]; rfl) hlt]; simp, rfl⟩
        · skip
          by_cases z : k = 0
          · have OK := Lib.hid (okAt_bad (c := (s[k]'hlt).toNat) (k := k) (by omega) (Or.inl z))
            have l1d : decide ((97 : Int) ≤ ((s[k]'hlt).toNat : Int)) = false := by simpa using (by omega : ((s[k]'hlt).toNat : Int) < 97)
            have zb : ((k : Int) == 0) = true := by simp [z]
            clear l1 l3 z
            go_wp2_with fail
            go_ret
            exact ⟨by rw [nameB, okB_false s (k + 1) s.size (by rw [HSUC.out, HF.out, OK.out]; rfl) hlt]; simp, rfl⟩
          · have zb : ((k : Int) == 0) = false := by simpa using z
            have z1 : 1 ≤ k := by omega
            by_cases g1 : 48 ≤ (s[k]'hlt).toNat ∧ (s[k]'hlt).toNat ≤ 57
            · have OK := Lib.hid (okAt_digit (k := k) z1 g1.1 g1.2)
              obtain ⟨g1a, g1b⟩ := g1
              have l1d : decide ((97 : Int) ≤ ((s[k]'hlt).toNat : Int)) = false := by simpa using (by omega : ((s[k]'hlt).toNat : Int) < 97)
              have g1d : decide (((s[k]'hlt).toNat : Int) < 48) = false := by simpa using (by omega : (48 : Int) ≤ ((s[k]'hlt).toNat : Int))
              have g2d : decide ((57 : Int) < ((s[k]'hlt).toNat : Int)) = false := by simpa using (by omega : ((s[k]'hlt).toNat : Int) ≤ 57)
              clear z l1 l3 g1a g1b
              go_wp2_with fail
              exact ⟨⟨k + 1, by omega, by go_num, by rw [HSUC.out, HF.out, OK.out]; rfl⟩, by simp [intOf]; omega⟩
            · have OK := Lib.hid (okAt_bad (c := (s[k]'hlt).toNat) (k := k) (by omega) (Or.inr (by omega)))
              by_cases g2 : 48 ≤ (s[k]'hlt).toNat
              · skip
                have l1d : decide ((97 : Int) ≤ ((s[k]'hlt).toNat : Int)) = false := by simpa using (by omega : ((s[k]'hlt).toNat : Int) < 97)
                have g1d : decide (((s[k]'hlt).toNat : Int) < 48) = false := by simpa using (by omega : (48 : Int) ≤ ((s[k]'hlt).toNat : Int))
                have g2d : decide ((57 : Int) < ((s[k]'hlt).toNat : Int)) = true := by simpa using (by omega : (57 : Int) < ((s[k]'hlt).toNat : Int))
                clear z l1 l3 g1 g2
                go_wp2_with fail
                go_ret
                exact ⟨by rw [nameB, okB_false s (k + 1) s.size (by rw [HSUC.out, HF.out, OK.out]; rfl) hlt]; simp, rfl⟩
              · skip
                have l1d : decide ((97 : Int) ≤ ((s[k]'hlt).toNat : Int)) = false := by simpa using (by omega : ((s[k]'hlt).toNat : Int) < 97)
                have g1d : decide (((s[k]'hlt).toNat : Int) < 48) = true := by simpa using (by omega : ((s[k]'hlt).toNat : Int) < 48)
                clear z l1 l3 g1 g2
                go_wp2_with fail
                go_ret
                exact ⟨by rw [nameB, okB_false s (k + 1) s.size (by rw [HSUC.out, HF.out, OK.out]; rfl) hlt]; simp, rfl⟩
    · obtain rfl : k = s.size := by omega
      go_wp2_with fail
      refine (specIn _ _ _ w).mono ?_
      rintro e w9 ⟨rfl, rfl⟩
      have w1 : wordB s = ((s.toList == [105, 102]) || ((s.toList == [102, 115, 116]) || (s.toList == [115, 110, 100]))) := rfl
      have e1 : nameB s = (decide (1 ≤ s.size) && (decide (s.size ≤ 5) && !(wordB s))) := by rw [nameB, HF.out]; simp
      have E1 := Lib.hid (e1.trans (by rw [w1]))
      clear w1 e1
      by_cases r1 : 1 ≤ s.size
      · by_cases r2 : s.size ≤ 5
        · have i1 : (1 : Int) ≤ (s.size : Int) := by omega
          have i2 : (s.size : Int) ≤ 5 := by omega
          have R1 := Lib.hid r1
          have R2 := Lib.hid r2
          cases h1 : (s.toList == [105, 102]) with
          | true =>
            go_wp2_with fail
            go_ret
            exact ⟨by rw [E1.out]; simp [h1], rfl⟩
          | false =>
            cases h2 : (s.toList == [102, 115, 116]) with
            | true =>
              go_wp2_with fail
              go_ret
              exact ⟨by rw [E1.out]; simp [h1, h2], rfl⟩
            | false =>
              cases h3 : (s.toList == [115, 110, 100]) with
              | true =>
                go_wp2_with fail
                go_ret
                exact ⟨by rw [E1.out]; simp [h1, h2, h3], rfl⟩
              | false =>
                go_wp2_with fail
                go_ret
                exact ⟨by rw [E1.out]; simp [h1, h2, h3, R1.out, R2.out], rfl⟩
        · have i2 : ¬ ((s.size : Int) ≤ 5) := by omega
          have i1 : (1 : Int) ≤ (s.size : Int) := by omega
          go_wp2_with fail
          go_ret
          exact ⟨by rw [E1.out]; simp [r2], rfl⟩
      · have i1 : ¬ ((1 : Int) ≤ (s.size : Int)) := by omega
        go_wp2_with fail
        go_ret
        exact ⟨by rw [E1.out]; simp [r1], rfl⟩
end Go.Proofs.YtdgfkmnnjhlpbaaDoor
/-
  Proved: spec.l6Fields says whether the fields of a node belong to its kind; the memory that was there stays as it was.
-/
namespace Go.Proofs.YtdgfkmnnjhlpbaaDoor
open Go.RowKit

theorem ty_zero {w : World} {d : Nat} {tk : Int} {ta : Option Addr} {tn tc : Nat} {ty : Ty} (h : TyAt w d (.agg #[.int .i64 tk, .slice ta tn tc]) ty) : ty.beq (.node 0 []) = (decide (tk = 0) && decide (tn = 0)) := by
  cases d with
  | zero => exact h.elim
  | succ d =>
    cases ty with
    | node k ts =>
      obtain ⟨sl, hv, h0, h1, a, cap, rfl, h2⟩ := h
      injection hv with hv
      injection hv with hv
      simp at hv
      obtain ⟨rfl, rfl, rfl, rfl⟩ := hv
      exact beq_zero _ _
theorem name_some {s : ByteArray} (h : nameB s = true) : s.size ≠ 0 := fun e => by rw [nameB_empty e] at h; cases h
theorem note_some {t : Ty} (h : t.note = true) : t.beq (.node 0 []) = false := by
  cases t with
  | node k ts =>
    rw [beq_zero]
    cases hk : decide (k = 0) with
    | false => rfl
    | true =>
      have e := of_decide_eq_true hk
      subst e
      exfalso
      simp [Ty.note, Ty.valid, Ty.form, kindOk] at h
theorem text_zero {s : ByteArray} (h : s.size = 0) : (s.toList == []) = true := by
  have : s.toList = [] := List.eq_nil_of_length_eq_zero (by rw [size_of_toList]; exact h)
  rw [this]; rfl
/-- What the fields of a node say. -/
def fieldsB (k : Int) (nm : ByteArray) (n : Int) (ty : Ty) : Bool := nameFor k nm && (numFor k n && typeFor k ty)
set_option maxRecDepth 100000 in
set_option maxHeartbeats 4000000 in
theorem specFields (d : Nat) (v : Value) (kd : Int) (nm : ByteArray) (n : Int) (ty : Ty) (es : List Ex) (w : World) (h : ExAt w (d + 1) v (.node kd nm n ty es)) (hsz : (Ex.node kd nm n ty es).bulk ≤ 1048576) :
    Calls Tryd.prog 134 #[v] w fun e w' => e = .returned (.bool (fieldsB kd nm n ty)) ∧ Below w.heap.size w w' := by
  have HV := ex_parts h
  obtain ⟨c3, c4, sl, rfl, hk0, hk1, hn0, hn1, hnm, hty, a, cap, rfl, hcap, hcap2, hat⟩ := h
  obtain ⟨k', nm', n', tk, ta, tn, tc, sa, sn, sc, hv⟩ := HV
  injection hv with hv
  injection hv with hv
  simp at hv
  obtain ⟨rfl, rfl, rfl, rfl, rfl, rfl, rfl, rfl⟩ := hv
  have HAT := Lib.hid hat; clear hat
  have hbk : (Ex.node kd nm n ty es).bulk = nm.size + (ty.size - 1) + Ex.bulks es := rfl
  have HSZ : Hid (Ex.bulks es ≤ 1048576) := by show _ ≤ _; omega
  have HNM : Hid (nm.size ≤ 1048576) := by show _ ≤ _; omega
  have HTZ : Hid (ty.size ≤ 1048577) := by show _ ≤ _; omega
  have hlen : es.length ≤ 1048576 := by have := Ex.length_le es; omega
  have HTY := Lib.hid hty
  clear hsz hbk hty
  clear HAT HSZ
  have hz0 := ty_zero HTY.out
  have HZ0 := Lib.hid hz0; clear hz0
  have hnz := HNM.out
  have B0 : Hid (Below (w.heap.size + 1) (w.alloc (.cells #[.int .i64 kd, .string nm, .int .i64 n, .int .i64 tk, .slice ta tn tc, .slice a es.length cap] 51)) (w.alloc (.cells #[.int .i64 kd, .string nm, .int .i64 n, .int .i64 tk, .slice ta tn tc, .slice a es.length cap] 51))) := Below.refl _ _
  have HTYb := Lib.hid (HTY.out.below (box_below B0.out))
  clear HTY
  by_cases q1 : kd = 1
  · subst q1
    go_enter Tryd.func134, Tryd.ntmps134
    go_wp2_with fail
    refine (specName nm _ (by omega)).mono ?_
    rintro e w1 ⟨rfl, hw1⟩
    subst hw1
    cases hnb : nameB nm with
    | true =>
      have NZ := name_some hnb
      have c0 := box_cell B0.out 0
      have c1 := box_cell B0.out 1
      have c2 := box_cell B0.out 2
      have c3 := box_cell B0.out 3
      have c4 := box_cell B0.out 4
      have c5 := box_cell B0.out 5
      go_wp2_with fail
      go_ret
      exact ⟨by simp [fieldsB, nameFor, numFor, typeFor, *], box_below B0.out⟩
    | false =>
      by_cases NZ : nm.size = 0
      · have e1 := text_zero NZ
        have c0 := box_cell B0.out 0
        have c1 := box_cell B0.out 1
        have c2 := box_cell B0.out 2
        have c3 := box_cell B0.out 3
        have c4 := box_cell B0.out 4
        have c5 := box_cell B0.out 5
        go_wp2_with fail
        refine (specNote d _ ty _ (HTYb.out) HTZ.out).mono ?_
        rintro e w2 ⟨rfl, hb2⟩
        have B2 := Lib.hid (box_next B0.out hb2); clear hb2
        clear c0 c1 c2 c3 c4 c5
        cases hno : ty.note with
        | true =>
          have TZ := note_some hno
          have c0 := box_cell B2.out 0
          have c1 := box_cell B2.out 1
          have c2 := box_cell B2.out 2
          have c3 := box_cell B2.out 3
          have c4 := box_cell B2.out 4
          have c5 := box_cell B2.out 5
          go_wp2_with fail
          go_ret
          exact ⟨by simp [fieldsB, nameFor, numFor, typeFor, *], box_below B2.out⟩
        | false =>
          by_cases qt : tk = 0
          · by_cases qs : tn = 0
            · have TZ : ty.beq (.node 0 []) = true := by rw [HZ0.out]; simp [qt, qs]
              subst qt
              subst qs
              have c0 := box_cell B2.out 0
              have c1 := box_cell B2.out 1
              have c2 := box_cell B2.out 2
              have c3 := box_cell B2.out 3
              have c4 := box_cell B2.out 4
              have c5 := box_cell B2.out 5
              go_wp2_with fail
              refine (specIn n 1 99 _).mono ?_
              rintro e w9 ⟨rfl, hw9⟩
              subst hw9
              go_wp2_with fail
              go_ret
              exact ⟨by simp [fieldsB, nameFor, numFor, typeFor, *], box_below B2.out⟩
            · have TZ : ty.beq (.node 0 []) = false := by rw [HZ0.out]; simp [qs]
              subst qt
              have c0 := box_cell B2.out 0
              have c1 := box_cell B2.out 1
              have c2 := box_cell B2.out 2
              have c3 := box_cell B2.out 3
              have c4 := box_cell B2.out 4
              have c5 := box_cell B2.out 5
              go_wp2_with fail
              go_ret
              exact ⟨by simp [fieldsB, nameFor, numFor, typeFor, *], box_below B2.out⟩
          · have TZ : ty.beq (.node 0 []) = false := by rw [HZ0.out]; simp [qt]
            have c0 := box_cell B2.out 0
            have c1 := box_cell B2.out 1
            have c2 := box_cell B2.out 2
            have c3 := box_cell B2.out 3
            have c4 := box_cell B2.out 4
            have c5 := box_cell B2.out 5
            go_wp2_with fail
            go_ret
            exact ⟨by simp [fieldsB, nameFor, numFor, typeFor, *], box_below B2.out⟩
      · have e1 := toList_some (s := nm) (by omega)
        have c0 := box_cell B0.out 0
        have c1 := box_cell B0.out 1
        have c2 := box_cell B0.out 2
        have c3 := box_cell B0.out 3
        have c4 := box_cell B0.out 4
        have c5 := box_cell B0.out 5
        go_wp2_with fail
        go_ret
        exact ⟨by simp [fieldsB, nameFor, numFor, typeFor, *], box_below B0.out⟩
  by_cases q2 : kd = 2
  · subst q2
    go_enter Tryd.func134, Tryd.ntmps134
    go_wp2_with fail
    refine (specName nm _ (by omega)).mono ?_
    rintro e w1 ⟨rfl, hw1⟩
    subst hw1
    cases hnb : nameB nm with
    | false =>
      have c0 := box_cell B0.out 0
      have c1 := box_cell B0.out 1
      have c2 := box_cell B0.out 2
      have c3 := box_cell B0.out 3
      have c4 := box_cell B0.out 4
      have c5 := box_cell B0.out 5
      go_wp2_with fail
      go_ret
      exact ⟨by simp [fieldsB, nameFor, numFor, typeFor, *], box_below B0.out⟩
    | true =>
      have NZ := hnb
      have c0 := box_cell B0.out 0
      have c1 := box_cell B0.out 1
      have c2 := box_cell B0.out 2
      have c3 := box_cell B0.out 3
      have c4 := box_cell B0.out 4
      have c5 := box_cell B0.out 5
      go_wp2_with fail
      refine (specNote d _ ty _ (HTYb.out) HTZ.out).mono ?_
      rintro e w2 ⟨rfl, hb2⟩
      have B2 := Lib.hid (box_next B0.out hb2); clear hb2
      clear c0 c1 c2 c3 c4 c5
      cases hno : ty.note with
      | true =>
        have TZ := note_some hno
        have c0 := box_cell B2.out 0
        have c1 := box_cell B2.out 1
        have c2 := box_cell B2.out 2
        have c3 := box_cell B2.out 3
        have c4 := box_cell B2.out 4
        have c5 := box_cell B2.out 5
        go_wp2_with fail
        go_ret
        exact ⟨by simp [fieldsB, nameFor, numFor, typeFor, *], box_below B2.out⟩
      | false =>
        by_cases qt : tk = 0
        · by_cases qs : tn = 0
          · have TZ : ty.beq (.node 0 []) = true := by rw [HZ0.out]; simp [qt, qs]
            subst qt
            subst qs
            by_cases qn : n = 0
            · subst qn
              have c0 := box_cell B2.out 0
              have c1 := box_cell B2.out 1
              have c2 := box_cell B2.out 2
              have c3 := box_cell B2.out 3
              have c4 := box_cell B2.out 4
              have c5 := box_cell B2.out 5
              go_wp2_with fail
              go_ret
              exact ⟨by simp [fieldsB, nameFor, numFor, typeFor, *], box_below B2.out⟩
            · have qnb : (n == 0) = false := by simp [qn]
              have c0 := box_cell B2.out 0
              have c1 := box_cell B2.out 1
              have c2 := box_cell B2.out 2
              have c3 := box_cell B2.out 3
              have c4 := box_cell B2.out 4
              have c5 := box_cell B2.out 5
              go_wp2_with fail
              go_ret
              exact ⟨by simp [fieldsB, nameFor, numFor, typeFor, *], box_below B2.out⟩
          · have TZ : ty.beq (.node 0 []) = false := by rw [HZ0.out]; simp [qs]
            subst qt
            have c0 := box_cell B2.out 0
            have c1 := box_cell B2.out 1
            have c2 := box_cell B2.out 2
            have c3 := box_cell B2.out 3
            have c4 := box_cell B2.out 4
            have c5 := box_cell B2.out 5
            go_wp2_with fail
            go_ret
            exact ⟨by simp [fieldsB, nameFor, numFor, typeFor, *], box_below B2.out⟩
        · have TZ : ty.beq (.node 0 []) = false := by rw [HZ0.out]; simp [qt]
          have c0 := box_cell B2.out 0
          have c1 := box_cell B2.out 1
          have c2 := box_cell B2.out 2
          have c3 := box_cell B2.out 3
          have c4 := box_cell B2.out 4
          have c5 := box_cell B2.out 5
          go_wp2_with fail
          go_ret
          exact ⟨by simp [fieldsB, nameFor, numFor, typeFor, *], box_below B2.out⟩
  by_cases q3 : kd = 3
  · subst q3
    go_enter Tryd.func134, Tryd.ntmps134
    go_wp2_with fail
    refine (specName nm _ (by omega)).mono ?_
    rintro e w1 ⟨rfl, hw1⟩
    subst hw1
    cases hnb : nameB nm with
    | false =>
      have c0 := box_cell B0.out 0
      have c1 := box_cell B0.out 1
      have c2 := box_cell B0.out 2
      have c3 := box_cell B0.out 3
      have c4 := box_cell B0.out 4
      have c5 := box_cell B0.out 5
      go_wp2_with fail
      go_ret
      exact ⟨by simp [fieldsB, nameFor, numFor, typeFor, *], box_below B0.out⟩
    | true =>
      have NZ := hnb
      have c0 := box_cell B0.out 0
      have c1 := box_cell B0.out 1
      have c2 := box_cell B0.out 2
      have c3 := box_cell B0.out 3
      have c4 := box_cell B0.out 4
      have c5 := box_cell B0.out 5
      go_wp2_with fail
      refine (specNote d _ ty _ (HTYb.out) HTZ.out).mono ?_
      rintro e w2 ⟨rfl, hb2⟩
      have B2 := Lib.hid (box_next B0.out hb2); clear hb2
      clear c0 c1 c2 c3 c4 c5
      cases hno : ty.note with
      | false =>
        have c0 := box_cell B2.out 0
        have c1 := box_cell B2.out 1
        have c2 := box_cell B2.out 2
        have c3 := box_cell B2.out 3
        have c4 := box_cell B2.out 4
        have c5 := box_cell B2.out 5
        go_wp2_with fail
        go_ret
        exact ⟨by simp [fieldsB, nameFor, numFor, typeFor, *], box_below B2.out⟩
      | true =>
        have TZ := hno
        by_cases qn : n = 0
        · subst qn
          have c0 := box_cell B2.out 0
          have c1 := box_cell B2.out 1
          have c2 := box_cell B2.out 2
          have c3 := box_cell B2.out 3
          have c4 := box_cell B2.out 4
          have c5 := box_cell B2.out 5
          go_wp2_with fail
          go_ret
          exact ⟨by simp [fieldsB, nameFor, numFor, typeFor, *], box_below B2.out⟩
        · have qnb : (n == 0) = false := by simp [qn]
          have c0 := box_cell B2.out 0
          have c1 := box_cell B2.out 1
          have c2 := box_cell B2.out 2
          have c3 := box_cell B2.out 3
          have c4 := box_cell B2.out 4
          have c5 := box_cell B2.out 5
          go_wp2_with fail
          go_ret
          exact ⟨by simp [fieldsB, nameFor, numFor, typeFor, *], box_below B2.out⟩
  by_cases q5 : kd = 5
  · subst q5
    go_enter Tryd.func134, Tryd.ntmps134
    go_wp2_with fail
    refine (specName nm _ (by omega)).mono ?_
    rintro e w1 ⟨rfl, hw1⟩
    subst hw1
    cases hnb : nameB nm with
    | true =>
      have NZ := name_some hnb
      have c0 := box_cell B0.out 0
      have c1 := box_cell B0.out 1
      have c2 := box_cell B0.out 2
      have c3 := box_cell B0.out 3
      have c4 := box_cell B0.out 4
      have c5 := box_cell B0.out 5
      go_wp2_with fail
      go_ret
      exact ⟨by simp [fieldsB, nameFor, numFor, typeFor, *], box_below B0.out⟩
    | false =>
      by_cases NZ : nm.size = 0
      · have e1 := text_zero NZ
        have c0 := box_cell B0.out 0
        have c1 := box_cell B0.out 1
        have c2 := box_cell B0.out 2
        have c3 := box_cell B0.out 3
        have c4 := box_cell B0.out 4
        have c5 := box_cell B0.out 5
        go_wp2_with fail
        refine (specNote d _ ty _ (HTYb.out) HTZ.out).mono ?_
        rintro e w2 ⟨rfl, hb2⟩
        have B2 := Lib.hid (box_next B0.out hb2); clear hb2
        clear c0 c1 c2 c3 c4 c5
        cases hno : ty.note with
        | true =>
          have TZ := note_some hno
          have c0 := box_cell B2.out 0
          have c1 := box_cell B2.out 1
          have c2 := box_cell B2.out 2
          have c3 := box_cell B2.out 3
          have c4 := box_cell B2.out 4
          have c5 := box_cell B2.out 5
          go_wp2_with fail
          go_ret
          exact ⟨by simp [fieldsB, nameFor, numFor, typeFor, *], box_below B2.out⟩
        | false =>
          by_cases qt : tk = 0
          · by_cases qs : tn = 0
            · have TZ : ty.beq (.node 0 []) = true := by rw [HZ0.out]; simp [qt, qs]
              subst qt
              subst qs
              have c0 := box_cell B2.out 0
              have c1 := box_cell B2.out 1
              have c2 := box_cell B2.out 2
              have c3 := box_cell B2.out 3
              have c4 := box_cell B2.out 4
              have c5 := box_cell B2.out 5
              go_wp2_with fail
              refine (specIn n 0 999 _).mono ?_
              rintro e w9 ⟨rfl, hw9⟩
              subst hw9
              go_wp2_with fail
              go_ret
              exact ⟨by simp [fieldsB, nameFor, numFor, typeFor, *], box_below B2.out⟩
            · have TZ : ty.beq (.node 0 []) = false := by rw [HZ0.out]; simp [qs]
              subst qt
              have c0 := box_cell B2.out 0
              have c1 := box_cell B2.out 1
              have c2 := box_cell B2.out 2
              have c3 := box_cell B2.out 3
              have c4 := box_cell B2.out 4
              have c5 := box_cell B2.out 5
              go_wp2_with fail
              go_ret
              exact ⟨by simp [fieldsB, nameFor, numFor, typeFor, *], box_below B2.out⟩
          · have TZ : ty.beq (.node 0 []) = false := by rw [HZ0.out]; simp [qt]
            have c0 := box_cell B2.out 0
            have c1 := box_cell B2.out 1
            have c2 := box_cell B2.out 2
            have c3 := box_cell B2.out 3
            have c4 := box_cell B2.out 4
            have c5 := box_cell B2.out 5
            go_wp2_with fail
            go_ret
            exact ⟨by simp [fieldsB, nameFor, numFor, typeFor, *], box_below B2.out⟩
      · have e1 := toList_some (s := nm) (by omega)
        have c0 := box_cell B0.out 0
        have c1 := box_cell B0.out 1
        have c2 := box_cell B0.out 2
        have c3 := box_cell B0.out 3
        have c4 := box_cell B0.out 4
        have c5 := box_cell B0.out 5
        go_wp2_with fail
        go_ret
        exact ⟨by simp [fieldsB, nameFor, numFor, typeFor, *], box_below B0.out⟩
  by_cases q8 : kd = 8
  · subst q8
    go_enter Tryd.func134, Tryd.ntmps134
    go_wp2_with fail
    refine (specName nm _ (by omega)).mono ?_
    rintro e w1 ⟨rfl, hw1⟩
    subst hw1
    cases hnb : nameB nm with
    | true =>
      have NZ := name_some hnb
      have c0 := box_cell B0.out 0
      have c1 := box_cell B0.out 1
      have c2 := box_cell B0.out 2
      have c3 := box_cell B0.out 3
      have c4 := box_cell B0.out 4
      have c5 := box_cell B0.out 5
      go_wp2_with fail
      go_ret
      exact ⟨by simp [fieldsB, nameFor, numFor, typeFor, *], box_below B0.out⟩
    | false =>
      by_cases NZ : nm.size = 0
      · have e1 := text_zero NZ
        have c0 := box_cell B0.out 0
        have c1 := box_cell B0.out 1
        have c2 := box_cell B0.out 2
        have c3 := box_cell B0.out 3
        have c4 := box_cell B0.out 4
        have c5 := box_cell B0.out 5
        go_wp2_with fail
        refine (specNote d _ ty _ (HTYb.out) HTZ.out).mono ?_
        rintro e w2 ⟨rfl, hb2⟩
        have B2 := Lib.hid (box_next B0.out hb2); clear hb2
        clear c0 c1 c2 c3 c4 c5
        cases hno : ty.note with
        | true =>
          have TZ := note_some hno
          have c0 := box_cell B2.out 0
          have c1 := box_cell B2.out 1
          have c2 := box_cell B2.out 2
          have c3 := box_cell B2.out 3
          have c4 := box_cell B2.out 4
          have c5 := box_cell B2.out 5
          go_wp2_with fail
          go_ret
          exact ⟨by simp [fieldsB, nameFor, numFor, typeFor, *], box_below B2.out⟩
        | false =>
          by_cases qt : tk = 0
          · by_cases qs : tn = 0
            · have TZ : ty.beq (.node 0 []) = true := by rw [HZ0.out]; simp [qt, qs]
              subst qt
              subst qs
              have c0 := box_cell B2.out 0
              have c1 := box_cell B2.out 1
              have c2 := box_cell B2.out 2
              have c3 := box_cell B2.out 3
              have c4 := box_cell B2.out 4
              have c5 := box_cell B2.out 5
              go_wp2_with fail
              refine (specIn n 0 1 _).mono ?_
              rintro e w9 ⟨rfl, hw9⟩
              subst hw9
              go_wp2_with fail
              go_ret
              exact ⟨by simp [fieldsB, nameFor, numFor, typeFor, *], box_below B2.out⟩
            · have TZ : ty.beq (.node 0 []) = false := by rw [HZ0.out]; simp [qs]
              subst qt
              have c0 := box_cell B2.out 0
              have c1 := box_cell B2.out 1
              have c2 := box_cell B2.out 2
              have c3 := box_cell B2.out 3
              have c4 := box_cell B2.out 4
              have c5 := box_cell B2.out 5
              go_wp2_with fail
              go_ret
              exact ⟨by simp [fieldsB, nameFor, numFor, typeFor, *], box_below B2.out⟩
          · have TZ : ty.beq (.node 0 []) = false := by rw [HZ0.out]; simp [qt]
            have c0 := box_cell B2.out 0
            have c1 := box_cell B2.out 1
            have c2 := box_cell B2.out 2
            have c3 := box_cell B2.out 3
            have c4 := box_cell B2.out 4
            have c5 := box_cell B2.out 5
            go_wp2_with fail
            go_ret
            exact ⟨by simp [fieldsB, nameFor, numFor, typeFor, *], box_below B2.out⟩
      · have e1 := toList_some (s := nm) (by omega)
        have c0 := box_cell B0.out 0
        have c1 := box_cell B0.out 1
        have c2 := box_cell B0.out 2
        have c3 := box_cell B0.out 3
        have c4 := box_cell B0.out 4
        have c5 := box_cell B0.out 5
        go_wp2_with fail
        go_ret
        exact ⟨by simp [fieldsB, nameFor, numFor, typeFor, *], box_below B0.out⟩
  by_cases q13 : kd = 13
  · subst q13
    go_enter Tryd.func134, Tryd.ntmps134
    go_wp2_with fail
    refine (specName nm _ (by omega)).mono ?_
    rintro e w1 ⟨rfl, hw1⟩
    subst hw1
    cases hnb : nameB nm with
    | true =>
      have NZ := name_some hnb
      have c0 := box_cell B0.out 0
      have c1 := box_cell B0.out 1
      have c2 := box_cell B0.out 2
      have c3 := box_cell B0.out 3
      have c4 := box_cell B0.out 4
      have c5 := box_cell B0.out 5
      go_wp2_with fail
      go_ret
      exact ⟨by simp [fieldsB, nameFor, numFor, typeFor, *], box_below B0.out⟩
    | false =>
      by_cases NZ : nm.size = 0
      · have e1 := text_zero NZ
        have c0 := box_cell B0.out 0
        have c1 := box_cell B0.out 1
        have c2 := box_cell B0.out 2
        have c3 := box_cell B0.out 3
        have c4 := box_cell B0.out 4
        have c5 := box_cell B0.out 5
        go_wp2_with fail
        refine (specNote d _ ty _ (HTYb.out) HTZ.out).mono ?_
        rintro e w2 ⟨rfl, hb2⟩
        have B2 := Lib.hid (box_next B0.out hb2); clear hb2
        clear c0 c1 c2 c3 c4 c5
        cases hno : ty.note with
        | false =>
          have c0 := box_cell B2.out 0
          have c1 := box_cell B2.out 1
          have c2 := box_cell B2.out 2
          have c3 := box_cell B2.out 3
          have c4 := box_cell B2.out 4
          have c5 := box_cell B2.out 5
          go_wp2_with fail
          go_ret
          exact ⟨by simp [fieldsB, nameFor, numFor, typeFor, *], box_below B2.out⟩
        | true =>
          have TZ := hno
          by_cases qn : n = 0
          · subst qn
            have c0 := box_cell B2.out 0
            have c1 := box_cell B2.out 1
            have c2 := box_cell B2.out 2
            have c3 := box_cell B2.out 3
            have c4 := box_cell B2.out 4
            have c5 := box_cell B2.out 5
            go_wp2_with fail
            go_ret
            exact ⟨by simp [fieldsB, nameFor, numFor, typeFor, *], box_below B2.out⟩
          · have qnb : (n == 0) = false := by simp [qn]
            have c0 := box_cell B2.out 0
            have c1 := box_cell B2.out 1
            have c2 := box_cell B2.out 2
            have c3 := box_cell B2.out 3
            have c4 := box_cell B2.out 4
            have c5 := box_cell B2.out 5
            go_wp2_with fail
            go_ret
            exact ⟨by simp [fieldsB, nameFor, numFor, typeFor, *], box_below B2.out⟩
      · have e1 := toList_some (s := nm) (by omega)
        have c0 := box_cell B0.out 0
        have c1 := box_cell B0.out 1
        have c2 := box_cell B0.out 2
        have c3 := box_cell B0.out 3
        have c4 := box_cell B0.out 4
        have c5 := box_cell B0.out 5
        go_wp2_with fail
        go_ret
        exact ⟨by simp [fieldsB, nameFor, numFor, typeFor, *], box_below B0.out⟩
  by_cases q14 : kd = 14
  · subst q14
    go_enter Tryd.func134, Tryd.ntmps134
    go_wp2_with fail
    refine (specName nm _ (by omega)).mono ?_
    rintro e w1 ⟨rfl, hw1⟩
    subst hw1
    cases hnb : nameB nm with
    | true =>
      have NZ := name_some hnb
      have c0 := box_cell B0.out 0
      have c1 := box_cell B0.out 1
      have c2 := box_cell B0.out 2
      have c3 := box_cell B0.out 3
      have c4 := box_cell B0.out 4
      have c5 := box_cell B0.out 5
      go_wp2_with fail
      go_ret
      exact ⟨by simp [fieldsB, nameFor, numFor, typeFor, *], box_below B0.out⟩
    | false =>
      by_cases NZ : nm.size = 0
      · have e1 := text_zero NZ
        have c0 := box_cell B0.out 0
        have c1 := box_cell B0.out 1
        have c2 := box_cell B0.out 2
        have c3 := box_cell B0.out 3
        have c4 := box_cell B0.out 4
        have c5 := box_cell B0.out 5
        go_wp2_with fail
        refine (specNote d _ ty _ (HTYb.out) HTZ.out).mono ?_
        rintro e w2 ⟨rfl, hb2⟩
        have B2 := Lib.hid (box_next B0.out hb2); clear hb2
        clear c0 c1 c2 c3 c4 c5
        cases hno : ty.note with
        | true =>
          have TZ := note_some hno
          have c0 := box_cell B2.out 0
          have c1 := box_cell B2.out 1
          have c2 := box_cell B2.out 2
          have c3 := box_cell B2.out 3
          have c4 := box_cell B2.out 4
          have c5 := box_cell B2.out 5
          go_wp2_with fail
          go_ret
          exact ⟨by simp [fieldsB, nameFor, numFor, typeFor, *], box_below B2.out⟩
        | false =>
          by_cases qt : tk = 0
          · by_cases qs : tn = 0
            · have TZ : ty.beq (.node 0 []) = true := by rw [HZ0.out]; simp [qt, qs]
              subst qt
              subst qs
              have c0 := box_cell B2.out 0
              have c1 := box_cell B2.out 1
              have c2 := box_cell B2.out 2
              have c3 := box_cell B2.out 3
              have c4 := box_cell B2.out 4
              have c5 := box_cell B2.out 5
              go_wp2_with fail
              refine (specIn n 1 99 _).mono ?_
              rintro e w9 ⟨rfl, hw9⟩
              subst hw9
              go_wp2_with fail
              go_ret
              exact ⟨by simp [fieldsB, nameFor, numFor, typeFor, *], box_below B2.out⟩
            · have TZ : ty.beq (.node 0 []) = false := by rw [HZ0.out]; simp [qs]
              subst qt
              have c0 := box_cell B2.out 0
              have c1 := box_cell B2.out 1
              have c2 := box_cell B2.out 2
              have c3 := box_cell B2.out 3
              have c4 := box_cell B2.out 4
              have c5 := box_cell B2.out 5
              go_wp2_with fail
              go_ret
              exact ⟨by simp [fieldsB, nameFor, numFor, typeFor, *], box_below B2.out⟩
          · have TZ : ty.beq (.node 0 []) = false := by rw [HZ0.out]; simp [qt]
            have c0 := box_cell B2.out 0
            have c1 := box_cell B2.out 1
            have c2 := box_cell B2.out 2
            have c3 := box_cell B2.out 3
            have c4 := box_cell B2.out 4
            have c5 := box_cell B2.out 5
            go_wp2_with fail
            go_ret
            exact ⟨by simp [fieldsB, nameFor, numFor, typeFor, *], box_below B2.out⟩
      · have e1 := toList_some (s := nm) (by omega)
        have c0 := box_cell B0.out 0
        have c1 := box_cell B0.out 1
        have c2 := box_cell B0.out 2
        have c3 := box_cell B0.out 3
        have c4 := box_cell B0.out 4
        have c5 := box_cell B0.out 5
        go_wp2_with fail
        go_ret
        exact ⟨by simp [fieldsB, nameFor, numFor, typeFor, *], box_below B0.out⟩
  have z1 : (kd == 1) = false := by simp [q1]
  have z2 : (kd == 2) = false := by simp [q2]
  have z3 : (kd == 3) = false := by simp [q3]
  have z5 : (kd == 5) = false := by simp [q5]
  have z8 : (kd == 8) = false := by simp [q8]
  have z13 : (kd == 13) = false := by simp [q13]
  have z14 : (kd == 14) = false := by simp [q14]
  go_enter Tryd.func134, Tryd.ntmps134
  go_wp2_with fail
  refine (specName nm _ (by omega)).mono ?_
  rintro e w1 ⟨rfl, hw1⟩
  subst hw1
  cases hnb : nameB nm with
  | true =>
    have NZ := name_some hnb
    have c0 := box_cell B0.out 0
    have c1 := box_cell B0.out 1
    have c2 := box_cell B0.out 2
    have c3 := box_cell B0.out 3
    have c4 := box_cell B0.out 4
    have c5 := box_cell B0.out 5
    go_wp2_with fail
    go_ret
    exact ⟨by simp [fieldsB, nameFor, numFor, typeFor, *], box_below B0.out⟩
  | false =>
    by_cases NZ : nm.size = 0
    · have e1 := text_zero NZ
      have c0 := box_cell B0.out 0
      have c1 := box_cell B0.out 1
      have c2 := box_cell B0.out 2
      have c3 := box_cell B0.out 3
      have c4 := box_cell B0.out 4
      have c5 := box_cell B0.out 5
      go_wp2_with fail
      refine (specNote d _ ty _ (HTYb.out) HTZ.out).mono ?_
      rintro e w2 ⟨rfl, hb2⟩
      have B2 := Lib.hid (box_next B0.out hb2); clear hb2
      clear c0 c1 c2 c3 c4 c5
      cases hno : ty.note with
      | true =>
        have TZ := note_some hno
        have c0 := box_cell B2.out 0
        have c1 := box_cell B2.out 1
        have c2 := box_cell B2.out 2
        have c3 := box_cell B2.out 3
        have c4 := box_cell B2.out 4
        have c5 := box_cell B2.out 5
        go_wp2_with fail
        go_ret
        exact ⟨by simp [fieldsB, nameFor, numFor, typeFor, *], box_below B2.out⟩
      | false =>
        by_cases qt : tk = 0
        · by_cases qs : tn = 0
          · have TZ : ty.beq (.node 0 []) = true := by rw [HZ0.out]; simp [qt, qs]
            subst qt
            subst qs
            by_cases qn : n = 0
            · subst qn
              have c0 := box_cell B2.out 0
              have c1 := box_cell B2.out 1
              have c2 := box_cell B2.out 2
              have c3 := box_cell B2.out 3
              have c4 := box_cell B2.out 4
              have c5 := box_cell B2.out 5
              go_wp2_with fail
              go_ret
              exact ⟨by simp [fieldsB, nameFor, numFor, typeFor, *], box_below B2.out⟩
            · have qnb : (n == 0) = false := by simp [qn]
              have c0 := box_cell B2.out 0
              have c1 := box_cell B2.out 1
              have c2 := box_cell B2.out 2
              have c3 := box_cell B2.out 3
              have c4 := box_cell B2.out 4
              have c5 := box_cell B2.out 5
              go_wp2_with fail
              go_ret
              exact ⟨by simp [fieldsB, nameFor, numFor, typeFor, *], box_below B2.out⟩
          · have TZ : ty.beq (.node 0 []) = false := by rw [HZ0.out]; simp [qs]
            subst qt
            have c0 := box_cell B2.out 0
            have c1 := box_cell B2.out 1
            have c2 := box_cell B2.out 2
            have c3 := box_cell B2.out 3
            have c4 := box_cell B2.out 4
            have c5 := box_cell B2.out 5
            go_wp2_with fail
            go_ret
            exact ⟨by simp [fieldsB, nameFor, numFor, typeFor, *], box_below B2.out⟩
        · have TZ : ty.beq (.node 0 []) = false := by rw [HZ0.out]; simp [qt]
          have c0 := box_cell B2.out 0
          have c1 := box_cell B2.out 1
          have c2 := box_cell B2.out 2
          have c3 := box_cell B2.out 3
          have c4 := box_cell B2.out 4
          have c5 := box_cell B2.out 5
          go_wp2_with fail
          go_ret
          exact ⟨by simp [fieldsB, nameFor, numFor, typeFor, *], box_below B2.out⟩
    · have e1 := toList_some (s := nm) (by omega)
      have c0 := box_cell B0.out 0
      have c1 := box_cell B0.out 1
      have c2 := box_cell B0.out 2
      have c3 := box_cell B0.out 3
      have c4 := box_cell B0.out 4
      have c5 := box_cell B0.out 5
      go_wp2_with fail
      go_ret
      exact ⟨by simp [fieldsB, nameFor, numFor, typeFor, *], box_below B0.out⟩
end Go.Proofs.YtdgfkmnnjhlpbaaDoor
/-
  Proved: a statement whose order Go leaves open, whose operations only read old memory and whose calls leave old memory as it was and answer with plain values, may be walked once, in the order of the text.
-/
namespace Go.Proofs.YtdgfkmnnjhlpbaaDoor
open Go.RowKit

/-- A world that has grown out of w: below B all is as it was. -/
structure Grown (B : Nat) (w : World) where
  val : World
  old : Below B w val
instance (B : Nat) (w : World) : Nonempty (Grown B w) := ⟨⟨w, Below.refl _ _⟩⟩
theorem wp_region_grown {P : Program} {id : Nat} {Q : Exit → Act → World → Prop} {a : Act} {w : World} {l : List Oper} (B : Nat) (hm : P.follows .mixedOrders = true) (hB : Region.lexB .any l.toArray = true)
    (h : wpQuiet P l.toArray (fun w' => ∃ n : Grown B w, w' = n.val) (fun a' => ∀ w', (∃ n : Grown B w, w' = n.val) → Q .normal a' w') l a) : (Code.region id l.toArray true).wp P Q a w :=
  wp_region_quiet (C := fun w' => ∃ n : Grown B w, w' = n.val) hm hB ⟨⟨{ w with drawn := w.drawn + 1 }, (Below.refl _ _).drew⟩, rfl⟩ (by simpa using h)
theorem grown_of {P : Program} {f : FuncId} {args : Array Value} {B : Nat} {w : World} {n : Grown B w} {v : Value} (hB : B ≤ w.heap.size)
    (h : Calls P f args n.val fun e w' => e = .returned v ∧ Below n.val.heap.size n.val w') : Calls P f args n.val fun e w'' => e = .returned v ∧ ∃ m : Grown B w, w'' = m.val :=
  h.mono fun _ w'' ⟨he, hb⟩ => ⟨he, ⟨w'', below_thru n.old hB hb⟩, rfl⟩
theorem BoxAt.grown {w : World} {p : Nat} {cs : Array Value} (h : BoxAt w p cs) (n : Grown w.heap.size w) : BoxAt n.val p cs := h.below n.old
end Go.Proofs.YtdgfkmnnjhlpbaaDoor
/-
  Proved: spec.l6Form says whether every node of an expression has its kind's form; the memory that was there stays as it was.
-/
namespace Go.Proofs.YtdgfkmnnjhlpbaaDoor
open Go.RowKit

theorem box_of {w wr : World} {cs : Array Value} {T : TypeId} (h : Below (w.heap.size + 1) (w.alloc (.cells cs T)) wr) : BoxAt wr w.heap.size cs :=
  (BoxAt.new w cs T).below (by simpa using h)
theorem ex_kind {w : World} {d : Nat} {k : Int} {c1 c2 c3 c4 c5 : Value} {e : Ex} (h : ExAt w d (.agg #[.int .i64 k, c1, c2, c3, c4, c5]) e) : e.kind = k := by
  cases d with
  | zero => exact h.elim
  | succ d =>
    cases e with
    | node kd nm n ty es =>
      obtain ⟨d3, d4, sl, hv, _⟩ := h
      injection hv with hv
      injection hv with hv
      simp at hv
      exact hv.1.symm
theorem form_of {kd : Int} {nm : ByteArray} {n : Int} {ty : Ty} {es : List Ex} {b c : Bool} {r : Int} (h1 : Ex.forms es = true) (h2 : bareB kd es = true) (h3 : fieldsB kd nm n ty = b) (h4 : arity kd = r) (h5 : c = (b && decide ((es.length : Int) = r))) : (Ex.node kd nm n ty es).form = c := by
  subst h3 h4 h5
  simp only [Ex.form, h1, h2, fitsB, fieldsB, Bool.true_and]
  rw [Bool.and_comm]
set_option maxRecDepth 100000 in
set_option maxHeartbeats 4000000 in
theorem specExForm : ∀ (d : Nat) (v : Value) (t : Ex) (w : World), ExAt w d v t → t.bulk ≤ 1048576 →
    Calls Tryd.prog 111 #[v] w fun e w' => e = .returned (.bool t.form) ∧ Below w.heap.size w w'
  | 0, _, _, _, h, _ => h.elim
  | d + 1, v, .node kd nm n ty es, w, h, hsz => by
    have IH : Hid (∀ (v : Value) (t : Ex) (w : World), ExAt w d v t → t.bulk ≤ 1048576 → Calls Tryd.prog 111 #[v] w fun e w' => e = .returned (.bool t.form) ∧ Below w.heap.size w w') := specExForm d
    have HWH := Lib.hid h
    have HBK := Lib.hid hsz
    have HV := ex_parts h
    obtain ⟨c3, c4, sl, rfl, hk0, hk1, hn0, hn1, hnm, hty, a, cap, rfl, hcap, hcap2, hat⟩ := h
    obtain ⟨k', nm', n', tk, ta, tn, tc, sa, sn, sc, hv⟩ := HV
    injection hv with hv
    injection hv with hv
    simp at hv
    obtain ⟨rfl, rfl, rfl, rfl, rfl, rfl, rfl, rfl⟩ := hv
    have HAT := Lib.hid hat; clear hat
    have hbk : (Ex.node kd nm n ty es).bulk = nm.size + (ty.size - 1) + Ex.bulks es := rfl
    have HSZ : Hid (Ex.bulks es ≤ 1048576) := by show _ ≤ _; omega
    have HNM : Hid (nm.size ≤ 1048576) := by show _ ≤ _; omega
    have HTZ : Hid (ty.size ≤ 1048577) := by show _ ≤ _; omega
    have hlen : es.length ≤ 1048576 := by have := Ex.length_le es; omega
    clear hsz hbk hty
    go_enter Tryd.func111, Tryd.ntmps111
    go_wp2_with fail
    go_loopw [3] (fun i wr => ∃ k : Nat, k ≤ es.length ∧ i = .int .i64 k ∧ Ex.forms (es.take k) = true ∧ Below (w.heap.size + 1) (w.alloc (.cells #[.int .i64 kd, .string nm, .int .i64 n, .int .i64 tk, .slice ta tn tc, .slice a es.length cap] 51)) wr) (fun i _ => es.length - (intOf i).toNat)
    case atStart => exact ⟨0, by omega, rfl, by simp [Ex.forms], Below.refl _ _⟩
    case round =>
      obtain ⟨k, hk, rfl, hf, hb⟩ := hrel
      have HF := Lib.hid hf; clear hf
      have b0 := box_cell hb 0
      have b1 := box_cell hb 1
      have b2 := box_cell hb 2
      have b3 := box_cell hb 3
      have b4 := box_cell hb 4
      have b5 := box_cell hb 5
      have HB := Lib.hid (box_below hb)
      have HBX := Lib.hid hb; clear hb
      have HS2 := HSZ.out
      by_cases hlt : k < es.length
      · obtain ⟨b, off, x0, x1, x2, x3, x4, x5, rfl, hbl, hc0, hc1, hc2, hc3, hc4, hc5, ht⟩ := HAT.out k hlt
        have hg := Ex.bulk_get es k hlt
        have e0 : wr.cell? ⟨b, off + k * 6, none⟩ = some (x0) := by rw [HB.out.cell (p := ⟨b, off + k * 6, none⟩) hbl]; exact hc0
        have e1 : wr.cell? ⟨b, off + k * 6 + 1, none⟩ = some (x1) := by rw [HB.out.cell (p := ⟨b, off + k * 6 + 1, none⟩) hbl]; exact hc1
        have e2 : wr.cell? ⟨b, off + k * 6 + 2, none⟩ = some (x2) := by rw [HB.out.cell (p := ⟨b, off + k * 6 + 2, none⟩) hbl]; exact hc2
        have e3 : wr.cell? ⟨b, off + k * 6 + 3, none⟩ = some (x3) := by rw [HB.out.cell (p := ⟨b, off + k * 6 + 3, none⟩) hbl]; exact hc3
        have e4 : wr.cell? ⟨b, off + k * 6 + 4, none⟩ = some (x4) := by rw [HB.out.cell (p := ⟨b, off + k * 6 + 4, none⟩) hbl]; exact hc4
        have e5 : wr.cell? ⟨b, off + k * 6 + 5, none⟩ = some (x5) := by rw [HB.out.cell (p := ⟨b, off + k * 6 + 5, none⟩) hbl]; exact hc5
        have HT := Lib.hid (ht.below HB.out)
        clear ht hc0 hc1 hc2 hc3 hc4 hc5
        go_wp2_with fail
        refine (IH.out _ _ _ HT.out (by omega)).mono ?_
        rintro e w' ⟨rfl, hb1⟩
        have HN := Lib.hid (box_next HBX.out hb1); clear hb1
        have HT2 := Lib.hid (Ex.forms_take es k hlt)
        cases hfk : es[k].form with
        | true =>
          have HFK := Lib.hid hfk; clear hfk
          go_wp2_with fail
          exact ⟨⟨k + 1, by omega, by go_num, by rw [HT2.out, HF.out, HFK.out]; rfl, HN.out⟩, by simp [intOf]; omega⟩
        | false =>
          have HFK := Lib.hid hfk; clear hfk
          go_wp2_with fail
          go_ret
          have e : Ex.forms es = false := Ex.forms_false es (k + 1) (by rw [HT2.out, HF.out, HFK.out]; rfl)
          exact ⟨by simp [Ex.form, e], box_below HN.out⟩
      · obtain rfl : k = es.length := by omega
        have HFT : Hid (Ex.forms es = true) := by have := HF.out; rw [List.take_length] at this; exact this
        clear HF
        have XA := Lib.hid (box_of HBX.out)
        have HW2 := Lib.hid (HWH.out.below HB.out)
        clear HWH HBX
        by_cases q : kd = 14
        · subst q
          by_cases q0 : es.length = 0
          · have HBARE : Hid (bareB 14 es = true) := by
              have e0 : es = [] := List.length_eq_zero_iff.1 q0
              show _ = _
              rw [e0]; rfl
            go_wp2_with fail
            clear q0
            have C1 : ∀ q : Grown wr.heap.size wr, Calls Tryd.prog 134 #[.agg #[.int .i64 14, .string nm, .int .i64 n, .int .i64 tk, .slice ta tn tc, .slice a es.length cap]] q.val fun e w' => e = .returned (.bool (fieldsB 14 nm n ty)) ∧ Below q.val.heap.size q.val w' := fun q => specFields d _ 14 nm n ty es _ (HW2.out.below q.old) HBK.out
            have C2 : ∀ q : Grown wr.heap.size wr, Calls Tryd.prog 135 #[.int .i64 14] q.val fun e w' => e = .returned (.int .i64 (arity 14)) ∧ Below q.val.heap.size q.val w' := fun q => specArity _ _
            obtain ⟨fb, hfb⟩ : ∃ b, fieldsB 14 nm n ty = b := ⟨_, rfl⟩
            obtain ⟨r, hr⟩ : ∃ r, arity 14 = r := ⟨_, rfl⟩
            rw [hfb] at C1
            rw [hr] at C2
            have HFB := Lib.hid hfb
            have HR := Lib.hid hr
            clear hfb hr
            have g0 : ∀ q : Grown wr.heap.size wr, q.val.cell? ⟨w.heap.size, 0, none⟩ = _ := fun q => (XA.out.grown q).2 0
            have g1 : ∀ q : Grown wr.heap.size wr, q.val.cell? ⟨w.heap.size, 1, none⟩ = _ := fun q => (XA.out.grown q).2 1
            have g2 : ∀ q : Grown wr.heap.size wr, q.val.cell? ⟨w.heap.size, 2, none⟩ = _ := fun q => (XA.out.grown q).2 2
            have g3 : ∀ q : Grown wr.heap.size wr, q.val.cell? ⟨w.heap.size, 3, none⟩ = _ := fun q => (XA.out.grown q).2 3
            have g4 : ∀ q : Grown wr.heap.size wr, q.val.cell? ⟨w.heap.size, 4, none⟩ = _ := fun q => (XA.out.grown q).2 4
            have g5 : ∀ q : Grown wr.heap.size wr, q.val.cell? ⟨w.heap.size, 5, none⟩ = _ := fun q => (XA.out.grown q).2 5
            clear b0 b1 b2 b3 b4 b5 XA HW2
            cases fb
            case false =>
              refine wp_region_grown wr.heap.size (by kernel_rfl) (by kernel_rfl) ?_
              repeat (go_big_quiet_step ((first | (go_at_call 134; exact grown_of (Nat.le_refl _) (C1 _)) | (go_at_call 135; exact grown_of (Nat.le_refl _) (C2 _)))))
              refine wpQuiet_nil ?_
              rintro _ ⟨⟨wq, hq⟩, rfl⟩
              go_wp2_with fail
              go_ret
              exact ⟨by rw [form_of HFT.out HBARE.out HFB.out HR.out (c := false) (by simp)]; rfl, below_thru HB.out (Nat.le_refl _) hq⟩
            case true =>
              by_cases qa : (es.length : Int) = r
              · have qb : ((es.length : Int) == r) = true := by simp [qa]
                refine wp_region_grown wr.heap.size (by kernel_rfl) (by kernel_rfl) ?_
                repeat (go_big_quiet_step ((first | (go_at_call 134; exact grown_of (Nat.le_refl _) (C1 _)) | (go_at_call 135; exact grown_of (Nat.le_refl _) (C2 _)))))
                refine wpQuiet_nil ?_
                rintro _ ⟨⟨wq, hq⟩, rfl⟩
                go_wp2_with fail
                go_ret
                exact ⟨by rw [form_of HFT.out HBARE.out HFB.out HR.out (c := true) (by simp [qa])]; rfl, below_thru HB.out (Nat.le_refl _) hq⟩
              · have qb : ((es.length : Int) == r) = false := by simp [qa]
                refine wp_region_grown wr.heap.size (by kernel_rfl) (by kernel_rfl) ?_
                repeat (go_big_quiet_step ((first | (go_at_call 134; exact grown_of (Nat.le_refl _) (C1 _)) | (go_at_call 135; exact grown_of (Nat.le_refl _) (C2 _)))))
                refine wpQuiet_nil ?_
                rintro _ ⟨⟨wq, hq⟩, rfl⟩
                go_wp2_with fail
                go_ret
                exact ⟨by rw [form_of HFT.out HBARE.out HFB.out HR.out (c := false) (by simp [qa])]; rfl, below_thru HB.out (Nat.le_refl _) hq⟩
          · obtain ⟨b, off, x0, x1, x2, x3, x4, x5, rfl, hbl, hc0, hc1, hc2, hc3, hc4, hc5, ht⟩ := HAT.out 0 (by omega)
            obtain ⟨yk, ynm, yn, ytk, yta, ytn, ytc, ya, ym, yc, rfl, rfl, rfl, rfl, rfl, rfl⟩ := ex_cells ht
            have e0 : wr.cell? ⟨b, off, none⟩ = some (.int .i64 yk) := by have := HB.out.cell (p := ⟨b, off, none⟩) hbl; rw [this]; simpa using hc0
            have hkind : es[0].kind = yk := ex_kind ht
            have HKIND := Lib.hid hkind
            clear ht hc0 hc1 hc2 hc3 hc4 hc5 hkind
            have hpos : 0 < es.length := by omega
            by_cases q2 : yk = 14
            · subst q2
              go_wp2_with fail
              go_ret
              have e : bareB 14 es = false := by cases es with | nil => simp at hpos | cons x r => simpa [bareB] using HKIND.out
              exact ⟨by simp [Ex.form, e], HB.out⟩
            · have q2b : (yk == 14) = false := by simp [q2]
              have HBARE : Hid (bareB 14 es = true) := by cases es with | nil => rfl | cons x r => have := HKIND.out; simp at this; show _ = _; simp [bareB, this, q2]
              go_wp2_with fail
              have C1 : ∀ q : Grown wr.heap.size wr, Calls Tryd.prog 134 #[.agg #[.int .i64 14, .string nm, .int .i64 n, .int .i64 tk, .slice ta tn tc, .slice (some ⟨b, off, none⟩) es.length cap]] q.val fun e w' => e = .returned (.bool (fieldsB 14 nm n ty)) ∧ Below q.val.heap.size q.val w' := fun q => specFields d _ 14 nm n ty es _ (HW2.out.below q.old) HBK.out
              have C2 : ∀ q : Grown wr.heap.size wr, Calls Tryd.prog 135 #[.int .i64 14] q.val fun e w' => e = .returned (.int .i64 (arity 14)) ∧ Below q.val.heap.size q.val w' := fun q => specArity _ _
              obtain ⟨fb, hfb⟩ : ∃ b, fieldsB 14 nm n ty = b := ⟨_, rfl⟩
              obtain ⟨r, hr⟩ : ∃ r, arity 14 = r := ⟨_, rfl⟩
              rw [hfb] at C1
              rw [hr] at C2
              have HFB := Lib.hid hfb
              have HR := Lib.hid hr
              clear hfb hr
              have g0 : ∀ q : Grown wr.heap.size wr, q.val.cell? ⟨w.heap.size, 0, none⟩ = _ := fun q => (XA.out.grown q).2 0
              have g1 : ∀ q : Grown wr.heap.size wr, q.val.cell? ⟨w.heap.size, 1, none⟩ = _ := fun q => (XA.out.grown q).2 1
              have g2 : ∀ q : Grown wr.heap.size wr, q.val.cell? ⟨w.heap.size, 2, none⟩ = _ := fun q => (XA.out.grown q).2 2
              have g3 : ∀ q : Grown wr.heap.size wr, q.val.cell? ⟨w.heap.size, 3, none⟩ = _ := fun q => (XA.out.grown q).2 3
              have g4 : ∀ q : Grown wr.heap.size wr, q.val.cell? ⟨w.heap.size, 4, none⟩ = _ := fun q => (XA.out.grown q).2 4
              have g5 : ∀ q : Grown wr.heap.size wr, q.val.cell? ⟨w.heap.size, 5, none⟩ = _ := fun q => (XA.out.grown q).2 5
              clear b0 b1 b2 b3 b4 b5 XA HW2
              cases fb
              case false =>
                refine wp_region_grown wr.heap.size (by kernel_rfl) (by kernel_rfl) ?_
                repeat (go_big_quiet_step ((first | (go_at_call 134; exact grown_of (Nat.le_refl _) (C1 _)) | (go_at_call 135; exact grown_of (Nat.le_refl _) (C2 _)))))
                refine wpQuiet_nil ?_
                rintro _ ⟨⟨wq, hq⟩, rfl⟩
                go_wp2_with fail
                go_ret
                exact ⟨by rw [form_of HFT.out HBARE.out HFB.out HR.out (c := false) (by simp)]; rfl, below_thru HB.out (Nat.le_refl _) hq⟩
              case true =>
                by_cases qa : (es.length : Int) = r
                · have qb : ((es.length : Int) == r) = true := by simp [qa]
                  refine wp_region_grown wr.heap.size (by kernel_rfl) (by kernel_rfl) ?_
                  repeat (go_big_quiet_step ((first | (go_at_call 134; exact grown_of (Nat.le_refl _) (C1 _)) | (go_at_call 135; exact grown_of (Nat.le_refl _) (C2 _)))))
                  refine wpQuiet_nil ?_
                  rintro _ ⟨⟨wq, hq⟩, rfl⟩
                  go_wp2_with fail
                  go_ret
                  exact ⟨by rw [form_of HFT.out HBARE.out HFB.out HR.out (c := true) (by simp [qa])]; rfl, below_thru HB.out (Nat.le_refl _) hq⟩
                · have qb : ((es.length : Int) == r) = false := by simp [qa]
                  refine wp_region_grown wr.heap.size (by kernel_rfl) (by kernel_rfl) ?_
                  repeat (go_big_quiet_step ((first | (go_at_call 134; exact grown_of (Nat.le_refl _) (C1 _)) | (go_at_call 135; exact grown_of (Nat.le_refl _) (C2 _)))))
                  refine wpQuiet_nil ?_
                  rintro _ ⟨⟨wq, hq⟩, rfl⟩
                  go_wp2_with fail
                  go_ret
                  exact ⟨by rw [form_of HFT.out HBARE.out HFB.out HR.out (c := false) (by simp [qa])]; rfl, below_thru HB.out (Nat.le_refl _) hq⟩
        · have qb0 : (kd == 14) = false := by simp [q]
          have HBARE : Hid (bareB kd es = true) := by cases es with | nil => rfl | cons x r => show _ = _; simp [bareB, q]
          go_wp2_with fail
          have C1 : ∀ q : Grown wr.heap.size wr, Calls Tryd.prog 134 #[.agg #[.int .i64 kd, .string nm, .int .i64 n, .int .i64 tk, .slice ta tn tc, .slice a es.length cap]] q.val fun e w' => e = .returned (.bool (fieldsB kd nm n ty)) ∧ Below q.val.heap.size q.val w' := fun q => specFields d _ kd nm n ty es _ (HW2.out.below q.old) HBK.out
          have C2 : ∀ q : Grown wr.heap.size wr, Calls Tryd.prog 135 #[.int .i64 kd] q.val fun e w' => e = .returned (.int .i64 (arity kd)) ∧ Below q.val.heap.size q.val w' := fun q => specArity _ _
          obtain ⟨fb, hfb⟩ : ∃ b, fieldsB kd nm n ty = b := ⟨_, rfl⟩
          obtain ⟨r, hr⟩ : ∃ r, arity kd = r := ⟨_, rfl⟩
          rw [hfb] at C1
          rw [hr] at C2
          have HFB := Lib.hid hfb
          have HR := Lib.hid hr
          clear hfb hr
          have g0 : ∀ q : Grown wr.heap.size wr, q.val.cell? ⟨w.heap.size, 0, none⟩ = _ := fun q => (XA.out.grown q).2 0
          have g1 : ∀ q : Grown wr.heap.size wr, q.val.cell? ⟨w.heap.size, 1, none⟩ = _ := fun q => (XA.out.grown q).2 1
          have g2 : ∀ q : Grown wr.heap.size wr, q.val.cell? ⟨w.heap.size, 2, none⟩ = _ := fun q => (XA.out.grown q).2 2
          have g3 : ∀ q : Grown wr.heap.size wr, q.val.cell? ⟨w.heap.size, 3, none⟩ = _ := fun q => (XA.out.grown q).2 3
          have g4 : ∀ q : Grown wr.heap.size wr, q.val.cell? ⟨w.heap.size, 4, none⟩ = _ := fun q => (XA.out.grown q).2 4
          have g5 : ∀ q : Grown wr.heap.size wr, q.val.cell? ⟨w.heap.size, 5, none⟩ = _ := fun q => (XA.out.grown q).2 5
          clear b0 b1 b2 b3 b4 b5 XA HW2
          cases fb
          case false =>
            refine wp_region_grown wr.heap.size (by kernel_rfl) (by kernel_rfl) ?_
            repeat (go_big_quiet_step ((first | (go_at_call 134; exact grown_of (Nat.le_refl _) (C1 _)) | (go_at_call 135; exact grown_of (Nat.le_refl _) (C2 _)))))
            refine wpQuiet_nil ?_
            rintro _ ⟨⟨wq, hq⟩, rfl⟩
            go_wp2_with fail
            go_ret
            exact ⟨by rw [form_of HFT.out HBARE.out HFB.out HR.out (c := false) (by simp)]; rfl, below_thru HB.out (Nat.le_refl _) hq⟩
          case true =>
            by_cases qa : (es.length : Int) = r
            · have qb : ((es.length : Int) == r) = true := by simp [qa]
              refine wp_region_grown wr.heap.size (by kernel_rfl) (by kernel_rfl) ?_
              repeat (go_big_quiet_step ((first | (go_at_call 134; exact grown_of (Nat.le_refl _) (C1 _)) | (go_at_call 135; exact grown_of (Nat.le_refl _) (C2 _)))))
              refine wpQuiet_nil ?_
              rintro _ ⟨⟨wq, hq⟩, rfl⟩
              go_wp2_with fail
              go_ret
              exact ⟨by rw [form_of HFT.out HBARE.out HFB.out HR.out (c := true) (by simp [qa])]; rfl, below_thru HB.out (Nat.le_refl _) hq⟩
            · have qb : ((es.length : Int) == r) = false := by simp [qa]
              refine wp_region_grown wr.heap.size (by kernel_rfl) (by kernel_rfl) ?_
              repeat (go_big_quiet_step ((first | (go_at_call 134; exact grown_of (Nat.le_refl _) (C1 _)) | (go_at_call 135; exact grown_of (Nat.le_refl _) (C2 _)))))
              refine wpQuiet_nil ?_
              rintro _ ⟨⟨wq, hq⟩, rfl⟩
              go_wp2_with fail
              go_ret
              exact ⟨by rw [form_of HFT.out HBARE.out HFB.out HR.out (c := false) (by simp [qa])]; rfl, below_thru HB.out (Nat.le_refl _) hq⟩
end Go.Proofs.YtdgfkmnnjhlpbaaDoor
/-
  Proved: spec.Join joins the strings with the separator between them, and leaves the memory that was there as it was. On these terms: the strings, their number and the separator are small (2^20).
-/
namespace Go.Proofs.YtdgfkmnnjhlpbaaDoor
open Go.RowKit

/-- 'string(b)' of a slice that owns its bytes. -/
theorem conv_own {w : World} {base : Nat} {v : Value} {l : List UInt8} (h : w.ownsRow base 5 1 v l.length (Lib.byteCells l)) :
    (convert 119 9 v).run Tryd.prog w = .ok (.string ⟨l.toArray⟩) w := by
  have hcells := fun g (hg : v.ownBlock = some g) => h.cells hg
  rcases h.2 with ⟨rfl, hn⟩ | ⟨g, cap, cur, rfl, _⟩
  · have : l = [] := List.length_eq_zero_iff.1 hn
    subst this
    exact run_convert_bytes_nil w 119 5 Tryd.underlying119 Tryd.underlying5 0 0 _ Tryd.underlying9
  · refine run_convert_bytes_back w _ _ 5 ⟨g, 0, none⟩ cap l Tryd.underlying119 Tryd.underlying5 Tryd.underlying9 fun j hj => ?_
    exact hcells g rfl j _ (by simp [Lib.byteCells, hj])
theorem info_byte : (Tryd.prog.info? 5).map (fun i => (i.zero, i.size, i.bytes)) = some (some (.int .u8 0), 1, 1) := by kernel_rfl

set_option maxRecDepth 100000 in
set_option maxHeartbeats 2000000 in
theorem specJoin (v : Value) (ss : List ByteArray) (sep : ByteArray) (hn : ss.length ≤ 1048576) (ht : total ss ≤ 1073741824) (hs : sep.size ≤ 1048576) (w : World) (h : Strs w v ss) :
    Calls Tryd.prog 62 #[v, .string sep] w (JoinEnd ss sep w) := by
  obtain ⟨i0, hi, hz0, hz1, hz2⟩ := info_parts info_byte
  obtain ⟨a, cap, rfl, hcap, hat⟩ := h
  have HC := Lib.hid hat; clear hat
  have HI := Lib.hid hi; clear hi
  have HZ0 := Lib.hid hz0; clear hz0
  have HZ1 := Lib.hid hz1; clear hz1
  have HZ2 := Lib.hid hz2; clear hz2
  go_enter Tryd.func62, Tryd.ntmps62
  go_wp2_with fail
  go_loopw [5, 6] (fun v i wr => ∃ k : Nat, k ≤ ss.length ∧ i = .int .i64 k ∧ wr.ownsRow w.heap.size 5 1 v (joined ss sep k).length (Lib.byteCells (joined ss sep k)) ∧ Below w.heap.size w wr) (fun _ i _ => ss.length - (intOf i).toNat)
  case atStart => exact ⟨0, by omega, rfl, by rw [joined_zero]; exact World.ownsRow_made w #[] 0 (Nat.le_refl _) (Nat.zero_le _) rfl, (Below.refl _ _).alloc (Nat.le_refl _) _⟩
  case round =>
    obtain ⟨k, hk, rfl, hown, hb⟩ := hrel
    have HL := Lib.hid (joined_small ss sep k hk hn ht hs)
    by_cases hlt : k < ss.length
    · obtain ⟨b, off, rfl, hbl, hcell⟩ := HC.out k hlt
      have hz := size_le ss k hlt
      have HO := Lib.hid hown; clear hown
      have HB := Lib.hid hb; clear hb
      have HCE := Lib.hid hcell; clear hcell
      by_cases hk0 : 0 < k
      · go_wp2_with (at_builtin; go_must (refine Lib.wpList_append_own_string _ rfl (.tmp 16) (.tmp 17) 119 9 rfl w.heap.size 5 i0 Tryd.underlying119 Tryd.underlying9 HI.out HZ0.out HZ1.out HZ2.out _ _ _ rfl HO.out sep rfl (by have := HL.out; unfold maxLen; omega) (by have := HL.out; omega) HB.out.size ?_); intro v1 w1 hown1 hg1 _; refine Hid.out ?_)
        refine Lib.hid ?_
        have hb1 : Below w.heap.size w w1 := HB.out.grown hg1 HB.out.size (fun k hk => (HO.out.lt k hk).1)
        have c1 : w1.cell? ⟨b, off + k, none⟩ = some (.string ss[k]) := by rw [hb1.cell (p := ⟨b, off + k, none⟩) hbl]; exact HCE.out
        have HO1 := Lib.hid hown1; clear hown1 hg1
        have HB1 := Lib.hid hb1; clear hb1
        go_wp2_with (at_builtin; go_must (refine Lib.wpList_append_own_string _ rfl (.tmp 19) (.tmp 23) 119 9 rfl w.heap.size 5 i0 Tryd.underlying119 Tryd.underlying9 HI.out HZ0.out HZ1.out HZ2.out _ _ _ rfl HO1.out ss[k] rfl (by have := HL.out; unfold maxLen; omega) (by have := HL.out; omega) HB1.out.size ?_); intro v2 w2 hown2 hg2 _; refine Hid.out ?_)
        refine Lib.hid ?_
        have hb2 : Below w.heap.size w w2 := HB1.out.grown hg2 HB1.out.size (fun k hk => (HO1.out.lt k hk).1)
        have hj := joined_next ss sep k hk0 hlt
        have hown3 : w2.ownsRow w.heap.size 5 1 v2 (joined ss sep (k + 1)).length (Lib.byteCells (joined ss sep (k + 1))) := by
          rw [hj, Lib.byteCells_append, Lib.byteCells_append, List.length_append, List.length_append, len_toList, len_toList]
          exact hown2
        have HO2 := Lib.hid hown3; clear hown3 hown2 hg2 hj
        have HB2 := Lib.hid hb2; clear hb2
        go_wp2_with fail
        exact ⟨⟨k + 1, by omega, by go_num, HO2.out, HB2.out⟩, by simp [intOf]; omega⟩
      · have hk0' : ¬ (0 : Int) < k := by omega
        have c1 : wr.cell? ⟨b, off + k, none⟩ = some (.string ss[k]) := by rw [HB.out.cell (p := ⟨b, off + k, none⟩) hbl]; exact HCE.out
        go_wp2_with (at_builtin; go_must (refine Lib.wpList_append_own_string _ rfl (.tmp 19) (.tmp 23) 119 9 rfl w.heap.size 5 i0 Tryd.underlying119 Tryd.underlying9 HI.out HZ0.out HZ1.out HZ2.out _ _ _ rfl HO.out ss[k] rfl (by have := HL.out; unfold maxLen; omega) (by have := HL.out; omega) HB.out.size ?_); intro v2 w2 hown2 hg2 _; refine Hid.out ?_)
        refine Lib.hid ?_
        have hb2 : Below w.heap.size w w2 := HB.out.grown hg2 HB.out.size (fun k hk => (HO.out.lt k hk).1)
        obtain rfl : k = 0 := by omega
        have hown3 : w2.ownsRow w.heap.size 5 1 v2 (joined ss sep 1).length (Lib.byteCells (joined ss sep 1)) := by
          rw [joined_one ss sep hlt, len_toList]
          rw [joined_zero] at hown2
          simpa [Lib.byteCells, Lib.strCells] using hown2
        have HO2 := Lib.hid hown3; clear hown3 hown2 hg2
        have HB2 := Lib.hid hb2; clear hb2
        go_wp2_with fail
        exact ⟨⟨1, by omega, by go_num, HO2.out, HB2.out⟩, by simp [intOf]; omega⟩
    · have : k = ss.length := by omega
      subst this
      rw [joined_all] at hown
      have hcv := conv_own hown
      have HB := Lib.hid hb; clear hb hown
      go_wp2_with fail
      go_ret
      exact ⟨rfl, HB.out⟩
end Go.Proofs.YtdgfkmnnjhlpbaaDoor
/-
  Proved: impl.Join joins the strings with the separator between them, and leaves the memory that was there as it was. On these terms: the strings, their number and the separator are small (2^20).
-/
namespace Go.Proofs.YtdgfkmnnjhlpbaaDoor
open Go.RowKit

set_option maxRecDepth 100000 in
set_option maxHeartbeats 1000000 in
theorem implJoin (v : Value) (ss : List ByteArray) (sep : ByteArray) (hn : ss.length ≤ 1048576) (ht : total ss ≤ 1073741824) (hs : sep.size ≤ 1048576) (w : World) (h : Strs w v ss) :
    Calls Tryd.prog 63 #[v, .string sep] w (JoinEnd ss sep w) := by
  have HL := joined_small ss sep ss.length (Nat.le_refl _) hn ht hs
  rw [joined_all] at HL
  rcases h.parts with ⟨rfl, a, cap, rfl⟩ | ⟨h0, b, off, cap, rfl, hcap, hb, hcell⟩
  · clear h HL
    go_enter Tryd.func63, Tryd.ntmps63
    go_wp2_with fail
    refine (Tryd.strings_Join_none a cap sep w).mono ?_
    rintro e w' ⟨rfl, rfl⟩
    go_wp2_with fail
    go_ret
    exact ⟨rfl, Below.refl _ _⟩
  · have HC : Hid (∀ (j : Nat) x, ss[j]? = some x → w.cell? ⟨b, off + j, none⟩ = some (.string x)) := fun j x hx => by
      obtain ⟨hj, rfl⟩ := List.getElem?_eq_some_iff.1 hx
      exact hcell j hj
    have HM := Lib.hid HL
    clear h HL hcell
    go_enter Tryd.func63, Tryd.ntmps63
    go_wp2_with fail
    refine (Tryd.strings_Join b off cap ss sep w HC.out hb (by omega) hcap (by have := HM.out; omega)).mono ?_
    rintro e w' ⟨rfl, hb1⟩
    go_wp2_with fail
    go_ret
    exact ⟨rfl, hb1⟩
end Go.Proofs.YtdgfkmnnjhlpbaaDoor
/-
  Proved: the digits that a decimal loop collects (least digit first, put in front) are the decimal numeral of the number. Plain mathematics, no program.
-/
namespace Go.Proofs.YtdgfkmnnjhlpbaaDoor.Num

/-- The digits of a number, none for 0. -/
def dd (u : Nat) : List UInt8 :=
  if _h : u = 0 then [] else dd (u / 10) ++ [UInt8.ofNat (48 + u % 10)]
termination_by u
decreasing_by omega

theorem dd_zero : dd 0 = [] := by rw [dd]; simp
theorem dd_pos (u : Nat) (h : u ≠ 0) : dd u = dd (u / 10) ++ [UInt8.ofNat (48 + u % 10)] := by
  rw [dd, dif_neg h]
theorem dd_eq (u : Nat) (h : u ≠ 0) : dd u = Lib.decDigits u := by
  induction u using Nat.strongRecOn with
  | ind u ih =>
    rw [dd_pos u h, Lib.decDigits]
    by_cases h10 : u < 10
    · rw [dif_pos h10, show u / 10 = 0 from by omega, dd_zero, show u % 10 = u from by omega]; rfl
    · rw [dif_neg h10, ih (u / 10) (by omega) (by omega)]

theorem natAbs_tdiv (m : Int) : (m.tdiv 10).natAbs = m.natAbs / 10 := by
  rw [Int.natAbs_tdiv]; rfl
theorem natAbs_tmod (m : Int) : (m.tmod 10).natAbs = m.natAbs % 10 := by
  rw [Int.natAbs_tmod]; rfl

/-- What a round does: the digit of m stands in front of what was collected. -/
theorem round (n m : Int) (l : List UInt8) (hm : m ≠ 0) (h : dd n.natAbs = dd m.natAbs ++ l) :
    dd n.natAbs = dd (m.tdiv 10).natAbs ++ (UInt8.ofNat (48 + (m.tmod 10).natAbs) :: l) := by
  rw [h, dd_pos m.natAbs (by omega), natAbs_tdiv, natAbs_tmod]
  simp

theorem round_pos (n m : Int) (l : List UInt8) (h0 : 0 ≤ m) (hm : m ≠ 0) (h : dd n.natAbs = dd m.natAbs ++ l) :
    dd n.natAbs = dd (m / 10).natAbs ++ (UInt8.ofNat (48 + m % 10).toNat :: l) := by
  rw [h, dd_pos m.natAbs (by omega), show (m / 10).natAbs = m.natAbs / 10 from by omega, show (48 + m % 10).toNat = 48 + m.natAbs % 10 from by omega]
  simp
theorem dd_len (u : Nat) : (dd u).length ≤ u := by
  induction u using Nat.strongRecOn with
  | ind u ih =>
    by_cases h : u = 0
    · subst h; rw [dd_zero]; simp
    · rw [dd_pos u h]
      have := ih (u / 10) (by omega)
      simp; omega
theorem len_of (n m : Int) (l : List UInt8) (hm : m ≠ 0) (h : dd n.natAbs = dd m.natAbs ++ l) : l.length + 1 ≤ n.natAbs := by
  have h1 := congrArg List.length h
  have h2 := dd_len n.natAbs
  rw [dd_pos m.natAbs (by omega)] at h1
  simp at h1; omega

theorem dd_len_le (k u : Nat) (h : u < 10 ^ k) : (dd u).length ≤ k := by
  induction k generalizing u with
  | zero => rw [show u = 0 from by omega, dd_zero]; simp
  | succ k ih =>
    by_cases hu : u = 0
    · subst hu; rw [dd_zero]; simp
    · rw [dd_pos u hu]
      have := ih (u / 10) (by rw [Nat.pow_succ] at h; omega)
      simp; omega
theorem len_of20 (n m : Int) (l : List UInt8) (hn : n.natAbs ≤ 9223372036854775808) (h : dd n.natAbs = dd m.natAbs ++ l) : l.length ≤ 20 := by
  have h1 := congrArg List.length h
  have h2 := dd_len_le 20 n.natAbs (by omega)
  simp at h1; omega
theorem tmod_neg (m : Int) (h : m ≤ 0) : m.tmod 10 = -((-m) % 10) := by
  obtain ⟨k, rfl⟩ : ∃ k, m = -k := ⟨-m, by omega⟩
  rw [Int.neg_tmod, Int.tmod_eq_emod_of_nonneg (by omega)]; simp
theorem tdiv_neg (m : Int) (h : m ≤ 0) : m.tdiv 10 = -((-m) / 10) := by
  obtain ⟨k, rfl⟩ : ∃ k, m = -k := ⟨-m, by omega⟩
  rw [Int.neg_tdiv, Int.tdiv_eq_ediv_of_nonneg (by omega)]; simp
theorem round_neg (n m : Int) (l : List UInt8) (h0 : m ≤ 0) (hm : m ≠ 0) (h : dd n.natAbs = dd m.natAbs ++ l) (x : Int) (hx : x = 48 - m.tmod 10) :
    dd n.natAbs = dd (m.tdiv 10).natAbs ++ (UInt8.ofNat x.toNat :: l) := by
  subst hx
  rw [h, dd_pos m.natAbs (by omega), tmod_neg m h0, tdiv_neg m h0, show (-(-m / 10)).natAbs = m.natAbs / 10 from by omega, show (48 - -(-m % 10)).toNat = 48 + m.natAbs % 10 from by omega]
  simp
theorem bytes_append (a b : List UInt8) : (ByteArray.mk a.toArray ++ ByteArray.mk b.toArray) = ByteArray.mk (a ++ b).toArray := by
  apply ByteArray.ext; simp

theorem itoa_pos (n : Int) (h : 0 < n) : Lib.itoa n = dd n.natAbs := by
  unfold Lib.itoa
  rw [if_neg (by omega), dd_eq _ (by omega)]
  congr 1; omega
theorem itoa_neg (n : Int) (h : n < 0) : Lib.itoa n = 45 :: dd n.natAbs := by
  unfold Lib.itoa
  rw [if_pos h, dd_eq _ (by omega)]
theorem itoa_zero : Lib.itoa 0 = [48] := by
  unfold Lib.itoa
  rw [if_neg (by omega), Lib.decDigits]; rfl
end Go.Proofs.YtdgfkmnnjhlpbaaDoor.Num
/-
  Proved: spec.FormatInt returns the decimal numeral of every int, and leaves the memory that was there as it was.
-/
namespace Go.Proofs.YtdgfkmnnjhlpbaaDoor
open Go.RowKit

/-- One byte, in a new block of its own, becomes a string. -/
theorem conv_byte (w : World) (x : Int) (h0 : 0 ≤ x) (h1 : x ≤ 255) :
    (convert 119 9 (.slice (some ⟨w.heap.size, 0, none⟩) 1 1)).run Tryd.prog (w.alloc (.cells #[.int .u8 x] 5)) =
      .ok (.string ⟨[UInt8.ofNat x.toNat].toArray⟩) (w.alloc (.cells #[.int .u8 x] 5)) := by
  have h := run_convert_bytes_back (P := Tryd.prog) (w.alloc (.cells #[.int .u8 x] 5)) 119 9 5 ⟨w.heap.size, 0, none⟩ 1 [UInt8.ofNat x.toNat] Tryd.underlying119 Tryd.underlying5 Tryd.underlying9
    (fun j hj => by
      have : j = 0 := by simpa using hj
      subst this
      have e : ((UInt8.ofNat x.toNat).toNat : Int) = x := by
        rw [UInt8.toNat_ofNat']; omega
      simp only [List.getElem_cons_zero, e]
      have := World.cell?_alloc_mark w #[.int .u8 x] 5 (0, 0) 0
      simp only [Addr.add]
      exact this)
  exact h

set_option maxHeartbeats 400000 in
theorem specFormat_zero (w : World) :
    Calls Tryd.prog 53 #[.int .i64 0] w fun e w' => e = .returned (.string ⟨(Lib.itoa 0).toArray⟩) ∧ w' = w := by
  rw [Num.itoa_zero]
  go_enter Tryd.func53, Tryd.ntmps53
  go_wp2
  go_ret
  exact ⟨rfl, rfl⟩

set_option maxRecDepth 100000 in
set_option maxHeartbeats 1000000 in
theorem specFormat_pos (n : Int) (h0 : 0 < n) (h1 : n ≤ 9223372036854775807) (w : World) :
    Calls Tryd.prog 53 #[.int .i64 n] w fun e w' => e = .returned (.string ⟨(Lib.itoa n).toArray⟩) ∧ Below w.heap.size w w' := by
  rw [Num.itoa_pos n h0]
  have hz : (n == 0) = false := by simp; omega
  have hlt : decide (n < 0) = false := by simp; omega
  go_enter Tryd.func53, Tryd.ntmps53
  go_wp2
  go_loopw [0, 4] (fun v o wr => ∃ m : Int, ∃ l : List UInt8, 0 ≤ m ∧ m ≤ 9223372036854775807 ∧ v = .int .i64 m ∧ o = .string ⟨l.toArray⟩ ∧ Num.dd n.natAbs = Num.dd m.natAbs ++ l ∧ Below w.heap.size w wr) (fun v _ _ => (intOf v).natAbs)
  case atStart => exact ⟨n, [], by omega, by omega, rfl, rfl, by simp, Below.refl _ w⟩
  case round =>
    obtain ⟨m, l, hm0, hm1, rfl, rfl, hd, hg⟩ := hrel
    have HD := Lib.hid hd; clear hd
    by_cases hm : m = 0
    · subst hm
      go_wp2
      go_ret
      refine ⟨?_, hg⟩
      have := HD.out
      rw [show (0 : Int).natAbs = 0 from rfl, Num.dd_zero] at this
      rw [this]; rfl
    · have hne : (m != 0) = true := by simp; omega
      have hmod : decide (m % 10 < 0) = false := by simp; omega
      have hcv := conv_byte wr (48 + m % 10) (by omega) (by omega)
      have hlen : l.length ≤ 20 := Num.len_of20 n m l (by omega) HD.out
      go_wp2
      exact ⟨⟨m / 10, UInt8.ofNat (48 + m % 10).toNat :: l, by omega, by omega, rfl, congrArg Value.string (Num.bytes_append [_] l), Num.round_pos n m l hm0 hm HD.out, hg.alloc hg.size _⟩, by show (m / 10).natAbs < m.natAbs; omega⟩

set_option maxRecDepth 100000 in
set_option maxHeartbeats 1000000 in
theorem specFormat_neg (n : Int) (h0 : n < 0) (h1 : -9223372036854775808 ≤ n) (w : World) :
    Calls Tryd.prog 53 #[.int .i64 n] w fun e w' => e = .returned (.string ⟨(Lib.itoa n).toArray⟩) ∧ Below w.heap.size w w' := by
  rw [Num.itoa_neg n h0]
  have hz : (n == 0) = false := by simp; omega
  have hlt : decide (n < 0) = true := by simp; omega
  go_enter Tryd.func53, Tryd.ntmps53
  go_wp2
  go_loopw [0, 4] (fun v o wr => ∃ m : Int, ∃ l : List UInt8, m ≤ 0 ∧ -9223372036854775808 ≤ m ∧ v = .int .i64 m ∧ o = .string ⟨l.toArray⟩ ∧ Num.dd n.natAbs = Num.dd m.natAbs ++ l ∧ Below w.heap.size w wr) (fun v _ _ => (intOf v).natAbs)
  case atStart => exact ⟨n, [], by omega, by omega, rfl, rfl, by simp, Below.refl _ w⟩
  case round =>
    obtain ⟨m, l, hm0, hm1, rfl, rfl, hd, hg⟩ := hrel
    have HD := Lib.hid hd; clear hd
    by_cases hm : m = 0
    · subst hm
      have hlen : l.length ≤ 20 := Num.len_of20 n 0 l (by omega) HD.out
      go_wp2
      go_ret
      refine ⟨?_, hg⟩
      have := HD.out
      rw [show (0 : Int).natAbs = 0 from rfl, Num.dd_zero] at this
      rw [this]; exact congrArg (fun x => Ending.returned (Value.string x)) (Num.bytes_append [45] l)
    · have hne : (m != 0) = true := by simp; omega
      have hlen : l.length ≤ 20 := Num.len_of20 n m l (by omega) HD.out
      have hd1 : m.tmod 10 ≤ 0 := by rw [Num.tmod_neg m hm0]; omega
      have hd2 : -9 ≤ m.tmod 10 := by rw [Num.tmod_neg m hm0]; omega
      have hq1 : m.tdiv 10 ≤ 0 := by rw [Num.tdiv_neg m hm0]; omega
      have hq2 : m + 1 ≤ m.tdiv 10 := by rw [Num.tdiv_neg m hm0]; omega
      by_cases hd : m.tmod 10 < 0
      · have hmod : decide (m.tmod 10 < 0) = true := by simp; omega
        have hcv := conv_byte wr (48 + -m.tmod 10) (by omega) (by omega)
        go_wp2
        exact ⟨⟨m.tdiv 10, UInt8.ofNat (48 + -m.tmod 10).toNat :: l, hq1, by omega, rfl, congrArg Value.string (Num.bytes_append [_] l), Num.round_neg n m l hm0 hm HD.out _ (by omega), hg.alloc hg.size _⟩, by show (m.tdiv 10).natAbs < m.natAbs; clear hmod; omega⟩
      · have hmod : decide (m.tmod 10 < 0) = false := by simp; omega
        have hcv := conv_byte wr (48 + m.tmod 10) (by omega) (by omega)
        go_wp2
        exact ⟨⟨m.tdiv 10, UInt8.ofNat (48 + m.tmod 10).toNat :: l, hq1, by omega, rfl, congrArg Value.string (Num.bytes_append [_] l), Num.round_neg n m l hm0 hm HD.out _ (by omega), hg.alloc hg.size _⟩, by show (m.tdiv 10).natAbs < m.natAbs; clear hmod; omega⟩

/-- spec.FormatInt, every int. -/
theorem specFormat (n : Int) (h0 : -9223372036854775808 ≤ n) (h1 : n ≤ 9223372036854775807) (w : World) :
    Calls Tryd.prog 53 #[.int .i64 n] w fun e w' => e = .returned (.string ⟨(Lib.itoa n).toArray⟩) ∧ Below w.heap.size w w' := by
  rcases Int.lt_trichotomy n 0 with h | h | h
  · exact specFormat_neg n h h0 w
  · subst h
    exact (specFormat_zero w).mono fun e w' ⟨he, hw⟩ => ⟨he, by subst hw; exact Below.refl _ _⟩
  · exact specFormat_pos n h h1 w
end Go.Proofs.YtdgfkmnnjhlpbaaDoor
/-
  Proved: impl.FormatInt returns the decimal numeral of every int, and leaves the memory that was there as it was. On these terms: the library's table of powers of ten holds what the program's text lays.
-/
namespace Go.Proofs.YtdgfkmnnjhlpbaaDoor
open Go.ChangeShapes Go.WideShapes Go.ChangeAt Go.RowKit

theorem implFormat (n : Int) (h0 : -9223372036854775808 ≤ n) (h1 : n ≤ 9223372036854775807) (w : World)
    (htab : Lib.TabIs Tryd.prog w "internal/strconv.uint64pow10" .u64 Lib.pow10Tab) :
    Calls Tryd.prog 59 #[.int .i64 n] w fun e w' => e = .returned (.string ⟨(Lib.itoa n).toArray⟩) ∧ Below w.heap.size w w' := by
  go_enter Tryd.func59, Tryd.ntmps59
  go_wp2_with (go_at_call 106; refine (Tryd.strconv_Itoa _ h0 h1 _ htab).mono ?_; rintro e w' ⟨rfl, k, os, rfl⟩)
  go_ret
  exact ⟨rfl, Lib.below_grow _ _ (Nat.le_refl _) _ _⟩

end Go.Proofs.YtdgfkmnnjhlpbaaDoor
/-
  Proved: spec.FormatPath and impl.FormatPath write a list of numbers with dots between them, the empty list as a dash; the memory that was there stays as it was. On these terms: at most 2^20 numbers; the library's table of powers of ten holds what the program's text lays.
-/
namespace Go.Proofs.YtdgfkmnnjhlpbaaDoor
open Go.RowKit

/-- The numeral of a number. -/
def numeral (n : Int) : ByteArray := ⟨(Lib.itoa n).toArray⟩
def numerals (ns : List Int) : List ByteArray := ns.map numeral
def pathText : List Int → ByteArray
  | [] => ⟨#[45]⟩
  | n :: r => ⟨(Lib.join ((numerals (n :: r)).map (·.data.toList)) [46]).toArray⟩
def i64s (ns : List Int) : Prop := ∀ n ∈ ns, -9223372036854775808 ≤ n ∧ n ≤ 9223372036854775807
theorem numerals_length (ns : List Int) : (numerals ns).length = ns.length := List.length_map _
theorem numeral_size (n : Int) (h0 : -9223372036854775808 ≤ n) (h1 : n ≤ 9223372036854775807) : (numeral n).size ≤ 21 := by
  show (Lib.itoa n).toArray.size ≤ 21
  rw [List.size_toArray]
  rcases Int.lt_trichotomy n 0 with h | h | h
  · rw [Num.itoa_neg n h]
    have := Num.dd_len_le 20 n.natAbs (by omega)
    simp; omega
  · subst h; rw [Num.itoa_zero]; simp
  · rw [Num.itoa_pos n h]
    have := Num.dd_len_le 20 n.natAbs (by omega)
    omega
theorem numerals_total : ∀ (ns : List Int), i64s ns → total (numerals ns) ≤ 21 * ns.length
  | [], _ => by simp [numerals, total]
  | n :: r, h => by
    have h1 := numeral_size n (h n (by simp)).1 (h n (by simp)).2
    have h2 := numerals_total r fun m hm => h m (by simp [hm])
    show (numeral n).size + total (numerals r) ≤ _
    simp only [List.length_cons]; omega
theorem numerals_take (ns : List Int) (k : Nat) (h : k < ns.length) : numerals (ns.take (k + 1)) = numerals (ns.take k) ++ [numeral ns[k]] := by
  unfold numerals
  rw [List.take_succ_eq_append_getElem h, List.map_append]; rfl
theorem own_slice {w : World} {B : Nat} {e : TypeId} {size : Nat} {v : Value} {n : Nat} {xs : List Value} (h : w.ownsRow B e size v n xs) : ∃ a cap, v = .slice a n cap := by
  rcases h.2 with ⟨rfl, hn⟩ | ⟨g, cap, cur, rfl, _⟩
  · exact ⟨none, 0, by rw [hn]⟩
  · exact ⟨_, _, rfl⟩
theorem new_one (w : World) (t : TypeId) (x : Value) : ∀ j u, [x][j]? = some u → (w.alloc (.cells #[x] t)).cell? ((⟨w.heap.size, 0, none⟩ : Addr).add j) = some u := by
  intro j u h
  have hj : j = 0 := by
    have := (List.getElem?_eq_some_iff.1 h).1
    simpa using this
  subst hj
  simp at h
  subst h
  rw [addr_add]
  simp
theorem num_next (ss : List ByteArray) (k : Nat) (hk : k < ss.length) :
    ((ss.take k).map Value.string ++ List.replicate (ss.length - k) (Value.string ⟨#[]⟩)).set k (.string ss[k]) = (ss.take (k + 1)).map Value.string ++ List.replicate (ss.length - (k + 1)) (Value.string ⟨#[]⟩) := by
  apply List.ext_getElem
  · simp; omega
  · intro i h1 h2
    simp at h1 h2
    rw [List.getElem_set]
    by_cases hi : k = i
    · subst hi
      rw [if_pos rfl, List.getElem_append_left (by simp; omega)]
      simp
    · rw [if_neg hi]
      by_cases hlt : i < k
      · rw [List.getElem_append_left (by simp; omega), List.getElem_append_left (by simp; omega)]
        simp
      · rw [List.getElem_append_right (by simp; omega), List.getElem_append_right (by simp; omega)]
        simp
set_option maxRecDepth 100000 in
set_option maxHeartbeats 2000000 in
theorem specPathText (v : Value) (ns : List Int) (hn : ns.length ≤ 1048576) (hr : i64s ns) (w : World) (h : Ints w v ns) :
    Calls Tryd.prog 72 #[v] w fun e w' => e = .returned (.string (pathText ns)) ∧ Below w.heap.size w w' := by
  obtain ⟨i0, hi, hz0, hz1, hz2⟩ := info_parts info_str
  have HI := Lib.hid hi; clear hi
  have HZ0 := Lib.hid hz0; clear hz0
  have HZ1 := Lib.hid hz1; clear hz1
  have HZ2 := Lib.hid hz2; clear hz2
  have HR := Lib.hid hr; clear hr
  obtain ⟨a, cap, rfl, hcap, hat⟩ := h
  have HC := Lib.hid hat; clear hat
  go_enter Tryd.func72, Tryd.ntmps72
  go_wp2_with fail
  go_loopw [3, 4] (fun v i wr => ∃ k : Nat, k ≤ ns.length ∧ i = .int .i64 k ∧ wr.ownsRow w.heap.size 9 1 v k ((numerals (ns.take k)).map Value.string) ∧ Below w.heap.size w wr) (fun _ i _ => ns.length - (intOf i).toNat)
  case atStart => exact ⟨0, by omega, rfl, World.ownsRow_made w #[] 0 (Nat.le_refl _) (Nat.zero_le _) rfl, (Below.refl _ _).alloc (Nat.le_refl _) _⟩
  case round =>
    obtain ⟨k, hk, rfl, hown, hb⟩ := hrel
    have HO := Lib.hid hown; clear hown
    have HB := Lib.hid hb; clear hb
    by_cases hlt : k < ns.length
    · obtain ⟨b, off, rfl, hbl, hcell⟩ := HC.out k hlt
      have c0 : wr.cell? ⟨b, off + k, none⟩ = some (.int .i64 ns[k]) := by rw [HB.out.cell (p := ⟨b, off + k, none⟩) hbl]; exact hcell
      have hrk := HR.out ns[k] (List.getElem_mem hlt)
      have HRK := Lib.hid hrk
      clear hcell hrk
      go_wp2_with fail
      refine (specFormat ns[k] HRK.out.1 HRK.out.2 _).mono ?_
      rintro e w1 ⟨rfl, hb1⟩
      have HO1 := Lib.hid (own_below HO.out hb1)
      have HB1 := Lib.hid (HB.out.trans (hb1.mono HB.out.size))
      clear hb1 HO HB c0
      go_wp2_with (at_builtin; go_must (refine wpList_append_own _ rfl (.tmp 12) (.tmp 18) 80 rfl w.heap.size 9 i0 (.string ⟨#[]⟩) 1 16 Tryd.underlying80 HI.out HZ0.out HZ1.out HZ2.out rfl (by decide) _ _ _ rfl (HO1.out.alloc _) ⟨w1.heap.size, 0, none⟩ 1 1 [.string ⟨(Lib.itoa ns[k]).toArray⟩] rfl rfl (new_one _ _ _) (by simp [Value.oneCell']) (by unfold maxLen; omega) (by omega) (by have := HB1.out.size; simp; omega) ?_); intro v2 w2 hown2 hg2 _; refine Hid.out ?_)
      refine Lib.hid ?_
      have hb2 : Below w.heap.size w w2 := (HB1.out.alloc HB1.out.size _).grown hg2 (by have := HB1.out.size; simp; omega) (fun k hk => (HO1.out.lt k hk).1)
      have hown3 : w2.ownsRow w.heap.size 9 1 v2 (k + 1) ((numerals (ns.take (k + 1))).map Value.string) := by
        rw [numerals_take ns k hlt, List.map_append]; exact hown2
      have HO2 := Lib.hid hown3; clear hown3 hown2 hg2
      have HB2 := Lib.hid hb2; clear hb2
      go_wp2_with fail
      exact ⟨⟨k + 1, by omega, by go_num, HO2.out, HB2.out⟩, by simp [intOf]; omega⟩
    · obtain rfl : k = ns.length := by omega
      have HL := HO.out
      rw [List.take_length] at HL
      have HO1 := Lib.hid HL; clear HL HO
      obtain ⟨a2, cap2, rfl⟩ := own_slice HO1.out
      cases ns with
      | nil =>
        go_wp2_with fail
        go_ret
        exact ⟨rfl, HB.out⟩
      | cons n r =>
        have HS := Lib.hid (Strs.of_own (ss := numerals (n :: r)) (by have := HO1.out; rw [← numerals_length (n :: r)] at this; exact this))
        rw [numerals_length] at HS
        go_wp2_with fail
        refine (specJoin _ (numerals (n :: r)) ⟨#[46]⟩ (by rw [numerals_length]; exact hn) (by have := numerals_total _ HR.out; omega) (by decide) _ HS.out).mono ?_
        rintro e w1 ⟨rfl, hb1⟩
        have HB1 := Lib.hid (HB.out.trans (hb1.mono HB.out.size))
        clear hb1
        go_wp2_with fail
        go_ret
        exact ⟨rfl, HB1.out⟩
end Go.Proofs.YtdgfkmnnjhlpbaaDoor
/-
  Proved: impl.nodeOf says which of the five kinds a type's root has (nil if it has none of their forms), and leaves the memory that was there as it was.
-/
namespace Go.Proofs.YtdgfkmnnjhlpbaaDoor
open Go.RowKit

theorem below_drewN {B : Nat} {a w : World} (h : Below B a w) (n : Nat) : Below B a (w.drewN n) := ⟨h.os, h.tape, h.output, h.size, h.block⟩
/-- What nodeOf gives for a root of kind k with the parts ts. -/
def NodeAt (w : World) (d : Nat) (n : Value) (k : Int) (ts : List Ty) : Prop :=
  (kindOk k ts.length = false ∧ n = .nilIface) ∨
  (kindOk k ts.length = true ∧ ts = [] ∧ ((k = 1 ∧ n = .iface 137 (.agg #[])) ∨ (k = 2 ∧ n = .iface 138 (.agg #[])) ∨ (k = 3 ∧ n = .iface 139 (.agg #[])))) ∨
  (kindOk k ts.length = true ∧ ∃ t1 t2 k1 s1 k2 s2, ts = [t1, t2] ∧ TyAt w d (.agg #[.int .i64 k1, s1]) t1 ∧ TyAt w d (.agg #[.int .i64 k2, s2]) t2 ∧
    ((k = 4 ∧ n = .iface 141 (.agg #[.int .i64 k1, s1, .int .i64 k2, s2])) ∨ (k = 5 ∧ n = .iface 143 (.agg #[.int .i64 k1, s1, .int .i64 k2, s2]))))
def NodeEnd (w0 w : World) (d : Nat) (k : Int) (ts : List Ty) (e : Ending) (w' : World) : Prop :=
  ∃ n, e = .returned n ∧ NodeAt w0 d n k ts ∧ Below w.heap.size w w'
theorem node_bad {w0 w w' : World} {d : Nat} {k : Int} {ts : List Ty} (h : kindOk k ts.length = false) (hb : Below w.heap.size w w') : NodeEnd w0 w d k ts (.returned .nilIface) w' :=
  ⟨_, rfl, Or.inl ⟨h, rfl⟩, hb⟩
theorem two_of {d : Nat} {w : World} {ts : List Ty} {a : Option Addr} (hl : ts.length = 2)
    (hat : ∀ j (h : j < ts.length), ∃ b off c0 c1, a = some ⟨b, off, none⟩ ∧ b < w.heap.size ∧ w.cell? ⟨b, off + j * 2, none⟩ = some c0 ∧ w.cell? ⟨b, off + j * 2 + 1, none⟩ = some c1 ∧ TyAt w d (.agg #[c0, c1]) ts[j]) :
    ∃ t1 t2 k1 s1 n1 c1 k2 s2 n2 c2 b off, ts = [t1, t2] ∧ a = some ⟨b, off, none⟩ ∧ b < w.heap.size ∧ w.cell? ⟨b, off, none⟩ = some (.int .i64 k1) ∧ w.cell? ⟨b, off + 1, none⟩ = some (.slice s1 n1 c1) ∧ w.cell? ⟨b, off + 2, none⟩ = some (.int .i64 k2) ∧ w.cell? ⟨b, off + 3, none⟩ = some (.slice s2 n2 c2) ∧
      TyAt w d (.agg #[.int .i64 k1, .slice s1 n1 c1]) t1 ∧ TyAt w d (.agg #[.int .i64 k2, .slice s2 n2 c2]) t2 := by
  match ts, hl, hat with
  | [t1, t2], _, hat =>
    obtain ⟨b, off, x0, x1, rfl, hbl, h0, h1, ht1⟩ := hat 0 (by simp)
    obtain ⟨b', off', y0, y1, he, _, h2, h3, ht2⟩ := hat 1 (by simp)
    cases he
    obtain ⟨k1, s1, n1, c1, rfl, rfl⟩ := at_parts ht1
    obtain ⟨k2, s2, n2, c2, rfl, rfl⟩ := at_parts ht2
    exact ⟨t1, t2, k1, s1, n1, c1, k2, s2, n2, c2, b, off, rfl, rfl, hbl, by simpa using h0, by simpa using h1, by simpa using h2, by simpa [Nat.add_assoc] using h3, ht1, ht2⟩

set_option maxRecDepth 100000 in
set_option maxHeartbeats 2000000 in
theorem implNode (w0 : World) (d : Nat) (v : Value) (kd : Int) (ts : List Ty) (w : World) (h : TyAt w0 (d + 1) v (.node kd ts)) (hw : Below w0.heap.size w0 w) (hsz : ts.length ≤ 1152921504606846976) :
    Calls Tryd.prog 129 #[v] w (NodeEnd w0 w d kd ts) := by
  have HW := Lib.hid hw; clear hw
  obtain ⟨sl, rfl, hk0, hk1, a, cap, rfl, hcap, hcap2, hat⟩ := h
  have HAT := Lib.hid hat; clear hat
  obtain ⟨n, hn⟩ : ∃ n, n = ts.length := ⟨_, rfl⟩
  have HN := Lib.hid hn
  rw [← hn] at hcap hsz ⊢
  clear hn
  by_cases q1 : kd = 1
  · subst q1
    by_cases z : n = 0
    · subst z
      go_enter Tryd.func129, Tryd.ntmps129
      go_wp2_with fail
      go_ret
      have hts : ts = [] := List.eq_nil_of_length_eq_zero HN.out.symm
      exact ⟨_, rfl, Or.inr (Or.inl ⟨by rw [hts]; rfl, hts, Or.inl ⟨rfl, rfl⟩⟩), below_alloc _ _⟩
    · have z2 : ¬ ((n : Int) = 0) := by omega
      go_enter Tryd.func129, Tryd.ntmps129
      go_wp2_with fail
      go_ret
      exact node_bad (by rw [← HN.out]; simp [kindOk, z]) (below_alloc _ _)
  by_cases q2 : kd = 2
  · subst q2
    by_cases z : n = 0
    · subst z
      go_enter Tryd.func129, Tryd.ntmps129
      go_wp2_with fail
      go_ret
      have hts : ts = [] := List.eq_nil_of_length_eq_zero HN.out.symm
      exact ⟨_, rfl, Or.inr (Or.inl ⟨by rw [hts]; rfl, hts, Or.inr (Or.inl ⟨rfl, rfl⟩)⟩), below_alloc _ _⟩
    · have z2 : ¬ ((n : Int) = 0) := by omega
      go_enter Tryd.func129, Tryd.ntmps129
      go_wp2_with fail
      go_ret
      exact node_bad (by rw [← HN.out]; simp [kindOk, z]) (below_alloc _ _)
  by_cases q3 : kd = 3
  · subst q3
    by_cases z : n = 0
    · subst z
      go_enter Tryd.func129, Tryd.ntmps129
      go_wp2_with fail
      go_ret
      have hts : ts = [] := List.eq_nil_of_length_eq_zero HN.out.symm
      exact ⟨_, rfl, Or.inr (Or.inl ⟨by rw [hts]; rfl, hts, Or.inr (Or.inr ⟨rfl, rfl⟩)⟩), below_alloc _ _⟩
    · have z2 : ¬ ((n : Int) = 0) := by omega
      go_enter Tryd.func129, Tryd.ntmps129
      go_wp2_with fail
      go_ret
      exact node_bad (by rw [← HN.out]; simp [kindOk, z]) (below_alloc _ _)
  by_cases q4 : kd = 4
  · subst q4
    by_cases z : n = 2
    · subst z
      obtain ⟨t1, t2, k1, s1, n1, c1, k2, s2, n2, c2, b, off, hts, rfl, hbl0, g0, g1, g2, g3, ht1, ht2⟩ := two_of HN.out.symm HAT.out
      have HTS := Lib.hid hts
      have H1 := Lib.hid ht1
      have H2 := Lib.hid ht2
      clear hts ht1 ht2 HAT
      have hbl := Nat.lt_of_lt_of_le hbl0 HW.out.size
      have h0 := (HW.out.cell (p := ⟨b, off, none⟩) hbl0).trans g0
      have h1 := (HW.out.cell (p := ⟨b, off + 1, none⟩) hbl0).trans g1
      have h2 := (HW.out.cell (p := ⟨b, off + 2, none⟩) hbl0).trans g2
      have h3 := (HW.out.cell (p := ⟨b, off + 3, none⟩) hbl0).trans g3
      clear g0 g1 g2 g3
      have hb2 : ¬ (b = w.heap.size) := by omega
      go_enter Tryd.func129, Tryd.ntmps129
      go_wp2_with fail
      go_quiet (fail)
      go_wp2_with fail
      go_ret
      have X : ∀ nq, Below w.heap.size w ((w.alloc (.cells #[.int .i64 4, .slice (some ⟨b, off, none⟩) 2 cap] 31)).drewN nq) := fun nq => below_drewN (below_alloc _ _) nq
      exact ⟨_, rfl, Or.inr (Or.inr ⟨by rw [HTS.out]; rfl, t1, t2, k1, _, k2, _, HTS.out, H1.out, H2.out, Or.inl ⟨rfl, rfl⟩⟩), X _⟩
    · have z2 : ¬ ((n : Int) = 2) := by omega
      go_enter Tryd.func129, Tryd.ntmps129
      go_wp2_with fail
      go_ret
      exact node_bad (by rw [← HN.out]; simp [kindOk, z]) (below_alloc _ _)
  by_cases q5 : kd = 5
  · subst q5
    by_cases z : n = 2
    · subst z
      obtain ⟨t1, t2, k1, s1, n1, c1, k2, s2, n2, c2, b, off, hts, rfl, hbl0, g0, g1, g2, g3, ht1, ht2⟩ := two_of HN.out.symm HAT.out
      have HTS := Lib.hid hts
      have H1 := Lib.hid ht1
      have H2 := Lib.hid ht2
      clear hts ht1 ht2 HAT
      have hbl := Nat.lt_of_lt_of_le hbl0 HW.out.size
      have h0 := (HW.out.cell (p := ⟨b, off, none⟩) hbl0).trans g0
      have h1 := (HW.out.cell (p := ⟨b, off + 1, none⟩) hbl0).trans g1
      have h2 := (HW.out.cell (p := ⟨b, off + 2, none⟩) hbl0).trans g2
      have h3 := (HW.out.cell (p := ⟨b, off + 3, none⟩) hbl0).trans g3
      clear g0 g1 g2 g3
      have hb2 : ¬ (b = w.heap.size) := by omega
      go_enter Tryd.func129, Tryd.ntmps129
      go_wp2_with fail
      go_quiet (fail)
      go_wp2_with fail
      go_ret
      have X : ∀ nq, Below w.heap.size w ((w.alloc (.cells #[.int .i64 5, .slice (some ⟨b, off, none⟩) 2 cap] 31)).drewN nq) := fun nq => below_drewN (below_alloc _ _) nq
      exact ⟨_, rfl, Or.inr (Or.inr ⟨by rw [HTS.out]; rfl, t1, t2, k1, _, k2, _, HTS.out, H1.out, H2.out, Or.inr ⟨rfl, rfl⟩⟩), X _⟩
    · have z2 : ¬ ((n : Int) = 2) := by omega
      go_enter Tryd.func129, Tryd.ntmps129
      go_wp2_with fail
      go_ret
      exact node_bad (by rw [← HN.out]; simp [kindOk, z]) (below_alloc _ _)
  go_enter Tryd.func129, Tryd.ntmps129
  go_wp2_with fail
  go_ret
  exact node_bad (by rw [← HN.out]; simp [kindOk, q1, q2, q3, q4, q5]) (below_alloc _ _)
end Go.Proofs.YtdgfkmnnjhlpbaaDoor
/-
  Proved: laws.markTypeS numbers the nodes below a tree's root in its own memory and touches nothing else; laws.heldTypeS finds the numbers there.
-/
namespace Go.Proofs.YtdgfkmnnjhlpbaaDoor
open Go.RowKit

mutual
/-- The tree with its nodes numbered from k on, the root first. -/
def Ty.mark : Ty → Int → Ty
  | .node _ us, k => .node k (Ty.marks us (k + 1))
def Ty.marks : List Ty → Int → List Ty
  | [], _ => []
  | t :: r, k => t.mark k :: Ty.marks r (k + t.size)
end
theorem Ty.marks_length : ∀ (ts : List Ty) (k : Int), (Ty.marks ts k).length = ts.length
  | [], _ => rfl
  | t :: r, k => by simp [Ty.marks, Ty.marks_length r]
theorem Ty.marks_get : ∀ (ts : List Ty) (k : Int) (j : Nat) (h : j < ts.length) (h' : j < (Ty.marks ts k).length), (Ty.marks ts k)[j] = ts[j].mark (k + Ty.sizes (ts.take j))
  | t :: r, k, 0, _, _ => by simp [Ty.marks, Ty.sizes]
  | t :: r, k, j + 1, h, h' => by
    simp only [Ty.marks, List.getElem_cons_succ, List.take_succ_cons, Ty.sizes]
    rw [Ty.marks_get r (k + t.size) j (by simpa using h)]
    congr 1; omega
theorem flat_sub {fps : List (List Nat)} {j b : Nat} {f : List Nat} (h : fps[j]? = some f) (hb : b ∈ f) : b ∈ fps.flatten := List.mem_flatten.2 ⟨f, List.mem_of_getElem? h, hb⟩
theorem flat_nodup : ∀ {fps : List (List Nat)} {j : Nat} {f : List Nat}, fps.flatten.Nodup → fps[j]? = some f → f.Nodup
  | [], _, _, _, h => by simp at h
  | x :: r, 0, f, hn, h => by
    simp at h; subst h
    rw [List.flatten_cons] at hn
    exact (List.nodup_append.1 hn).1
  | x :: r, j + 1, f, hn, h => by
    rw [List.flatten_cons] at hn
    exact flat_nodup (List.nodup_append.1 hn).2.1 (by simpa using h)
theorem flat_apart : ∀ {fps : List (List Nat)} {i j b : Nat} {f g : List Nat}, fps.flatten.Nodup → fps[i]? = some f → fps[j]? = some g → i ≠ j → b ∈ f → b ∉ g
  | [], _, _, _, _, _, _, h, _, _, _ => by simp at h
  | x :: r, 0, 0, b, f, g, hn, h1, h2, hne, hb => (hne rfl).elim
  | x :: r, 0, j + 1, b, f, g, hn, h1, h2, hne, hb => by
    simp at h1 h2; subst h1
    rw [List.flatten_cons] at hn
    intro hg
    exact (List.nodup_append.1 hn).2.2 b hb b (flat_sub h2 hg) rfl
  | x :: r, i + 1, 0, b, f, g, hn, h1, h2, hne, hb => by
    simp at h1 h2; subst h2
    rw [List.flatten_cons] at hn
    intro hg
    exact (List.nodup_append.1 hn).2.2 b hg b (flat_sub h1 hb) rfl
  | x :: r, i + 1, j + 1, b, f, g, hn, h1, h2, hne, hb => by
    rw [List.flatten_cons] at hn
    exact flat_apart (List.nodup_append.1 hn).2.1 (by simpa using h1) (by simpa using h2) (by omega) hb

def MarkTysEnd (B d : Nat) (v : Value) (ts : List Ty) (fp : List Nat) (k : Int) (w : World) (e : Ending) (w' : World) : Prop :=
  e = .returned (.int .i64 (k + Ty.sizes ts)) ∧ TysOwn w' d v (Ty.marks ts k) fp ∧ Below B w w' ∧ (∀ b, b < w.heap.size → b ∉ fp → w'.heap[b]? = w.heap[b]?)
def MarkTysSaid (d : Nat) : Prop := ∀ (B : Nat) (v : Value) (ts : List Ty) (fp : List Nat) (k : Int) (w : World), B ≤ w.heap.size → (∀ b, b ∈ fp → B ≤ b) → fp.Nodup → 0 ≤ k → k + Ty.sizes ts ≤ 1099511627776 → TysOwn w d v ts fp →
  Calls Tryd.prog 82 #[v, .int .i64 k] w (MarkTysEnd B d v ts fp k w)

set_option maxRecDepth 100000 in
set_option maxHeartbeats 1000000 in
theorem markTys_step (d : Nat) (ih : MarkTysSaid d) : MarkTysSaid (d + 1) := by
  intro B v ts fp k w hB hfB hnd hk0 hk1 h
  have IH := Lib.hid ih; clear ih
  have HFB := Lib.hid hfB; clear hfB
  have HND := Lib.hid hnd; clear hnd
  obtain ⟨a, cap, hd, fps, rfl, hcap, hcap2, hl, hf, hhd, hat⟩ := h
  have HHD := Lib.hid hhd; clear hhd
  have HAT := Lib.hid hat; clear hat
  go_enter Tryd.func82, Tryd.ntmps82
  go_wp2_with fail
  go_loopw [1, 5] (fun m i wr => ∃ (j : Nat), j ≤ ts.length ∧ i = .int .i64 j ∧ m = .int .i64 (k + Ty.sizes (ts.take j)) ∧
      (∀ t (h : t < ts.length), ∃ g off c0 c1 f, a = some ⟨g, off, none⟩ ∧ hd = [g] ∧ g < wr.heap.size ∧ wr.cell? ⟨g, off + t * 2, none⟩ = some c0 ∧ wr.frozen? ⟨g, off + t * 2, none⟩ = false ∧ wr.cell? ⟨g, off + t * 2 + 1, none⟩ = some c1 ∧ fps[t]? = some f ∧ TyOwn wr (d + 1) (.agg #[c0, c1]) (if t < j then ts[t].mark (k + Ty.sizes (ts.take t)) else ts[t]) f) ∧
      Below B w wr ∧ (∀ b, b < w.heap.size → b ∉ fp → wr.heap[b]? = w.heap[b]?)) (fun _ i _ => ts.length - (intOf i).toNat)
  case atStart => exact ⟨0, by omega, rfl, by simp [Ty.sizes], HAT.out, Below.refl _ _, fun _ _ _ => rfl⟩
  case round =>
    obtain ⟨j, hj, rfl, rfl, hrow, hb, hout⟩ := hrel
    have HR := Lib.hid hrow; clear hrow
    have HB := Lib.hid hb; clear hb
    have HO := Lib.hid hout; clear hout
    by_cases hlt : j < ts.length
    · obtain ⟨g, off, c0, c1, f, rfl, rfl, hg, e0, f0, e1, hfj, hty⟩ := HR.out j hlt
      rw [if_neg (Nat.lt_irrefl j)] at hty
      have HS := Lib.hid (Ty.sizes_take ts j hlt)
      have hle := Ty.sizes_le ts (j + 1)
      cases htj : ts[j] with
      | node kd us =>
        rw [htj] at hty
        obtain ⟨sl, hv, h0, h1, hus⟩ := hty
        have hc : c0 = .int .i64 kd ∧ c1 = sl := by injection hv with hv; injection hv with hv; simpa using hv
        obtain ⟨rfl, rfl⟩ := hc
        have hsz : ts[j].size = 1 + Ty.sizes us := by rw [htj]; rfl
        have HUS : Hid (TysOwn wr d c1 us f) := hus
        obtain ⟨a2, cap2, hd2, fps2, rfl, _⟩ := hus
        have HTJ := Lib.hid htj; clear htj
        subst hf
        have hnd := List.nodup_append.1 HND.out
        have HN2 := Lib.hid hnd.2.1
        have HG : Hid (∀ (t : Nat) (f' : List Nat) (b : Nat), fps[t]? = some f' → b ∈ f' → b ≠ g) := fun t f' b hf' hb e => hnd.2.2 g (by simp) b (flat_sub hf' hb) e.symm
        clear hnd hv
        have hgf : g ∉ f := fun hb => HG.out j f g hfj hb rfl
        have HFJ := Lib.hid hfj; clear hfj
        have W1 : B ≤ (wr.setCell ⟨g, off + j * 2, none⟩ (.int .i64 (k + Ty.sizes (ts.take j)))).heap.size := by
          rw [World.size_setCell]; exact Nat.le_trans hB HB.out.size
        have W2 := Lib.hid (show ∀ b, b ∈ f → B ≤ b from fun b hb => HFB.out b (List.mem_append_right _ (flat_sub HFJ.out hb)))
        have W3 := Lib.hid (flat_nodup HN2.out HFJ.out)
        have W4 : k + Ty.sizes (ts.take j) + 1 + Ty.sizes us ≤ 1099511627776 := by have := HS.out; omega
        have W5 : Hid (TysOwn (wr.setCell ⟨g, off + j * 2, none⟩ (.int .i64 (k + Ty.sizes (ts.take j)))) d (.slice a2 us.length cap2) us f) :=
          TysOwn.kept HUS.out (by rw [World.size_setCell]; exact Nat.le_refl _) fun b hb => heap_setCell_other _ _ _ _ (HG.out j f b HFJ.out hb)
        go_wp2_with fail
        refine (IH.out B _ us f (k + Ty.sizes (ts.take j) + 1) _ W1 W2.out W3.out (by omega) W4 W5.out).mono ?_
        rintro e w' ⟨rfl, ht2, hb1, hout1⟩
        have hz1 := hb1.size
        simp at hz1
        have hblk : ∀ b, b ≠ g → b ∉ f → b < wr.heap.size → w'.heap[b]? = wr.heap[b]? := fun b h1 h2 h3 => by
          rw [hout1 b (by simpa using h3) h2, heap_setCell_other _ _ _ _ h1]
        have hgb := hout1 g (by simpa using hg) hgf
        have HT2 := Lib.hid ht2; clear ht2
        have HB1 := Lib.hid ((HB.out.setCell (HFB.out g (by simp)) _).trans hb1); clear hb1
        go_wp2_with fail
        refine ⟨⟨j + 1, by omega, by go_num, by rw [HS.out, hsz]; go_num, fun t ht => ?_, HB1.out, fun b h1 h2 => ?_⟩, by simp [intOf]; omega⟩
        · obtain ⟨g', off', d0, d1, ft, q1, q2, q3, q4, q5, q6, q7, q8⟩ := HR.out t ht
          cases q1
          by_cases htj : t = j
          · subst htj
            rw [HFJ.out] at q7
            cases q7
            refine ⟨g, off, .int .i64 (k + Ty.sizes (ts.take t)), .slice a2 us.length cap2, f, rfl, rfl, by omega, ?_, ?_, ?_, HFJ.out, ?_⟩
            · rw [World.cell?_of_block hgb]; exact World.cell?_setCell_same _ _ _ e0
            · rw [World.frozen?_of_block hgb, World.frozen?_setCell]; exact f0
            · rw [World.cell?_of_block hgb, World.cell?_setCell_other _ _ _ _ (by simp)]; exact e1
            · rw [if_pos (by omega), HTJ.out]
              exact ⟨_, rfl, by omega, by omega, HT2.out⟩
          · refine ⟨g, off, d0, d1, ft, rfl, rfl, by omega, ?_, ?_, ?_, q7, ?_⟩
            · rw [World.cell?_of_block hgb, World.cell?_setCell_other _ _ _ _ (by simp; try omega)]; exact q4
            · rw [World.frozen?_of_block hgb, World.frozen?_setCell]; exact q5
            · rw [World.cell?_of_block hgb, World.cell?_setCell_other _ _ _ _ (by simp; try omega)]; exact q6
            · have e3 : (if t < j + 1 then ts[t].mark (k + Ty.sizes (ts.take t)) else ts[t]) = (if t < j then ts[t].mark (k + Ty.sizes (ts.take t)) else ts[t]) := by
                by_cases hlt2 : t < j
                · rw [if_pos hlt2, if_pos (by omega)]
                · rw [if_neg hlt2, if_neg (by omega)]
              rw [e3]
              exact q8.kept (by omega) fun b hb => hblk b (HG.out t ft b q7 hb) (flat_apart HN2.out q7 HFJ.out htj hb) (TyOwn.lt q8 b hb)
        · have hnb : b ≠ g := fun e => h2 (by rw [e]; simp)
          have hnf : b ∉ f := fun e => h2 (List.mem_append_right _ (flat_sub HFJ.out e))
          rw [hblk b hnb hnf (Nat.lt_of_lt_of_le h1 HB.out.size)]
          exact HO.out b h1 h2
    · have hjn : j = ts.length := by omega
      subst hjn
      go_wp2_with fail
      go_ret
      refine ⟨by rw [List.take_length]; rfl, ⟨a, cap, hd, fps, by rw [Ty.marks_length], by rw [Ty.marks_length]; exact hcap, hcap2, by rw [Ty.marks_length]; exact hl, hf, fun b hb => Nat.lt_of_lt_of_le (HHD.out b hb) HB.out.size, fun t ht => ?_⟩, HB.out, HO.out⟩
      rw [Ty.marks_length] at ht
      obtain ⟨g, off, c0, c1, f, q1, q2, q3, q4, q5, q6, q7, q8⟩ := HR.out t ht
      rw [if_pos ht] at q8
      exact ⟨g, off, c0, c1, f, q1, q2, q3, q4, q5, q6, q7, by rw [Ty.marks_get ts k t ht]; exact q8⟩
theorem markTys_zero : MarkTysSaid 0 := by
  intro B v ts fp k w hB hfB hnd hk0 hk1 h
  obtain ⟨a, cap, hd, fps, rfl, hcap, hcap2, hl, rfl, hhd, hat⟩ := h
  cases ts with
  | cons t r =>
    obtain ⟨_, _, _, _, _, _, _, _, _, _, _, _, hr⟩ := hat 0 (by simp)
    exact hr.elim
  | nil =>
    go_enter Tryd.func82, Tryd.ntmps82
    go_wp2_with fail
    go_loop [1, 5] (fun m i => m = .int .i64 k ∧ i = .int .i64 0) (fun _ _ => 0)
    case atStart => exact ⟨rfl, rfl⟩
    case round =>
      obtain ⟨rfl, rfl⟩ := hrel
      go_wp2_with fail
      go_ret
      exact ⟨by simp [Ty.sizes], ⟨a, cap, hd, fps, rfl, hcap, hcap2, hl, rfl, hhd, fun j hj => by simp [Ty.marks] at hj⟩, Below.refl _ _, fun _ _ _ => rfl⟩
theorem markTys_all : ∀ d, MarkTysSaid d
  | 0 => markTys_zero
  | d + 1 => markTys_step d (markTys_all d)
end Go.Proofs.YtdgfkmnnjhlpbaaDoor
/-
  Proved: laws.heldTypeS finds the numbers that marking wrote into the nodes below a tree's root, and changes no memory that was there; markType and heldType are the same one node up.
-/
namespace Go.Proofs.YtdgfkmnnjhlpbaaDoor
open Go.RowKit

def HeldEnd (n : Nat) (k : Int) (w : World) (e : Ending) (w' : World) : Prop := e = .returned (.int .i64 (k + n)) ∧ Below w.heap.size w w'
def HeldTysSaid (d : Nat) : Prop := ∀ (v : Value) (ts : List Ty) (k : Int) (w : World), 0 ≤ k → k + Ty.sizes ts ≤ 1099511627776 → TysAt w d v (Ty.marks ts k) →
  Calls Tryd.prog 83 #[v, .int .i64 k] w (HeldEnd (Ty.sizes ts) k w)

set_option maxRecDepth 100000 in
set_option maxHeartbeats 1000000 in
theorem heldTys_step (d : Nat) (ih : HeldTysSaid d) : HeldTysSaid (d + 1) := by
  intro v ts k w hk0 hk1 h
  have IH := Lib.hid ih; clear ih
  obtain ⟨a, cap, rfl, hcap, hcap2, hat⟩ := h
  rw [Ty.marks_length] at hcap ⊢
  have HAT := Lib.hid hat; clear hat
  go_enter Tryd.func83, Tryd.ntmps83
  go_wp2_with fail
  go_loopw [1, 5] (fun m i wr => ∃ (j : Nat), j ≤ ts.length ∧ i = .int .i64 j ∧ m = .int .i64 (k + Ty.sizes (ts.take j)) ∧ Below w.heap.size w wr) (fun _ i _ => ts.length - (intOf i).toNat)
  case atStart => exact ⟨0, by omega, rfl, by simp [Ty.sizes], Below.refl _ _⟩
  case round =>
    obtain ⟨j, hj, rfl, rfl, hb⟩ := hrel
    have HB := Lib.hid hb; clear hb
    by_cases hlt : j < ts.length
    · obtain ⟨b, off, x0, x1, rfl, hbl, hc0, hc1, hty⟩ := HAT.out j (by rw [Ty.marks_length]; exact hlt)
      rw [Ty.marks_get ts k j hlt] at hty
      have HS := Lib.hid (Ty.sizes_take ts j hlt)
      have hle := Ty.sizes_le ts (j + 1)
      cases htj : ts[j] with
      | node kd us =>
        have hsz : ts[j].size = 1 + Ty.sizes us := by rw [htj]; rfl
        rw [htj] at hty
        obtain ⟨sl, hv, h0, h1, hus⟩ := hty
        have hc : x0 = .int .i64 (k + Ty.sizes (ts.take j)) ∧ x1 = sl := by injection hv with hv; injection hv with hv; simpa using hv
        obtain ⟨rfl, rfl⟩ := hc
        have e0 : wr.cell? ⟨b, off + j * 2, none⟩ = some (.int .i64 (k + Ty.sizes (ts.take j))) := by rw [HB.out.cell (p := ⟨b, off + j * 2, none⟩) hbl]; exact hc0
        have e1 : wr.cell? ⟨b, off + j * 2 + 1, none⟩ = some x1 := by rw [HB.out.cell (p := ⟨b, off + j * 2 + 1, none⟩) hbl]; exact hc1
        have HUS : Hid (TysAt wr d x1 (Ty.marks us (k + Ty.sizes (ts.take j) + 1))) := TysAt.below hus HB.out
        obtain ⟨a2, cap2, rfl, _⟩ := hus
        clear hv hc0 hc1
        have W4 : k + Ty.sizes (ts.take j) + 1 + Ty.sizes us ≤ 1099511627776 := by have := HS.out; omega
        go_wp2_with fail
        refine (IH.out _ us (k + Ty.sizes (ts.take j) + 1) wr (by omega) W4 HUS.out).mono ?_
        rintro e w' ⟨rfl, hb1⟩
        have HB1 := Lib.hid (HB.out.trans (hb1.mono HB.out.size)); clear hb1
        go_wp2_with fail
        exact ⟨⟨j + 1, by omega, by go_num, by rw [HS.out, hsz]; go_num, HB1.out⟩, by simp [intOf]; omega⟩
    · have hjn : j = ts.length := by omega
      subst hjn
      go_wp2_with fail
      go_ret
      exact ⟨by rw [List.take_length]; rfl, HB.out⟩
theorem heldTys_zero : HeldTysSaid 0 := by
  intro v ts k w hk0 hk1 h
  obtain ⟨a, cap, rfl, hcap, hcap2, hat⟩ := h
  cases ts with
  | cons t r =>
    obtain ⟨_, _, _, _, _, _, _, _, hr⟩ := hat 0 (by simp [Ty.marks])
    exact hr.elim
  | nil =>
    go_enter Tryd.func83, Tryd.ntmps83
    go_wp2_with fail
    go_loop [1, 5] (fun m i => m = .int .i64 k ∧ i = .int .i64 0) (fun _ _ => 0)
    case atStart => exact ⟨rfl, rfl⟩
    case round =>
      obtain ⟨rfl, rfl⟩ := hrel
      go_wp2_with fail
      go_ret
      exact ⟨by simp [Ty.sizes], Below.refl _ _⟩
theorem heldTys_all : ∀ d, HeldTysSaid d
  | 0 => heldTys_zero
  | d + 1 => heldTys_step d (heldTys_all d)

/-- The tree with all nodes but the root numbered from k on. -/
def Ty.markIn : Ty → Int → Ty
  | .node kd us, k => .node kd (Ty.marks us k)
def MarkTyEnd (B d : Nat) (v : Value) (t : Ty) (fp : List Nat) (k : Int) (w : World) (e : Ending) (w' : World) : Prop :=
  e = .returned (.int .i64 (k + (t.size - 1 : Nat))) ∧ TyOwn w' d v (t.markIn k) fp ∧ Below B w w' ∧ (∀ b, b < w.heap.size → b ∉ fp → w'.heap[b]? = w.heap[b]?)
set_option maxRecDepth 100000 in
set_option maxHeartbeats 1000000 in
theorem markTy (B d : Nat) (v : Value) (t : Ty) (fp : List Nat) (k : Int) (w : World) (hB : B ≤ w.heap.size) (hfB : ∀ b, b ∈ fp → B ≤ b) (hnd : fp.Nodup) (hk0 : 0 ≤ k) (hk1 : k + t.size ≤ 1099511627776) (h : TyOwn w d v t fp) :
    Calls Tryd.prog 36 #[v, .int .i64 k] w (MarkTyEnd B d v t fp k w) := by
  cases d with
  | zero => exact h.elim
  | succ d =>
    cases t with
    | node kd us =>
      have hlt := h.lt
      obtain ⟨sl, rfl, h0, h1, h⟩ := h
      have e1 : Below w.heap.size w (w.alloc (.cells #[.int .i64 kd, sl] 31)) := (Below.refl _ _).alloc (Nat.le_refl _) _
      have HU : Hid (TysOwn (w.alloc (.cells #[.int .i64 kd, sl] 31)) d sl us fp) := TysOwn.kept h e1.size fun b hb => e1.block b (hlt b hb)
      have HE := Lib.hid e1; clear e1
      have HLT := Lib.hid hlt; clear hlt
      have HND := Lib.hid hnd; clear hnd
      have HFB := Lib.hid hfB; clear hfB
      have hsz : (Ty.node kd us).size = 1 + Ty.sizes us := rfl
      obtain ⟨a2, cap2, hd2, fps2, rfl, _⟩ := h
      go_enter Tryd.func36, Tryd.ntmps36
      go_wp2_with fail
      refine (markTys_all d B _ us fp k _ (by simp; omega) HFB.out HND.out hk0 (by omega) HU.out).mono ?_
      rintro e w' ⟨rfl, ht, hb1, hout⟩
      have HT := Lib.hid ht; clear ht
      have HB := Lib.hid hb1; clear hb1
      have HO := Lib.hid hout; clear hout
      go_wp2_with fail
      go_ret
      refine ⟨by rw [hsz, Nat.add_sub_cancel_left]; rfl, ⟨_, rfl, h0, h1, HT.out⟩, ((Below.refl _ _).alloc hB _).trans HB.out, fun b h1 h2 => ?_⟩
      rw [HO.out b (by simp; omega) h2]
      exact HE.out.block b h1
def HeldTyEnd (t : Ty) (k : Int) (w : World) (e : Ending) (w' : World) : Prop := e = .returned (.int .i64 (k + (t.size - 1 : Nat))) ∧ Below w.heap.size w w'
set_option maxRecDepth 100000 in
set_option maxHeartbeats 1000000 in
theorem heldTy (d : Nat) (v : Value) (t : Ty) (k : Int) (w : World) (hk0 : 0 ≤ k) (hk1 : k + t.size ≤ 1099511627776) (h : TyAt w d v (t.markIn k)) :
    Calls Tryd.prog 37 #[v, .int .i64 k] w (HeldTyEnd t k w) := by
  cases d with
  | zero => exact h.elim
  | succ d =>
    cases t with
    | node kd us =>
      obtain ⟨sl, rfl, h0, h1, h⟩ := h
      have e1 : Below w.heap.size w (w.alloc (.cells #[.int .i64 kd, sl] 31)) := (Below.refl _ _).alloc (Nat.le_refl _) _
      have HU : Hid (TysAt (w.alloc (.cells #[.int .i64 kd, sl] 31)) d sl (Ty.marks us k)) := TysAt.below h e1
      have HE := Lib.hid e1; clear e1
      have hsz : (Ty.node kd us).size = 1 + Ty.sizes us := rfl
      obtain ⟨a2, cap2, rfl, _⟩ := h
      go_enter Tryd.func37, Tryd.ntmps37
      go_wp2_with fail
      refine (heldTys_all d _ us k _ hk0 (by omega) HU.out).mono ?_
      rintro e w' ⟨rfl, hb1⟩
      have HB := Lib.hid (HE.out.trans (hb1.mono HE.out.size)); clear hb1
      go_wp2_with fail
      go_ret
      exact ⟨by rw [hsz, Nat.add_sub_cancel_left]; rfl, HB.out⟩
end Go.Proofs.YtdgfkmnnjhlpbaaDoor
/-
  Proved: plain facts on trees that own their blocks, with the blocks' bounds; laws.markType and laws.heldType on such trees.
-/
namespace Go.Proofs.YtdgfkmnnjhlpbaaDoor
open Go.RowKit

def OwnIn (w : World) (d : Nat) (v : Value) (t : Ty) (lo hi : Nat) : Prop := ∃ fp, TyOwn w d v t fp ∧ Fp lo hi fp ∧ hi ≤ w.heap.size
theorem OwnIn.at_ {w : World} {d : Nat} {v : Value} {t : Ty} {lo hi : Nat} (h : OwnIn w d v t lo hi) : TyAt w d v t := by obtain ⟨fp, h, _⟩ := h; exact TyOwn.at_ h
theorem OwnIn.below {w w' : World} {d : Nat} {v : Value} {t : Ty} {lo hi : Nat} (h : OwnIn w d v t lo hi) (hb : Below w.heap.size w w') : OwnIn w' d v t lo hi := by
  obtain ⟨fp, h, hf, hz⟩ := h
  exact ⟨fp, h.kept hb.size fun b hbf => hb.block b (Nat.lt_of_lt_of_le (hf.2 b hbf).2 hz), hf, Nat.le_trans hz hb.size⟩
theorem OwnIn.of {w0 w : World} {d : Nat} {v : Value} {t : Ty} {fp : List Nat} {lo : Nat} (h : TyOwn w d v t fp) (hf : Fp w0.heap.size w.heap.size fp) (hlo : lo ≤ w0.heap.size) : OwnIn w d v t lo w.heap.size :=
  ⟨fp, h, hf.mono hlo (Nat.le_refl _), Nat.le_refl _⟩
/-- All old blocks but those from lo up to hi are as they were. -/
def Kept (lo hi : Nat) (w w' : World) : Prop := w.heap.size ≤ w'.heap.size ∧ ∀ b, b < w.heap.size → (b < lo ∨ hi ≤ b) → w'.heap[b]? = w.heap[b]?
theorem OwnIn.beside {w w' : World} {d : Nat} {v : Value} {t : Ty} {lo hi lo2 hi2 : Nat} (h : OwnIn w d v t lo hi) (k : Kept lo2 hi2 w w') (hd : hi ≤ lo2 ∨ hi2 ≤ lo) : OwnIn w' d v t lo hi := by
  obtain ⟨fp, h, hf, hz⟩ := h
  exact ⟨fp, h.kept k.1 fun b hbf => k.2 b (by have := (hf.2 b hbf).2; omega) (by have := hf.2 b hbf; omega), hf, Nat.le_trans hz k.1⟩
theorem BoxAt.beside {w w' : World} {p lo hi : Nat} {cs : Array Value} (h : BoxAt w p cs) (k : Kept lo hi w w') (hd : p < lo ∨ hi ≤ p) : BoxAt w' p cs :=
  BoxAt.kept h k.1 (k.2 p h.1 hd)
theorem markOwn (B d : Nat) (v : Value) (t : Ty) (lo hi : Nat) (k : Int) (w : World) (hB : B ≤ lo) (hBw : B ≤ w.heap.size) (hk0 : 0 ≤ k) (hk1 : k + t.size ≤ 1099511627776) (h : OwnIn w d v t lo hi) :
    Calls Tryd.prog 36 #[v, .int .i64 k] w fun e w' => e = .returned (.int .i64 (k + (t.size - 1 : Nat))) ∧ OwnIn w' d v (t.markIn k) lo hi ∧ Below B w w' ∧ Kept lo hi w w' := by
  obtain ⟨fp, h, hf, hz⟩ := h
  refine (markTy B d v t fp k w hBw (fun b hb => by have := (hf.2 b hb).1; omega) hf.1 hk0 hk1 h).mono ?_
  rintro e w' ⟨rfl, h1, h2, h3⟩
  exact ⟨rfl, ⟨fp, h1, hf, Nat.le_trans hz h2.size⟩, h2, h2.size, fun b h4 h5 => h3 b h4 fun hm => by have := hf.2 b hm; omega⟩
theorem heldOwn (d : Nat) (v : Value) (t : Ty) (lo hi : Nat) (k : Int) (w : World) (hk0 : 0 ≤ k) (hk1 : k + t.size ≤ 1099511627776) (h : OwnIn w d v (t.markIn k) lo hi) :
    Calls Tryd.prog 37 #[v, .int .i64 k] w fun e w' => e = .returned (.int .i64 (k + (t.size - 1 : Nat))) ∧ Below w.heap.size w w' :=
  (heldTy d v t k w hk0 hk1 h.at_).mono fun _ _ h => h
end Go.Proofs.YtdgfkmnnjhlpbaaDoor
/-
  Proved: plain facts on four cells that lie behind one another, and on kinds.
-/
namespace Go.Proofs.YtdgfkmnnjhlpbaaDoor
open Go.RowKit

/-- Four cells that lie behind one another. -/
def FourAt (w : World) (b off : Nat) (c0 c1 c2 c3 : Value) : Prop :=
  b < w.heap.size ∧ w.cell? ⟨b, off, none⟩ = some c0 ∧ w.cell? ⟨b, off + 1, none⟩ = some c1 ∧ w.cell? ⟨b, off + 2, none⟩ = some c2 ∧ w.cell? ⟨b, off + 3, none⟩ = some c3
theorem FourAt.below {w w' : World} {b off : Nat} {c0 c1 c2 c3 : Value} (h : FourAt w b off c0 c1 c2 c3) (hb : Below w.heap.size w w') : FourAt w' b off c0 c1 c2 c3 := by
  obtain ⟨hl, h0, h1, h2, h3⟩ := h
  exact ⟨Nat.lt_of_lt_of_le hl hb.size, (hb.cell (p := ⟨b, off, none⟩) hl).trans h0, (hb.cell (p := ⟨b, off + 1, none⟩) hl).trans h1, (hb.cell (p := ⟨b, off + 2, none⟩) hl).trans h2, (hb.cell (p := ⟨b, off + 3, none⟩) hl).trans h3⟩
theorem kind_cases {k : Int} {n : Nat} (h : kindOk k n = true) : (k = 1 ∧ n = 0) ∨ (k = 2 ∧ n = 0) ∨ (k = 3 ∧ n = 0) ∨ (k = 4 ∧ n = 2) ∨ (k = 5 ∧ n = 2) := by
  unfold kindOk at h
  split at h
  · have := of_decide_eq_true h; omega
  · split at h
    · have := of_decide_eq_true h; omega
    · cases h
theorem FourAt.stored {w : World} {b off q j : Nat} {u c0 c1 c2 c3 : Value} (h : FourAt w b off c0 c1 c2 c3) (hne : b ≠ q) : FourAt (w.setCell ⟨q, j, none⟩ u) b off c0 c1 c2 c3 := by
  obtain ⟨hl, h0, h1, h2, h3⟩ := h
  have e : (w.setCell ⟨q, j, none⟩ u).heap[b]? = w.heap[b]? := heap_setCell_other _ _ _ _ (by simpa using hne)
  refine ⟨by simpa using hl, ?_, ?_, ?_, ?_⟩
  · rw [World.cell?_of_block (a := ⟨b, off, none⟩) e]; exact h0
  · rw [World.cell?_of_block (a := ⟨b, off + 1, none⟩) e]; exact h1
  · rw [World.cell?_of_block (a := ⟨b, off + 2, none⟩) e]; exact h2
  · rw [World.cell?_of_block (a := ⟨b, off + 3, none⟩) e]; exact h3
theorem OwnIn.stored {w : World} {d : Nat} {v : Value} {t : Ty} {lo hi q j : Nat} {u : Value} (h : OwnIn w d v t lo hi) (hq : q < lo) : OwnIn (w.setCell ⟨q, j, none⟩ u) d v t lo hi := by
  obtain ⟨fp, h, hf, hz⟩ := h
  refine ⟨fp, h.kept (by simp) fun b hb => ?_, hf, by simpa using hz⟩
  have := (hf.2 b hb).1
  exact heap_setCell_other _ _ _ _ (by simp; omega)
end Go.Proofs.YtdgfkmnnjhlpbaaDoor
/-
  Proved: spec.l4Text gives the text of a type's tree; the memory that was there stays as it was.
-/
namespace Go.Proofs.YtdgfkmnnjhlpbaaDoor
open Go.RowKit

set_option maxRecDepth 100000 in
set_option maxHeartbeats 4000000 in
theorem specText : ∀ (d : Nat) (v : Value) (t : Ty) (w : World), TyAt w d v t → t.form = true → t.size ≤ 1048577 →
    Calls Tryd.prog 101 #[v] w fun e w' => e = .returned (.string t.text) ∧ Below w.heap.size w w'
  | 0, _, _, _, h, _, _ => h.elim
  | d + 1, v, .node kd ts, w, h, hfm, hsz => by
    have IH : Hid (∀ (v : Value) (t : Ty) (w : World), TyAt w d v t → t.form = true → t.size ≤ 1048577 → Calls Tryd.prog 101 #[v] w fun e w' => e = .returned (.string t.text) ∧ Below w.heap.size w w') := specText d
    obtain ⟨sl, rfl, hk0, hk1, a, cap, rfl, hcap, hcap2, hat⟩ := h
    have HAT := Lib.hid hat; clear hat
    have HF := Lib.hid hfm
    have HS := Lib.hid hsz
    have hko : kindOk kd ts.length = true := by simp only [Ty.form, Bool.and_eq_true] at hfm; exact hfm.2
    clear hfm hsz hcap hcap2 hk0 hk1
    obtain ⟨n, hn⟩ : ∃ n, n = ts.length := ⟨_, rfl⟩
    have HN := Lib.hid hn
    rw [← hn] at hko ⊢
    clear hn
    rcases kind_cases hko with ⟨z1, _⟩ | ⟨z1, _⟩ | ⟨z1, _⟩ | ⟨z1, z2⟩ | ⟨z1, z2⟩ <;> clear hko
    · subst z1
      have HFIN : Hid ((Ty.node 1 ts).text = ⟨#[63]⟩) := by show _ = _; simp [Ty.text, textOf]
      go_enter Tryd.func101, Tryd.ntmps101
      go_wp2_with fail
      go_ret
      exact ⟨by rw [HFIN.out]; rfl, below_alloc _ _⟩
    · subst z1
      have HFIN : Hid ((Ty.node 2 ts).text = ⟨#[78]⟩) := by show _ = _; simp [Ty.text, textOf]
      go_enter Tryd.func101, Tryd.ntmps101
      go_wp2_with fail
      go_ret
      exact ⟨by rw [HFIN.out]; rfl, below_alloc _ _⟩
    · subst z1
      have HFIN : Hid ((Ty.node 3 ts).text = ⟨#[66]⟩) := by show _ = _; simp [Ty.text, textOf]
      go_enter Tryd.func101, Tryd.ntmps101
      go_wp2_with fail
      go_ret
      exact ⟨by rw [HFIN.out]; rfl, below_alloc _ _⟩
    · subst z1
      subst z2
      obtain ⟨t1, t2, k1, s1, n1, c1, k2, s2, n2, c2, b, off, hts, rfl, hbl0, g0, g1, g2, g3, ht1, ht2⟩ := two_of HN.out.symm HAT.out
      subst hts
      have X0 : Hid (FourAt w b off (.int .i64 k1) (.slice s1 n1 c1) (.int .i64 k2) (.slice s2 n2 c2)) := ⟨hbl0, g0, g1, g2, g3⟩
      clear HAT HN hbl0 g0 g1 g2 g3
      have F1 := Lib.hid (form_two HF.out).1
      have F2 := Lib.hid (form_two HF.out).2
      have z1 := t1.text_size
      have z2 := t2.text_size
      have hs2 := HS.out
      simp only [Ty.size, Ty.sizes] at hs2
      have Z1 := Lib.hid (show t1.size ≤ 1048577 by omega)
      have Z2 := Lib.hid (show t2.size ≤ 1048577 by omega)
      have m1 : ¬ (9223372036854775807 < 1 + t1.text.size) := by omega
      have m2 : ¬ (9223372036854775807 < 1 + t1.text.size + 1) := by omega
      have m3 : ¬ (9223372036854775807 < 1 + t1.text.size + 1 + t2.text.size) := by omega
      have m4 : ¬ (9223372036854775807 < 1 + t1.text.size + 1 + t2.text.size + 1) := by omega
      clear hs2 z1 z2
      have B : Hid (Below w.heap.size w (w.alloc (.cells #[.int .i64 4, .slice (some ⟨b, off, none⟩) 2 cap] 31))) := below_alloc _ _
      have H1 := Lib.hid (ht1.below B.out)
      have H2 := Lib.hid (ht2.below B.out)
      have X4 := Lib.hid (X0.out.below B.out)
      have XN : Hid (BoxAt (w.alloc (.cells #[.int .i64 4, .slice (some ⟨b, off, none⟩) 2 cap] 31)) w.heap.size #[.int .i64 4, .slice (some ⟨b, off, none⟩) 2 cap]) := BoxAt.new _ _ _
      clear ht1 ht2 X0
      go_enter Tryd.func101, Tryd.ntmps101
      go_wp2_with fail
      have hb := below_drew (w.alloc (.cells #[.int .i64 4, .slice (some ⟨b, off, none⟩) 2 cap] 31))
      replace B := Lib.hid (below_thru B.out (Nat.le_refl _) hb)
      replace H1 := Lib.hid (H1.out.below hb)
      replace H2 := Lib.hid (H2.out.below hb)
      replace XN := Lib.hid (XN.out.below hb)
      replace X4 := Lib.hid (X4.out.below hb)
      clear hb
      go_region_held3 (fun w' => w'.cell? ⟨w.heap.size, 1, none⟩ = some (.slice (some ⟨b, off, none⟩) 2 cap) ∧ w'.cell? ⟨b, off, none⟩ = some (.int .i64 k1) ∧ w'.cell? ⟨b, off + 1, none⟩ = some (.slice s1 n1 c1) ∧ w'.cell? ⟨b, off + 2, none⟩ = some (.int .i64 k2) ∧ w'.cell? ⟨b, off + 3, none⟩ = some (.slice s2 n2 c2)) (exact ⟨XN.out.2 1, X4.out.2.1, X4.out.2.2.1, X4.out.2.2.2.1, X4.out.2.2.2.2⟩)
        (first
         | (go_at_call_of 101 (Value.agg #[Value.int IntKind.i64 k1, Value.slice s1 n1 c1])
            refine (IH.out _ t1 _ H1.out F1.out Z1.out).mono ?_
            rintro e w1 ⟨rfl, hb⟩
            replace B := Lib.hid (below_thru B.out (Nat.le_refl _) hb)
            replace H1 := Lib.hid (H1.out.below hb)
            replace H2 := Lib.hid (H2.out.below hb)
            replace XN := Lib.hid (XN.out.below hb)
            replace X4 := Lib.hid (X4.out.below hb)
            clear hb)
         | (go_at_call_of 101 (Value.agg #[Value.int IntKind.i64 k2, Value.slice s2 n2 c2])
            refine (IH.out _ t2 _ H2.out F2.out Z2.out).mono ?_
            rintro e w2 ⟨rfl, hb⟩
            replace B := Lib.hid (below_thru B.out (Nat.le_refl _) hb)
            replace H1 := Lib.hid (H1.out.below hb)
            replace H2 := Lib.hid (H2.out.below hb)
            replace XN := Lib.hid (XN.out.below hb)
            replace X4 := Lib.hid (X4.out.below hb)
            clear hb))
      go_wp2_with fail
      go_ret
      exact ⟨by rw [Ty.text_arrow]; rfl, B.out⟩
    · subst z1
      subst z2
      obtain ⟨t1, t2, k1, s1, n1, c1, k2, s2, n2, c2, b, off, hts, rfl, hbl0, g0, g1, g2, g3, ht1, ht2⟩ := two_of HN.out.symm HAT.out
      subst hts
      have X0 : Hid (FourAt w b off (.int .i64 k1) (.slice s1 n1 c1) (.int .i64 k2) (.slice s2 n2 c2)) := ⟨hbl0, g0, g1, g2, g3⟩
      clear HAT HN hbl0 g0 g1 g2 g3
      have F1 := Lib.hid (form_two HF.out).1
      have F2 := Lib.hid (form_two HF.out).2
      have z1 := t1.text_size
      have z2 := t2.text_size
      have hs2 := HS.out
      simp only [Ty.size, Ty.sizes] at hs2
      have Z1 := Lib.hid (show t1.size ≤ 1048577 by omega)
      have Z2 := Lib.hid (show t2.size ≤ 1048577 by omega)
      have m1 : ¬ (9223372036854775807 < 1 + t1.text.size) := by omega
      have m2 : ¬ (9223372036854775807 < 1 + t1.text.size + 1) := by omega
      have m3 : ¬ (9223372036854775807 < 1 + t1.text.size + 1 + t2.text.size) := by omega
      have m4 : ¬ (9223372036854775807 < 1 + t1.text.size + 1 + t2.text.size + 1) := by omega
      clear hs2 z1 z2
      have B : Hid (Below w.heap.size w (w.alloc (.cells #[.int .i64 5, .slice (some ⟨b, off, none⟩) 2 cap] 31))) := below_alloc _ _
      have H1 := Lib.hid (ht1.below B.out)
      have H2 := Lib.hid (ht2.below B.out)
      have X4 := Lib.hid (X0.out.below B.out)
      have XN : Hid (BoxAt (w.alloc (.cells #[.int .i64 5, .slice (some ⟨b, off, none⟩) 2 cap] 31)) w.heap.size #[.int .i64 5, .slice (some ⟨b, off, none⟩) 2 cap]) := BoxAt.new _ _ _
      clear ht1 ht2 X0
      go_enter Tryd.func101, Tryd.ntmps101
      go_wp2_with fail
      have hb := below_drew (w.alloc (.cells #[.int .i64 5, .slice (some ⟨b, off, none⟩) 2 cap] 31))
      replace B := Lib.hid (below_thru B.out (Nat.le_refl _) hb)
      replace H1 := Lib.hid (H1.out.below hb)
      replace H2 := Lib.hid (H2.out.below hb)
      replace XN := Lib.hid (XN.out.below hb)
      replace X4 := Lib.hid (X4.out.below hb)
      clear hb
      go_region_held3 (fun w' => w'.cell? ⟨w.heap.size, 1, none⟩ = some (.slice (some ⟨b, off, none⟩) 2 cap) ∧ w'.cell? ⟨b, off, none⟩ = some (.int .i64 k1) ∧ w'.cell? ⟨b, off + 1, none⟩ = some (.slice s1 n1 c1) ∧ w'.cell? ⟨b, off + 2, none⟩ = some (.int .i64 k2) ∧ w'.cell? ⟨b, off + 3, none⟩ = some (.slice s2 n2 c2)) (exact ⟨XN.out.2 1, X4.out.2.1, X4.out.2.2.1, X4.out.2.2.2.1, X4.out.2.2.2.2⟩)
        (first
         | (go_at_call_of 101 (Value.agg #[Value.int IntKind.i64 k1, Value.slice s1 n1 c1])
            refine (IH.out _ t1 _ H1.out F1.out Z1.out).mono ?_
            rintro e w1 ⟨rfl, hb⟩
            replace B := Lib.hid (below_thru B.out (Nat.le_refl _) hb)
            replace H1 := Lib.hid (H1.out.below hb)
            replace H2 := Lib.hid (H2.out.below hb)
            replace XN := Lib.hid (XN.out.below hb)
            replace X4 := Lib.hid (X4.out.below hb)
            clear hb)
         | (go_at_call_of 101 (Value.agg #[Value.int IntKind.i64 k2, Value.slice s2 n2 c2])
            refine (IH.out _ t2 _ H2.out F2.out Z2.out).mono ?_
            rintro e w2 ⟨rfl, hb⟩
            replace B := Lib.hid (below_thru B.out (Nat.le_refl _) hb)
            replace H1 := Lib.hid (H1.out.below hb)
            replace H2 := Lib.hid (H2.out.below hb)
            replace XN := Lib.hid (XN.out.below hb)
            replace X4 := Lib.hid (X4.out.below hb)
            clear hb))
      go_wp2_with fail
      go_ret
      exact ⟨by rw [Ty.text_pair]; rfl, B.out⟩
end Go.Proofs.YtdgfkmnnjhlpbaaDoor
/-
  Proved: spec.l7Text gives the text of an expression of the right form; the memory that was there stays as it was.
-/
namespace Go.Proofs.YtdgfkmnnjhlpbaaDoor
open Go.RowKit

set_option maxRecDepth 100000 in
set_option maxHeartbeats 8000000 in
theorem specExText : ∀ (d : Nat) (v : Value) (t : Ex) (w : World), ExAt w d v t → t.form = true → t.bulk ≤ 1048576 →
    Calls Tryd.prog 66 #[v] w fun e w' => e = .returned (.string t.text) ∧ Below w.heap.size w w'
  | 0, _, _, _, h, _, _ => h.elim
  | d + 1, v, .node kd nm n ty es, w, h, hform, hsz => by
    have IH : Hid (∀ (v : Value) (t : Ex) (w : World), ExAt w d v t → t.form = true → t.bulk ≤ 1048576 → Calls Tryd.prog 66 #[v] w fun e w' => e = .returned (.string t.text) ∧ Below w.heap.size w w') := specExText d
    obtain ⟨i0, hi, hz0, hz1, hz2⟩ := info_parts info_str
    have HI := Lib.hid hi; clear hi
    have HZ0 := Lib.hid hz0; clear hz0
    have HZ1 := Lib.hid hz1; clear hz1
    have HZ2 := Lib.hid hz2; clear hz2
    have HV := ex_parts h
    obtain ⟨c3, c4, sl, rfl, hk0, hk1, hn0, hn1, hnm, hty, a, cap, rfl, hcap, hcap2, hat⟩ := h
    obtain ⟨k', nm', n', tk, ta, tn, tc, sa, sn, sc, hv⟩ := HV
    injection hv with hv
    injection hv with hv
    simp at hv
    obtain ⟨rfl, rfl, rfl, rfl, rfl, rfl, rfl, rfl⟩ := hv
    have HAT := Lib.hid hat; clear hat
    have HTY := Lib.hid hty; clear hty
    have HFORM := Lib.hid hform
    have HPA := Lib.hid (form_parts hform)
    have HNR := Lib.hid (form_num hform)
    have HKR := Lib.hid (form_kind hform)
    clear hform
    have hbk : (Ex.node kd nm n ty es).bulk = nm.size + (ty.size - 1) + Ex.bulks es := rfl
    have HSZ : Hid (Ex.bulks es ≤ 1048576) := by show _ ≤ _; omega
    have HNS : Hid (nm.size ≤ 1048576) := by show _ ≤ _; omega
    have HTZ : Hid (ty.size ≤ 1048577) := by show _ ≤ _; omega
    have hlen : es.length ≤ 1048576 := by have := Ex.length_le es; omega
    have HTL : Hid ((Ex.texts es).length = es.length) := Ex.texts_length es
    have HTOT : Hid (total (Ex.texts es) ≤ 41943040) := by show _ ≤ _; have h1 := Ex.texts_size es HPA.out.1; omega
    clear hsz hbk hnm hn0 hn1 hk0 hk1 hcap hcap2
    have b5 := box_cell (Below.refl (w.heap.size + 1) (w.alloc (.cells #[.int .i64 kd, .string nm, .int .i64 n, .int .i64 tk, .slice ta tn tc, .slice a es.length cap] 51))) 5
    go_enter Tryd.func66, Tryd.ntmps66
    go_wp2_with fail
    go_loopw [3, 4] (fun v i wr => ∃ k : Nat, k ≤ es.length ∧ i = .int .i64 k ∧ wr.ownsRow (w.heap.size + 1) 9 1 v k ((Ex.texts (es.take k)).map Value.string) ∧ Below (w.heap.size + 1) (w.alloc (.cells #[.int .i64 kd, .string nm, .int .i64 n, .int .i64 tk, .slice ta tn tc, .slice a es.length cap] 51)) wr) (fun _ i _ => es.length - (intOf i).toNat)
    case atStart => exact ⟨0, by omega, rfl, by simpa [Ex.texts] using World.ownsRow_made (w.alloc (.cells #[.int .i64 kd, .string nm, .int .i64 n, .int .i64 tk, .slice ta tn tc, .slice a es.length cap] 51)) #[] 0 (base := w.heap.size + 1) (by simp) (Nat.zero_le _) rfl, (Below.refl _ _).alloc (by simp) _⟩
    case round =>
      obtain ⟨k, hk, rfl, hown, hb⟩ := hrel
      clear b5
      have HO2 := Lib.hid hown; clear hown
      have HB2 := Lib.hid hb; clear hb
      have b5 := box_cell HB2.out 5
      have HBB := Lib.hid (box_below HB2.out)
      by_cases hlt : k < es.length
      · obtain ⟨b, off, x0, x1, x2, x3, x4, x5, rfl, hbl, hc0, hc1, hc2, hc3, hc4, hc5, ht⟩ := HAT.out k hlt
        have hg := Ex.bulk_get es k hlt
        have hzk : es[k].bulk ≤ 1048576 := by have := HSZ.out; omega
        have hfk := Ex.forms_get es k hlt HPA.out.1
        obtain ⟨yk, ynm, yn, ytk, yta, ytn, ytc, ya, ym, yc, rfl, rfl, rfl, rfl, rfl, rfl⟩ := ex_cells ht
        have e0 : wr.cell? ⟨b, off + k * 6, none⟩ = some (.int .i64 yk) := by rw [HBB.out.cell (p := ⟨b, off + k * 6, none⟩) hbl]; exact hc0
        have e1 : wr.cell? ⟨b, off + k * 6 + 1, none⟩ = some (.string ynm) := by rw [HBB.out.cell (p := ⟨b, off + k * 6 + 1, none⟩) hbl]; exact hc1
        have e2 : wr.cell? ⟨b, off + k * 6 + 2, none⟩ = some (.int .i64 yn) := by rw [HBB.out.cell (p := ⟨b, off + k * 6 + 2, none⟩) hbl]; exact hc2
        have e3 : wr.cell? ⟨b, off + k * 6 + 3, none⟩ = some (.int .i64 ytk) := by rw [HBB.out.cell (p := ⟨b, off + k * 6 + 3, none⟩) hbl]; exact hc3
        have e4 : wr.cell? ⟨b, off + k * 6 + 4, none⟩ = some (.slice yta ytn ytc) := by rw [HBB.out.cell (p := ⟨b, off + k * 6 + 4, none⟩) hbl]; exact hc4
        have e5 : wr.cell? ⟨b, off + k * 6 + 5, none⟩ = some (.slice ya ym yc) := by rw [HBB.out.cell (p := ⟨b, off + k * 6 + 5, none⟩) hbl]; exact hc5
        have HTE := Lib.hid (ht.below HBB.out)
        have HFK := Lib.hid hfk
        clear ht hc0 hc1 hc2 hc3 hc4 hc5 hg hfk
        go_wp2_with fail
        refine (IH.out _ _ _ HTE.out HFK.out hzk).mono ?_
        rintro e w1 ⟨rfl, hb1⟩
        have HO1 := Lib.hid (own_below HO2.out hb1)
        have HB1 := Lib.hid (box_next HB2.out hb1)
        clear hb1 HO2 e0 e1 e2 e3 e4 e5 b5
        have b5 := box_cell HB1.out 5
        have hzw : (w.heap.size + 1) ≤ w1.heap.size := by have := HB1.out.size; simpa using this
        go_wp2_with (at_builtin; go_must (refine wpList_append_own_at _ rfl _ _ 80 rfl (w.heap.size + 1) 9 i0 (.string ⟨#[]⟩) 1 16 Tryd.underlying80 HI.out HZ0.out HZ1.out HZ2.out rfl (by decide) _ _ _ rfl (HO1.out.alloc _) ⟨w1.heap.size, 0, none⟩ 1 1 [.string es[k].text] rfl rfl (new_one _ _ _) (by simp [Value.oneCell']) (by unfold maxLen; omega) (by omega) (by simp; omega) ?_); intro v2 w2 hown2 hg2 _ hblk2; refine Hid.out ?_)
        refine Lib.hid ?_
        have hb2 := (HB1.out.alloc hzw _).grown hg2 (by simp; omega) (fun k hk => (HO1.out.lt k hk).1)
        have hown3 : w2.ownsRow (w.heap.size + 1) 9 1 v2 (k + 1) ((Ex.texts (es.take (k + 1))).map Value.string) := by
          rw [Ex.texts_take es k hlt, List.map_append]; exact hown2
        have HO2 := Lib.hid hown3; clear hown3 hown2 hg2 hblk2
        have HB3 := Lib.hid hb2; clear hb2 b5
        have b5 := box_cell HB3.out 5
        go_wp2_with fail
        exact ⟨⟨k + 1, by omega, by go_num, HO2.out, HB3.out⟩, by simp [intOf]; omega⟩
      · obtain rfl : k = es.length := by omega
        have hl2 := HO2.out
        rw [List.take_length, ← HTL.out] at hl2
        have HL2 := Lib.hid hl2; clear hl2 HO2
        have HST := Lib.hid (Strs.of_own HL2.out)
        have HTM : Hid (Ex.text (.node kd nm n ty es) = exSay kd nm (numB n) ty.text n (Ex.texts es)) := by show _ = _; simp only [Ex.text]
        have HAL := HPA.out.2.1
        have HTF := HPA.out.2.2
        have hkr := HKR.out
        rcases (by omega : kd = 1 ∨ kd = 2 ∨ kd = 3 ∨ kd = 4 ∨ kd = 5 ∨ kd = 6 ∨ kd = 7 ∨ kd = 8 ∨ kd = 9 ∨ kd = 10 ∨ kd = 11 ∨ kd = 12 ∨ kd = 13 ∨ kd = 14) with rfl | rfl | rfl | rfl | rfl | rfl | rfl | rfl | rfl | rfl | rfl | rfl | rfl | rfl
        · have hq : es.length = 0 := by have : arity 1 = 0 := rfl; omega
          have HXL : Hid ((Ex.texts es).length = 0) := by show _ = _; rw [HTL.out]; exact hq
          clear b5 HAL hkr
          have b0 := box_cell HB2.out 0
          have b1 := box_cell HB2.out 1
          have b2 := box_cell HB2.out 2
          have b3 := box_cell HB2.out 3
          have b4 := box_cell HB2.out 4
          have b5 := box_cell HB2.out 5
          clear HTF
          have hnr := HNR.out
          have hnz := numB_size n (by omega) (by omega)
          have hns := HNS.out
          have HBF := Lib.hid HBB.out
          go_wp2_with fail
          refine (specFormat n (by omega) (by omega) _).mono ?_
          rintro e w1 ⟨rfl, hb1⟩
          replace HBF := Lib.hid (below_thru HBF.out (Nat.le_refl _) hb1)
          clear hb1
          have m1 : ¬ (9223372036854775807 < 1 + (ByteArray.mk (Lib.itoa n).toArray).size) := by have : (ByteArray.mk (Lib.itoa n).toArray).size ≤ 21 := hnz; omega
          clear hq
          go_wp2_with fail
          go_ret
          exact ⟨by rw [HTM.out]; rfl, HBF.out⟩
        · have hq : es.length = 0 := by have : arity 2 = 0 := rfl; omega
          have HXL : Hid ((Ex.texts es).length = 0) := by show _ = _; rw [HTL.out]; exact hq
          clear b5 HAL hkr
          have b0 := box_cell HB2.out 0
          have b1 := box_cell HB2.out 1
          have b2 := box_cell HB2.out 2
          have b3 := box_cell HB2.out 3
          have b4 := box_cell HB2.out 4
          have b5 := box_cell HB2.out 5
          clear HTF
          have hnr := HNR.out
          have hnz := numB_size n (by omega) (by omega)
          have hns := HNS.out
          have HBF := Lib.hid HBB.out
          clear hq
          go_wp2_with fail
          go_ret
          exact ⟨by rw [HTM.out]; rfl, HBF.out⟩
        · have hq : es.length = 1 := by have : arity 3 = 1 := rfl; omega
          have HXL : Hid ((Ex.texts es).length = 1) := by show _ = _; rw [HTL.out]; exact hq
          have HX := Lib.hid (xone_of HXL.out)
          clear b5 HAL hkr
          have b0 := box_cell HB2.out 0
          have b1 := box_cell HB2.out 1
          have b2 := box_cell HB2.out 2
          have b3 := box_cell HB2.out 3
          have b4 := box_cell HB2.out 4
          have b5 := box_cell HB2.out 5
          have HNF := Lib.hid (note_form (by simpa [typeFor] using HTF : ty.note = true))
          have HTS := ty.text_size
          have htz := HTZ.out
          clear HTF
          have hnr := HNR.out
          have hnz := numB_size n (by omega) (by omega)
          have hns := HNS.out
          have HBF := Lib.hid HBB.out
          have HT2 := Lib.hid (text_one 3 nm n ty es HXL.out)
          clear HX
          have htt := HTOT.out
          have hp0 : 0 < (Ex.texts es).length := by rw [HXL.out]; omega
          have s0 := total_get (Ex.texts es) 0 hp0
          have HL3 := HL2.out
          rw [HXL.out] at HL3
          obtain ⟨oa, oc, rfl⟩ := own_slice HL3
          clear HL3
          obtain ⟨ob, off, rfl, HCC⟩ := strs_pos HST.out hp0
          have C0 := Lib.hid (HCC 0 hp0)
          clear HCC
          rw [Nat.add_zero] at C0
          generalize (Ex.texts es)[0]'hp0 = x0 at HT2 s0 C0
          clear hq
          have CF : ∀ (X0 : World) (v : Value) (_ : TyAt X0 d v ty), Calls Tryd.prog 101 #[v] X0 fun e w' => e = .returned (.string ty.text) ∧ Below X0.heap.size X0 w' := fun X0 v h => specText d v ty X0 h HNF.out.1 HTZ.out
          have HCF := Lib.hid CF; clear CF
          generalize ty.text = ts at HCF HT2 HTS
          have m0 : ¬ (9223372036854775807 < 2 + nm.size) := by omega
          have m1 : ¬ (9223372036854775807 < 2 + nm.size + 1) := by omega
          have m2 : ¬ (9223372036854775807 < 2 + nm.size + 1 + ts.size) := by omega
          have m3 : ¬ (9223372036854775807 < 2 + nm.size + 1 + ts.size + 1) := by omega
          have m4 : ¬ (9223372036854775807 < 2 + nm.size + 1 + ts.size + 1 + x0.size) := by omega
          have m5 : ¬ (9223372036854775807 < 2 + nm.size + 1 + ts.size + 1 + x0.size + 1) := by omega
          clear hnr hnz hns HTS htz htt s0
          go_wp2_with fail
          have hbd := below_drew wr
          replace HBF := Lib.hid (below_thru HBF.out (Nat.le_refl _) hbd)
          have XR := Lib.hid ((box_of HB2.out).below hbd)
          have HTR := Lib.hid ((HTY.out.below HBB.out).below hbd)
          replace C0 := Lib.hid (C0.out.below hbd)
          clear hbd b0 b1 b2 b3 b4 b5
          go_region_held3 (fun w' => w'.cell? ⟨w.heap.size, 1, none⟩ = some (.string nm) ∧ w'.cell? ⟨w.heap.size, 3, none⟩ = some (.int .i64 tk) ∧ w'.cell? ⟨w.heap.size, 4, none⟩ = some (.slice ta tn tc) ∧ w'.cell? ⟨ob, off, none⟩ = some (.string x0)) (exact ⟨XR.out.2 1, XR.out.2 3, XR.out.2 4, C0.out.2⟩)
            (first
             | (go_at_call 101
                refine (HCF.out _ _ HTR.out).mono ?_
                rintro e w5 ⟨rfl, hb⟩
                replace HBF := Lib.hid (below_thru HBF.out (Nat.le_refl _) hb)
                replace XR := Lib.hid (XR.out.below hb)
                replace C0 := Lib.hid (C0.out.below hb)
                clear hb))
          go_wp2_with fail
          go_ret
          exact ⟨by rw [HT2.out]; rfl, HBF.out⟩
        · have hq : es.length = 2 := by have : arity 4 = 2 := rfl; omega
          have HXL : Hid ((Ex.texts es).length = 2) := by show _ = _; rw [HTL.out]; exact hq
          have HX := Lib.hid (xtwo_of HXL.out)
          clear b5 HAL hkr
          have b0 := box_cell HB2.out 0
          have b1 := box_cell HB2.out 1
          have b2 := box_cell HB2.out 2
          have b3 := box_cell HB2.out 3
          have b4 := box_cell HB2.out 4
          have b5 := box_cell HB2.out 5
          clear HTF
          have hnr := HNR.out
          have hnz := numB_size n (by omega) (by omega)
          have hns := HNS.out
          have HBF := Lib.hid HBB.out
          have HT2 := Lib.hid (text_two 4 nm n ty es HXL.out)
          clear HX
          have htt := HTOT.out
          have hp0 : 0 < (Ex.texts es).length := by rw [HXL.out]; omega
          have s0 := total_get (Ex.texts es) 0 hp0
          have hp1 : 1 < (Ex.texts es).length := by rw [HXL.out]; omega
          have s1 := total_get (Ex.texts es) 1 hp1
          have HL3 := HL2.out
          rw [HXL.out] at HL3
          obtain ⟨oa, oc, rfl⟩ := own_slice HL3
          clear HL3
          obtain ⟨ob, off, rfl, HCC⟩ := strs_pos HST.out hp0
          have C0 := Lib.hid (HCC 0 hp0)
          have C1 := Lib.hid (HCC 1 hp1)
          clear HCC
          rw [Nat.add_zero] at C0
          generalize (Ex.texts es)[0]'hp0 = x0 at HT2 s0 C0
          generalize (Ex.texts es)[1]'hp1 = x1 at HT2 s1 C1
          clear hq
          have c0 := C0.out.2
          have c1 := C1.out.2
          have m0 : ¬ (9223372036854775807 < 1 + x0.size) := by omega
          have m1 : ¬ (9223372036854775807 < 1 + x0.size + 1) := by omega
          have m2 : ¬ (9223372036854775807 < 1 + x0.size + 1 + x1.size) := by omega
          have m3 : ¬ (9223372036854775807 < 1 + x0.size + 1 + x1.size + 1) := by omega
          clear hnr hnz hns htt s0 s1
          go_wp2_with fail
          go_quiet (fail)
          go_wp2_with fail
          go_ret
          exact ⟨by rw [HT2.out]; rfl, below_thru HBF.out (Nat.le_refl _) (below_qs (Below.refl _ _) nq)⟩
        · have hq : es.length = 0 := by have : arity 5 = 0 := rfl; omega
          have HXL : Hid ((Ex.texts es).length = 0) := by show _ = _; rw [HTL.out]; exact hq
          clear b5 HAL hkr
          have b0 := box_cell HB2.out 0
          have b1 := box_cell HB2.out 1
          have b2 := box_cell HB2.out 2
          have b3 := box_cell HB2.out 3
          have b4 := box_cell HB2.out 4
          have b5 := box_cell HB2.out 5
          clear HTF
          have hnr := HNR.out
          have hnz := numB_size n (by omega) (by omega)
          have hns := HNS.out
          have HBF := Lib.hid HBB.out
          go_wp2_with fail
          refine (specFormat n (by omega) (by omega) _).mono ?_
          rintro e w1 ⟨rfl, hb1⟩
          replace HBF := Lib.hid (below_thru HBF.out (Nat.le_refl _) hb1)
          clear hb1
          clear hq
          go_wp2_with fail
          go_ret
          exact ⟨by rw [HTM.out]; rfl, HBF.out⟩
        · have hq : es.length = 2 := by have : arity 6 = 2 := rfl; omega
          have HXL : Hid ((Ex.texts es).length = 2) := by show _ = _; rw [HTL.out]; exact hq
          have HX := Lib.hid (xtwo_of HXL.out)
          clear b5 HAL hkr
          have b0 := box_cell HB2.out 0
          have b1 := box_cell HB2.out 1
          have b2 := box_cell HB2.out 2
          have b3 := box_cell HB2.out 3
          have b4 := box_cell HB2.out 4
          have b5 := box_cell HB2.out 5
          clear HTF
          have hnr := HNR.out
          have hnz := numB_size n (by omega) (by omega)
          have hns := HNS.out
          have HBF := Lib.hid HBB.out
          have HT2 := Lib.hid (text_two 6 nm n ty es HXL.out)
          clear HX
          have htt := HTOT.out
          have hp0 : 0 < (Ex.texts es).length := by rw [HXL.out]; omega
          have s0 := total_get (Ex.texts es) 0 hp0
          have hp1 : 1 < (Ex.texts es).length := by rw [HXL.out]; omega
          have s1 := total_get (Ex.texts es) 1 hp1
          have HL3 := HL2.out
          rw [HXL.out] at HL3
          obtain ⟨oa, oc, rfl⟩ := own_slice HL3
          clear HL3
          obtain ⟨ob, off, rfl, HCC⟩ := strs_pos HST.out hp0
          have C0 := Lib.hid (HCC 0 hp0)
          have C1 := Lib.hid (HCC 1 hp1)
          clear HCC
          rw [Nat.add_zero] at C0
          generalize (Ex.texts es)[0]'hp0 = x0 at HT2 s0 C0
          generalize (Ex.texts es)[1]'hp1 = x1 at HT2 s1 C1
          clear hq
          have c0 := C0.out.2
          have c1 := C1.out.2
          have m0 : ¬ (9223372036854775807 < 1 + x0.size) := by omega
          have m1 : ¬ (9223372036854775807 < 1 + x0.size + 1) := by omega
          have m2 : ¬ (9223372036854775807 < 1 + x0.size + 1 + x1.size) := by omega
          have m3 : ¬ (9223372036854775807 < 1 + x0.size + 1 + x1.size + 1) := by omega
          clear hnr hnz hns htt s0 s1
          go_wp2_with fail
          go_quiet (fail)
          go_wp2_with fail
          go_ret
          exact ⟨by rw [HT2.out]; rfl, below_thru HBF.out (Nat.le_refl _) (below_qs (Below.refl _ _) nq)⟩
        · have hq : es.length = 2 := by have : arity 7 = 2 := rfl; omega
          have HXL : Hid ((Ex.texts es).length = 2) := by show _ = _; rw [HTL.out]; exact hq
          have HX := Lib.hid (xtwo_of HXL.out)
          clear b5 HAL hkr
          have b0 := box_cell HB2.out 0
          have b1 := box_cell HB2.out 1
          have b2 := box_cell HB2.out 2
          have b3 := box_cell HB2.out 3
          have b4 := box_cell HB2.out 4
          have b5 := box_cell HB2.out 5
          clear HTF
          have hnr := HNR.out
          have hnz := numB_size n (by omega) (by omega)
          have hns := HNS.out
          have HBF := Lib.hid HBB.out
          have HT2 := Lib.hid (text_two 7 nm n ty es HXL.out)
          clear HX
          have htt := HTOT.out
          have hp0 : 0 < (Ex.texts es).length := by rw [HXL.out]; omega
          have s0 := total_get (Ex.texts es) 0 hp0
          have hp1 : 1 < (Ex.texts es).length := by rw [HXL.out]; omega
          have s1 := total_get (Ex.texts es) 1 hp1
          have HL3 := HL2.out
          rw [HXL.out] at HL3
          obtain ⟨oa, oc, rfl⟩ := own_slice HL3
          clear HL3
          obtain ⟨ob, off, rfl, HCC⟩ := strs_pos HST.out hp0
          have C0 := Lib.hid (HCC 0 hp0)
          have C1 := Lib.hid (HCC 1 hp1)
          clear HCC
          rw [Nat.add_zero] at C0
          generalize (Ex.texts es)[0]'hp0 = x0 at HT2 s0 C0
          generalize (Ex.texts es)[1]'hp1 = x1 at HT2 s1 C1
          clear hq
          have c0 := C0.out.2
          have c1 := C1.out.2
          have m0 : ¬ (9223372036854775807 < 1 + x0.size) := by omega
          have m1 : ¬ (9223372036854775807 < 1 + x0.size + 1) := by omega
          have m2 : ¬ (9223372036854775807 < 1 + x0.size + 1 + x1.size) := by omega
          have m3 : ¬ (9223372036854775807 < 1 + x0.size + 1 + x1.size + 1) := by omega
          clear hnr hnz hns htt s0 s1
          go_wp2_with fail
          go_quiet (fail)
          go_wp2_with fail
          go_ret
          exact ⟨by rw [HT2.out]; rfl, below_thru HBF.out (Nat.le_refl _) (below_qs (Below.refl _ _) nq)⟩
        · have hq : es.length = 0 := by have : arity 8 = 0 := rfl; omega
          have HXL : Hid ((Ex.texts es).length = 0) := by show _ = _; rw [HTL.out]; exact hq
          clear b5 HAL hkr
          have b0 := box_cell HB2.out 0
          have b1 := box_cell HB2.out 1
          have b2 := box_cell HB2.out 2
          have b3 := box_cell HB2.out 3
          have b4 := box_cell HB2.out 4
          have b5 := box_cell HB2.out 5
          clear HTF
          have hnr := HNR.out
          have hnz := numB_size n (by omega) (by omega)
          have hns := HNS.out
          have HBF := Lib.hid HBB.out
          clear hq
          rcases form_bool HFORM.out with rfl | rfl
          · go_wp2_with fail
            go_ret
            exact ⟨by rw [HTM.out]; rfl, HBF.out⟩
          · go_wp2_with fail
            go_ret
            exact ⟨by rw [HTM.out]; rfl, HBF.out⟩
        · have hq : es.length = 3 := by have : arity 9 = 3 := rfl; omega
          have HXL : Hid ((Ex.texts es).length = 3) := by show _ = _; rw [HTL.out]; exact hq
          have HX := Lib.hid (xthree_of HXL.out)
          clear b5 HAL hkr
          have b0 := box_cell HB2.out 0
          have b1 := box_cell HB2.out 1
          have b2 := box_cell HB2.out 2
          have b3 := box_cell HB2.out 3
          have b4 := box_cell HB2.out 4
          have b5 := box_cell HB2.out 5
          clear HTF
          have hnr := HNR.out
          have hnz := numB_size n (by omega) (by omega)
          have hns := HNS.out
          have HBF := Lib.hid HBB.out
          have HT2 := Lib.hid (text_three 9 nm n ty es HXL.out)
          clear HX
          have htt := HTOT.out
          have hp0 : 0 < (Ex.texts es).length := by rw [HXL.out]; omega
          have s0 := total_get (Ex.texts es) 0 hp0
          have hp1 : 1 < (Ex.texts es).length := by rw [HXL.out]; omega
          have s1 := total_get (Ex.texts es) 1 hp1
          have hp2 : 2 < (Ex.texts es).length := by rw [HXL.out]; omega
          have s2 := total_get (Ex.texts es) 2 hp2
          have HL3 := HL2.out
          rw [HXL.out] at HL3
          obtain ⟨oa, oc, rfl⟩ := own_slice HL3
          clear HL3
          have CJ : Calls Tryd.prog 62 #[.slice oa 3 oc, .string ⟨#[32]⟩] wr fun e w' => e = .returned (.string ((Ex.texts es)[0]'hp0 ++ ⟨#[32]⟩ ++ (Ex.texts es)[1]'hp1 ++ ⟨#[32]⟩ ++ (Ex.texts es)[2]'hp2)) ∧ Below wr.heap.size wr w' := by
            have h := specJoin _ (Ex.texts es) ⟨#[32]⟩ (by rw [HXL.out]; omega) (by omega) (by decide) wr HST.out
            unfold JoinEnd at h
            rw [join_three HXL.out] at h
            exact h
          have HCJ := Lib.hid CJ; clear CJ
          generalize (Ex.texts es)[0]'hp0 = x0 at HT2 s0 HCJ
          generalize (Ex.texts es)[1]'hp1 = x1 at HT2 s1 HCJ
          generalize (Ex.texts es)[2]'hp2 = x2 at HT2 s2 HCJ
          have HT3 : Hid ((Ex.node 9 nm n ty es).text = ⟨#[40, 105, 102, 32]⟩ ++ (x0 ++ ⟨#[32]⟩ ++ x1 ++ ⟨#[32]⟩ ++ x2) ++ ⟨#[41]⟩) := by
            show _ = _
            rw [HT2.out]
            rfl
          have hjs : (x0 ++ ⟨#[32]⟩ ++ x1 ++ ⟨#[32]⟩ ++ x2).size ≤ 200000000 := by simp only [ByteArray.size_append, sizes_one]; omega
          generalize x0 ++ ⟨#[32]⟩ ++ x1 ++ ⟨#[32]⟩ ++ x2 = J at HT3 HCJ hjs
          have m0 : ¬ (9223372036854775807 < 4 + J.size) := by omega
          have m1 : ¬ (9223372036854775807 < 4 + J.size + 1) := by omega
          clear hnr hnz hns htt hjs hq s0 hp0 s1 hp1 s2 hp2
          go_wp2_with fail
          refine HCJ.out.mono ?_
          rintro e w5 ⟨rfl, hb⟩
          replace HBF := Lib.hid (below_thru HBF.out (Nat.le_refl _) hb)
          clear hb
          go_wp2_with fail
          go_ret
          exact ⟨by rw [HT3.out]; rfl, HBF.out⟩
        · have hq : es.length = 2 := by have : arity 10 = 2 := rfl; omega
          have HXL : Hid ((Ex.texts es).length = 2) := by show _ = _; rw [HTL.out]; exact hq
          have HX := Lib.hid (xtwo_of HXL.out)
          clear b5 HAL hkr
          have b0 := box_cell HB2.out 0
          have b1 := box_cell HB2.out 1
          have b2 := box_cell HB2.out 2
          have b3 := box_cell HB2.out 3
          have b4 := box_cell HB2.out 4
          have b5 := box_cell HB2.out 5
          clear HTF
          have hnr := HNR.out
          have hnz := numB_size n (by omega) (by omega)
          have hns := HNS.out
          have HBF := Lib.hid HBB.out
          have HT2 := Lib.hid (text_two 10 nm n ty es HXL.out)
          clear HX
          have htt := HTOT.out
          have hp0 : 0 < (Ex.texts es).length := by rw [HXL.out]; omega
          have s0 := total_get (Ex.texts es) 0 hp0
          have hp1 : 1 < (Ex.texts es).length := by rw [HXL.out]; omega
          have s1 := total_get (Ex.texts es) 1 hp1
          have HL3 := HL2.out
          rw [HXL.out] at HL3
          obtain ⟨oa, oc, rfl⟩ := own_slice HL3
          clear HL3
          obtain ⟨ob, off, rfl, HCC⟩ := strs_pos HST.out hp0
          have C0 := Lib.hid (HCC 0 hp0)
          have C1 := Lib.hid (HCC 1 hp1)
          clear HCC
          rw [Nat.add_zero] at C0
          generalize (Ex.texts es)[0]'hp0 = x0 at HT2 s0 C0
          generalize (Ex.texts es)[1]'hp1 = x1 at HT2 s1 C1
          clear hq
          have c0 := C0.out.2
          have c1 := C1.out.2
          have m0 : ¬ (9223372036854775807 < 1 + x0.size) := by omega
          have m1 : ¬ (9223372036854775807 < 1 + x0.size + 1) := by omega
          have m2 : ¬ (9223372036854775807 < 1 + x0.size + 1 + x1.size) := by omega
          have m3 : ¬ (9223372036854775807 < 1 + x0.size + 1 + x1.size + 1) := by omega
          clear hnr hnz hns htt s0 s1
          go_wp2_with fail
          go_quiet (fail)
          go_wp2_with fail
          go_ret
          exact ⟨by rw [HT2.out]; rfl, below_thru HBF.out (Nat.le_refl _) (below_qs (Below.refl _ _) nq)⟩
        · have hq : es.length = 1 := by have : arity 11 = 1 := rfl; omega
          have HXL : Hid ((Ex.texts es).length = 1) := by show _ = _; rw [HTL.out]; exact hq
          have HX := Lib.hid (xone_of HXL.out)
          clear b5 HAL hkr
          have b0 := box_cell HB2.out 0
          have b1 := box_cell HB2.out 1
          have b2 := box_cell HB2.out 2
          have b3 := box_cell HB2.out 3
          have b4 := box_cell HB2.out 4
          have b5 := box_cell HB2.out 5
          clear HTF
          have hnr := HNR.out
          have hnz := numB_size n (by omega) (by omega)
          have hns := HNS.out
          have HBF := Lib.hid HBB.out
          have HT2 := Lib.hid (text_one 11 nm n ty es HXL.out)
          clear HX
          have htt := HTOT.out
          have hp0 : 0 < (Ex.texts es).length := by rw [HXL.out]; omega
          have s0 := total_get (Ex.texts es) 0 hp0
          have HL3 := HL2.out
          rw [HXL.out] at HL3
          obtain ⟨oa, oc, rfl⟩ := own_slice HL3
          clear HL3
          obtain ⟨ob, off, rfl, HCC⟩ := strs_pos HST.out hp0
          have C0 := Lib.hid (HCC 0 hp0)
          clear HCC
          rw [Nat.add_zero] at C0
          generalize (Ex.texts es)[0]'hp0 = x0 at HT2 s0 C0
          clear hq
          have c0 := C0.out.2
          have m0 : ¬ (9223372036854775807 < 5 + x0.size) := by omega
          have m1 : ¬ (9223372036854775807 < 5 + x0.size + 1) := by omega
          go_wp2_with fail
          go_ret
          exact ⟨by rw [HT2.out]; rfl, HBF.out⟩
        · have hq : es.length = 1 := by have : arity 12 = 1 := rfl; omega
          have HXL : Hid ((Ex.texts es).length = 1) := by show _ = _; rw [HTL.out]; exact hq
          have HX := Lib.hid (xone_of HXL.out)
          clear b5 HAL hkr
          have b0 := box_cell HB2.out 0
          have b1 := box_cell HB2.out 1
          have b2 := box_cell HB2.out 2
          have b3 := box_cell HB2.out 3
          have b4 := box_cell HB2.out 4
          have b5 := box_cell HB2.out 5
          clear HTF
          have hnr := HNR.out
          have hnz := numB_size n (by omega) (by omega)
          have hns := HNS.out
          have HBF := Lib.hid HBB.out
          have HT2 := Lib.hid (text_one 12 nm n ty es HXL.out)
          clear HX
          have htt := HTOT.out
          have hp0 : 0 < (Ex.texts es).length := by rw [HXL.out]; omega
          have s0 := total_get (Ex.texts es) 0 hp0
          have HL3 := HL2.out
          rw [HXL.out] at HL3
          obtain ⟨oa, oc, rfl⟩ := own_slice HL3
          clear HL3
          obtain ⟨ob, off, rfl, HCC⟩ := strs_pos HST.out hp0
          have C0 := Lib.hid (HCC 0 hp0)
          clear HCC
          rw [Nat.add_zero] at C0
          generalize (Ex.texts es)[0]'hp0 = x0 at HT2 s0 C0
          clear hq
          have c0 := C0.out.2
          have m0 : ¬ (9223372036854775807 < 5 + x0.size) := by omega
          have m1 : ¬ (9223372036854775807 < 5 + x0.size + 1) := by omega
          go_wp2_with fail
          go_ret
          exact ⟨by rw [HT2.out]; rfl, HBF.out⟩
        · have hq : es.length = 1 := by have : arity 13 = 1 := rfl; omega
          have HXL : Hid ((Ex.texts es).length = 1) := by show _ = _; rw [HTL.out]; exact hq
          have HX := Lib.hid (xone_of HXL.out)
          clear b5 HAL hkr
          have b0 := box_cell HB2.out 0
          have b1 := box_cell HB2.out 1
          have b2 := box_cell HB2.out 2
          have b3 := box_cell HB2.out 3
          have b4 := box_cell HB2.out 4
          have b5 := box_cell HB2.out 5
          have HNF := Lib.hid (note_form (by simpa [typeFor] using HTF : ty.note = true))
          have HTS := ty.text_size
          have htz := HTZ.out
          clear HTF
          have hnr := HNR.out
          have hnz := numB_size n (by omega) (by omega)
          have hns := HNS.out
          have HBF := Lib.hid HBB.out
          have HT2 := Lib.hid (text_one 13 nm n ty es HXL.out)
          clear HX
          have htt := HTOT.out
          have hp0 : 0 < (Ex.texts es).length := by rw [HXL.out]; omega
          have s0 := total_get (Ex.texts es) 0 hp0
          have HL3 := HL2.out
          rw [HXL.out] at HL3
          obtain ⟨oa, oc, rfl⟩ := own_slice HL3
          clear HL3
          obtain ⟨ob, off, rfl, HCC⟩ := strs_pos HST.out hp0
          have C0 := Lib.hid (HCC 0 hp0)
          clear HCC
          rw [Nat.add_zero] at C0
          generalize (Ex.texts es)[0]'hp0 = x0 at HT2 s0 C0
          clear hq
          have CF : ∀ (X0 : World) (v : Value) (_ : TyAt X0 d v ty), Calls Tryd.prog 101 #[v] X0 fun e w' => e = .returned (.string ty.text) ∧ Below X0.heap.size X0 w' := fun X0 v h => specText d v ty X0 h HNF.out.1 HTZ.out
          have HCF := Lib.hid CF; clear CF
          generalize ty.text = ts at HCF HT2 HTS
          have m0 : ¬ (9223372036854775807 < 1 + x0.size) := by omega
          have m1 : ¬ (9223372036854775807 < 1 + x0.size + 1) := by omega
          have m2 : ¬ (9223372036854775807 < 1 + x0.size + 1 + ts.size) := by omega
          have m3 : ¬ (9223372036854775807 < 1 + x0.size + 1 + ts.size + 1) := by omega
          clear hnr hnz hns HTS htz htt s0
          go_wp2_with fail
          have hbd := below_drew wr
          replace HBF := Lib.hid (below_thru HBF.out (Nat.le_refl _) hbd)
          have XR := Lib.hid ((box_of HB2.out).below hbd)
          have HTR := Lib.hid ((HTY.out.below HBB.out).below hbd)
          replace C0 := Lib.hid (C0.out.below hbd)
          clear hbd b0 b1 b2 b3 b4 b5
          go_region_held3 (fun w' => w'.cell? ⟨w.heap.size, 3, none⟩ = some (.int .i64 tk) ∧ w'.cell? ⟨w.heap.size, 4, none⟩ = some (.slice ta tn tc) ∧ w'.cell? ⟨ob, off, none⟩ = some (.string x0)) (exact ⟨XR.out.2 3, XR.out.2 4, C0.out.2⟩)
            (first
             | (go_at_call 101
                refine (HCF.out _ _ HTR.out).mono ?_
                rintro e w5 ⟨rfl, hb⟩
                replace HBF := Lib.hid (below_thru HBF.out (Nat.le_refl _) hb)
                replace XR := Lib.hid (XR.out.below hb)
                replace C0 := Lib.hid (C0.out.below hb)
                clear hb))
          go_wp2_with fail
          go_ret
          exact ⟨by rw [HT2.out]; rfl, HBF.out⟩
        · have hq : es.length = 1 := by have : arity 14 = 1 := rfl; omega
          have HXL : Hid ((Ex.texts es).length = 1) := by show _ = _; rw [HTL.out]; exact hq
          have HX := Lib.hid (xone_of HXL.out)
          clear b5 HAL hkr
          have b0 := box_cell HB2.out 0
          have b1 := box_cell HB2.out 1
          have b2 := box_cell HB2.out 2
          have b3 := box_cell HB2.out 3
          have b4 := box_cell HB2.out 4
          have b5 := box_cell HB2.out 5
          clear HTF
          have hnr := HNR.out
          have hnz := numB_size n (by omega) (by omega)
          have hns := HNS.out
          have HBF := Lib.hid HBB.out
          have HT2 := Lib.hid (text_one 14 nm n ty es HXL.out)
          clear HX
          have htt := HTOT.out
          have hp0 : 0 < (Ex.texts es).length := by rw [HXL.out]; omega
          have s0 := total_get (Ex.texts es) 0 hp0
          have HL3 := HL2.out
          rw [HXL.out] at HL3
          obtain ⟨oa, oc, rfl⟩ := own_slice HL3
          clear HL3
          obtain ⟨ob, off, rfl, HCC⟩ := strs_pos HST.out hp0
          have C0 := Lib.hid (HCC 0 hp0)
          clear HCC
          rw [Nat.add_zero] at C0
          generalize (Ex.texts es)[0]'hp0 = x0 at HT2 s0 C0
          clear hq
          have CI : ∀ (X0 : World), Calls Tryd.prog 53 #[.int .i64 n] X0 fun e w' => e = .returned (.string (numB n)) ∧ Below X0.heap.size X0 w' := fun X0 => specFormat n (by omega) (by omega) X0
          have HCI := Lib.hid CI; clear CI
          generalize numB n = fs at HCI HT2 hnz
          have m0 : ¬ (9223372036854775807 < 1 + fs.size) := by omega
          have m1 : ¬ (9223372036854775807 < 1 + fs.size + 1) := by omega
          have m2 : ¬ (9223372036854775807 < 1 + fs.size + 1 + x0.size) := by omega
          have m3 : ¬ (9223372036854775807 < 1 + fs.size + 1 + x0.size + 1) := by omega
          clear hnr hnz hns htt s0
          go_wp2_with fail
          have hbd := below_drew wr
          replace HBF := Lib.hid (below_thru HBF.out (Nat.le_refl _) hbd)
          have XR := Lib.hid ((box_of HB2.out).below hbd)
          have HTR := Lib.hid ((HTY.out.below HBB.out).below hbd)
          replace C0 := Lib.hid (C0.out.below hbd)
          clear hbd b0 b1 b2 b3 b4 b5
          go_region_held3 (fun w' => w'.cell? ⟨w.heap.size, 2, none⟩ = some (.int .i64 n) ∧ w'.cell? ⟨ob, off, none⟩ = some (.string x0)) (exact ⟨XR.out.2 2, C0.out.2⟩)
            (first
             | (go_at_call 53
                refine (HCI.out _).mono ?_
                rintro e w5 ⟨rfl, hb⟩
                replace HBF := Lib.hid (below_thru HBF.out (Nat.le_refl _) hb)
                replace XR := Lib.hid (XR.out.below hb)
                replace C0 := Lib.hid (C0.out.below hb)
                clear hb))
          go_wp2_with fail
          go_ret
          exact ⟨by rw [HT2.out]; rfl, HBF.out⟩
end Go.Proofs.YtdgfkmnnjhlpbaaDoor
/-
  Proved: impl.FormatPath writes a list of numbers with dots between them, the empty list as a dash; the memory that was there stays as it was. On these terms: at most 2^20 numbers; the library's table of powers of ten holds what the program's text lays.
-/
namespace Go.Proofs.YtdgfkmnnjhlpbaaDoor
open Go.RowKit

def Pow10At (w : World) : Prop := Lib.TabIs Tryd.prog w "internal/strconv.uint64pow10" .u64 Lib.pow10Tab
theorem Pow10At.below {w w' : World} (h : Pow10At w) (hb : Below w.heap.size w w') : Pow10At w' := Law.tab_below hb h
set_option maxRecDepth 100000 in
set_option maxHeartbeats 2000000 in
theorem implPathText (v : Value) (ns : List Int) (hn : ns.length ≤ 1048576) (hr : i64s ns) (w : World) (hp : Pow10At w) (h : Ints w v ns) :
    Calls Tryd.prog 74 #[v] w fun e w' => e = .returned (.string (pathText ns)) ∧ Below w.heap.size w w' := by
  obtain ⟨i0, hi, hz0, hz1, hz2⟩ := info_parts info_str
  have HR := Lib.hid hr; clear hr
  have HP := Lib.hid hp; clear hp
  obtain ⟨a, cap, rfl, hcap, hat⟩ := h
  have HC := Lib.hid hat; clear hat
  cases ns with
  | nil =>
    go_enter Tryd.func74, Tryd.ntmps74
    go_wp2_with fail
    go_ret
    exact ⟨rfl, Below.refl _ _⟩
  | cons n0 r0 =>
  have hpos : 0 < (n0 :: r0).length := by simp
  have HPT : Hid (pathText (n0 :: r0) = ⟨(Lib.join ((numerals (n0 :: r0)).map (·.data.toList)) [46]).toArray⟩) := rfl
  revert HPT hpos
  generalize n0 :: r0 = ns at *
  intro hpos HPT
  have qb : ((ns.length : Int) == 0) = false := by rw [beq_eq_false_iff_ne]; omega
  go_enter Tryd.func74, Tryd.ntmps74
  go_wp2_with (at_make; refine wpList_make_full _ rfl _ _ 80 rfl w.heap.size 9 i0 (.string ⟨#[]⟩) 1 Tryd.underlying80 hi hz0 hz1 .i64 .i64 _ _ ns.length rfl rfl rfl rfl (by rw [hz2]; omega) (by unfold maxLen; omega) (Nat.le_refl _) ?_; intro w0 hown0 hg0; refine Hid.out ?_)
  refine Lib.hid ?_
  have hb0 : Below w.heap.size w w0 := (Below.refl _ w).grown hg0 (Nat.le_refl _) (fun k hk => by cases hk)
  have hown1 : w0.ownsRow w.heap.size 9 1 (.slice (some ⟨w.heap.size, 0, none⟩) ns.length ns.length) ns.length (((numerals ns).take 0).map Value.string ++ List.replicate ((numerals ns).length - 0) (Value.string ⟨#[]⟩)) := by
    have : (madeCells (Value.string ⟨#[]⟩).cells (ns.length * 1)).toList = List.replicate ns.length (Value.string ⟨#[]⟩) := by rw [Nat.mul_one]; exact toList_madeCells_one _ _
    rw [this] at hown0; rw [numerals_length]; simpa using hown0
  have HO := Lib.hid hown1; clear hown1 hown0 hg0 hi hz0 hz1 hz2
  have HB := Lib.hid hb0; clear hb0
  go_wp2_with fail
  go_loopw [14] (fun i wr => ∃ k : Nat, k ≤ ns.length ∧ i = .int .i64 k ∧ wr.ownsRow w.heap.size 9 1 (.slice (some ⟨w.heap.size, 0, none⟩) ns.length ns.length) ns.length (((numerals ns).take k).map Value.string ++ List.replicate ((numerals ns).length - k) (Value.string ⟨#[]⟩)) ∧ Below w.heap.size w wr) (fun i _ => ns.length - (intOf i).toNat)
  case atStart => exact ⟨0, by omega, rfl, HO.out, HB.out⟩
  case round =>
    obtain ⟨k, hk, rfl, hown, hb⟩ := hrel
    have HO2 := Lib.hid hown; clear hown
    have HB2 := Lib.hid hb; clear hb
    by_cases hlt : k < ns.length
    · obtain ⟨b, off, rfl, hbl, hcell⟩ := HC.out k hlt
      have c0 : wr.cell? ⟨b, off + k, none⟩ = some (.int .i64 ns[k]) := by rw [HB2.out.cell (p := ⟨b, off + k, none⟩) hbl]; exact hcell
      have hrk := HR.out ns[k] (List.getElem_mem hlt)
      have HRK := Lib.hid hrk
      clear hcell hrk
      go_wp2_with fail
      refine (implFormat ns[k] HRK.out.1 HRK.out.2 _ (HP.out.below HB2.out)).mono ?_
      rintro e w1 ⟨rfl, hb1⟩
      have HO3 := Lib.hid (own_below HO2.out hb1)
      have HB3 := Lib.hid (HB2.out.trans (hb1.mono HB2.out.size))
      clear hb1 HO2 HB2 c0
      have hlt2 : k < (numerals ns).length := by rw [numerals_length]; exact hlt
      have c1 : ∃ u, w1.cell? ⟨w.heap.size, k, none⟩ = some u := by
        rw [HO3.out.cellAt k (by omega)]
        exact ⟨_, List.getElem?_eq_getElem (by simp; omega)⟩
      obtain ⟨u, c1⟩ := c1
      have f1 := HO3.out.frozenAt k
      have hst := HO3.out.stored k (.string (numerals ns)[k])
      rw [num_next (numerals ns) k hlt2] at hst
      have HS := Lib.hid hst; clear hst
      have HE : Hid ((numerals ns)[k] = ⟨(Lib.itoa ns[k]).toArray⟩) := by show _ = _; simp [numerals, numeral]
      rw [HE.out] at HS
      go_wp2_with fail
      exact ⟨⟨k + 1, by omega, by go_num, HS.out.1, HB3.out.setCell (Nat.le_refl _) _⟩, by simp [intOf]; omega⟩
    · obtain rfl : k = ns.length := by omega
      have HL := HO2.out
      rw [← numerals_length ns, List.take_length, Nat.sub_self, List.replicate_zero, List.append_nil] at HL
      have HS := Lib.hid (Strs.of_own HL)
      clear HL HO2
      rw [numerals_length] at HS
      go_wp2_with fail
      refine (implJoin _ (numerals ns) ⟨#[46]⟩ (by rw [numerals_length]; exact hn) (by have := numerals_total _ HR.out; omega) (by decide) _ HS.out).mono ?_
      rintro e w1 ⟨rfl, hb1⟩
      have HB1 := Lib.hid (HB2.out.trans (hb1.mono HB2.out.size))
      clear hb1
      go_wp2_with fail
      go_ret
      exact ⟨by rw [HPT.out]; rfl, HB1.out⟩
end Go.Proofs.YtdgfkmnnjhlpbaaDoor
/-
  Proved: what an assertion on one of the five nodes yields (closed facts on the program's tables).
-/
namespace Go.Proofs.YtdgfkmnnjhlpbaaDoor
open Go.RowKit

theorem as_unknown_unknown (w : World) : (Instr.typeAssert (.iface 137 (.agg #[])) 134 137 true).run Tryd.prog w = .ok (.tuple #[.agg #[], .bool true]) w := by kernel_rfl
theorem as_unknown_num (w : World) : (Instr.typeAssert (.iface 137 (.agg #[])) 134 138 true).run Tryd.prog w = .ok (.tuple #[.agg #[], .bool false]) w := by kernel_rfl
theorem as_unknown_bool (w : World) : (Instr.typeAssert (.iface 137 (.agg #[])) 134 139 true).run Tryd.prog w = .ok (.tuple #[.agg #[], .bool false]) w := by kernel_rfl
theorem as_unknown_arrow (w : World) : (Instr.typeAssert (.iface 137 (.agg #[])) 134 141 true).run Tryd.prog w = .ok (.tuple #[.agg #[.int .i64 0, .slice none 0 0, .int .i64 0, .slice none 0 0], .bool false]) w := by kernel_rfl
theorem as_unknown_pair (w : World) : (Instr.typeAssert (.iface 137 (.agg #[])) 134 143 true).run Tryd.prog w = .ok (.tuple #[.agg #[.int .i64 0, .slice none 0 0, .int .i64 0, .slice none 0 0], .bool false]) w := by kernel_rfl
theorem as_num_unknown (w : World) : (Instr.typeAssert (.iface 138 (.agg #[])) 134 137 true).run Tryd.prog w = .ok (.tuple #[.agg #[], .bool false]) w := by kernel_rfl
theorem as_num_num (w : World) : (Instr.typeAssert (.iface 138 (.agg #[])) 134 138 true).run Tryd.prog w = .ok (.tuple #[.agg #[], .bool true]) w := by kernel_rfl
theorem as_num_bool (w : World) : (Instr.typeAssert (.iface 138 (.agg #[])) 134 139 true).run Tryd.prog w = .ok (.tuple #[.agg #[], .bool false]) w := by kernel_rfl
theorem as_num_arrow (w : World) : (Instr.typeAssert (.iface 138 (.agg #[])) 134 141 true).run Tryd.prog w = .ok (.tuple #[.agg #[.int .i64 0, .slice none 0 0, .int .i64 0, .slice none 0 0], .bool false]) w := by kernel_rfl
theorem as_num_pair (w : World) : (Instr.typeAssert (.iface 138 (.agg #[])) 134 143 true).run Tryd.prog w = .ok (.tuple #[.agg #[.int .i64 0, .slice none 0 0, .int .i64 0, .slice none 0 0], .bool false]) w := by kernel_rfl
theorem as_bool_unknown (w : World) : (Instr.typeAssert (.iface 139 (.agg #[])) 134 137 true).run Tryd.prog w = .ok (.tuple #[.agg #[], .bool false]) w := by kernel_rfl
theorem as_bool_num (w : World) : (Instr.typeAssert (.iface 139 (.agg #[])) 134 138 true).run Tryd.prog w = .ok (.tuple #[.agg #[], .bool false]) w := by kernel_rfl
theorem as_bool_bool (w : World) : (Instr.typeAssert (.iface 139 (.agg #[])) 134 139 true).run Tryd.prog w = .ok (.tuple #[.agg #[], .bool true]) w := by kernel_rfl
theorem as_bool_arrow (w : World) : (Instr.typeAssert (.iface 139 (.agg #[])) 134 141 true).run Tryd.prog w = .ok (.tuple #[.agg #[.int .i64 0, .slice none 0 0, .int .i64 0, .slice none 0 0], .bool false]) w := by kernel_rfl
theorem as_bool_pair (w : World) : (Instr.typeAssert (.iface 139 (.agg #[])) 134 143 true).run Tryd.prog w = .ok (.tuple #[.agg #[.int .i64 0, .slice none 0 0, .int .i64 0, .slice none 0 0], .bool false]) w := by kernel_rfl
theorem as_arrow_unknown (a b c d : Value) (w : World) : (Instr.typeAssert (.iface 141 (.agg #[a, b, c, d])) 134 137 true).run Tryd.prog w = .ok (.tuple #[.agg #[], .bool false]) w := by kernel_rfl
theorem as_arrow_num (a b c d : Value) (w : World) : (Instr.typeAssert (.iface 141 (.agg #[a, b, c, d])) 134 138 true).run Tryd.prog w = .ok (.tuple #[.agg #[], .bool false]) w := by kernel_rfl
theorem as_arrow_bool (a b c d : Value) (w : World) : (Instr.typeAssert (.iface 141 (.agg #[a, b, c, d])) 134 139 true).run Tryd.prog w = .ok (.tuple #[.agg #[], .bool false]) w := by kernel_rfl
theorem as_arrow_arrow (a b c d : Value) (w : World) : (Instr.typeAssert (.iface 141 (.agg #[a, b, c, d])) 134 141 true).run Tryd.prog w = .ok (.tuple #[.agg #[a, b, c, d], .bool true]) w := by kernel_rfl
theorem as_arrow_pair (a b c d : Value) (w : World) : (Instr.typeAssert (.iface 141 (.agg #[a, b, c, d])) 134 143 true).run Tryd.prog w = .ok (.tuple #[.agg #[.int .i64 0, .slice none 0 0, .int .i64 0, .slice none 0 0], .bool false]) w := by kernel_rfl
theorem as_pair_unknown (a b c d : Value) (w : World) : (Instr.typeAssert (.iface 143 (.agg #[a, b, c, d])) 134 137 true).run Tryd.prog w = .ok (.tuple #[.agg #[], .bool false]) w := by kernel_rfl
theorem as_pair_num (a b c d : Value) (w : World) : (Instr.typeAssert (.iface 143 (.agg #[a, b, c, d])) 134 138 true).run Tryd.prog w = .ok (.tuple #[.agg #[], .bool false]) w := by kernel_rfl
theorem as_pair_bool (a b c d : Value) (w : World) : (Instr.typeAssert (.iface 143 (.agg #[a, b, c, d])) 134 139 true).run Tryd.prog w = .ok (.tuple #[.agg #[], .bool false]) w := by kernel_rfl
theorem as_pair_arrow (a b c d : Value) (w : World) : (Instr.typeAssert (.iface 143 (.agg #[a, b, c, d])) 134 141 true).run Tryd.prog w = .ok (.tuple #[.agg #[.int .i64 0, .slice none 0 0, .int .i64 0, .slice none 0 0], .bool false]) w := by kernel_rfl
theorem as_pair_pair (a b c d : Value) (w : World) : (Instr.typeAssert (.iface 143 (.agg #[a, b, c, d])) 134 143 true).run Tryd.prog w = .ok (.tuple #[.agg #[a, b, c, d], .bool true]) w := by kernel_rfl
end Go.Proofs.YtdgfkmnnjhlpbaaDoor
/-
  Proved: the method parts of each of the five nodes gives the parts of a type (none for the first three), and leaves the memory that was there as it was; which function a call of parts through the interface runs.
-/
namespace Go.Proofs.YtdgfkmnnjhlpbaaDoor
open Go.RowKit

theorem meth_unknown (n : Nat) (w : World) : (method (n + 1) 137 (.agg #[]) "loop.example/g00585/impl.parts").run Tryd.prog w = .ok (173, .agg #[]) w := by kernel_rfl
theorem meth_num (n : Nat) (w : World) : (method (n + 1) 138 (.agg #[]) "loop.example/g00585/impl.parts").run Tryd.prog w = .ok (174, .agg #[]) w := by kernel_rfl
theorem meth_bool (n : Nat) (w : World) : (method (n + 1) 139 (.agg #[]) "loop.example/g00585/impl.parts").run Tryd.prog w = .ok (175, .agg #[]) w := by kernel_rfl
theorem meth_arrow (n : Nat) (w : World) (a b c d : Value) : (method (n + 1) 141 (.agg #[a, b, c, d]) "loop.example/g00585/impl.parts").run Tryd.prog w = .ok (176, .agg #[a, b, c, d]) w := by kernel_rfl
theorem meth_pair (n : Nat) (w : World) (a b c d : Value) : (method (n + 1) 143 (.agg #[a, b, c, d]) "loop.example/g00585/impl.parts").run Tryd.prog w = .ok (177, .agg #[a, b, c, d]) w := by kernel_rfl

set_option maxRecDepth 100000 in
theorem parts_unknown (w : World) : Calls Tryd.prog 173 #[.agg #[]] w fun e w' => e = .returned (.slice none 0 0) ∧ Below w.heap.size w w' := by
  go_enter Tryd.func173, Tryd.ntmps173
  go_wp2_with fail
  go_ret
  exact ⟨rfl, below_alloc _ _⟩
set_option maxRecDepth 100000 in
theorem parts_num (w : World) : Calls Tryd.prog 174 #[.agg #[]] w fun e w' => e = .returned (.slice none 0 0) ∧ Below w.heap.size w w' := by
  go_enter Tryd.func174, Tryd.ntmps174
  go_wp2_with fail
  go_ret
  exact ⟨rfl, below_alloc _ _⟩
set_option maxRecDepth 100000 in
theorem parts_bool (w : World) : Calls Tryd.prog 175 #[.agg #[]] w fun e w' => e = .returned (.slice none 0 0) ∧ Below w.heap.size w w' := by
  go_enter Tryd.func175, Tryd.ntmps175
  go_wp2_with fail
  go_ret
  exact ⟨rfl, below_alloc _ _⟩
def PartsEnd (w0 : World) (d : Nat) (t1 t2 : Ty) (w : World) (e : Ending) (w' : World) : Prop :=
  ∃ b, e = .returned (.slice (some ⟨b, 0, none⟩) 2 2) ∧ RowIn (TyAt w0 d) w' w.heap.size (.slice (some ⟨b, 0, none⟩) 2 2) [t1, t2] ∧ Below w.heap.size w w'
theorem tys_two {w0 w : World} {d b lo : Nat} {t1 t2 : Ty} {k1 k2 : Int} {s1 s2 : Value} (hlo : lo ≤ b) (hb : b < w.heap.size) (h0 : w.cell? ⟨b, 0, none⟩ = some (.int .i64 k1)) (h1 : w.cell? ⟨b, 1, none⟩ = some s1) (h2 : w.cell? ⟨b, 2, none⟩ = some (.int .i64 k2)) (h3 : w.cell? ⟨b, 3, none⟩ = some s2)
    (ht1 : TyAt w0 d (.agg #[.int .i64 k1, s1]) t1) (ht2 : TyAt w0 d (.agg #[.int .i64 k2, s2]) t2) : RowIn (TyAt w0 d) w lo (.slice (some ⟨b, 0, none⟩) 2 2) [t1, t2] := by
  refine ⟨_, _, rfl, Nat.le_refl _, by simp, fun j hj => ?_⟩
  match j, hj with
  | 0, _ => exact ⟨b, 0, _, _, rfl, hlo, hb, by simpa using h0, by simpa using h1, ht1⟩
  | 1, _ => exact ⟨b, 0, _, _, rfl, hlo, hb, by simpa using h2, by simpa using h3, ht2⟩
theorem box_four {w : World} {a b c d : Value} {T : TypeId} : BoxAt ((w.alloc (.cells #[a, b, c, d] T)).alloc (.cells #[a, b, c, d] 31)) (w.heap.size + 1) #[a, b, c, d] := by
  have h := BoxAt.new (w.alloc (.cells #[a, b, c, d] T)) #[a, b, c, d] 31
  rw [show (w.alloc (.cells #[a, b, c, d] T)).heap.size = w.heap.size + 1 from by simp] at h
  exact h
set_option maxRecDepth 100000 in
set_option maxHeartbeats 1000000 in
theorem parts_arrow (w0 : World) (d : Nat) (t1 t2 : Ty) (k1 k2 : Int) (v1 v2 : Value) (w : World) (h1 : TyAt w0 d (.agg #[.int .i64 k1, v1]) t1) (h2 : TyAt w0 d (.agg #[.int .i64 k2, v2]) t2) :
    Calls Tryd.prog 176 #[.agg #[.int .i64 k1, v1, .int .i64 k2, v2]] w (PartsEnd w0 d t1 t2 w) := by
  obtain ⟨_, s1, n1, c1, _, rfl⟩ := at_parts h1
  obtain ⟨_, s2, n2, c2, _, rfl⟩ := at_parts h2
  have H1 := Lib.hid h1
  have H2 := Lib.hid h2
  clear h1 h2
  go_enter Tryd.func176, Tryd.ntmps176
  go_wp2_with fail
  go_ret
  have X := ((Below.refl w.heap.size w).alloc (Nat.le_refl _) (.cells #[.int .i64 k1, .slice s1 n1 c1, .int .i64 k2, .slice s2 n2 c2] 141)).alloc (by simp) (.cells #[.int .i64 k1, .slice s1 n1 c1, .int .i64 k2, .slice s2 n2 c2] 31)
  have Y := box_four (w := w) (a := .int .i64 k1) (b := .slice s1 n1 c1) (c := .int .i64 k2) (d := .slice s2 n2 c2) (T := 141)
  exact ⟨_, rfl, tys_two (by omega) Y.1 (Y.2 0) (Y.2 1) (Y.2 2) (Y.2 3) H1.out H2.out, X⟩
set_option maxRecDepth 100000 in
set_option maxHeartbeats 1000000 in
theorem parts_pair (w0 : World) (d : Nat) (t1 t2 : Ty) (k1 k2 : Int) (v1 v2 : Value) (w : World) (h1 : TyAt w0 d (.agg #[.int .i64 k1, v1]) t1) (h2 : TyAt w0 d (.agg #[.int .i64 k2, v2]) t2) :
    Calls Tryd.prog 177 #[.agg #[.int .i64 k1, v1, .int .i64 k2, v2]] w (PartsEnd w0 d t1 t2 w) := by
  obtain ⟨_, s1, n1, c1, _, rfl⟩ := at_parts h1
  obtain ⟨_, s2, n2, c2, _, rfl⟩ := at_parts h2
  have H1 := Lib.hid h1
  have H2 := Lib.hid h2
  clear h1 h2
  go_enter Tryd.func177, Tryd.ntmps177
  go_wp2_with fail
  go_ret
  have X := ((Below.refl w.heap.size w).alloc (Nat.le_refl _) (.cells #[.int .i64 k1, .slice s1 n1 c1, .int .i64 k2, .slice s2 n2 c2] 143)).alloc (by simp) (.cells #[.int .i64 k1, .slice s1 n1 c1, .int .i64 k2, .slice s2 n2 c2] 31)
  have Y := box_four (w := w) (a := .int .i64 k1) (b := .slice s1 n1 c1) (c := .int .i64 k2) (d := .slice s2 n2 c2) (T := 143)
  exact ⟨_, rfl, tys_two (by omega) Y.1 (Y.2 0) (Y.2 1) (Y.2 2) (Y.2 3) H1.out H2.out, X⟩
end Go.Proofs.YtdgfkmnnjhlpbaaDoor
/-
  Proved: impl.typeWithin says whether a type's tree has the form of a type and fits into the room and the depth that are left; it counts the room down, and touches nothing else.
-/
namespace Go.Proofs.YtdgfkmnnjhlpbaaDoor
open Go.RowKit

def within (t : Ty) (r dp : Int) : Bool := decide ((t.size : Int) ≤ r) && decide ((t.depth : Int) ≤ dp) && t.form
def WithinEnd (p : Nat) (r dp : Int) (t : Ty) (w : World) (e : Ending) (w' : World) : Prop :=
  ∃ r' : Int, e = .returned (.bool (within t r dp)) ∧ w'.cell? ⟨p, 0, none⟩ = some (.int .i64 r') ∧ w'.frozen? ⟨p, 0, none⟩ = false ∧ r - t.size ≤ r' ∧ r' ≤ r ∧ (within t r dp = true → r' = r - t.size) ∧
    Below p w w' ∧ (∀ b, b < w.heap.size → b ≠ p → w'.heap[b]? = w.heap[b]?)
/-- What the count leaves of memory: below p nothing has changed, nor any old block but p; the room holds r. -/
def Room (p : Nat) (r : Int) (w w' : World) : Prop :=
  w'.cell? ⟨p, 0, none⟩ = some (.int .i64 r) ∧ w'.frozen? ⟨p, 0, none⟩ = false ∧ Below p w w' ∧ (∀ b, b < w.heap.size → b ≠ p → w'.heap[b]? = w.heap[b]?)
theorem Room.stored {p : Nat} {r : Int} {x : Value} {w w2 : World} (hp : p < w.heap.size) (hb : Below w.heap.size w w2) (e0 : w2.cell? ⟨p, 0, none⟩ = some x) (e1 : w2.frozen? ⟨p, 0, none⟩ = false) : Room p r w (w2.setCell ⟨p, 0, none⟩ (.int .i64 r)) := by
  refine ⟨by simp [go_sem, e0], by simp [go_sem, e1], (hb.mono (Nat.le_of_lt hp)).setCell (Nat.le_refl _) _, fun b h1 h2 => ?_⟩
  rw [heap_setCell_other _ _ _ _ h2]
  exact hb.block b h1
theorem Room.below {p : Nat} {r : Int} {w w1 w2 : World} (hp : p < w.heap.size) (h : Room p r w w1) (hb : Below w1.heap.size w1 w2) : Room p r w w2 := by
  obtain ⟨h0, h1, h2, h3⟩ := h
  have hz := h2.size
  refine ⟨(hb.cell (p := ⟨p, 0, none⟩) (Nat.lt_of_lt_of_le hp hz)).trans h0, (hb.frozen (p := ⟨p, 0, none⟩) (Nat.lt_of_lt_of_le hp hz)).trans h1, h2.trans (hb.mono (by omega)), fun b hb1 hb2 => ?_⟩
  rw [hb.block b (by omega)]
  exact h3 b hb1 hb2
theorem Room.on {p : Nat} {r r2 : Int} {w w1 w2 : World} (h : Room p r w w1) (h2 : Room p r2 w1 w2) : Room p r2 w w2 := by
  obtain ⟨_, _, g2, g3⟩ := h
  obtain ⟨k0, k1, k2, k3⟩ := h2
  refine ⟨k0, k1, g2.trans k2, fun b hb1 hb2 => ?_⟩
  rw [k3 b (by have := g2.size; omega) hb2]
  exact g3 b hb1 hb2
theorem WithinEnd.of {p : Nat} {r dp r' : Int} {t : Ty} {w w' : World} {b : Bool} (hb : within t r dp = b) (hr : Room p r' w w') (h1 : r - t.size ≤ r') (h2 : r' ≤ r) (h3 : b = true → r' = r - t.size) : WithinEnd p r dp t w (.returned (.bool b)) w' := by
  subst hb
  exact ⟨r', rfl, hr.1, hr.2.1, h1, h2, h3, hr.2.2.1, hr.2.2.2⟩
theorem WithinEnd.room {p : Nat} {r dp : Int} {t : Ty} {w w' : World} {e : Ending} (h : WithinEnd p r dp t w e w') : ∃ r', e = .returned (.bool (within t r dp)) ∧ Room p r' w w' ∧ r - t.size ≤ r' ∧ r' ≤ r ∧ (within t r dp = true → r' = r - t.size) := by
  obtain ⟨r', h0, h1, h2, h3, h4, h5, h6, h7⟩ := h
  exact ⟨r', h0, ⟨h1, h2, h6, h7⟩, h3, h4, h5⟩
theorem Ty.depths_get (ts : List Ty) (k : Nat) (h : k < ts.length) : ts[k].depth ≤ Ty.depths ts := by
  induction ts generalizing k with
  | nil => simp at h
  | cons s r ih =>
    cases k with
    | zero => simp only [List.getElem_cons_zero, Ty.depths]; omega
    | succ k => simp only [List.getElem_cons_succ, Ty.depths]; have := ih k (by simpa using h); omega
theorem within_true {t : Ty} {r dp : Int} (h : within t r dp = true) : (t.size : Int) ≤ r ∧ (t.depth : Int) ≤ dp ∧ t.form = true := by
  simp only [within, Bool.and_eq_true, decide_eq_true_eq] at h
  exact ⟨h.1.1, h.1.2, h.2⟩
theorem within_sub {kd r dp r2 : Int} {ts : List Ty} {k : Nat} (h : k < ts.length) (hr : r2 = r - 1 - Ty.sizes (ts.take k)) (hf : within ts[k] r2 (dp - 1) = false) : within (.node kd ts) r dp = false := by
  cases hw : within (.node kd ts) r dp with
  | false => rfl
  | true =>
    obtain ⟨w1, w2, w3⟩ := within_true hw
    simp only [Ty.size, Ty.depth, Ty.form, Bool.and_eq_true] at w1 w2 w3
    have h1 := Ty.sizes_take ts k h
    have h2 := Ty.sizes_le ts (k + 1)
    have h3 := Ty.depths_get ts k h
    have h4 : ts[k].form = true := by
      have e := Ty.forms_take ts k h
      cases hfk : ts[k].form with
      | true => rfl
      | false =>
        rw [hfk, Bool.and_false] at e
        have := Ty.forms_false ts (k + 1) e
        rw [this] at w3; exact absurd w3.1 (by simp)
    have : within ts[k] r2 (dp - 1) = true := by
      simp only [within, Bool.and_eq_true, decide_eq_true_eq]
      exact ⟨⟨by omega, by omega⟩, h4⟩
    rw [this] at hf; cases hf
theorem within_mk {t : Ty} {r dp : Int} (h1 : (t.size : Int) ≤ r) (h2 : (t.depth : Int) ≤ dp) (h3 : t.form = true) : within t r dp = true := by
  simp only [within, Bool.and_eq_true, decide_eq_true_eq]
  exact ⟨⟨h1, h2⟩, h3⟩
set_option maxRecDepth 100000 in
set_option maxHeartbeats 4000000 in
theorem implWithin (w0 : World) : ∀ (d : Nat) (v : Value) (t : Ty) (p : Nat) (r dp : Int) (w : World), TyAt w0 d v t → Below w0.heap.size w0 w → w0.heap.size ≤ p → t.size ≤ 1048577 → p < w.heap.size → 0 ≤ r → r ≤ 1048576 → 0 ≤ dp → dp ≤ 100 →
    w.cell? ⟨p, 0, none⟩ = some (.int .i64 r) → w.frozen? ⟨p, 0, none⟩ = false →
    Calls Tryd.prog 116 #[v, .pointer (some ⟨p, 0, none⟩), .int .i64 dp] w (WithinEnd p r dp t w)
  | 0, _, _, _, _, _, _, h, _, _, _, _, _, _, _, _, _, _ => h.elim
  | d + 1, v, .node kd ts, p, r, dp, w, h, hw0, hp0, hsz, hp, hr0, hr1, hd0, hd1, hcell, hfroz => by
    have IH : Hid (∀ (v : Value) (t : Ty) (p : Nat) (r dp : Int) (w : World), TyAt w0 d v t → Below w0.heap.size w0 w → w0.heap.size ≤ p → t.size ≤ 1048577 → p < w.heap.size → 0 ≤ r → r ≤ 1048576 → 0 ≤ dp → dp ≤ 100 →
      w.cell? ⟨p, 0, none⟩ = some (.int .i64 r) → w.frozen? ⟨p, 0, none⟩ = false →
      Calls Tryd.prog 116 #[v, .pointer (some ⟨p, 0, none⟩), .int .i64 dp] w (WithinEnd p r dp t w)) := implWithin w0 d
    have hlen : ts.length ≤ 1152921504606846976 := by have := Ty.length_le ts; simp [Ty.size] at hsz; omega
    have HSZ : Hid (1 + Ty.sizes ts ≤ 1048577) := by simp [Ty.size] at hsz; show _ ≤ _; omega
    have hszi : (Ty.node kd ts).size = 1 + Ty.sizes ts := rfl
    have HSI := Lib.hid hszi
    clear hsz hszi
    have HT := Lib.hid h
    obtain ⟨sk, sa, sn, sc, rfl⟩ := agg_parts h
    clear h
    have HW0 := Lib.hid hw0; clear hw0
    have hb := HW0.out.alloc HW0.out.size (.cells #[.int .i64 sk, .slice sa sn sc] 31)
    have HW1 := Lib.hid hb; clear hb
    have hpw : ¬ (p = w.heap.size) := by omega
    go_enter Tryd.func116, Tryd.ntmps116
    go_wp2_with fail
    refine (implNode w0 d _ kd ts _ HT.out HW1.out hlen).mono ?_
    rintro e w2 ⟨n, rfl, hnode, hb⟩
    have B2 := Lib.hid (below_on (below_alloc w _) hb (by simp)); clear hb HW1
    have e0 := (B2.out.cell (p := ⟨p, 0, none⟩) hp).trans hcell
    have e1 := (B2.out.frozen (p := ⟨p, 0, none⟩) hp).trans hfroz
    have R2 := Lib.hid (Room.stored (r := r - 1) hp B2.out e0 e1)
    clear hcell hfroz
    have fin : ∀ b, within (.node kd ts) r dp = b → b = false → WithinEnd p r dp (.node kd ts) w (.returned (.bool b)) (w2.setCell ⟨p, 0, none⟩ (.int .i64 (r - 1))) := fun b h1 h2 =>
      WithinEnd.of h1 R2.out (by rw [HSI.out]; omega) (by omega) (fun h => by rw [h2] at h; cases h)
    have FIN := Lib.hid fin; clear fin
    have HSG : Hid (Ty.size (.node kd ts) = 1 + Ty.sizes ts) := HSI.out
    by_cases hkb : kindOk kd ts.length = false
    · have hn : n = .nilIface := by
        rcases hnode with ⟨_, h⟩ | ⟨h, _⟩ | ⟨h, _⟩
        · exact h
        · rw [hkb] at h; cases h
        · rw [hkb] at h; cases h
      subst hn
      go_wp2_with fail
      go_ret
      exact FIN.out _ (by simp [within, Ty.form, hkb]) rfl
    have hko : kindOk kd ts.length = true := by simpa using hkb
    have HKO := Lib.hid hko; clear hko hkb
    have early : r < 1 ∨ dp = 0 → within (.node kd ts) r dp = false := fun h => by
      cases hw : within (.node kd ts) r dp with
      | false => rfl
      | true =>
        obtain ⟨w1, w2, w3⟩ := within_true hw
        simp only [Ty.size, Ty.depth] at w1 w2
        omega
    have EARLY := Lib.hid early; clear early
    by_cases hr : r < 1
    · rcases hnode with ⟨h, _⟩ | ⟨_, rfl, ⟨rfl, rfl⟩ | ⟨rfl, rfl⟩ | ⟨rfl, rfl⟩⟩ | ⟨_, t1, t2, k1, s1, k2, s2, rfl, ht1, ht2, ⟨rfl, rfl⟩ | ⟨rfl, rfl⟩⟩
      · rw [HKO.out] at h; cases h
      all_goals (go_wp2_with fail; go_ret; exact FIN.out _ (EARLY.out (Or.inl hr)) rfl)
    by_cases hd : dp = 0
    · have hdb : (dp == 0) = true := by simp [hd]
      rcases hnode with ⟨h, _⟩ | ⟨_, rfl, ⟨rfl, rfl⟩ | ⟨rfl, rfl⟩ | ⟨rfl, rfl⟩⟩ | ⟨_, t1, t2, k1, s1, k2, s2, rfl, ht1, ht2, ⟨rfl, rfl⟩ | ⟨rfl, rfl⟩⟩
      · rw [HKO.out] at h; cases h
      all_goals (go_wp2_with fail; go_ret; exact FIN.out _ (EARLY.out (Or.inr hd)) rfl)
    have hdb : (dp == 0) = false := by simp [hd]
    clear FIN EARLY
    rcases hnode with ⟨h, _⟩ | ⟨_, rfl, ⟨rfl, rfl⟩ | ⟨rfl, rfl⟩ | ⟨rfl, rfl⟩⟩ | ⟨_, t1, t2, k1, s1, k2, s2, rfl, ht1, ht2, ⟨rfl, rfl⟩ | ⟨rfl, rfl⟩⟩
    · rw [HKO.out] at h; cases h
    · have hm := meth_unknown
      go_wp2_with fail
      refine (parts_unknown _).mono ?_
      rintro e w4 ⟨rfl, hb⟩
      have R4 := Lib.hid (R2.out.below hp hb)
      have HZ : Hid (w.heap.size ≤ w2.heap.size) := B2.out.size
      have hz4 := hb.size
      rw [World.size_setCell] at hz4
      clear hb R2 e0 e1 B2 hm
      have hz2 : w.heap.size ≤ w2.heap.size := HZ.out
      clear HZ
      go_wp2_with fail
      go_loopw [32] (fun i wr => ∃ k : Nat, k ≤ 0 ∧ i = .int .i64 k ∧ 0 ≤ r - 1 - (Ty.sizes (List.take k []) : Int) ∧ (Ty.depths (List.take k []) : Int) ≤ dp - 1 ∧ Ty.forms (List.take k []) = true ∧ Room p (r - 1 - Ty.sizes (List.take k [])) w wr ∧ w4.heap.size ≤ wr.heap.size ∧ (∀ b, b < w4.heap.size → b ≠ p → wr.heap[b]? = w4.heap[b]?)) (fun i _ => 0 - (intOf i).toNat)
      case atStart => exact ⟨0, by omega, rfl, by simp [Ty.sizes]; omega, by simp [Ty.depths]; omega, by simp [Ty.forms], by simpa [Ty.sizes] using R4.out, Nat.le_refl _, fun _ _ _ => rfl⟩
      case round =>
        obtain ⟨k, hk, rfl, hs, hds, hf, hroom, hz, hkeep⟩ := hrel
        have HS := Lib.hid hs
        have HD := Lib.hid hds
        have HF := Lib.hid hf
        have HR := Lib.hid hroom
        have HK := Lib.hid hkeep
        clear hs hds hf hroom hkeep
        obtain rfl : k = 0 := by omega
        have hfin : within (.node 1 []) r dp = true := by
          have h1 : 0 ≤ r - 1 - (Ty.sizes [] : Int) := HS.out
          have h2 : (Ty.depths [] : Int) ≤ dp - 1 := HD.out
          have h3 : Ty.forms [] = true := HF.out
          have h4 := HKO.out
          exact within_mk (show ((1 + Ty.sizes [] : Nat) : Int) ≤ r by omega) (show ((1 + Ty.depths [] : Nat) : Int) ≤ dp by omega) (by simp only [Ty.form, h3, h4, Bool.and_self])
        have HFIN := Lib.hid hfin; clear hfin
        have h1 : 0 ≤ r - 1 - (Ty.sizes [] : Int) := HS.out
        have hlo : r - ↑(1 + Ty.sizes []) ≤ r - 1 - ↑(Ty.sizes []) := by omega
        have HLO := Lib.hid hlo; clear hlo h1
        go_wp2_with fail
        go_ret
        exact WithinEnd.of (r' := r - 1 - ↑(Ty.sizes [])) HFIN.out HR.out (by rw [HSG.out]; exact HLO.out) (by omega) (fun _ => by rw [HSG.out]; omega)
    · have hm := meth_num
      go_wp2_with fail
      refine (parts_num _).mono ?_
      rintro e w4 ⟨rfl, hb⟩
      have R4 := Lib.hid (R2.out.below hp hb)
      have HZ : Hid (w.heap.size ≤ w2.heap.size) := B2.out.size
      have hz4 := hb.size
      rw [World.size_setCell] at hz4
      clear hb R2 e0 e1 B2 hm
      have hz2 : w.heap.size ≤ w2.heap.size := HZ.out
      clear HZ
      go_wp2_with fail
      go_loopw [32] (fun i wr => ∃ k : Nat, k ≤ 0 ∧ i = .int .i64 k ∧ 0 ≤ r - 1 - (Ty.sizes (List.take k []) : Int) ∧ (Ty.depths (List.take k []) : Int) ≤ dp - 1 ∧ Ty.forms (List.take k []) = true ∧ Room p (r - 1 - Ty.sizes (List.take k [])) w wr ∧ w4.heap.size ≤ wr.heap.size ∧ (∀ b, b < w4.heap.size → b ≠ p → wr.heap[b]? = w4.heap[b]?)) (fun i _ => 0 - (intOf i).toNat)
      case atStart => exact ⟨0, by omega, rfl, by simp [Ty.sizes]; omega, by simp [Ty.depths]; omega, by simp [Ty.forms], by simpa [Ty.sizes] using R4.out, Nat.le_refl _, fun _ _ _ => rfl⟩
      case round =>
        obtain ⟨k, hk, rfl, hs, hds, hf, hroom, hz, hkeep⟩ := hrel
        have HS := Lib.hid hs
        have HD := Lib.hid hds
        have HF := Lib.hid hf
        have HR := Lib.hid hroom
        have HK := Lib.hid hkeep
        clear hs hds hf hroom hkeep
        obtain rfl : k = 0 := by omega
        have hfin : within (.node 2 []) r dp = true := by
          have h1 : 0 ≤ r - 1 - (Ty.sizes [] : Int) := HS.out
          have h2 : (Ty.depths [] : Int) ≤ dp - 1 := HD.out
          have h3 : Ty.forms [] = true := HF.out
          have h4 := HKO.out
          exact within_mk (show ((1 + Ty.sizes [] : Nat) : Int) ≤ r by omega) (show ((1 + Ty.depths [] : Nat) : Int) ≤ dp by omega) (by simp only [Ty.form, h3, h4, Bool.and_self])
        have HFIN := Lib.hid hfin; clear hfin
        have h1 : 0 ≤ r - 1 - (Ty.sizes [] : Int) := HS.out
        have hlo : r - ↑(1 + Ty.sizes []) ≤ r - 1 - ↑(Ty.sizes []) := by omega
        have HLO := Lib.hid hlo; clear hlo h1
        go_wp2_with fail
        go_ret
        exact WithinEnd.of (r' := r - 1 - ↑(Ty.sizes [])) HFIN.out HR.out (by rw [HSG.out]; exact HLO.out) (by omega) (fun _ => by rw [HSG.out]; omega)
    · have hm := meth_bool
      go_wp2_with fail
      refine (parts_bool _).mono ?_
      rintro e w4 ⟨rfl, hb⟩
      have R4 := Lib.hid (R2.out.below hp hb)
      have HZ : Hid (w.heap.size ≤ w2.heap.size) := B2.out.size
      have hz4 := hb.size
      rw [World.size_setCell] at hz4
      clear hb R2 e0 e1 B2 hm
      have hz2 : w.heap.size ≤ w2.heap.size := HZ.out
      clear HZ
      go_wp2_with fail
      go_loopw [32] (fun i wr => ∃ k : Nat, k ≤ 0 ∧ i = .int .i64 k ∧ 0 ≤ r - 1 - (Ty.sizes (List.take k []) : Int) ∧ (Ty.depths (List.take k []) : Int) ≤ dp - 1 ∧ Ty.forms (List.take k []) = true ∧ Room p (r - 1 - Ty.sizes (List.take k [])) w wr ∧ w4.heap.size ≤ wr.heap.size ∧ (∀ b, b < w4.heap.size → b ≠ p → wr.heap[b]? = w4.heap[b]?)) (fun i _ => 0 - (intOf i).toNat)
      case atStart => exact ⟨0, by omega, rfl, by simp [Ty.sizes]; omega, by simp [Ty.depths]; omega, by simp [Ty.forms], by simpa [Ty.sizes] using R4.out, Nat.le_refl _, fun _ _ _ => rfl⟩
      case round =>
        obtain ⟨k, hk, rfl, hs, hds, hf, hroom, hz, hkeep⟩ := hrel
        have HS := Lib.hid hs
        have HD := Lib.hid hds
        have HF := Lib.hid hf
        have HR := Lib.hid hroom
        have HK := Lib.hid hkeep
        clear hs hds hf hroom hkeep
        obtain rfl : k = 0 := by omega
        have hfin : within (.node 3 []) r dp = true := by
          have h1 : 0 ≤ r - 1 - (Ty.sizes [] : Int) := HS.out
          have h2 : (Ty.depths [] : Int) ≤ dp - 1 := HD.out
          have h3 : Ty.forms [] = true := HF.out
          have h4 := HKO.out
          exact within_mk (show ((1 + Ty.sizes [] : Nat) : Int) ≤ r by omega) (show ((1 + Ty.depths [] : Nat) : Int) ≤ dp by omega) (by simp only [Ty.form, h3, h4, Bool.and_self])
        have HFIN := Lib.hid hfin; clear hfin
        have h1 : 0 ≤ r - 1 - (Ty.sizes [] : Int) := HS.out
        have hlo : r - ↑(1 + Ty.sizes []) ≤ r - 1 - ↑(Ty.sizes []) := by omega
        have HLO := Lib.hid hlo; clear hlo h1
        go_wp2_with fail
        go_ret
        exact WithinEnd.of (r' := r - 1 - ↑(Ty.sizes [])) HFIN.out HR.out (by rw [HSG.out]; exact HLO.out) (by omega) (fun _ => by rw [HSG.out]; omega)
    · have H1 := Lib.hid ht1
      have H2 := Lib.hid ht2
      clear ht1 ht2
      have hm := fun (n : Nat) (w : World) => meth_arrow n w (.int .i64 k1) s1 (.int .i64 k2) s2
      go_wp2_with fail
      refine (parts_arrow w0 d t1 t2 k1 k2 s1 s2 _ H1.out H2.out).mono ?_
      rintro e w4 ⟨bb, rfl, hrow, hb⟩
      have R4 := Lib.hid (R2.out.below hp hb)
      have HZ : Hid (w.heap.size ≤ w2.heap.size) := B2.out.size
      have hz4 := hb.size
      rw [World.size_setCell] at hz4
      clear hb R2 e0 e1 B2 hm
      have hz2 : w.heap.size ≤ w2.heap.size := HZ.out
      clear HZ
      have HROW : Hid (∀ j (h : j < 2), ∃ x0 x1, p < bb ∧ bb < w4.heap.size ∧ w4.cell? ⟨bb, j * 2, none⟩ = some x0 ∧ w4.cell? ⟨bb, j * 2 + 1, none⟩ = some x1 ∧ TyAt w0 d (.agg #[x0, x1]) ([t1, t2][j]'h)) := fun j hj => by
        obtain ⟨a9, c9, he, _, _, hat⟩ := hrow
        obtain ⟨b9, o9, x0, x1, ha, h1, h2, h3, h4, h5⟩ := hat j hj
        simp only [Value.slice.injEq] at he
        obtain ⟨rfl, _⟩ := he
        injection ha with ha
        injection ha with ha1 ha2
        subst ha1 ha2
        rw [World.size_setCell] at h1
        exact ⟨x0, x1, by omega, h2, by simpa using h3, by simpa using h4, h5⟩
      clear hrow H1 H2
      go_wp2_with fail
      go_loopw [32] (fun i wr => ∃ k : Nat, k ≤ 2 ∧ i = .int .i64 k ∧ 0 ≤ r - 1 - (Ty.sizes (List.take k [t1, t2]) : Int) ∧ (Ty.depths (List.take k [t1, t2]) : Int) ≤ dp - 1 ∧ Ty.forms (List.take k [t1, t2]) = true ∧ Room p (r - 1 - Ty.sizes (List.take k [t1, t2])) w wr ∧ w4.heap.size ≤ wr.heap.size ∧ (∀ b, b < w4.heap.size → b ≠ p → wr.heap[b]? = w4.heap[b]?)) (fun i _ => 2 - (intOf i).toNat)
      case atStart => exact ⟨0, by omega, rfl, by simp [Ty.sizes]; omega, by simp [Ty.depths]; omega, by simp [Ty.forms], by simpa [Ty.sizes] using R4.out, Nat.le_refl _, fun _ _ _ => rfl⟩
      case round =>
        obtain ⟨k, hk, rfl, hs, hds, hf, hroom, hz, hkeep⟩ := hrel
        have HS := Lib.hid hs
        have HD := Lib.hid hds
        have HF := Lib.hid hf
        have HR := Lib.hid hroom
        have HK := Lib.hid hkeep
        clear hs hds hf hroom hkeep
        by_cases hlt : k < 2
        · obtain ⟨x0, x1, hpb, hbl, hc0, hc1, ht⟩ := HROW.out k hlt
          obtain ⟨yk, ya, yn, yc, rfl, rfl⟩ := at_parts ht
          have x0 : wr.cell? ⟨bb, k * 2, none⟩ = some (.int .i64 yk) := by rw [World.cell?_of_block (HK.out bb hbl (by omega))]; exact hc0
          have x1 : wr.cell? ⟨bb, k * 2 + 1, none⟩ = some (.slice ya yn yc) := by rw [World.cell?_of_block (HK.out bb hbl (by omega))]; exact hc1
          have hpp := below_alloc wr (.cells #[.int .i64 yk, .slice ya yn yc] 31)
          have HTK := Lib.hid ht
          have HRP := Lib.hid (HR.out.below hp hpp)
          have HWP : Hid (Below w0.heap.size w0 (wr.alloc (.cells #[.int .i64 yk, .slice ya yn yc] 31))) := HW0.out.trans (HRP.out.2.2.1.mono hp0)
          have hg := Ty.size_get [t1, t2] k hlt
          have hzk : Ty.size ([t1, t2][k]'hlt) ≤ 1048577 := by have := HSZ.out; omega
          have hpk : p < (wr.alloc (.cells #[.int .i64 yk, .slice ya yn yc] 31)).heap.size := by simp; omega
          obtain ⟨rr, hrr⟩ : ∃ rr, rr = r - 1 - (Ty.sizes (List.take k [t1, t2]) : Int) := ⟨_, rfl⟩
          rw [← hrr] at HRP HS
          have HRR := Lib.hid hrr; clear hrr
          have g0 : 0 ≤ rr := HS.out
          have g1 : rr ≤ 1048576 := by have := HRR.out; omega
          have gd : 0 ≤ dp - 1 := by omega
          clear ht hc0 hc1 hpp hg
          go_wp2_with fail
          refine (IH.out _ _ p rr (dp - 1) _ HTK.out HWP.out hp0 hzk hpk g0 g1 gd (by omega) HRP.out.1 HRP.out.2.1).mono ?_
          rintro e w6 hend
          obtain ⟨r6, rfl, hr6, h1, h2, h3⟩ := hend.room
          have HR6 := Lib.hid (HRP.out.on hr6)
          have HK6 : Hid (∀ b, b < w4.heap.size → b ≠ p → w6.heap[b]? = w4.heap[b]?) := fun b hb1 hb2 => by
            rw [hr6.2.2.2 b (by simp; omega) hb2, heap_alloc_old _ _ (by omega)]
            exact HK.out b hb1 hb2
          have hz6 : w4.heap.size ≤ w6.heap.size := by have := hr6.2.2.1.size; simp at this; omega
          clear hend hr6
          cases hw : within ([t1, t2][k]'hlt) rr (dp - 1) with
          | true =>
            have h4 := h3 hw
            obtain ⟨u1, u2, u3⟩ := within_true hw
            subst h4
            have HU3 := Lib.hid u3
            have T1 := Lib.hid (Ty.sizes_take [t1, t2] k hlt)
            have T2 := Lib.hid (Ty.depths_take [t1, t2] k hlt)
            have T3 := Lib.hid (Ty.forms_take [t1, t2] k hlt)
            have HW := Lib.hid hw
            have U2 := Lib.hid u2
            have U1 := Lib.hid u1
            clear h1 h2 h3 u3 u2 u1 hw
            have eq1 : Hid (rr - ↑(Ty.size ([t1, t2][k]'hlt)) = r - 1 - ↑(Ty.sizes (List.take (k + 1) [t1, t2]))) := by rw [T1.out]; have := HRR.out; show _ = _; omega
            go_wp2_with fail
            exact ⟨⟨k + 1, by omega, by go_num, by rw [← eq1.out]; have := U1.out; omega, by rw [T2.out]; have := HD.out; have := U2.out; omega, by rw [T3.out, HF.out, HU3.out]; rfl, by rw [← eq1.out]; exact HR6.out, hz6, HK6.out⟩, by simp [intOf]; omega⟩
          | false =>
            have hfin := within_sub (kd := 4) (r := r) (dp := dp) hlt HRR.out hw
            have HFIN := Lib.hid hfin
            have hsz1 := Ty.sizes_take [t1, t2] k hlt
            have hsz2 := Ty.sizes_le [t1, t2] (k + 1)
            have hq := HRR.out
            have hlo : r - ↑(1 + Ty.sizes [t1, t2]) ≤ r6 := by omega
            have hhi : r6 ≤ r := by omega
            clear hfin hw hsz1 hsz2 hq h1 h2 h3
            go_wp2_with fail
            go_ret
            exact WithinEnd.of HFIN.out HR6.out (by rw [HSG.out]; exact hlo) hhi (fun h => by cases h)
        · obtain rfl : k = 2 := by omega
          have hfin : within (.node 4 [t1, t2]) r dp = true := by
            have h1 : 0 ≤ r - 1 - (Ty.sizes [t1, t2] : Int) := HS.out
            have h2 : (Ty.depths [t1, t2] : Int) ≤ dp - 1 := HD.out
            have h3 : Ty.forms [t1, t2] = true := HF.out
            have h4 := HKO.out
            exact within_mk (show ((1 + Ty.sizes [t1, t2] : Nat) : Int) ≤ r by omega) (show ((1 + Ty.depths [t1, t2] : Nat) : Int) ≤ dp by omega) (by simp only [Ty.form, h3, h4, Bool.and_self])
          have HFIN := Lib.hid hfin; clear hfin
          have h1 : 0 ≤ r - 1 - (Ty.sizes [t1, t2] : Int) := HS.out
          have hlo : r - ↑(1 + Ty.sizes [t1, t2]) ≤ r - 1 - ↑(Ty.sizes [t1, t2]) := by omega
          have HLO := Lib.hid hlo; clear hlo h1
          go_wp2_with fail
          go_ret
          exact WithinEnd.of (r' := r - 1 - ↑(Ty.sizes [t1, t2])) HFIN.out HR.out (by rw [HSG.out]; exact HLO.out) (by omega) (fun _ => by rw [HSG.out]; omega)
    · have H1 := Lib.hid ht1
      have H2 := Lib.hid ht2
      clear ht1 ht2
      have hm := fun (n : Nat) (w : World) => meth_pair n w (.int .i64 k1) s1 (.int .i64 k2) s2
      go_wp2_with fail
      refine (parts_pair w0 d t1 t2 k1 k2 s1 s2 _ H1.out H2.out).mono ?_
      rintro e w4 ⟨bb, rfl, hrow, hb⟩
      have R4 := Lib.hid (R2.out.below hp hb)
      have HZ : Hid (w.heap.size ≤ w2.heap.size) := B2.out.size
      have hz4 := hb.size
      rw [World.size_setCell] at hz4
      clear hb R2 e0 e1 B2 hm
      have hz2 : w.heap.size ≤ w2.heap.size := HZ.out
      clear HZ
      have HROW : Hid (∀ j (h : j < 2), ∃ x0 x1, p < bb ∧ bb < w4.heap.size ∧ w4.cell? ⟨bb, j * 2, none⟩ = some x0 ∧ w4.cell? ⟨bb, j * 2 + 1, none⟩ = some x1 ∧ TyAt w0 d (.agg #[x0, x1]) ([t1, t2][j]'h)) := fun j hj => by
        obtain ⟨a9, c9, he, _, _, hat⟩ := hrow
        obtain ⟨b9, o9, x0, x1, ha, h1, h2, h3, h4, h5⟩ := hat j hj
        simp only [Value.slice.injEq] at he
        obtain ⟨rfl, _⟩ := he
        injection ha with ha
        injection ha with ha1 ha2
        subst ha1 ha2
        rw [World.size_setCell] at h1
        exact ⟨x0, x1, by omega, h2, by simpa using h3, by simpa using h4, h5⟩
      clear hrow H1 H2
      go_wp2_with fail
      go_loopw [32] (fun i wr => ∃ k : Nat, k ≤ 2 ∧ i = .int .i64 k ∧ 0 ≤ r - 1 - (Ty.sizes (List.take k [t1, t2]) : Int) ∧ (Ty.depths (List.take k [t1, t2]) : Int) ≤ dp - 1 ∧ Ty.forms (List.take k [t1, t2]) = true ∧ Room p (r - 1 - Ty.sizes (List.take k [t1, t2])) w wr ∧ w4.heap.size ≤ wr.heap.size ∧ (∀ b, b < w4.heap.size → b ≠ p → wr.heap[b]? = w4.heap[b]?)) (fun i _ => 2 - (intOf i).toNat)
      case atStart => exact ⟨0, by omega, rfl, by simp [Ty.sizes]; omega, by simp [Ty.depths]; omega, by simp [Ty.forms], by simpa [Ty.sizes] using R4.out, Nat.le_refl _, fun _ _ _ => rfl⟩
      case round =>
        obtain ⟨k, hk, rfl, hs, hds, hf, hroom, hz, hkeep⟩ := hrel
        have HS := Lib.hid hs
        have HD := Lib.hid hds
        have HF := Lib.hid hf
        have HR := Lib.hid hroom
        have HK := Lib.hid hkeep
        clear hs hds hf hroom hkeep
        by_cases hlt : k < 2
        · obtain ⟨x0, x1, hpb, hbl, hc0, hc1, ht⟩ := HROW.out k hlt
          obtain ⟨yk, ya, yn, yc, rfl, rfl⟩ := at_parts ht
          have x0 : wr.cell? ⟨bb, k * 2, none⟩ = some (.int .i64 yk) := by rw [World.cell?_of_block (HK.out bb hbl (by omega))]; exact hc0
          have x1 : wr.cell? ⟨bb, k * 2 + 1, none⟩ = some (.slice ya yn yc) := by rw [World.cell?_of_block (HK.out bb hbl (by omega))]; exact hc1
          have hpp := below_alloc wr (.cells #[.int .i64 yk, .slice ya yn yc] 31)
          have HTK := Lib.hid ht
          have HRP := Lib.hid (HR.out.below hp hpp)
          have HWP : Hid (Below w0.heap.size w0 (wr.alloc (.cells #[.int .i64 yk, .slice ya yn yc] 31))) := HW0.out.trans (HRP.out.2.2.1.mono hp0)
          have hg := Ty.size_get [t1, t2] k hlt
          have hzk : Ty.size ([t1, t2][k]'hlt) ≤ 1048577 := by have := HSZ.out; omega
          have hpk : p < (wr.alloc (.cells #[.int .i64 yk, .slice ya yn yc] 31)).heap.size := by simp; omega
          obtain ⟨rr, hrr⟩ : ∃ rr, rr = r - 1 - (Ty.sizes (List.take k [t1, t2]) : Int) := ⟨_, rfl⟩
          rw [← hrr] at HRP HS
          have HRR := Lib.hid hrr; clear hrr
          have g0 : 0 ≤ rr := HS.out
          have g1 : rr ≤ 1048576 := by have := HRR.out; omega
          have gd : 0 ≤ dp - 1 := by omega
          clear ht hc0 hc1 hpp hg
          go_wp2_with fail
          refine (IH.out _ _ p rr (dp - 1) _ HTK.out HWP.out hp0 hzk hpk g0 g1 gd (by omega) HRP.out.1 HRP.out.2.1).mono ?_
          rintro e w6 hend
          obtain ⟨r6, rfl, hr6, h1, h2, h3⟩ := hend.room
          have HR6 := Lib.hid (HRP.out.on hr6)
          have HK6 : Hid (∀ b, b < w4.heap.size → b ≠ p → w6.heap[b]? = w4.heap[b]?) := fun b hb1 hb2 => by
            rw [hr6.2.2.2 b (by simp; omega) hb2, heap_alloc_old _ _ (by omega)]
            exact HK.out b hb1 hb2
          have hz6 : w4.heap.size ≤ w6.heap.size := by have := hr6.2.2.1.size; simp at this; omega
          clear hend hr6
          cases hw : within ([t1, t2][k]'hlt) rr (dp - 1) with
          | true =>
            have h4 := h3 hw
            obtain ⟨u1, u2, u3⟩ := within_true hw
            subst h4
            have HU3 := Lib.hid u3
            have T1 := Lib.hid (Ty.sizes_take [t1, t2] k hlt)
            have T2 := Lib.hid (Ty.depths_take [t1, t2] k hlt)
            have T3 := Lib.hid (Ty.forms_take [t1, t2] k hlt)
            have HW := Lib.hid hw
            have U2 := Lib.hid u2
            have U1 := Lib.hid u1
            clear h1 h2 h3 u3 u2 u1 hw
            have eq1 : Hid (rr - ↑(Ty.size ([t1, t2][k]'hlt)) = r - 1 - ↑(Ty.sizes (List.take (k + 1) [t1, t2]))) := by rw [T1.out]; have := HRR.out; show _ = _; omega
            go_wp2_with fail
            exact ⟨⟨k + 1, by omega, by go_num, by rw [← eq1.out]; have := U1.out; omega, by rw [T2.out]; have := HD.out; have := U2.out; omega, by rw [T3.out, HF.out, HU3.out]; rfl, by rw [← eq1.out]; exact HR6.out, hz6, HK6.out⟩, by simp [intOf]; omega⟩
          | false =>
            have hfin := within_sub (kd := 5) (r := r) (dp := dp) hlt HRR.out hw
            have HFIN := Lib.hid hfin
            have hsz1 := Ty.sizes_take [t1, t2] k hlt
            have hsz2 := Ty.sizes_le [t1, t2] (k + 1)
            have hq := HRR.out
            have hlo : r - ↑(1 + Ty.sizes [t1, t2]) ≤ r6 := by omega
            have hhi : r6 ≤ r := by omega
            clear hfin hw hsz1 hsz2 hq h1 h2 h3
            go_wp2_with fail
            go_ret
            exact WithinEnd.of HFIN.out HR6.out (by rw [HSG.out]; exact hlo) hhi (fun h => by cases h)
        · obtain rfl : k = 2 := by omega
          have hfin : within (.node 5 [t1, t2]) r dp = true := by
            have h1 : 0 ≤ r - 1 - (Ty.sizes [t1, t2] : Int) := HS.out
            have h2 : (Ty.depths [t1, t2] : Int) ≤ dp - 1 := HD.out
            have h3 : Ty.forms [t1, t2] = true := HF.out
            have h4 := HKO.out
            exact within_mk (show ((1 + Ty.sizes [t1, t2] : Nat) : Int) ≤ r by omega) (show ((1 + Ty.depths [t1, t2] : Nat) : Int) ≤ dp by omega) (by simp only [Ty.form, h3, h4, Bool.and_self])
          have HFIN := Lib.hid hfin; clear hfin
          have h1 : 0 ≤ r - 1 - (Ty.sizes [t1, t2] : Int) := HS.out
          have hlo : r - ↑(1 + Ty.sizes [t1, t2]) ≤ r - 1 - ↑(Ty.sizes [t1, t2]) := by omega
          have HLO := Lib.hid hlo; clear hlo h1
          go_wp2_with fail
          go_ret
          exact WithinEnd.of (r' := r - 1 - ↑(Ty.sizes [t1, t2])) HFIN.out HR.out (by rw [HSG.out]; exact HLO.out) (by omega) (fun _ => by rw [HSG.out]; omega)
end Go.Proofs.YtdgfkmnnjhlpbaaDoor
/-
  Proved: impl.IsValidType says whether a type's tree is a valid type; it leaves the memory that was there as it was.
-/
namespace Go.Proofs.YtdgfkmnnjhlpbaaDoor
open Go.RowKit

theorem within_valid (t : Ty) : within t 800 24 = t.valid := by
  have e1 : decide ((t.size : Int) ≤ 800) = decide (t.size ≤ 800) := decide_eq_decide.2 (by omega)
  have e2 : decide ((t.depth : Int) ≤ 24) = decide (t.depth ≤ 24) := decide_eq_decide.2 (by omega)
  unfold within Ty.valid
  rw [e1, e2]
set_option maxRecDepth 100000 in
set_option maxHeartbeats 1000000 in
theorem implValid (d : Nat) (v : Value) (t : Ty) (w : World) (h : TyAt w d v t) (hsz : t.size ≤ 1048577) :
    Calls Tryd.prog 79 #[v] w fun e w' => e = .returned (.bool t.valid) ∧ Below w.heap.size w w' := by
  have HT := Lib.hid h
  obtain ⟨yk, ya, yn, yc, rfl⟩ := agg_parts h
  clear h
  have X : Hid (Below w.heap.size w ((w.alloc (.cells #[.int .i64 yk, .slice ya yn yc] 31)).alloc (.cells #[.int .i64 800] 3))) := ((Below.refl _ _).alloc (Nat.le_refl _) _).alloc (by simp) _
  go_enter Tryd.func79, Tryd.ntmps79
  go_wp2_with fail
  refine (implWithin w d _ t (w.heap.size + 1) 800 24 _ HT.out X.out (by omega) hsz (by simp) (by omega) (by omega) (by omega) (by omega) (by simp [go_sem]) (by simp [go_sem])).mono ?_
  intro e w' hend
  obtain ⟨r', rfl, hr, _⟩ := hend.room
  have HB := Lib.hid (X.out.trans (hr.2.2.1.mono (Nat.le_succ _)))
  clear hend hr
  go_wp2_with fail
  go_ret
  exact ⟨by rw [within_valid]; rfl, HB.out⟩
end Go.Proofs.YtdgfkmnnjhlpbaaDoor
/-
  Proved: impl.typeText gives the text of a type's tree; the memory that was there stays as it was.
-/
namespace Go.Proofs.YtdgfkmnnjhlpbaaDoor
open Go.RowKit

set_option maxRecDepth 100000 in
set_option maxHeartbeats 4000000 in
theorem implText : ∀ (d : Nat) (v : Value) (t : Ty) (w : World), TyAt w d v t → t.form = true → t.size ≤ 1048577 →
    Calls Tryd.prog 107 #[v] w fun e w' => e = .returned (.string t.text) ∧ Below w.heap.size w w'
  | 0, _, _, _, h, _, _ => h.elim
  | d + 1, v, .node kd ts, w, h, hfm, hsz => by
    have IH : Hid (∀ (v : Value) (t : Ty) (w : World), TyAt w d v t → t.form = true → t.size ≤ 1048577 → Calls Tryd.prog 107 #[v] w fun e w' => e = .returned (.string t.text) ∧ Below w.heap.size w w') := implText d
    have HT := Lib.hid h
    obtain ⟨yk, ya, yn, yc, rfl⟩ := agg_parts h
    clear h
    have HF := Lib.hid hfm
    have hko : kindOk kd ts.length = true := by simp only [Ty.form, Bool.and_eq_true] at hfm; exact hfm.2
    have hlen : ts.length ≤ 1152921504606846976 := by
      have : ts.length = 0 ∨ ts.length = 2 := kind_len hko
      omega
    have HKO := Lib.hid hko
    clear hfm hko
    have B : Hid (Below w.heap.size w (w.alloc (.cells #[.int .i64 yk, .slice ya yn yc] 31))) := below_alloc _ _
    go_enter Tryd.func107, Tryd.ntmps107
    go_wp2_with fail
    refine (implNode w d _ kd ts _ HT.out B.out hlen).mono ?_
    rintro e w2 ⟨n, rfl, hnode, hb⟩
    replace B := Lib.hid (below_thru B.out (Nat.le_refl _) hb)
    have hz2 := B.out.size
    clear hb HT
    rcases hnode with ⟨h, _⟩ | ⟨_, rfl, ⟨rfl, rfl⟩ | ⟨rfl, rfl⟩ | ⟨rfl, rfl⟩⟩ | ⟨_, t1, t2, k1, s1, k2, s2, rfl, ht1, ht2, ⟨rfl, rfl⟩ | ⟨rfl, rfl⟩⟩
    · rw [HKO.out] at h; cases h
    · have as_unknown := as_unknown_unknown
      go_wp2_with fail
      go_ret
      exact ⟨rfl, (B.out.alloc (by omega) _)⟩
    · have as_unknown := as_num_unknown
      have as_num := as_num_num
      go_wp2_with fail
      go_ret
      exact ⟨rfl, (B.out.alloc (by omega) _)⟩
    · have as_unknown := as_bool_unknown
      have as_num := as_bool_num
      have as_bool := as_bool_bool
      go_wp2_with fail
      go_ret
      exact ⟨rfl, (B.out.alloc (by omega) _)⟩
    · obtain ⟨_, a1, n1, c1, _, rfl⟩ := at_parts ht1
      obtain ⟨_, a2, n2, c2, _, rfl⟩ := at_parts ht2
      have as_unknown := as_arrow_unknown (.int .i64 k1) (.slice a1 n1 c1) (.int .i64 k2) (.slice a2 n2 c2)
      have as_num := as_arrow_num (.int .i64 k1) (.slice a1 n1 c1) (.int .i64 k2) (.slice a2 n2 c2)
      have as_bool := as_arrow_bool (.int .i64 k1) (.slice a1 n1 c1) (.int .i64 k2) (.slice a2 n2 c2)
      have as_arrow := as_arrow_arrow (.int .i64 k1) (.slice a1 n1 c1) (.int .i64 k2) (.slice a2 n2 c2)
      have F1 := Lib.hid (form_two HF.out).1
      have F2 := Lib.hid (form_two HF.out).2
      have z1 := t1.text_size
      have z2 := t2.text_size
      simp only [Ty.size, Ty.sizes] at hsz
      have Z1 := Lib.hid (show t1.size ≤ 1048577 by omega)
      have Z2 := Lib.hid (show t2.size ≤ 1048577 by omega)
      have m1 : ¬ (9223372036854775807 < 1 + t1.text.size) := by omega
      have m2 : ¬ (9223372036854775807 < 1 + t1.text.size + 1) := by omega
      have m3 : ¬ (9223372036854775807 < 1 + t1.text.size + 1 + t2.text.size) := by omega
      have m4 : ¬ (9223372036854775807 < 1 + t1.text.size + 1 + t2.text.size + 1) := by omega
      clear hsz z1 z2
      have hb := below_alloc w2 (.cells #[.int .i64 k1, .slice a1 n1 c1, .int .i64 k2, .slice a2 n2 c2] 141)
      have H1 := Lib.hid (ht1.below (below_thru B.out (Nat.le_refl _) hb))
      have H2 := Lib.hid (ht2.below (below_thru B.out (Nat.le_refl _) hb))
      replace B := Lib.hid (below_thru B.out (Nat.le_refl _) hb)
      have XN : Hid (BoxAt (w2.alloc (.cells #[.int .i64 k1, .slice a1 n1 c1, .int .i64 k2, .slice a2 n2 c2] 141)) w2.heap.size #[.int .i64 k1, .slice a1 n1 c1, .int .i64 k2, .slice a2 n2 c2]) := BoxAt.new _ _ _
      clear hb ht1 ht2
      go_wp2_with fail
      have hb := below_drew (w2.alloc (.cells #[.int .i64 k1, .slice a1 n1 c1, .int .i64 k2, .slice a2 n2 c2] 141))
      replace B := Lib.hid (below_thru B.out (Nat.le_refl _) hb)
      replace H1 := Lib.hid (H1.out.below hb)
      replace H2 := Lib.hid (H2.out.below hb)
      replace XN := Lib.hid (XN.out.below hb)
      clear hb
      go_region_held3 (fun w' => w'.cell? ⟨w2.heap.size, 0, none⟩ = some (.int .i64 k1) ∧ w'.cell? ⟨w2.heap.size, 1, none⟩ = some (.slice a1 n1 c1) ∧ w'.cell? ⟨w2.heap.size, 2, none⟩ = some (.int .i64 k2) ∧ w'.cell? ⟨w2.heap.size, 3, none⟩ = some (.slice a2 n2 c2)) (exact ⟨XN.out.2 0, XN.out.2 1, XN.out.2 2, XN.out.2 3⟩)
        (first
         | (go_at_call_of 107 (Value.agg #[Value.int IntKind.i64 k1, Value.slice a1 n1 c1])
            refine (IH.out _ t1 _ H1.out F1.out Z1.out).mono ?_
            rintro e w3 ⟨rfl, hb⟩
            replace B := Lib.hid (below_thru B.out (Nat.le_refl _) hb)
            replace H1 := Lib.hid (H1.out.below hb)
            replace H2 := Lib.hid (H2.out.below hb)
            replace XN := Lib.hid (XN.out.below hb)
            clear hb)
         | (go_at_call_of 107 (Value.agg #[Value.int IntKind.i64 k2, Value.slice a2 n2 c2])
            refine (IH.out _ t2 _ H2.out F2.out Z2.out).mono ?_
            rintro e w4 ⟨rfl, hb⟩
            replace B := Lib.hid (below_thru B.out (Nat.le_refl _) hb)
            replace H1 := Lib.hid (H1.out.below hb)
            replace H2 := Lib.hid (H2.out.below hb)
            replace XN := Lib.hid (XN.out.below hb)
            clear hb))
      go_wp2_with fail
      go_ret
      exact ⟨by rw [Ty.text_arrow]; rfl, B.out⟩
    · obtain ⟨_, a1, n1, c1, _, rfl⟩ := at_parts ht1
      obtain ⟨_, a2, n2, c2, _, rfl⟩ := at_parts ht2
      have as_unknown := as_pair_unknown (.int .i64 k1) (.slice a1 n1 c1) (.int .i64 k2) (.slice a2 n2 c2)
      have as_num := as_pair_num (.int .i64 k1) (.slice a1 n1 c1) (.int .i64 k2) (.slice a2 n2 c2)
      have as_bool := as_pair_bool (.int .i64 k1) (.slice a1 n1 c1) (.int .i64 k2) (.slice a2 n2 c2)
      have as_arrow := as_pair_arrow (.int .i64 k1) (.slice a1 n1 c1) (.int .i64 k2) (.slice a2 n2 c2)
      have as_pair := as_pair_pair (.int .i64 k1) (.slice a1 n1 c1) (.int .i64 k2) (.slice a2 n2 c2)
      have F1 := Lib.hid (form_two HF.out).1
      have F2 := Lib.hid (form_two HF.out).2
      have z1 := t1.text_size
      have z2 := t2.text_size
      simp only [Ty.size, Ty.sizes] at hsz
      have Z1 := Lib.hid (show t1.size ≤ 1048577 by omega)
      have Z2 := Lib.hid (show t2.size ≤ 1048577 by omega)
      have m1 : ¬ (9223372036854775807 < 1 + t1.text.size) := by omega
      have m2 : ¬ (9223372036854775807 < 1 + t1.text.size + 1) := by omega
      have m3 : ¬ (9223372036854775807 < 1 + t1.text.size + 1 + t2.text.size) := by omega
      have m4 : ¬ (9223372036854775807 < 1 + t1.text.size + 1 + t2.text.size + 1) := by omega
      clear hsz z1 z2
      have hb := below_alloc w2 (.cells #[.int .i64 k1, .slice a1 n1 c1, .int .i64 k2, .slice a2 n2 c2] 143)
      have H1 := Lib.hid (ht1.below (below_thru B.out (Nat.le_refl _) hb))
      have H2 := Lib.hid (ht2.below (below_thru B.out (Nat.le_refl _) hb))
      replace B := Lib.hid (below_thru B.out (Nat.le_refl _) hb)
      have XN : Hid (BoxAt (w2.alloc (.cells #[.int .i64 k1, .slice a1 n1 c1, .int .i64 k2, .slice a2 n2 c2] 143)) w2.heap.size #[.int .i64 k1, .slice a1 n1 c1, .int .i64 k2, .slice a2 n2 c2]) := BoxAt.new _ _ _
      clear hb ht1 ht2
      go_wp2_with fail
      have hb := below_drew (w2.alloc (.cells #[.int .i64 k1, .slice a1 n1 c1, .int .i64 k2, .slice a2 n2 c2] 143))
      replace B := Lib.hid (below_thru B.out (Nat.le_refl _) hb)
      replace H1 := Lib.hid (H1.out.below hb)
      replace H2 := Lib.hid (H2.out.below hb)
      replace XN := Lib.hid (XN.out.below hb)
      clear hb
      go_region_held3 (fun w' => w'.cell? ⟨w2.heap.size, 0, none⟩ = some (.int .i64 k1) ∧ w'.cell? ⟨w2.heap.size, 1, none⟩ = some (.slice a1 n1 c1) ∧ w'.cell? ⟨w2.heap.size, 2, none⟩ = some (.int .i64 k2) ∧ w'.cell? ⟨w2.heap.size, 3, none⟩ = some (.slice a2 n2 c2)) (exact ⟨XN.out.2 0, XN.out.2 1, XN.out.2 2, XN.out.2 3⟩)
        (first
         | (go_at_call_of 107 (Value.agg #[Value.int IntKind.i64 k1, Value.slice a1 n1 c1])
            refine (IH.out _ t1 _ H1.out F1.out Z1.out).mono ?_
            rintro e w3 ⟨rfl, hb⟩
            replace B := Lib.hid (below_thru B.out (Nat.le_refl _) hb)
            replace H1 := Lib.hid (H1.out.below hb)
            replace H2 := Lib.hid (H2.out.below hb)
            replace XN := Lib.hid (XN.out.below hb)
            clear hb)
         | (go_at_call_of 107 (Value.agg #[Value.int IntKind.i64 k2, Value.slice a2 n2 c2])
            refine (IH.out _ t2 _ H2.out F2.out Z2.out).mono ?_
            rintro e w4 ⟨rfl, hb⟩
            replace B := Lib.hid (below_thru B.out (Nat.le_refl _) hb)
            replace H1 := Lib.hid (H1.out.below hb)
            replace H2 := Lib.hid (H2.out.below hb)
            replace XN := Lib.hid (XN.out.below hb)
            clear hb))
      go_wp2_with fail
      go_ret
      exact ⟨by rw [Ty.text_pair]; rfl, B.out⟩
end Go.Proofs.YtdgfkmnnjhlpbaaDoor
namespace Go.Proofs.YtdgfkmnnjhlpbaaDoor
open Go.RowKit

set_option maxRecDepth 100000 in
set_option maxHeartbeats 1000000 in
theorem implFormatType (d : Nat) (v : Value) (t : Ty) (w : World) (h : TyAt w d v t) (hsz : t.size ≤ 1048577) :
    Calls Tryd.prog 61 #[v] w fun e w' => e = .returned (.string (formatText t)) ∧ Below w.heap.size w w' := by
  have HT := Lib.hid h
  obtain ⟨yk, ya, yn, yc, rfl⟩ := agg_parts h
  clear h
  have B : Hid (Below w.heap.size w (w.alloc (.cells #[.int .i64 yk, .slice ya yn yc] 31))) := below_alloc _ _
  have HA := Lib.hid (HT.out.below B.out)
  have XA : Hid (BoxAt (w.alloc (.cells #[.int .i64 yk, .slice ya yn yc] 31)) w.heap.size #[.int .i64 yk, .slice ya yn yc]) := BoxAt.new _ _ _
  clear HT
  go_enter Tryd.func61, Tryd.ntmps61
  go_wp2_with fail
  refine (implValid d _ t _ HA.out hsz).mono ?_
  rintro e w1 ⟨rfl, hb⟩
  replace B := Lib.hid (below_thru B.out (Nat.le_refl _) hb)
  replace HA := Lib.hid (HA.out.below hb)
  replace XA := Lib.hid (XA.out.below hb)
  clear hb
  cases hv : t.valid with
  | false =>
    have HV := Lib.hid hv; clear hv
    go_wp2_with fail
    go_ret
    exact ⟨by rw [format_bad HV.out]; rfl, B.out⟩
  | true =>
    have HV := Lib.hid hv
    have hfm : t.form = true := by simp only [Ty.valid, Bool.and_eq_true] at hv; exact hv.2
    clear hv
    have a0 := XA.out.2 0
    have a1 := XA.out.2 1
    go_wp2_with fail
    refine (implText d _ t _ HA.out hfm hsz).mono ?_
    rintro e w2 ⟨rfl, hb⟩
    have B2 := Lib.hid (below_thru B.out (Nat.le_refl _) hb)
    clear hb hfm
    go_wp2_with fail
    go_ret
    exact ⟨by rw [format_good HV.out]; rfl, B2.out⟩
end Go.Proofs.YtdgfkmnnjhlpbaaDoor
