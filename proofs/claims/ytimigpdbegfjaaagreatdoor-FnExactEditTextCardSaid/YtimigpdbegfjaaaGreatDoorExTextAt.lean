/-
  Proved: plain facts on a row of strings of a call's own.
-/
import Derived.Test.YtimigpdbegfjaaaGreatDoorExText
import Derived.Test.YtimigpdbegfjaaaGreatDoorStrs
import Derived.Test.YtimigpdbegfjaaaGreatDoorHold
namespace Go.Proofs.YtimigpdbegfjaaaGreatDoor
open Go.RowKit

/-- Block p holds the strings xs from its beginning on. -/
def ArgsAt (w : World) (p : Nat) (xs : List ByteArray) : Prop := p < w.heap.size ∧ ∀ j (h : j < xs.length), w.cell? ⟨p, j, none⟩ = some (.string xs[j])
theorem ArgsAt.below {w w' : World} {p : Nat} {xs : List ByteArray} (h : ArgsAt w p xs) (hb : Below w.heap.size w w') : ArgsAt w' p xs :=
  ⟨Nat.lt_of_lt_of_le h.1 hb.size, fun j hj => (hb.cell (p := ⟨p, j, none⟩) h.1).trans (h.2 j hj)⟩
theorem ArgsAt.of_own {w : World} {base : Nat} {e : TypeId} {p n c : Nat} {xs : List ByteArray} (h : w.ownsRow base e 1 (.slice (some ⟨p, 0, none⟩) n c) xs.length (xs.map Value.string)) : ArgsAt w p xs :=
  ⟨(h.lt p rfl).2, fun j hj => by
    have := h.cells rfl j (.string xs[j]) (by simp [hj])
    rw [addr_add] at this; simpa using this⟩
/-- One cell of a block that is there. -/
theorem below_qs {B : Nat} {a w : World} (h : Below B a w) (n : Nat) : Below B a (w.drewN n) := ⟨h.os, h.tape, h.output, h.size, h.block⟩
def CellAt (w : World) (b o : Nat) (v : Value) : Prop := b < w.heap.size ∧ w.cell? ⟨b, o, none⟩ = some v
theorem CellAt.below {w w' : World} {b o : Nat} {v : Value} (h : CellAt w b o v) (hb : Below w.heap.size w w') : CellAt w' b o v :=
  ⟨Nat.lt_of_lt_of_le h.1 hb.size, (hb.cell (p := ⟨b, o, none⟩) h.1).trans h.2⟩
theorem strs_pos {w : World} {oa : Option Addr} {n oc : Nat} {xs : List ByteArray} (h : Strs w (.slice oa n oc) xs) (hp : 0 < xs.length) : ∃ b off, oa = some ⟨b, off, none⟩ ∧ ∀ j (hj : j < xs.length), CellAt w b (off + j) (.string xs[j]) := by
  rcases h.parts with ⟨rfl, _⟩ | ⟨_, b, off, cap, hv, _, hb, hc⟩
  · simp at hp
  · injection hv with h1 h2 h3
    exact ⟨b, off, h1, fun j hj => ⟨hb, hc j hj⟩⟩
theorem strs_len {w : World} {oa : Option Addr} {n oc : Nat} {xs : List ByteArray} (h : Strs w (.slice oa n oc) xs) : n = xs.length := by
  obtain ⟨a, c, hv, _⟩ := h
  injection hv with h1 h2 h3
theorem form_bool {nm : ByteArray} {n : Int} {ty : Ty} {es : List Ex} (h : (Ex.node 8 nm n ty es).form = true) : n = 0 ∨ n = 1 := by
  simp only [Ex.form, fitsB, Bool.and_eq_true, numFor] at h
  have h2 := h.2.2.2.2.1
  simp at h2
  omega
theorem two_group {a x s y b : ByteArray} : a ++ x ++ s ++ y ++ b = a ++ (x ++ s ++ y) ++ b := by simp only [ByteArray.append_assoc]
/-- What the text of a node is, kind by kind. -/
theorem text_1 (nm : ByteArray) (n : Int) (ty : Ty) (es : List Ex) : (Ex.node 1 nm n ty es).text = ⟨#[63]⟩ ++ numB n := by simp [Ex.text, exSay]
theorem text_2 (nm : ByteArray) (n : Int) (ty : Ty) (es : List Ex) : (Ex.node 2 nm n ty es).text = nm := by simp [Ex.text, exSay]
theorem text_5 (nm : ByteArray) (n : Int) (ty : Ty) (es : List Ex) : (Ex.node 5 nm n ty es).text = numB n := by simp [Ex.text, exSay]
theorem text_8 (nm : ByteArray) (n : Int) (ty : Ty) (es : List Ex) : (Ex.node 8 nm n ty es).text = if n = 1 then ⟨#[35, 116]⟩ else ⟨#[35, 102]⟩ := by simp [Ex.text, exSay]
theorem xone_of {xs : List ByteArray} (h : xs.length = 1) : xs = [xs[0]'(by omega)] := by
  match xs, h with
  | [x], _ => rfl
theorem xtwo_of {xs : List ByteArray} (h : xs.length = 2) : xs = [xs[0]'(by omega), xs[1]'(by omega)] := by
  match xs, h with
  | [x, y], _ => rfl
theorem xthree_of {xs : List ByteArray} (h : xs.length = 3) : xs = [xs[0]'(by omega), xs[1]'(by omega), xs[2]'(by omega)] := by
  match xs, h with
  | [x, y, z], _ => rfl
theorem text_one (k : Int) (nm : ByteArray) (n : Int) (ty : Ty) (es : List Ex) (h : (Ex.texts es).length = 1) : (Ex.node k nm n ty es).text = exSay k nm (numB n) ty.text n [(Ex.texts es)[0]'(by omega)] := by
  simp only [Ex.text]; rw [← xone_of h]
theorem text_two (k : Int) (nm : ByteArray) (n : Int) (ty : Ty) (es : List Ex) (h : (Ex.texts es).length = 2) : (Ex.node k nm n ty es).text = exSay k nm (numB n) ty.text n [(Ex.texts es)[0]'(by omega), (Ex.texts es)[1]'(by omega)] := by
  simp only [Ex.text]; rw [← xtwo_of h]
theorem text_three (k : Int) (nm : ByteArray) (n : Int) (ty : Ty) (es : List Ex) (h : (Ex.texts es).length = 3) : (Ex.node k nm n ty es).text = exSay k nm (numB n) ty.text n [(Ex.texts es)[0]'(by omega), (Ex.texts es)[1]'(by omega), (Ex.texts es)[2]'(by omega)] := by
  simp only [Ex.text]; rw [← xthree_of h]
theorem form_kind {k : Int} {nm : ByteArray} {n : Int} {ty : Ty} {es : List Ex} (h : (Ex.node k nm n ty es).form = true) : 1 ≤ k ∧ k ≤ 14 := by
  have e := (form_parts h).2.1
  by_cases hk : 1 ≤ k ∧ k ≤ 14
  · exact hk
  · rw [arity_out hk] at e; omega
theorem total_get (xs : List ByteArray) (k : Nat) (h : k < xs.length) : xs[k].size ≤ total xs := size_le xs k h
end Go.Proofs.YtimigpdbegfjaaaGreatDoor
