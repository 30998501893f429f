/-
  Proved: plain facts on lists of texts as sets: membership, a map of the call's own that holds them, a list without doubles.
-/
import Derived.Test.YtefoenkmppeidaaSpecIndex
import Derived.Test.YtefoenkmppeidaaSetAt
namespace Go.Proofs.Ytefoenkmppeidaa
open Go.RowKit Go.Maps Go.WideMaps

theorem list_inj {a b : ByteArray} (h : a.toList = b.toList) : a = b := by
  rw [ByteArray.toList_eq, ByteArray.toList_eq] at h
  have e := congrArg List.toArray h
  simp at e
  exact ByteArray.ext e
theorem idx_mem : ∀ (L : List ByteArray) (x : ByteArray) (k : Nat), 0 ≤ idx L x k ↔ x ∈ L
  | [], x, k => by simp [idx]
  | a :: r, x, k => by
    unfold idx
    by_cases h : (a.toList == x.toList) = true
    · rw [if_pos h]
      have e : a = x := list_inj (by simpa using h)
      simp [e]
    · rw [if_neg h, idx_mem r x (k + 1)]
      have e : x ≠ a := fun e => h (by rw [e]; simp)
      simp [e]
theorem law_str : Keyed Try.prog 9 := string_keyed Try.underlying9
theorem zero_bool (w : World) : (zeroValue 4).run Try.prog w = .ok (.bool false) w := by kernel_rfl
/-- Whether a list holds the text of these bytes. -/
def seenB (L : List ByteArray) (l : List UInt8) : Bool := decide (l ∈ L.map fun s => s.data.toList)
theorem seenB_nil : (fun _ => false) = seenB [] := by funext l; simp [seenB]
theorem seenB_put (L : List ByteArray) (x : ByteArray) : (fun l => if l = x.data.toList then true else seenB L l) = seenB (L ++ [x]) := by
  funext l
  by_cases h : l = x.data.toList
  · rw [if_pos h]; simp [seenB, h]
  · rw [if_neg h]; simp [seenB, h]
theorem seenB_mem (L : List ByteArray) (x : ByteArray) : seenB L x.data.toList = true ↔ x ∈ L := by
  unfold seenB
  rw [decide_eq_true_eq]
  constructor
  · intro h
    obtain ⟨y, hy, e⟩ := List.mem_map.1 h
    have : y = x := list_inj (by rw [ByteArray.toList_eq, ByteArray.toList_eq]; exact e)
    rw [← this]; exact hy
  · intro h
    exact List.mem_map.2 ⟨x, h, rfl⟩
abbrev NamesAt (w : World) (b n : Nat) (L : List ByteArray) : Prop := SetAt Try.prog 9 4 Lit.string w b n (seenB L)
theorem take_add (ss : List ByteArray) (k : Nat) (h : k < ss.length) : ss.take (k + 1) = ss.take k ++ [ss[k]] := by
  rw [List.take_add_one, List.getElem?_eq_getElem h]; rfl
/-- A list with a text that it may hold already. -/
def addN (L : List ByteArray) (x : ByteArray) : List ByteArray := if seenB L x.data.toList = true then L else L ++ [x]
def addAll : List ByteArray → List ByteArray → List ByteArray
  | L, [] => L
  | L, a :: r => addAll (addN L a) r
theorem addAll_take (ss : List ByteArray) : ∀ (L : List ByteArray) (k : Nat) (h : k < ss.length), addAll L (ss.take (k + 1)) = addN (addAll L (ss.take k)) ss[k] := by
  induction ss with
  | nil => intro L k h; simp at h
  | cons a r ih =>
    intro L k h
    cases k with
    | zero => simp [addAll]
    | succ k =>
      simp only [List.take_succ_cons, addAll, List.getElem_cons_succ]
      exact ih (addN L a) k (by simpa using h)
theorem addN_few (L : List ByteArray) (x : ByteArray) : (addN L x).length ≤ L.length + 1 := by unfold addN; split <;> simp
theorem addAll_few : ∀ (ss L : List ByteArray), (addAll L ss).length ≤ L.length + ss.length
  | [], L => by simp [addAll]
  | a :: r, L => by have h1 := addAll_few r (addN L a); have h2 := addN_few L a; simp only [addAll, List.length_cons]; omega
theorem addAll_part (ss L : List ByteArray) (k : Nat) : (addAll L (ss.take k)).length ≤ L.length + ss.length :=
  Nat.le_trans (addAll_few _ _) (by simp; omega)
theorem idx_seen (L : List ByteArray) (x : ByteArray) : 0 ≤ idx L x 0 ↔ seenB L x.data.toList = true := (idx_mem L x 0).trans (seenB_mem L x).symm
end Go.Proofs.Ytefoenkmppeidaa
