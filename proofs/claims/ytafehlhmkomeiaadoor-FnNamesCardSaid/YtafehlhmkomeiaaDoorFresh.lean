/-
  Proved: plain facts on names that are not taken: the texts base, base1, base2 and so on are different, so one of the first n + 1 is not in a list of n. Plain mathematics, no program.
-/
import Derived.Test.YtafehlhmkomeiaaDoorParse
import Derived.Lib.Hide
namespace Go.Proofs.YtafehlhmkomeiaaDoor
open Go.RowKit

/-- The k-th text that is tried. -/
def cand (base : ByteArray) : Nat → ByteArray
  | 0 => base
  | n + 1 => base ++ ⟨(Lib.itoa ((n : Int) + 1)).toArray⟩
theorem app_list (a : ByteArray) (l : List UInt8) : (a ++ (⟨l.toArray⟩ : ByteArray)).data.toList = a.data.toList ++ l := by
  rw [ByteArray.data_append]; simp
theorem itoa_some (n : Int) (h : 0 < n) : Lib.itoa n ≠ [] := by
  rw [Num.itoa_pos n h]
  intro e
  have := Num.dd_pos n.natAbs (by omega)
  rw [this] at e; simp at e
theorem cand_inj {base : ByteArray} : ∀ {n m : Nat}, cand base n = cand base m → n = m
  | 0, 0, _ => rfl
  | 0, m + 1, h => by
    have h1 := congrArg (fun x : ByteArray => x.data.toList.length) h
    simp only [cand, app_list, List.length_append] at h1
    exact absurd (List.length_eq_zero_iff.1 (by omega)) (itoa_some ((m : Int) + 1) (by omega))
  | n + 1, 0, h => by
    have h1 := congrArg (fun x : ByteArray => x.data.toList.length) h
    simp only [cand, app_list, List.length_append] at h1
    exact absurd (List.length_eq_zero_iff.1 (by omega)) (itoa_some ((n : Int) + 1) (by omega))
  | n + 1, m + 1, h => by
    have h1 := congrArg (fun x : ByteArray => x.data.toList) h
    simp only [cand, app_list] at h1
    have h2 := Num.itoa_inj (List.append_cancel_left h1)
    omega
theorem nodup_short {α : Type} [DecidableEq α] : ∀ (l ss : List α), l.Nodup → (∀ x, x ∈ l → x ∈ ss) → l.length ≤ ss.length
  | [], _, _, _ => Nat.zero_le _
  | a :: r, ss, hn, hs => by
    have ha : a ∈ ss := hs a (by simp)
    have hn' := List.nodup_cons.1 hn
    have h := nodup_short r (ss.erase a) hn'.2 fun x hx => by
      have hne : x ≠ a := fun e => hn'.1 (e ▸ hx)
      exact (List.mem_erase_of_ne hne).2 (hs x (List.mem_cons_of_mem _ hx))
    have hl := List.length_erase_of_mem ha
    have hp : 0 < ss.length := List.length_pos_of_mem ha
    simp only [List.length_cons]; omega
theorem cand_few {base : ByteArray} {ss : List ByteArray} {m : Nat} (h : ∀ j, j < m → cand base j ∈ ss) : m ≤ ss.length := by
  have hn : ((List.range m).map fun j => (cand base j).data.toList).Nodup := by
    unfold List.Nodup
    rw [List.pairwise_map]
    refine List.Pairwise.imp (fun hne e => hne (cand_inj (base := base) ?_)) (List.nodup_range (n := m))
    have e2 := congrArg List.toArray e
    simp at e2
    exact ByteArray.ext e2
  have := nodup_short _ (ss.map fun s => s.data.toList) hn fun x hx => by
    obtain ⟨j, hj, rfl⟩ := List.mem_map.1 hx
    exact List.mem_map.2 ⟨_, h j (List.mem_range.1 hj), rfl⟩
  simpa using this
/-- The m-th text is the first that is not in the list. -/
def FreshAt (ss : List ByteArray) (base : ByteArray) (m : Nat) : Prop := (∀ j, j < m → cand base j ∈ ss) ∧ cand base m ∉ ss
theorem FreshAt.unique {ss : List ByteArray} {base : ByteArray} {m m' : Nat} (h : FreshAt ss base m) (h' : FreshAt ss base m') : m = m' := by
  rcases Nat.lt_trichotomy m m' with q | q | q
  · exact absurd (h'.1 m q) h.2
  · exact q
  · exact absurd (h.1 m' q) h'.2
theorem itoa_short (n : Int) (h0 : 0 < n) (h1 : n ≤ 2097152) : (Lib.itoa n).length ≤ 7 := by
  rw [Num.itoa_pos n h0]
  exact Num.dd_len_le 7 _ (by omega)
theorem cand_size {base : ByteArray} {m : Nat} (h : base.size ≤ 1048576) (hm : m ≤ 1048577) : (cand base m).size ≤ 1048583 := by
  cases m with
  | zero => show base.size ≤ _; omega
  | succ n =>
    have := itoa_short ((n : Int) + 1) (by omega) (by omega)
    show (base ++ _).size ≤ _
    rw [ByteArray.size_append]
    show base.size + (Lib.itoa ((n : Int) + 1)).toArray.size ≤ _
    simp; omega
end Go.Proofs.YtafehlhmkomeiaaDoor
