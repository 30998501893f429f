/-
  Proved: plain facts on the least positive number that is not in a list; the numbers of holes are numbers that an int holds.
-/
import Derived.Test.YtadjaclmgdmnbaaExHoles
namespace Go.Proofs.Ytadjaclmgdmnbaa
open Go.RowKit

theorem int_short : ∀ (l ss : List Int), l.Nodup → (∀ x, x ∈ l → x ∈ ss) → l.length ≤ ss.length
  | [], _, _, _ => Nat.zero_le _
  | a :: r, ss, hn, hs => by
    have ha : a ∈ ss := hs a (by simp)
    have hn' := List.nodup_cons.1 hn
    have h := int_short r (ss.erase a) hn'.2 fun x hx => by
      have hne : x ≠ a := fun e => hn'.1 (e ▸ hx)
      exact (List.mem_erase_of_ne hne).2 (hs x (List.mem_cons_of_mem _ hx))
    have hl := List.length_erase_of_mem ha
    have hp : 0 < ss.length := List.length_pos_of_mem ha
    simp only [List.length_cons]; omega
/-- All positive numbers below n are in the list. -/
def LowAt (us : List Int) (n : Int) : Prop := 1 ≤ n ∧ ∀ m, 1 ≤ m → m < n → m ∈ us
theorem LowAt.start (us : List Int) : LowAt us 1 := ⟨by omega, fun m h1 h2 => by omega⟩
theorem LowAt.few {us : List Int} {n : Int} (h : LowAt us n) : n ≤ us.length + 1 := by
  have hn : ((List.range (n - 1).toNat).map fun (j : Nat) => (j : Int) + 1).Nodup := by
    unfold List.Nodup
    rw [List.pairwise_map]
    exact List.Pairwise.imp (fun hne e => hne (by omega)) (List.nodup_range (n := (n - 1).toNat))
  have := int_short _ us hn fun x hx => by
    obtain ⟨j, hj, rfl⟩ := List.mem_map.1 hx
    have hj' := List.mem_range.1 hj
    exact h.2 _ (by omega) (by omega)
  have h1 := h.1
  simp at this
  omega
theorem LowAt.next {us : List Int} {n : Int} (h : LowAt us n) (hm : n ∈ us) : LowAt us (n + 1) := by
  have h0 := h.1
  refine ⟨by omega, fun m h1 h2 => ?_⟩
  by_cases e : m = n
  · rw [e]; exact hm
  · exact h.2 m h1 (by omega)
theorem LowAt.full {us : List Int} {n : Int} (h : LowAt us n) (hn : (us.length : Int) + 1 ≤ n) : n ∉ us := fun hm => by
  have := (h.next hm).few
  omega
def FirstOut (us : List Int) (n : Int) : Prop := LowAt us n ∧ n ∉ us
theorem FirstOut.unique {us : List Int} {n n' : Int} (h : FirstOut us n) (h' : FirstOut us n') : n = n' := by
  have h1 := h.1.1
  have h2 := h'.1.1
  rcases (by omega : n < n' ∨ n = n' ∨ n' < n) with q | q | q
  · exact absurd (h'.1.2 n h1 q) h.2
  · exact q
  · exact absurd (h.1.2 n' h2 q) h'.2
theorem ExAt.holes64 {w : World} : ∀ {d : Nat} {v : Value} {t : Ex}, ExAt w d v t → ∀ n ∈ t.holes, -9223372036854775808 ≤ n ∧ n ≤ 9223372036854775807
  | 0, _, _, h => h.elim
  | d + 1, v, .node k nm n ty es, h => by
    obtain ⟨c3, c4, sl, hv, h0, h1, h2, h3, h4, ht, a, cap, hs, hc, hm, hat⟩ := h
    intro x hx
    simp only [Ex.holes, List.mem_append] at hx
    rcases hx with hx | hx
    · split at hx
      · simp at hx; subst hx; exact ⟨h2, h3⟩
      · simp at hx
    · have key : ∀ k, k ≤ es.length → ∀ y ∈ Ex.holess (es.take k), -9223372036854775808 ≤ y ∧ y ≤ 9223372036854775807 := by
        intro k
        induction k with
        | zero => intro _ y hy; simp [Ex.holess] at hy
        | succ k ih =>
          intro hk y hy
          rw [Ex.holess_take es k (by omega), List.mem_append] at hy
          rcases hy with hy | hy
          · exact ih (by omega) y hy
          · obtain ⟨b, off, e0, e1, e2, e3, e4, e5, _, _, _, _, _, _, _, _, hr⟩ := hat k (by omega)
            exact ExAt.holes64 hr y hy
      exact key es.length (Nat.le_refl _) x (by rw [List.take_length]; exact hx)
end Go.Proofs.Ytadjaclmgdmnbaa
