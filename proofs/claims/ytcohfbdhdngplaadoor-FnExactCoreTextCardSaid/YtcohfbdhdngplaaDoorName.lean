/-
  Proved: plain facts on names; the memory that was there stays as it was.
-/
import Derived.Test.YtcohfbdhdngplaaDoorTree
namespace Go.Proofs.YtcohfbdhdngplaaDoor
open Go.RowKit

/-- May the byte c stand at place k of a name? -/
def okAt (c k : Nat) : Bool := (decide (97 ≤ c) && decide (c ≤ 122)) || (decide (1 ≤ k) && (decide (48 ≤ c) && decide (c ≤ 57)))
/-- The first n bytes may stand in a name. -/
def okB (s : ByteArray) : Nat → Bool
  | 0 => true
  | n + 1 => okB s n && (if h : n < s.size then okAt (s[n]'h).toNat n else true)
theorem okB_succ (s : ByteArray) (n : Nat) (h : n < s.size) : okB s (n + 1) = (okB s n && okAt (s[n]'h).toNat n) := by simp [okB, h]
theorem okB_false (s : ByteArray) : ∀ (n m : Nat), okB s n = false → n ≤ m → okB s m = false := by
  intro n m h hm
  induction hm with
  | refl => exact h
  | step _ ih => simp [okB, ih]
theorem okAt_letter {c k : Nat} (h1 : 97 ≤ c) (h2 : c ≤ 122) : okAt c k = true := by simp [okAt, h1, h2]
theorem okAt_digit {c k : Nat} (hk : 1 ≤ k) (h1 : 48 ≤ c) (h2 : c ≤ 57) : okAt c k = true := by simp [okAt, hk, h1, h2]
theorem okAt_bad {c k : Nat} (h1 : c < 97 ∨ 122 < c) (h2 : k = 0 ∨ c < 48 ∨ 57 < c) : okAt c k = false := by
  unfold okAt
  simp only [Bool.or_eq_false_iff, Bool.and_eq_false_iff, decide_eq_false_iff_not]
  omega
def wordB (s : ByteArray) : Bool := (s.toList == [105, 102]) || ((s.toList == [102, 115, 116]) || (s.toList == [115, 110, 100]))
/-- A name: one to five small letters and digits, a letter first; none of the three words. -/
def nameB (s : ByteArray) : Bool := decide (1 ≤ s.size) && (decide (s.size ≤ 5) && (!(wordB s) && okB s s.size))
theorem size_of_toList (s : ByteArray) : s.toList.length = s.size := by rw [ByteArray.toList_eq]; simp
theorem toList_empty {s : ByteArray} (h : s.toList = []) : s.size = 0 := by rw [← size_of_toList, h]; rfl
theorem toList_some {s : ByteArray} (h : 1 ≤ s.size) : (s.toList == []) = false := beq_false_of_ne fun e => by have := toList_empty e; omega
end Go.Proofs.YtcohfbdhdngplaaDoor
