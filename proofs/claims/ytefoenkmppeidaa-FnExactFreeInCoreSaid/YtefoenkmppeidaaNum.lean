/-
  Proved: the digits that a decimal loop collects (least digit first, put in front) are the decimal numeral of the number. Plain mathematics, no program.
-/
import Derived.Lib.ItoaNum
import Derived.Lib.ItoaMem
namespace Go.Proofs.Ytefoenkmppeidaa.Num

/-- The digits of a number, none for 0. -/
def dd (u : Nat) : List UInt8 :=
  if _h : u = 0 then [] else dd (u / 10) ++ [UInt8.ofNat (48 + u % 10)]
termination_by u
decreasing_by omega

theorem dd_zero : dd 0 = [] := by rw [dd]; simp
theorem dd_pos (u : Nat) (h : u ≠ 0) : dd u = dd (u / 10) ++ [UInt8.ofNat (48 + u % 10)] := by
  rw [dd, dif_neg h]
theorem dd_eq (u : Nat) (h : u ≠ 0) : dd u = Lib.decDigits u := by
  induction u using Nat.strongRecOn with
  | ind u ih =>
    rw [dd_pos u h, Lib.decDigits]
    by_cases h10 : u < 10
    · rw [dif_pos h10, show u / 10 = 0 from by omega, dd_zero, show u % 10 = u from by omega]; rfl
    · rw [dif_neg h10, ih (u / 10) (by omega) (by omega)]

theorem natAbs_tdiv (m : Int) : (m.tdiv 10).natAbs = m.natAbs / 10 := by
  rw [Int.natAbs_tdiv]; rfl
theorem natAbs_tmod (m : Int) : (m.tmod 10).natAbs = m.natAbs % 10 := by
  rw [Int.natAbs_tmod]; rfl

/-- What a round does: the digit of m stands in front of what was collected. -/
theorem round (n m : Int) (l : List UInt8) (hm : m ≠ 0) (h : dd n.natAbs = dd m.natAbs ++ l) :
    dd n.natAbs = dd (m.tdiv 10).natAbs ++ (UInt8.ofNat (48 + (m.tmod 10).natAbs) :: l) := by
  rw [h, dd_pos m.natAbs (by omega), natAbs_tdiv, natAbs_tmod]
  simp

theorem round_pos (n m : Int) (l : List UInt8) (h0 : 0 ≤ m) (hm : m ≠ 0) (h : dd n.natAbs = dd m.natAbs ++ l) :
    dd n.natAbs = dd (m / 10).natAbs ++ (UInt8.ofNat (48 + m % 10).toNat :: l) := by
  rw [h, dd_pos m.natAbs (by omega), show (m / 10).natAbs = m.natAbs / 10 from by omega, show (48 + m % 10).toNat = 48 + m.natAbs % 10 from by omega]
  simp
theorem dd_len (u : Nat) : (dd u).length ≤ u := by
  induction u using Nat.strongRecOn with
  | ind u ih =>
    by_cases h : u = 0
    · subst h; rw [dd_zero]; simp
    · rw [dd_pos u h]
      have := ih (u / 10) (by omega)
      simp; omega
theorem len_of (n m : Int) (l : List UInt8) (hm : m ≠ 0) (h : dd n.natAbs = dd m.natAbs ++ l) : l.length + 1 ≤ n.natAbs := by
  have h1 := congrArg List.length h
  have h2 := dd_len n.natAbs
  rw [dd_pos m.natAbs (by omega)] at h1
  simp at h1; omega

theorem dd_len_le (k u : Nat) (h : u < 10 ^ k) : (dd u).length ≤ k := by
  induction k generalizing u with
  | zero => rw [show u = 0 from by omega, dd_zero]; simp
  | succ k ih =>
    by_cases hu : u = 0
    · subst hu; rw [dd_zero]; simp
    · rw [dd_pos u hu]
      have := ih (u / 10) (by rw [Nat.pow_succ] at h; omega)
      simp; omega
theorem len_of20 (n m : Int) (l : List UInt8) (hn : n.natAbs ≤ 9223372036854775808) (h : dd n.natAbs = dd m.natAbs ++ l) : l.length ≤ 20 := by
  have h1 := congrArg List.length h
  have h2 := dd_len_le 20 n.natAbs (by omega)
  simp at h1; omega
theorem tmod_neg (m : Int) (h : m ≤ 0) : m.tmod 10 = -((-m) % 10) := by
  obtain ⟨k, rfl⟩ : ∃ k, m = -k := ⟨-m, by omega⟩
  rw [Int.neg_tmod, Int.tmod_eq_emod_of_nonneg (by omega)]; simp
theorem tdiv_neg (m : Int) (h : m ≤ 0) : m.tdiv 10 = -((-m) / 10) := by
  obtain ⟨k, rfl⟩ : ∃ k, m = -k := ⟨-m, by omega⟩
  rw [Int.neg_tdiv, Int.tdiv_eq_ediv_of_nonneg (by omega)]; simp
theorem round_neg (n m : Int) (l : List UInt8) (h0 : m ≤ 0) (hm : m ≠ 0) (h : dd n.natAbs = dd m.natAbs ++ l) (x : Int) (hx : x = 48 - m.tmod 10) :
    dd n.natAbs = dd (m.tdiv 10).natAbs ++ (UInt8.ofNat x.toNat :: l) := by
  subst hx
  rw [h, dd_pos m.natAbs (by omega), tmod_neg m h0, tdiv_neg m h0, show (-(-m / 10)).natAbs = m.natAbs / 10 from by omega, show (48 - -(-m % 10)).toNat = 48 + m.natAbs % 10 from by omega]
  simp
theorem bytes_append (a b : List UInt8) : (ByteArray.mk a.toArray ++ ByteArray.mk b.toArray) = ByteArray.mk (a ++ b).toArray := by
  apply ByteArray.ext; simp

theorem itoa_pos (n : Int) (h : 0 < n) : Lib.itoa n = dd n.natAbs := by
  unfold Lib.itoa
  rw [if_neg (by omega), dd_eq _ (by omega)]
  congr 1; omega
theorem itoa_neg (n : Int) (h : n < 0) : Lib.itoa n = 45 :: dd n.natAbs := by
  unfold Lib.itoa
  rw [if_pos h, dd_eq _ (by omega)]
theorem itoa_zero : Lib.itoa 0 = [48] := by
  unfold Lib.itoa
  rw [if_neg (by omega), Lib.decDigits]; rfl
end Go.Proofs.Ytefoenkmppeidaa.Num
