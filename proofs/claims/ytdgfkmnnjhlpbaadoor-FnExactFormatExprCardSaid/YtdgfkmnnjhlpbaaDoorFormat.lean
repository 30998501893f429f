/-
  Proved: spec.FormatInt returns the decimal numeral of every int, and leaves the memory that was there as it was.
-/
import Derived.Test.YtdgfkmnnjhlpbaaDoorProg
import Derived.Test.YtdgfkmnnjhlpbaaDoorNum
import Derived.WalkKit
import Derived.WalkSpells
import Derived.WalkLawsBesides
import Derived.Lib.Hide
namespace Go.Proofs.YtdgfkmnnjhlpbaaDoor
open Go.RowKit

/-- One byte, in a new block of its own, becomes a string. -/
theorem conv_byte (w : World) (x : Int) (h0 : 0 ≤ x) (h1 : x ≤ 255) :
    (convert 119 9 (.slice (some ⟨w.heap.size, 0, none⟩) 1 1)).run Tryd.prog (w.alloc (.cells #[.int .u8 x] 5)) =
      .ok (.string ⟨[UInt8.ofNat x.toNat].toArray⟩) (w.alloc (.cells #[.int .u8 x] 5)) := by
  have h := run_convert_bytes_back (P := Tryd.prog) (w.alloc (.cells #[.int .u8 x] 5)) 119 9 5 ⟨w.heap.size, 0, none⟩ 1 [UInt8.ofNat x.toNat] Tryd.underlying119 Tryd.underlying5 Tryd.underlying9
    (fun j hj => by
      have : j = 0 := by simpa using hj
      subst this
      have e : ((UInt8.ofNat x.toNat).toNat : Int) = x := by
        rw [UInt8.toNat_ofNat']; omega
      simp only [List.getElem_cons_zero, e]
      have := World.cell?_alloc_mark w #[.int .u8 x] 5 (0, 0) 0
      simp only [Addr.add]
      exact this)
  exact h

set_option maxHeartbeats 400000 in
theorem specFormat_zero (w : World) :
    Calls Tryd.prog 53 #[.int .i64 0] w fun e w' => e = .returned (.string ⟨(Lib.itoa 0).toArray⟩) ∧ w' = w := by
  rw [Num.itoa_zero]
  go_enter Tryd.func53, Tryd.ntmps53
  go_wp2
  go_ret
  exact ⟨rfl, rfl⟩

set_option maxRecDepth 100000 in
set_option maxHeartbeats 1000000 in
theorem specFormat_pos (n : Int) (h0 : 0 < n) (h1 : n ≤ 9223372036854775807) (w : World) :
    Calls Tryd.prog 53 #[.int .i64 n] w fun e w' => e = .returned (.string ⟨(Lib.itoa n).toArray⟩) ∧ Below w.heap.size w w' := by
  rw [Num.itoa_pos n h0]
  have hz : (n == 0) = false := by simp; omega
  have hlt : decide (n < 0) = false := by simp; omega
  go_enter Tryd.func53, Tryd.ntmps53
  go_wp2
  go_loopw [0, 4] (fun v o wr => ∃ m : Int, ∃ l : List UInt8, 0 ≤ m ∧ m ≤ 9223372036854775807 ∧ v = .int .i64 m ∧ o = .string ⟨l.toArray⟩ ∧ Num.dd n.natAbs = Num.dd m.natAbs ++ l ∧ Below w.heap.size w wr) (fun v _ _ => (intOf v).natAbs)
  case atStart => exact ⟨n, [], by omega, by omega, rfl, rfl, by simp, Below.refl _ w⟩
  case round =>
    obtain ⟨m, l, hm0, hm1, rfl, rfl, hd, hg⟩ := hrel
    have HD := Lib.hid hd; clear hd
    by_cases hm : m = 0
    · subst hm
      go_wp2
      go_ret
      refine ⟨?_, hg⟩
      have := HD.out
      rw [show (0 : Int).natAbs = 0 from rfl, Num.dd_zero] at this
      rw [this]; rfl
    · have hne : (m != 0) = true := by simp; omega
      have hmod : decide (m % 10 < 0) = false := by simp; omega
      have hcv := conv_byte wr (48 + m % 10) (by omega) (by omega)
      have hlen : l.length ≤ 20 := Num.len_of20 n m l (by omega) HD.out
      go_wp2
      exact ⟨⟨m / 10, UInt8.ofNat (48 + m % 10).toNat :: l, by omega, by omega, rfl, congrArg Value.string (Num.bytes_append [_] l), Num.round_pos n m l hm0 hm HD.out, hg.alloc hg.size _⟩, by show (m / 10).natAbs < m.natAbs; omega⟩

set_option maxRecDepth 100000 in
set_option maxHeartbeats 1000000 in
theorem specFormat_neg (n : Int) (h0 : n < 0) (h1 : -9223372036854775808 ≤ n) (w : World) :
    Calls Tryd.prog 53 #[.int .i64 n] w fun e w' => e = .returned (.string ⟨(Lib.itoa n).toArray⟩) ∧ Below w.heap.size w w' := by
  rw [Num.itoa_neg n h0]
  have hz : (n == 0) = false := by simp; omega
  have hlt : decide (n < 0) = true := by simp; omega
  go_enter Tryd.func53, Tryd.ntmps53
  go_wp2
  go_loopw [0, 4] (fun v o wr => ∃ m : Int, ∃ l : List UInt8, m ≤ 0 ∧ -9223372036854775808 ≤ m ∧ v = .int .i64 m ∧ o = .string ⟨l.toArray⟩ ∧ Num.dd n.natAbs = Num.dd m.natAbs ++ l ∧ Below w.heap.size w wr) (fun v _ _ => (intOf v).natAbs)
  case atStart => exact ⟨n, [], by omega, by omega, rfl, rfl, by simp, Below.refl _ w⟩
  case round =>
    obtain ⟨m, l, hm0, hm1, rfl, rfl, hd, hg⟩ := hrel
    have HD := Lib.hid hd; clear hd
    by_cases hm : m = 0
    · subst hm
      have hlen : l.length ≤ 20 := Num.len_of20 n 0 l (by omega) HD.out
      go_wp2
      go_ret
      refine ⟨?_, hg⟩
      have := HD.out
      rw [show (0 : Int).natAbs = 0 from rfl, Num.dd_zero] at this
      rw [this]; exact congrArg (fun x => Ending.returned (Value.string x)) (Num.bytes_append [45] l)
    · have hne : (m != 0) = true := by simp; omega
      have hlen : l.length ≤ 20 := Num.len_of20 n m l (by omega) HD.out
      have hd1 : m.tmod 10 ≤ 0 := by rw [Num.tmod_neg m hm0]; omega
      have hd2 : -9 ≤ m.tmod 10 := by rw [Num.tmod_neg m hm0]; omega
      have hq1 : m.tdiv 10 ≤ 0 := by rw [Num.tdiv_neg m hm0]; omega
      have hq2 : m + 1 ≤ m.tdiv 10 := by rw [Num.tdiv_neg m hm0]; omega
      by_cases hd : m.tmod 10 < 0
      · have hmod : decide (m.tmod 10 < 0) = true := by simp; omega
        have hcv := conv_byte wr (48 + -m.tmod 10) (by omega) (by omega)
        go_wp2
        exact ⟨⟨m.tdiv 10, UInt8.ofNat (48 + -m.tmod 10).toNat :: l, hq1, by omega, rfl, congrArg Value.string (Num.bytes_append [_] l), Num.round_neg n m l hm0 hm HD.out _ (by omega), hg.alloc hg.size _⟩, by show (m.tdiv 10).natAbs < m.natAbs; clear hmod; omega⟩
      · have hmod : decide (m.tmod 10 < 0) = false := by simp; omega
        have hcv := conv_byte wr (48 + m.tmod 10) (by omega) (by omega)
        go_wp2
        exact ⟨⟨m.tdiv 10, UInt8.ofNat (48 + m.tmod 10).toNat :: l, hq1, by omega, rfl, congrArg Value.string (Num.bytes_append [_] l), Num.round_neg n m l hm0 hm HD.out _ (by omega), hg.alloc hg.size _⟩, by show (m.tdiv 10).natAbs < m.natAbs; clear hmod; omega⟩

/-- spec.FormatInt, every int. -/
theorem specFormat (n : Int) (h0 : -9223372036854775808 ≤ n) (h1 : n ≤ 9223372036854775807) (w : World) :
    Calls Tryd.prog 53 #[.int .i64 n] w fun e w' => e = .returned (.string ⟨(Lib.itoa n).toArray⟩) ∧ Below w.heap.size w w' := by
  rcases Int.lt_trichotomy n 0 with h | h | h
  · exact specFormat_neg n h h0 w
  · subst h
    exact (specFormat_zero w).mono fun e w' ⟨he, hw⟩ => ⟨he, by subst hw; exact Below.refl _ _⟩
  · exact specFormat_pos n h h1 w
end Go.Proofs.YtdgfkmnnjhlpbaaDoor
