/-
  Proved: spec.l1Read accepts exactly the decimal numerals with at most the stated number of digits, and leaves the memory that was there as it was. On these terms: from 1 to 17 digits.
-/
import Derived.Test.YtpoafjbndipfeaaDoorProg
import Derived.Test.YtpoafjbndipfeaaDoorParse
import Derived.Test.YtpoafjbndipfeaaDoorFormat
import Derived.WalkKit
import Derived.WalkSpells
import Derived.WalkLawsBesides
import Derived.Lib.Hide
import Derived.BigQuiet
import Derived.Deep.QuietTactic
namespace Go.Proofs.YtpoafjbndipfeaaDoor
open Go.RowKit

/-- What a parser ends in. -/
def ReadEnd (lo hi : Int) (s : ByteArray) (w : World) (e : Ending) (w' : World) : Prop :=
  ∃ n ok, e = .returned (.tuple #[.int .i64 n, .bool ok]) ∧ Num.Reads lo hi s.data.toList n ok ∧ Below w.heap.size w w'

set_option maxRecDepth 100000 in
set_option maxHeartbeats 1000000 in
theorem specRead_neg (s t : ByteArray) (most : Nat) (hm0 : 1 ≤ most) (hm : most ≤ 17) (hs : s.size ≤ 1048576) (h0 : 0 < s.size) (hb : ((s[0].toNat : Int) == 45) = true)
    (ht : s.extract 1 s.size = t) (HB : Hid (t.data.toList = Num.body s.data.toList)) (HH : Hid (s.data.toList.head? = some 45)) (hts : t.size ≤ 1048576) (w : World) :
    Calls Tryd.prog 61 #[.string s, .int .i64 most] w (ReadEnd (-(Num.lim most)) (Num.lim most) s w) := by
  by_cases hlen : t.size < 1 ∨ most < t.size
  · have hno : Hid (Num.Reads (-(Num.lim most)) (Num.lim most) s.data.toList 0 false) := Num.no_len most _ hm0 (by rw [← HB.out]; simpa using hlen)
    go_enter Tryd.func61, Tryd.ntmps61
    go_wp2
    all_goals go_ret2
    all_goals exact ⟨0, false, rfl, hno.out, Below.refl _ _⟩
  · have hl1 : 1 ≤ t.size := by omega
    have hl2 : t.size ≤ most := by omega
    have hl3 : ¬ most < t.size := by omega
    clear hlen
    go_enter Tryd.func61, Tryd.ntmps61
    go_wp2_with fail
    go_loop [8, 9] (fun n i => ∃ k a : Nat, k ≤ t.size ∧ i = .int .i64 k ∧ n = .int .i64 a ∧ a < 10 ^ k ∧ Lib.decFrom 0 (t.data.toList.take k) = some a) (fun _ i => t.size - (intOf i).toNat)
    case atStart => exact ⟨0, 0, by omega, rfl, rfl, by simp, rfl⟩
    case round =>
      obtain ⟨k, a, hk, rfl, rfl, ha, hd⟩ := hrel
      have HD := Lib.hid hd; clear hd
      have HA := Lib.hid ha; clear ha
      have hle : a ≤ 100000000000000000 := by
        have h1 := HA.out
        have h2 : 10 ^ k ≤ 10 ^ 17 := Nat.pow_le_pow_right (by omega) (by omega)
        omega
      by_cases hlt : k < t.size
      · by_cases hdg : 48 ≤ t[k].toNat ∧ t[k].toNat ≤ 57
        · have h48 : 48 ≤ (t[k].toNat : Int) := by omega
          have h57 : (t[k].toNat : Int) ≤ 57 := by omega
          go_wp2_with fail
          exact ⟨⟨k + 1, a * 10 + (t[k].toNat - 48), by omega, by go_num, by go_num, Num.step_lt _ _ _ HA.out (by omega), Lib.decFrom_take _ _ _ _ _ _ HD.out (Num.byte_at t k hlt) (Num.digit_yes _ hdg)⟩, by simp [intOf]; omega⟩
        · have hno : Hid (Num.Reads (-(Num.lim most)) (Num.lim most) s.data.toList 0 false) :=
            Num.no_dec _ _ _ (by rw [← HB.out]; exact Num.decFrom_stop _ _ _ _ _ HD.out (Num.byte_at t k hlt) (Num.digit_no _ hdg))
          go_wp2_with fail
          all_goals first | (go_ret2; exact ⟨0, false, rfl, hno.out, Below.refl _ _⟩) | (exfalso; omega)
      · have hdec : Hid (Lib.decFrom 0 (Num.body s.data.toList) = some a) := by
          have := HD.out
          rw [List.take_of_length_le (by simp; omega), HB.out] at this; exact this
        have hnum : Hid (Num.num s.data.toList a = -(a : Int)) := if_pos HH.out
        go_wp2_with fail
        refine (specFormat _ (by omega) (by omega) _).mono ?_
        rintro e w1 ⟨rfl, hb1⟩
        by_cases heq : Lib.itoa (-(a : Int)) = s.data.toList
        · have hyes : Hid (Num.Reads (-(Num.lim most)) (Num.lim most) s.data.toList (-(a : Int)) true) := by
            have := Num.yes most s.data.toList a hdec.out (by rw [← HB.out]; simpa using hl2) (by rw [hnum.out]; exact heq)
            rw [hnum.out] at this; exact this
          go_wp2
          go_ret2
          exact ⟨_, true, rfl, hyes.out, hb1⟩
        · have hno : Hid (Num.Reads (-(Num.lim most)) (Num.lim most) s.data.toList 0 false) := Num.no_spell _ _ _ a hdec.out (by rw [hnum.out]; exact heq)
          have hbb : (!Lib.itoa (-(a : Int)) == s.toList) = true := by rw [ByteArray.toList_eq]; simpa using heq
          clear heq
          go_wp2
          go_ret2
          exact ⟨0, false, rfl, hno.out, hb1⟩

set_option maxRecDepth 100000 in
set_option maxHeartbeats 1000000 in
theorem specRead_pos (t : ByteArray) (most : Nat) (hm0 : 1 ≤ most) (hm : most ≤ 17) (h0 : 0 < t.size) (hb : ((t[0].toNat : Int) == 45) = false)
    (HB : Hid (t.data.toList = Num.body t.data.toList)) (HH : Hid (t.data.toList.head? ≠ some 45)) (hts : t.size ≤ 1048576) (w : World) :
    Calls Tryd.prog 61 #[.string t, .int .i64 most] w (ReadEnd (-(Num.lim most)) (Num.lim most) t w) := by
  by_cases hlen : t.size < 1 ∨ most < t.size
  · have hno : Hid (Num.Reads (-(Num.lim most)) (Num.lim most) t.data.toList 0 false) := Num.no_len most _ hm0 (by rw [← HB.out]; simpa using hlen)
    go_enter Tryd.func61, Tryd.ntmps61
    go_wp2
    all_goals go_ret2
    all_goals exact ⟨0, false, rfl, hno.out, Below.refl _ _⟩
  · have hl1 : 1 ≤ t.size := by omega
    have hl2 : t.size ≤ most := by omega
    have hl3 : ¬ most < t.size := by omega
    clear hlen
    go_enter Tryd.func61, Tryd.ntmps61
    go_wp2_with fail
    go_loop [8, 9] (fun n i => ∃ k a : Nat, k ≤ t.size ∧ i = .int .i64 k ∧ n = .int .i64 a ∧ a < 10 ^ k ∧ Lib.decFrom 0 (t.data.toList.take k) = some a) (fun _ i => t.size - (intOf i).toNat)
    case atStart => exact ⟨0, 0, by omega, rfl, rfl, by simp, rfl⟩
    case round =>
      obtain ⟨k, a, hk, rfl, rfl, ha, hd⟩ := hrel
      have HD := Lib.hid hd; clear hd
      have HA := Lib.hid ha; clear ha
      have hle : a ≤ 100000000000000000 := by
        have h1 := HA.out
        have h2 : 10 ^ k ≤ 10 ^ 17 := Nat.pow_le_pow_right (by omega) (by omega)
        omega
      by_cases hlt : k < t.size
      · by_cases hdg : 48 ≤ t[k].toNat ∧ t[k].toNat ≤ 57
        · have h48 : 48 ≤ (t[k].toNat : Int) := by omega
          have h57 : (t[k].toNat : Int) ≤ 57 := by omega
          go_wp2_with fail
          exact ⟨⟨k + 1, a * 10 + (t[k].toNat - 48), by omega, by go_num, by go_num, Num.step_lt _ _ _ HA.out (by omega), Lib.decFrom_take _ _ _ _ _ _ HD.out (Num.byte_at t k hlt) (Num.digit_yes _ hdg)⟩, by simp [intOf]; omega⟩
        · have hno : Hid (Num.Reads (-(Num.lim most)) (Num.lim most) t.data.toList 0 false) :=
            Num.no_dec _ _ _ (by rw [← HB.out]; exact Num.decFrom_stop _ _ _ _ _ HD.out (Num.byte_at t k hlt) (Num.digit_no _ hdg))
          go_wp2_with fail
          all_goals first | (go_ret2; exact ⟨0, false, rfl, hno.out, Below.refl _ _⟩) | (exfalso; omega)
      · have hdec : Hid (Lib.decFrom 0 (Num.body t.data.toList) = some a) := by
          have := HD.out
          rw [List.take_of_length_le (by simp; omega), HB.out] at this; exact this
        have hnum : Hid (Num.num t.data.toList a = (a : Int)) := if_neg HH.out
        go_wp2_with fail
        refine (specFormat _ (by omega) (by omega) _).mono ?_
        rintro e w1 ⟨rfl, hb1⟩
        by_cases heq : Lib.itoa (a : Int) = t.data.toList
        · have hyes : Hid (Num.Reads (-(Num.lim most)) (Num.lim most) t.data.toList (a : Int) true) := by
            have := Num.yes most t.data.toList a hdec.out (by rw [← HB.out]; simpa using hl2) (by rw [hnum.out]; exact heq)
            rw [hnum.out] at this; exact this
          go_wp2
          go_ret2
          exact ⟨_, true, rfl, hyes.out, hb1⟩
        · have hno : Hid (Num.Reads (-(Num.lim most)) (Num.lim most) t.data.toList 0 false) := Num.no_spell _ _ _ a hdec.out (by rw [hnum.out]; exact heq)
          have hbb : (!Lib.itoa (a : Int) == t.toList) = true := by rw [ByteArray.toList_eq]; simpa using heq
          clear heq
          go_wp2
          go_ret2
          exact ⟨0, false, rfl, hno.out, hb1⟩

set_option maxRecDepth 100000 in
set_option maxHeartbeats 1000000 in
theorem specRead_empty (s : ByteArray) (most : Nat) (hm0 : 1 ≤ most) (h0 : s.size = 0) (w : World) :
    Calls Tryd.prog 61 #[.string s, .int .i64 most] w (ReadEnd (-(Num.lim most)) (Num.lim most) s w) := by
  obtain rfl : s = ByteArray.empty := by
    apply ByteArray.ext; apply Array.eq_empty_of_size_eq_zero; exact h0
  have hno : Hid (Num.Reads (-(Num.lim most)) (Num.lim most) ByteArray.empty.data.toList 0 false) := Num.no_len most _ hm0 (Or.inl (by decide))
  go_enter Tryd.func61, Tryd.ntmps61
  go_wp2
  all_goals go_ret2
  all_goals exact ⟨0, false, rfl, hno.out, Below.refl _ _⟩

/-- spec.l1Read, every string of at most 2^20 bytes. -/
theorem specRead (s : ByteArray) (most : Nat) (hm0 : 1 ≤ most) (hm : most ≤ 17) (hs : s.size ≤ 1048576) (w : World) :
    Calls Tryd.prog 61 #[.string s, .int .i64 most] w (ReadEnd (-(Num.lim most)) (Num.lim most) s w) := by
  by_cases h0 : 0 < s.size
  · have hat := Num.byte_at s 0 h0
    have hh : s.data.toList.head? = some s[0] := by rw [List.head?_eq_getElem?]; exact hat
    by_cases h45 : s[0] = 45
    · have e : (s.extract 1 s.size).data.toList = Num.body s.data.toList := by
        unfold Num.body
        rw [if_pos (by rw [hh, h45])]
        simp
        exact List.take_of_length_le (by simp)
      exact specRead_neg s _ most hm0 hm hs h0 (by rw [h45]; rfl) rfl e (by rw [hh, h45]; rfl) (by simp; omega) w
    · have hne : s.data.toList.head? ≠ some 45 := by rw [hh]; simpa using h45
      refine specRead_pos s most hm0 hm h0 ?_ ?_ hne hs w
      · rw [beq_eq_false_iff_ne]
        intro e
        exact h45 (UInt8.toNat_inj.1 (by simp; omega))
      · show _ = Num.body _
        unfold Num.body
        rw [if_neg hne]
  · exact specRead_empty s most hm0 (by omega) w
end Go.Proofs.YtpoafjbndipfeaaDoor
