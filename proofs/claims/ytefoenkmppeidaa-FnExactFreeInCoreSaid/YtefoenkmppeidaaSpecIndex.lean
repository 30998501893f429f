/-
  Proved: spec.IndexOf finds the first element of a list that equals a text; the memory that was there stays as it was.
-/
import Derived.Test.YtefoenkmppeidaaStrs
namespace Go.Proofs.Ytefoenkmppeidaa
open Go.RowKit

/-- The index of the first element that equals s, counted from k; -1 if there is none. -/
def idx : List ByteArray → ByteArray → Nat → Int
  | [], _, _ => -1
  | a :: r, s, k => if a.toList == s.toList then (k : Int) else idx r s (k + 1)
theorem idx_step (ss : List ByteArray) (s : ByteArray) (k : Nat) (h : k < ss.length) : idx (ss.drop k) s k = if ss[k].toList == s.toList then (k : Int) else idx (ss.drop (k + 1)) s (k + 1) := by
  rw [List.drop_eq_getElem_cons h]; rfl
set_option maxRecDepth 100000 in
set_option maxHeartbeats 1000000 in
theorem specIndex (v : Value) (ss : List ByteArray) (s : ByteArray) (hn : ss.length ≤ 1048576) (w : World) (h : Strs w v ss) :
    Calls Try.prog 106 #[v, .string s] w fun e w' => e = .returned (.int .i64 (idx ss s 0)) ∧ Below w.heap.size w w' := by
  obtain ⟨a, cap, rfl, hc, hat⟩ := h
  have HAT := Lib.hid hat; clear hat
  go_enter Try.func106, Try.ntmps106
  go_wp2_with fail
  go_loop [5] (fun i => ∃ k : Nat, k ≤ ss.length ∧ i = .int .i64 k ∧ idx (ss.drop k) s k = idx ss s 0) (fun i => ss.length - (intOf i).toNat)
  case atStart => exact ⟨0, by omega, rfl, rfl⟩
  case round =>
    obtain ⟨k, hk, rfl, hi⟩ := hrel
    have HI := Lib.hid hi; clear hi
    by_cases hlt : k < ss.length
    · obtain ⟨b, off, rfl, hbl, hcell⟩ := HAT.out k hlt
      have HST := Lib.hid (idx_step ss s k hlt)
      cases hq : (ss[k].toList == s.toList) with
      | true =>
        have hq2 : (s.toList == ss[k].toList) = true := by rw [beq_iff_eq] at hq ⊢; exact hq.symm
        have HF : Hid (idx ss s 0 = k) := by show _ = _; rw [← HI.out, HST.out, hq]; rfl
        go_wp2_with fail
        go_ret
        exact ⟨by rw [HF.out]; rfl, Below.refl _ _⟩
      | false =>
        have hq2 : (s.toList == ss[k].toList) = false := by
          cases hh : (s.toList == ss[k].toList) with
          | false => rfl
          | true => rw [beq_iff_eq] at hh; rw [hh] at hq; simp at hq
        have HF : Hid (idx (ss.drop (k + 1)) s (k + 1) = idx ss s 0) := by show _ = _; rw [← HI.out, HST.out, hq]; rfl
        go_wp2_with fail
        exact ⟨⟨k + 1, by omega, by go_num, HF.out⟩, by simp [intOf]; omega⟩
    · obtain rfl : k = ss.length := by omega
      have HF : Hid (idx ss s 0 = -1) := by show _ = _; rw [← HI.out, List.drop_length]; rfl
      go_wp2_with fail
      go_ret
      exact ⟨by rw [HF.out]; rfl, Below.refl _ _⟩
end Go.Proofs.Ytefoenkmppeidaa
