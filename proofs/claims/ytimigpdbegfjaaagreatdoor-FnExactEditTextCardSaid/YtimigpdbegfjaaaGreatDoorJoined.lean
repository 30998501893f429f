/-
  Proved: what joining the first strings of a list gives, one by one, and how long it is. Plain mathematics, no program.
-/
import Derived.Test.YtimigpdbegfjaaaGreatDoorTotal
import Derived.WalkKit
namespace Go.Proofs.YtimigpdbegfjaaaGreatDoor
open Go.RowKit

/-- The first k strings, joined. -/
def joined (ss : List ByteArray) (sep : ByteArray) (k : Nat) : List UInt8 := Lib.join ((ss.take k).map (·.data.toList)) sep.data.toList
theorem join_snoc (x : List UInt8) (r : List (List UInt8)) (y sep : List UInt8) : Lib.join (x :: r ++ [y]) sep = Lib.join (x :: r) sep ++ sep ++ y := by
  rw [List.cons_append, Lib.join_cons, Lib.join_cons]
  have := Lib.joinTail_take_succ sep (r ++ [y]) r.length y (by simp)
  rw [List.take_of_length_le (by simp), List.take_left] at this
  rw [this]; simp
theorem joined_zero (ss : List ByteArray) (sep : ByteArray) : joined ss sep 0 = [] := rfl
theorem joined_one (ss : List ByteArray) (sep : ByteArray) (h : 0 < ss.length) : joined ss sep 1 = ss[0].data.toList := by
  unfold joined
  rw [show ss.take 1 = [ss[0]] from by rw [List.take_one]; simp [List.head?_eq_getElem?, h]]
  exact Lib.join_one _ _
theorem joined_next (ss : List ByteArray) (sep : ByteArray) (k : Nat) (h0 : 0 < k) (h : k < ss.length) : joined ss sep (k + 1) = joined ss sep k ++ sep.data.toList ++ ss[k].data.toList := by
  unfold joined
  rw [List.take_succ_eq_append_getElem h, List.map_append]
  cases hx : (ss.take k).map (·.data.toList) with
  | nil =>
    have := congrArg List.length hx
    rw [List.length_map, List.length_take, List.length_nil] at this; omega
  | cons x r => exact join_snoc x r _ _
theorem joined_all (ss : List ByteArray) (sep : ByteArray) : joined ss sep ss.length = Lib.join (ss.map (·.data.toList)) sep.data.toList := by
  unfold joined; rw [List.take_length]
theorem total_le (ss : List ByteArray) (k : Nat) : total (ss.take k) ≤ total ss := by
  induction ss generalizing k with
  | nil => simp
  | cons s r ih =>
    cases k with
    | zero => simp [total]
    | succ k => simp only [List.take_succ_cons, total]; have := ih k; omega
theorem size_le (ss : List ByteArray) (k : Nat) (h : k < ss.length) : ss[k].size ≤ total ss := by
  have h1 := total_take ss k h
  have h2 := total_le ss (k + 1)
  omega
theorem len_toList (s : ByteArray) : s.data.toList.length = s.size := by rw [Array.length_toList]; rfl
theorem joined_len (ss : List ByteArray) (sep : ByteArray) : ∀ k, k ≤ ss.length → (joined ss sep k).length ≤ total (ss.take k) + k * sep.size
  | 0, _ => by rw [joined_zero]; simp
  | k + 1, h => by
    have ih := joined_len ss sep k (by omega)
    have ht := total_take ss k (by omega)
    have hlt : k < ss.length := by omega
    by_cases h0 : 0 < k
    · rw [joined_next ss sep k h0 hlt, ht, Nat.succ_mul]
      simp only [List.length_append, len_toList]; omega
    · obtain rfl : k = 0 := by omega
      rw [joined_one ss sep (by omega), ht, len_toList]; omega
theorem joined_small (ss : List ByteArray) (sep : ByteArray) (k : Nat) (hk : k ≤ ss.length) (hn : ss.length ≤ 1048576) (ht : total ss ≤ 1073741824) (hs : sep.size ≤ 1048576) : (joined ss sep k).length ≤ 1100585369600 := by
  have h1 := joined_len ss sep k hk
  have h2 := total_le ss k
  have h3 : k * sep.size ≤ 1048576 * 1048576 := Nat.mul_le_mul (by omega) hs
  omega

/-- What joining ends in. -/
def JoinEnd (ss : List ByteArray) (sep : ByteArray) (w : World) (e : Ending) (w' : World) : Prop :=
  e = .returned (.string ⟨(Lib.join (ss.map (·.data.toList)) sep.data.toList).toArray⟩) ∧ Below w.heap.size w w'

end Go.Proofs.YtimigpdbegfjaaaGreatDoor
