/-
  Proved: laws.szStringS says whether the number of strings and all their bytes fit into what is left; it changes no memory.
-/
import Derived.Test.YtadjaclmgdmnbaaStrs
import Derived.Test.YtadjaclmgdmnbaaTotal
namespace Go.Proofs.Ytadjaclmgdmnbaa
open Go.RowKit

/-- What measuring ends in. -/
def SzEnd (ss : List ByteArray) (left : Int) (w : World) (e : Ending) (w' : World) : Prop :=
  ∃ r : Int, e = .returned (.int .i64 r) ∧ w' = w ∧ (r < 0 ∨ (0 ≤ r ∧ r + ss.length + total ss = left))

set_option maxRecDepth 100000 in
set_option maxHeartbeats 1000000 in
theorem szStrs (v : Value) (ss : List ByteArray) (left : Int) (hl0 : 0 ≤ left) (hl1 : left ≤ 1048576) (hn : ss.length ≤ 9223372036854775807) (hsz : ∀ j (h : j < ss.length), ss[j].size ≤ 9223372036854775807) (w : World) (h : Strs w v ss) :
    Calls Try.prog 19 #[v, .int .i64 left] w (SzEnd ss left w) := by
  obtain ⟨a, cap, rfl, hcap, hat⟩ := h
  have HC := Lib.hid hat; clear hat
  have HZ := Lib.hid hsz; clear hsz
  by_cases hneg : left - ss.length < 0
  · go_enter Try.func19, Try.ntmps19
    go_wp2_with fail
    go_ret
    exact ⟨-1, rfl, rfl, Or.inl (by omega)⟩
  · go_enter Try.func19, Try.ntmps19
    go_wp2_with fail
    go_loop [1, 5] (fun l i => ∃ (k : Nat) (m : Int), k ≤ ss.length ∧ i = .int .i64 k ∧ l = .int .i64 m ∧ 0 ≤ m ∧ m ≤ 1048576 ∧ m + ss.length + total (ss.take k) = left) (fun _ i => ss.length - (intOf i).toNat)
    case atStart => exact ⟨0, left - ss.length, by omega, rfl, rfl, by omega, by omega, by simp [total]⟩
    case round =>
      obtain ⟨k, m, hk, rfl, rfl, hm0, hm1, he⟩ := hrel
      have HE := Lib.hid he; clear he
      by_cases hlt : k < ss.length
      · obtain ⟨b, off, rfl, hbl, hcell⟩ := HC.out k hlt
        have hz := HZ.out k hlt
        have HT := Lib.hid (total_take ss k hlt)
        by_cases hm : m - ss[k].size < 0
        · go_wp2_with fail
          go_ret
          exact ⟨-1, rfl, rfl, Or.inl (by omega)⟩
        · go_wp2_with fail
          exact ⟨⟨k + 1, m - ss[k].size, by omega, by go_num, rfl, by omega, by omega, by rw [HT.out]; have := HE.out; omega⟩, by simp [intOf]; omega⟩
      · go_wp2_with fail
        go_ret
        have : k = ss.length := by omega
        subst this
        refine ⟨m, rfl, rfl, Or.inr ⟨hm0, ?_⟩⟩
        have := HE.out
        rw [List.take_length] at this; exact this
end Go.Proofs.Ytadjaclmgdmnbaa
