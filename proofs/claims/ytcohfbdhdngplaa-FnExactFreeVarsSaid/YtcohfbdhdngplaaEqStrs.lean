/-
  Proved: laws.eqStringS answers true for two slices that hold the same strings, and changes no memory that was there.
-/
import Derived.Test.YtcohfbdhdngplaaStrs
import Derived.BigQuiet
import Derived.Deep.QuietTactic
namespace Go.Proofs.Ytcohfbdhdngplaa
open Go.RowKit

set_option maxRecDepth 100000 in
set_option maxHeartbeats 1000000 in
theorem eqStrs (v1 v2 : Value) (ss : List ByteArray) (hn : ss.length ≤ 9223372036854775807) (w : World) (h1 : Strs w v1 ss) (h2 : Strs w v2 ss) :
    Calls Try.prog 14 #[v1, v2] w fun e w' => e = .returned (.bool true) ∧ Below w.heap.size w w' := by
  obtain ⟨a1, cap1, rfl, hcap1, hat1⟩ := h1
  obtain ⟨a2, cap2, rfl, hcap2, hat2⟩ := h2
  have HC1 := Lib.hid hat1; clear hat1
  have HC2 := Lib.hid hat2; clear hat2
  go_enter Try.func14, Try.ntmps14
  go_wp2_with fail
  go_loopw [5] (fun i wr => ∃ k : Nat, k ≤ ss.length ∧ i = .int .i64 k ∧ Below w.heap.size w wr) (fun i _ => ss.length - (intOf i).toNat)
  case atStart => exact ⟨0, by omega, rfl, Below.refl _ _⟩
  case round =>
    obtain ⟨k, hk, rfl, hb⟩ := hrel
    by_cases hlt : k < ss.length
    · obtain ⟨b1, off1, rfl, hbl1, hcell1⟩ := HC1.out k hlt
      obtain ⟨b2, off2, rfl, hbl2, hcell2⟩ := HC2.out k hlt
      have c1 : wr.cell? ⟨b1, off1 + k, none⟩ = some (.string ss[k]) := by rw [hb.cell (p := ⟨b1, off1 + k, none⟩) hbl1]; exact hcell1
      have c2 : wr.cell? ⟨b2, off2 + k, none⟩ = some (.string ss[k]) := by rw [hb.cell (p := ⟨b2, off2 + k, none⟩) hbl2]; exact hcell2
      have HB2 := Lib.hid hb; clear hb hcell1 hcell2
      go_wp2_with fail
      go_quiet (fail)
      go_wp2_with fail
      exact ⟨⟨k + 1, by omega, by go_num, below_drewN HB2.out nq⟩, by simp [intOf]; omega⟩
    · go_wp2_with fail
      go_ret
      exact ⟨rfl, hb⟩
end Go.Proofs.Ytcohfbdhdngplaa
