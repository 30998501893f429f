/-
  Proved: laws.eqIntSS answers true for two readings of the same paths, and changes no memory that was there.
-/
import Derived.Test.YtimigpdbegfjaaaPathsAt
import Derived.Test.YtimigpdbegfjaaaEqInts
import Derived.StillTailTactics
namespace Go.Proofs.Ytimigpdbegfjaaa
open Go.RowKit

set_option maxRecDepth 100000 in
set_option maxHeartbeats 2000000 in
theorem eqPs (v1 v2 : Value) (pss : List (List Int)) (hn : pss.length ≤ 9223372036854775807) (hm : ∀ j (h : j < pss.length), pss[j].length ≤ 9223372036854775807) (w : World) (h1 : PsAt w v1 pss) (h2 : PsAt w v2 pss) :
    Calls Try.prog 25 #[v1, v2] w fun e w' => e = .returned (.bool true) ∧ Below w.heap.size w w' := by
  obtain ⟨a1, cap1, rfl, hcap1, hat1⟩ := h1
  obtain ⟨a2, cap2, rfl, hcap2, hat2⟩ := h2
  have HA1 := Lib.hid hat1; clear hat1
  have HA2 := Lib.hid hat2; clear hat2
  go_enter Try.func25, Try.ntmps25
  go_wp2_with fail
  go_loopw [5] (fun i wr => ∃ k : Nat, k ≤ pss.length ∧ i = .int .i64 k ∧ Below w.heap.size w wr) (fun i _ => pss.length - (intOf i).toNat)
  case atStart => exact ⟨0, by omega, rfl, Below.refl _ _⟩
  case round =>
    obtain ⟨k, hk, rfl, hb⟩ := hrel
    have HB := Lib.hid hb; clear hb
    by_cases hlt : k < pss.length
    · obtain ⟨b1, off1, s1, rfl, hbl1, hcell1, hs1⟩ := HA1.out k hlt
      obtain ⟨b2, off2, s2, rfl, hbl2, hcell2, hs2⟩ := HA2.out k hlt
      have c1 : wr.cell? ⟨b1, off1 + k, none⟩ = some s1 := by rw [HB.out.cell (p := ⟨b1, off1 + k, none⟩) hbl1]; exact hcell1
      have c2 : wr.cell? ⟨b2, off2 + k, none⟩ = some s2 := by rw [HB.out.cell (p := ⟨b2, off2 + k, none⟩) hbl2]; exact hcell2
      have HT1 := Lib.hid (hs1.below HB.out.drew)
      have HT2 := Lib.hid (hs2.below HB.out.drew)
      clear hs1 hs2 hcell1 hcell2
      go_wp2_with fail
      go_still_tail 8, (by kernel_rfl)
      change wpList _ _ _ _ _ wr.drew
      go_wp2_with fail
      refine (eqInts _ _ pss[k] (hm k hlt) wr.drew HT1.out HT2.out).mono ?_
      rintro e w' ⟨rfl, hb1⟩
      have HB2 := Lib.hid (HB.out.drew.trans (hb1.mono HB.out.drew.size)); clear hb1
      go_wp2_with fail
      exact ⟨⟨k + 1, by omega, by go_num, HB2.out⟩, by simp [intOf]; omega⟩
    · go_wp2_with fail
      go_ret
      exact ⟨rfl, HB.out⟩
end Go.Proofs.Ytimigpdbegfjaaa
