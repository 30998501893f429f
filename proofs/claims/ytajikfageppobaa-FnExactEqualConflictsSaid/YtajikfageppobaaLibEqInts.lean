/-
  Proved: the library says whether two slices of numbers are equal; it leaves the memory that was there as it was.
-/
import Derived.Test.YtajikfageppobaaLeads
import Derived.Test.YtajikfageppobaaInts
import Derived.BigQuiet
import Derived.Deep.QuietTactic
namespace Go.Proofs.Ytajikfageppobaa
open Go.RowKit

set_option maxRecDepth 100000 in
set_option maxHeartbeats 1000000 in
/-- The library's comparison of two slices of numbers. -/
theorem libEqualInts (v1 v2 : Value) (ps os : List Int) (hn : ps.length ≤ 1048576) (hm : os.length ≤ 1048576) (w : World) (h1 : Ints w v1 ps) (h2 : Ints w v2 os) :
    Calls Try.prog 70 #[v1, v2] w fun e w' => e = .returned (.bool (decide (ps = os))) ∧ Below w.heap.size w w' := by
  obtain ⟨a1, cap1, rfl, hcap1, hat1⟩ := h1
  obtain ⟨a2, cap2, rfl, hcap2, hat2⟩ := h2
  have HC1 := Lib.hid hat1; clear hat1
  have HC2 := Lib.hid hat2; clear hat2
  by_cases hl : ps.length = os.length
  case neg =>
    have HF : Hid (decide (ps = os) = false) := by show _ = _; rw [decide_eq_false_iff_not]; intro e; exact hl (congrArg List.length e)
    go_enter Try.func70, Try.ntmps70
    have qb : ((ps.length : Int) != (os.length : Int)) = true := by simp; omega
    go_wp2_with fail
    go_ret
    exact ⟨by rw [HF.out]; rfl, Below.refl _ _⟩
  have qb0 : ((ps.length : Int) != (os.length : Int)) = false := by simp; omega
  go_enter Try.func70, Try.ntmps70
  go_wp2_with fail
  go_loopw [13] (fun i wr => ∃ k : Nat, k ≤ os.length ∧ i = .int .i64 k ∧ (∀ j (h1 : j < os.length) (h2 : j < ps.length), j < k → os[j] = ps[j]) ∧ Below w.heap.size w wr) (fun i _ => os.length - (intOf i).toNat)
  case atStart => exact ⟨0, by omega, rfl, fun j h1 h2 h => by omega, Below.refl _ _⟩
  case round =>
    obtain ⟨k, hk, rfl, hs, hb⟩ := hrel
    have HSM := Lib.hid hs; clear hs
    by_cases hlt : k < os.length
    · obtain ⟨b1, off1, rfl, hbl1, hcell1⟩ := HC1.out k (by omega)
      obtain ⟨b2, off2, rfl, hbl2, hcell2⟩ := HC2.out k hlt
      have c1 : wr.cell? ⟨b1, off1 + k, none⟩ = some (.int .i64 (ps[k]'(by omega))) := by rw [hb.cell (p := ⟨b1, off1 + k, none⟩) hbl1]; exact hcell1
      have c2 : wr.cell? ⟨b2, off2 + k, none⟩ = some (.int .i64 os[k]) := by rw [hb.cell (p := ⟨b2, off2 + k, none⟩) hbl2]; exact hcell2
      have HB2 := Lib.hid hb; clear hb hcell1 hcell2
      by_cases q : ps[k]'(by omega) = os[k]
      · have HN : Hid (∀ j (h1 : j < os.length) (h2 : j < ps.length), j < k + 1 → os[j] = ps[j]) := fun j h1 h2 h => by
          by_cases e : j = k
          · subst e; exact q.symm
          · exact HSM.out j h1 h2 (by omega)
        have qb : (ps[k]'(by omega) != os[k]) = false := by simp [q]
        clear q
        go_wp2_with fail
        go_quiet (fail)
        go_wp2_with fail
        exact ⟨⟨k + 1, by omega, by go_num, HN.out, below_drewN HB2.out nq⟩, by simp [intOf]; omega⟩
      · have qb : (ps[k]'(by omega) != os[k]) = true := by simp [q]
        have HF : Hid (decide (ps = os) = false) := by show _ = _; rw [decide_eq_false_iff_not]; rintro rfl; exact q rfl
        clear q
        go_wp2_with fail
        go_quiet (fail)
        go_wp2_with fail
        go_ret
        exact ⟨by rw [HF.out]; rfl, below_drewN HB2.out nq⟩
    · have HF : Hid (decide (ps = os) = true) := by
        show _ = _
        rw [decide_eq_true_eq]
        exact List.ext_getElem hl fun j h1 h2 => (HSM.out j h2 h1 (by omega)).symm
      go_wp2_with fail
      go_ret
      exact ⟨by rw [HF.out]; rfl, hb⟩
end Go.Proofs.Ytajikfageppobaa
