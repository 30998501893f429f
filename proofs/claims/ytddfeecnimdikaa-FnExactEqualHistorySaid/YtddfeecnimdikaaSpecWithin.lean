/-
  Proved: spec.IsWithin says whether one list of numbers leads another one; it leaves the memory that was there as it was.
-/
import Derived.Test.YtddfeecnimdikaaLeads
import Derived.Test.YtddfeecnimdikaaInts
import Derived.BigQuiet
import Derived.Deep.QuietTactic
namespace Go.Proofs.Ytddfeecnimdikaa
open Go.RowKit

set_option maxRecDepth 100000 in
set_option maxHeartbeats 1000000 in
theorem specWithin (v1 v2 : Value) (ps os : List Int) (hm : os.length ≤ 1048576) (w : World) (h1 : Ints w v1 ps) (h2 : Ints w v2 os) :
    Calls Try.prog 85 #[v1, v2] w fun e w' => e = .returned (.bool (leads ps os)) ∧ Below w.heap.size w w' := by
  obtain ⟨a1, cap1, rfl, hcap1, hat1⟩ := h1
  obtain ⟨a2, cap2, rfl, hcap2, hat2⟩ := h2
  have HC1 := Lib.hid hat1; clear hat1
  have HC2 := Lib.hid hat2; clear hat2
  by_cases hl : ps.length < os.length
  · have HF := Lib.hid (leads_long hl)
    go_enter Try.func85, Try.ntmps85
    go_wp2_with fail
    go_ret
    exact ⟨by rw [HF.out]; rfl, Below.refl _ _⟩
  go_enter Try.func85, Try.ntmps85
  go_wp2_with fail
  go_loopw [5] (fun i wr => ∃ k : Nat, k ≤ os.length ∧ i = .int .i64 k ∧ (∀ j (h1 : j < os.length) (h2 : j < ps.length), j < k → os[j] = ps[j]) ∧ Below w.heap.size w wr) (fun i _ => os.length - (intOf i).toNat)
  case atStart => exact ⟨0, by omega, rfl, fun j h1 h2 h => by omega, Below.refl _ _⟩
  case round =>
    obtain ⟨k, hk, rfl, hs, hb⟩ := hrel
    have HSM := Lib.hid hs; clear hs
    by_cases hlt : k < os.length
    · obtain ⟨b1, off1, rfl, hbl1, hcell1⟩ := HC1.out k (by omega)
      obtain ⟨b2, off2, rfl, hbl2, hcell2⟩ := HC2.out k hlt
      have c1 : wr.cell? ⟨b1, off1 + k, none⟩ = some (.int .i64 (ps[k]'(by omega))) := by rw [hb.cell (p := ⟨b1, off1 + k, none⟩) hbl1]; exact hcell1
      have c2 : wr.cell? ⟨b2, off2 + k, none⟩ = some (.int .i64 os[k]) := by rw [hb.cell (p := ⟨b2, off2 + k, none⟩) hbl2]; exact hcell2
      have HB2 := Lib.hid hb; clear hb hcell1 hcell2
      by_cases q : os[k] = ps[k]'(by omega)
      · have HN : Hid (∀ j (h1 : j < os.length) (h2 : j < ps.length), j < k + 1 → os[j] = ps[j]) := fun j h1 h2 h => by
          by_cases e : j = k
          · subst e; exact q
          · exact HSM.out j h1 h2 (by omega)
        have qb : (os[k] != ps[k]'(by omega)) = false := by simp [q]
        clear q
        go_wp2_with fail
        go_quiet (fail)
        go_wp2_with fail
        exact ⟨⟨k + 1, by omega, by go_num, HN.out, below_drewN HB2.out nq⟩, by simp [intOf]; omega⟩
      · have qb : (os[k] != ps[k]'(by omega)) = true := by simp [q]
        have HF := Lib.hid (leads_other (by omega) k hlt q)
        clear q
        go_wp2_with fail
        go_quiet (fail)
        go_wp2_with fail
        go_ret
        exact ⟨by rw [HF.out]; rfl, below_drewN HB2.out nq⟩
    · have HF := Lib.hid (leads_all (path := ps) (outer := os) (by omega) fun j h1 => HSM.out j h1 (by omega) (by omega))
      go_wp2_with fail
      go_ret
      exact ⟨by rw [HF.out]; rfl, hb⟩
end Go.Proofs.Ytddfeecnimdikaa
