/-
  Proved: spec.FreshHole gives the least positive number that no hole and no mark of an expression has; the memory that was there stays as it was.
-/
import Derived.Test.YtadjaclmgdmnbaaFreshInts
import Derived.Test.YtadjaclmgdmnbaaSpecHoles
namespace Go.Proofs.Ytadjaclmgdmnbaa
open Go.RowKit

set_option maxRecDepth 100000 in
set_option maxHeartbeats 2000000 in
theorem specFreshHole (d : Nat) (v : Value) (t : Ex) (w : World) (h : ExAt w d v t) (hsz : t.bulk ≤ 1048576) :
    Calls Try.prog 37 #[v] w fun e w' => ∃ n, e = .returned (.int .i64 n) ∧ FirstOut t.holes n ∧ Below w.heap.size w w' := by
  have HT := Lib.hid h
  obtain ⟨yk, ynm, yn, ytk, yta, ytn, ytc, ya, ym, yc, rfl⟩ := ex_parts h
  clear h
  have E0 := Lib.hid (below_alloc w (.cells #[.int .i64 yk, .string ynm, .int .i64 yn, .int .i64 ytk, .slice yta ytn ytc, .slice ya ym yc] 36))
  have hfew := t.holes_few
  obtain ⟨us, hus⟩ : ∃ us, us = t.holes := ⟨_, rfl⟩
  rw [← hus] at hfew
  have HUS := Lib.hid hus; clear hus
  go_enter Try.func37, Try.ntmps37
  go_wp2_with fail
  refine (specHoles d _ t _ (HT.out.below E0.out) hsz).mono ?_
  rintro e w1 ⟨v1, rfl, hi, hb⟩
  rw [← HUS.out] at hi
  have B1 := Lib.hid (E0.out.trans (hb.mono E0.out.size)); clear hb
  obtain ⟨a, cap, rfl, hc, hat⟩ := hi.ints
  have HAT := Lib.hid hat; clear hat hi
  go_wp2_with fail
  go_loopw [4, 5] (fun x i wr => ∃ (k : Nat) (n : Int), k ≤ us.length ∧ i = .int .i64 k ∧ x = .int .i64 n ∧ LowAt us n ∧ (n ∉ us ∨ (k : Int) + 1 ≤ n) ∧ Below w1.heap.size w1 wr) (fun _ i _ => us.length - (intOf i).toNat)
  case atStart => exact ⟨0, 1, by omega, rfl, rfl, LowAt.start _, Or.inr (by omega), Below.refl _ _⟩
  case round =>
    obtain ⟨k, n, hk, rfl, rfl, hlow, hor, hb⟩ := hrel
    have hn1 := hlow.few
    have hn0 := hlow.1
    have HL := Lib.hid hlow; clear hlow
    have HOR := Lib.hid hor; clear hor
    have HB := Lib.hid hb; clear hb
    by_cases hlt : k < us.length
    · go_wp2_with fail
      go_loopw [4, 6] (fun x i wr => ∃ (j : Nat) (m : Int), j ≤ us.length ∧ i = .int .i64 j ∧ x = .int .i64 m ∧ LowAt us m ∧ n ≤ m ∧ (m = n → ∀ (q : Nat) (h : q < us.length), q < j → us[q] ≠ n) ∧ (n ∉ us → m = n) ∧ Below w1.heap.size w1 wr) (fun _ i _ => us.length - (intOf i).toNat)
      case atStart => exact ⟨0, n, by omega, rfl, rfl, HL.out, by omega, fun _ q h hq => by omega, fun _ => rfl, HB.out⟩
      case round =>
        clear HB
        obtain ⟨j, m, hj, rfl, rfl, hlow, hle, hne, hst, hb⟩ := hrel
        have hm1 := hlow.few
        have hm0 := hlow.1
        have HLM := Lib.hid hlow; clear hlow
        have HNE := Lib.hid hne; clear hne
        have HST := Lib.hid hst; clear hst
        have HBM := Lib.hid hb; clear hb
        by_cases hlj : j < us.length
        · obtain ⟨b, off, rfl, hbl, hcell⟩ := HAT.out j hlj
          have e0 : wr.cell? ⟨b, off + j, none⟩ = some (.int .i64 us[j]) := (HBM.out.cell (p := ⟨b, off + j, none⟩) hbl).trans hcell
          clear hcell
          obtain ⟨y, hy⟩ : ∃ y, y = us[j] := ⟨_, rfl⟩
          rw [← hy] at e0
          have HY := Lib.hid hy; clear hy
          by_cases q : y = m
          · have qb : (y == m) = true := by simp [q]
            have hmem : m ∈ us := by rw [← q, HY.out]; exact List.getElem_mem hlj
            have HNX := Lib.hid (HLM.out.next hmem)
            have HMEM := Lib.hid hmem; clear hmem
            have hst2 : n ∉ us → m + 1 = n := fun hn => absurd (HST.out hn ▸ HMEM.out) hn
            have HST2 := Lib.hid hst2; clear hst2
            subst q
            go_wp2_with fail
            refine (specBit _ _).mono ?_
            rintro e w2 ⟨rfl, rfl⟩
            go_wp2_with fail
            exact ⟨⟨j + 1, y + 1, by omega, by go_num, by go_num, HNX.out, by omega, fun h => by omega, HST2.out, HBM.out⟩, by simp [intOf]; omega⟩
          · have qb : (y == m) = false := by simp [q]
            have hne2 : m = n → ∀ (p : Nat) (h : p < us.length), p < j + 1 → us[p] ≠ n := fun hmn p h hp => by
              by_cases e : p = j
              · subst e; rw [← HY.out, ← hmn]; exact q
              · exact HNE.out hmn p h (by omega)
            have HNE2 := Lib.hid hne2; clear hne2 q
            go_wp2_with fail
            refine (specBit _ _).mono ?_
            rintro e w2 ⟨rfl, rfl⟩
            go_wp2_with fail
            exact ⟨⟨j + 1, m, by omega, by go_num, by go_num, HLM.out, hle, HNE2.out, HST.out, HBM.out⟩, by simp [intOf]; omega⟩
        · obtain rfl : j = us.length := by omega
          have hor2 : m ∉ us ∨ ((k + 1 : Nat) : Int) + 1 ≤ m := by
            by_cases e : m = n
            · left
              intro hm
              obtain ⟨p, hp, hpe⟩ := List.getElem_of_mem hm
              exact HNE.out e p hp hp (by rw [hpe, e])
            · rcases HOR.out with h | h
              · exact absurd (HST.out h) e
              · right; omega
          have HOR2 := Lib.hid hor2; clear hor2
          go_wp2_with fail
          exact ⟨⟨k + 1, m, by omega, by go_num, rfl, HLM.out, HOR2.out, HBM.out⟩, by simp [intOf]; omega⟩
    · obtain rfl : k = us.length := by omega
      have hout : n ∉ us := by
        rcases HOR.out with h | h
        · exact h
        · exact HL.out.full h
      have HF : Hid (FirstOut us n) := ⟨HL.out, hout⟩
      clear hout
      go_wp2_with fail
      go_ret
      exact ⟨n, rfl, by rw [← HUS.out]; exact HF.out, B1.out.trans (HB.out.mono B1.out.size)⟩
end Go.Proofs.Ytadjaclmgdmnbaa
