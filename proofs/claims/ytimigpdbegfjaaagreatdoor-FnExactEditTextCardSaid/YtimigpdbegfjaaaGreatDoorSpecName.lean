/-
  Proved: spec.IsName says whether a text is a name; the memory that was there stays as it was.
-/
import Derived.Test.YtimigpdbegfjaaaGreatDoorName
import Derived.Test.YtimigpdbegfjaaaGreatDoorSpecIn
namespace Go.Proofs.YtimigpdbegfjaaaGreatDoor
open Go.RowKit

set_option maxRecDepth 100000 in
set_option maxHeartbeats 4000000 in
theorem specName (s : ByteArray) (w : World) (hs : s.size ≤ 9223372036854775807) : Calls Tryz.prog 67 #[.string s] w fun e w' => e = .returned (.bool (nameB s)) ∧ w' = w := by
  go_enter Tryz.func67, Tryz.ntmps67
  go_wp2_with fail
  go_loop [3] (fun i => ∃ k : Nat, k ≤ s.size ∧ i = .int .i64 k ∧ okB s k = true) (fun i => s.size - (intOf i).toNat)
  case atStart => exact ⟨0, by omega, rfl, rfl⟩
  case round =>
    obtain ⟨k, hk, rfl, hf⟩ := hrel
    have HF := Lib.hid hf; clear hf
    by_cases hlt : k < s.size
    · skip
      have HSUC := Lib.hid (okB_succ s k hlt)
      have hc255 : (s[k]'hlt).toNat < 256 := UInt8.toNat_lt _
      by_cases l1 : 97 ≤ (s[k]'hlt).toNat ∧ (s[k]'hlt).toNat ≤ 122
      · have OK := Lib.hid (okAt_letter (k := k) l1.1 l1.2)
        obtain ⟨l1a, l1b⟩ := l1
        have l1d : decide ((97 : Int) ≤ ((s[k]'hlt).toNat : Int)) = true := by simpa using (by omega : (97 : Int) ≤ ((s[k]'hlt).toNat : Int))
        have l2d : decide (((s[k]'hlt).toNat : Int) ≤ 122) = true := by simpa using (by omega : ((s[k]'hlt).toNat : Int) ≤ 122)
        clear l1a l1b
        go_wp2_with fail
        exact ⟨⟨k + 1, by omega, by go_num, by rw [HSUC.out, HF.out, OK.out]; rfl⟩, by simp [intOf]; omega⟩
      · by_cases l3 : 97 ≤ (s[k]'hlt).toNat
        · skip
          by_cases z : k = 0
          · have OK := Lib.hid (okAt_bad (c := (s[k]'hlt).toNat) (k := k) (by omega) (Or.inl z))
            have l1d : decide ((97 : Int) ≤ ((s[k]'hlt).toNat : Int)) = true := by simpa using (by omega : (97 : Int) ≤ ((s[k]'hlt).toNat : Int))
            have l2d : decide (((s[k]'hlt).toNat : Int) ≤ 122) = false := by simpa using (by omega : (122 : Int) < ((s[k]'hlt).toNat : Int))
            have zb : ((k : Int) == 0) = true := by simp [z]
            clear l1 l3 z
            go_wp2_with fail
            go_ret
            exact ⟨by rw [nameB, okB_false s (k + 1) s.size (by rw [HSUC.out, HF.out, OK.out]; rfl) hlt]; simp, rfl⟩
          · have zb : ((k : Int) == 0) = false := by simpa using z
            have z1 : 1 ≤ k := by omega
            by_cases g1 : 48 ≤ (s[k]'hlt).toNat ∧ (s[k]'hlt).toNat ≤ 57
            · have OK := Lib.hid (okAt_digit (k := k) z1 g1.1 g1.2)
              obtain ⟨g1a, g1b⟩ := g1
              have l1d : decide ((97 : Int) ≤ ((s[k]'hlt).toNat : Int)) = true := by simpa using (by omega : (97 : Int) ≤ ((s[k]'hlt).toNat : Int))
              have l2d : decide (((s[k]'hlt).toNat : Int) ≤ 122) = false := by simpa using (by omega : (122 : Int) < ((s[k]'hlt).toNat : Int))
              have g1d : decide (((s[k]'hlt).toNat : Int) < 48) = false := by simpa using (by omega : (48 : Int) ≤ ((s[k]'hlt).toNat : Int))
              have g2d : decide ((57 : Int) < ((s[k]'hlt).toNat : Int)) = false := by simpa using (by omega : ((s[k]'hlt).toNat : Int) ≤ 57)
              clear z l1 l3 g1a g1b
              go_wp2_with fail
              exact ⟨⟨k + 1, by omega, by go_num, by rw [HSUC.out, HF.out, OK.out]; rfl⟩, by simp [intOf]; omega⟩
            · have OK := Lib.hid (okAt_bad (c := (s[k]'hlt).toNat) (k := k) (by omega) (Or.inr (by omega)))
              by_cases g2 : 48 ≤ (s[k]'hlt).toNat
              · skip
                have l1d : decide ((97 : Int) ≤ ((s[k]'hlt).toNat : Int)) = true := by simpa using (by omega : (97 : Int) ≤ ((s[k]'hlt).toNat : Int))
                have l2d : decide (((s[k]'hlt).toNat : Int) ≤ 122) = false := by simpa using (by omega : (122 : Int) < ((s[k]'hlt).toNat : Int))
                have g1d : decide (((s[k]'hlt).toNat : Int) < 48) = false := by simpa using (by omega : (48 : Int) ≤ ((s[k]'hlt).toNat : Int))
                have g2d : decide ((57 : Int) < ((s[k]'hlt).toNat : Int)) = true := by simpa using (by omega : (57 : Int) < ((s[k]'hlt).toNat : Int))
                clear z l1 l3 g1 g2
                go_wp2_with fail
                go_ret
                exact ⟨by rw [nameB, okB_false s (k + 1) s.size (by rw [HSUC.out, HF.out, OK.out]; rfl) hlt]; simp, rfl⟩
              · skip
                have l1d : decide ((97 : Int) ≤ ((s[k]'hlt).toNat : Int)) = true := by simpa using (by omega : (97 : Int) ≤ ((s[k]'hlt).toNat : Int))
                have l2d : decide (((s[k]'hlt).toNat : Int) ≤ 122) = false := by simpa using (by omega : (122 : Int) < ((s[k]'hlt).toNat : Int))
                have g1d : decide (((s[k]'hlt).toNat : Int) < 48) = true := by simpa using (by omega : ((s[k]'hlt).toNat : Int) < 48)
                clear z l1 l3 g1 g2
                go_wp2_with fail
                go_ret
                exact ⟨by rw [nameB, okB_false s (k + 1) s.size (by rw [HSUC.out, HF.out, OK.out]; rfl) hlt]; simp, rfl⟩
        · skip
          by_cases z : k = 0
          · have OK := Lib.hid (okAt_bad (c := (s[k]'hlt).toNat) (k := k) (by omega) (Or.inl z))
            have l1d : decide ((97 : Int) ≤ ((s[k]'hlt).toNat : Int)) = false := by simpa using (by omega : ((s[k]'hlt).toNat : Int) < 97)
            have zb : ((k : Int) == 0) = true := by simp [z]
            clear l1 l3 z
            go_wp2_with fail
            go_ret
            exact ⟨by rw [nameB, okB_false s (k + 1) s.size (by rw [HSUC.out, HF.out, OK.out]; rfl) hlt]; simp, rfl⟩
          · have zb : ((k : Int) == 0) = false := by simpa using z
            have z1 : 1 ≤ k := by omega
            by_cases g1 : 48 ≤ (s[k]'hlt).toNat ∧ (s[k]'hlt).toNat ≤ 57
            · have OK := Lib.hid (okAt_digit (k := k) z1 g1.1 g1.2)
              obtain ⟨g1a, g1b⟩ := g1
              have l1d : decide ((97 : Int) ≤ ((s[k]'hlt).toNat : Int)) = false := by simpa using (by omega : ((s[k]'hlt).toNat : Int) < 97)
              have g1d : decide (((s[k]'hlt).toNat : Int) < 48) = false := by simpa using (by omega : (48 : Int) ≤ ((s[k]'hlt).toNat : Int))
              have g2d : decide ((57 : Int) < ((s[k]'hlt).toNat : Int)) = false := by simpa using (by omega : ((s[k]'hlt).toNat : Int) ≤ 57)
              clear z l1 l3 g1a g1b
              go_wp2_with fail
              exact ⟨⟨k + 1, by omega, by go_num, by rw [HSUC.out, HF.out, OK.out]; rfl⟩, by simp [intOf]; omega⟩
            · have OK := Lib.hid (okAt_bad (c := (s[k]'hlt).toNat) (k := k) (by omega) (Or.inr (by omega)))
              by_cases g2 : 48 ≤ (s[k]'hlt).toNat
              · skip
                have l1d : decide ((97 : Int) ≤ ((s[k]'hlt).toNat : Int)) = false := by simpa using (by omega : ((s[k]'hlt).toNat : Int) < 97)
                have g1d : decide (((s[k]'hlt).toNat : Int) < 48) = false := by simpa using (by omega : (48 : Int) ≤ ((s[k]'hlt).toNat : Int))
                have g2d : decide ((57 : Int) < ((s[k]'hlt).toNat : Int)) = true := by simpa using (by omega : (57 : Int) < ((s[k]'hlt).toNat : Int))
                clear z l1 l3 g1 g2
                go_wp2_with fail
                go_ret
                exact ⟨by rw [nameB, okB_false s (k + 1) s.size (by rw [HSUC.out, HF.out, OK.out]; rfl) hlt]; simp, rfl⟩
              · skip
                have l1d : decide ((97 : Int) ≤ ((s[k]'hlt).toNat : Int)) = false := by simpa using (by omega : ((s[k]'hlt).toNat : Int) < 97)
                have g1d : decide (((s[k]'hlt).toNat : Int) < 48) = true := by simpa using (by omega : ((s[k]'hlt).toNat : Int) < 48)
                clear z l1 l3 g1 g2
                go_wp2_with fail
                go_ret
                exact ⟨by rw [nameB, okB_false s (k + 1) s.size (by rw [HSUC.out, HF.out, OK.out]; rfl) hlt]; simp, rfl⟩
    · obtain rfl : k = s.size := by omega
      go_wp2_with fail
      refine (specIn _ _ _ w).mono ?_
      rintro e w9 ⟨rfl, rfl⟩
      have w1 : wordB s = ((s.toList == [105, 102]) || ((s.toList == [102, 115, 116]) || (s.toList == [115, 110, 100]))) := rfl
      have e1 : nameB s = (decide (1 ≤ s.size) && (decide (s.size ≤ 5) && !(wordB s))) := by rw [nameB, HF.out]; simp
      have E1 := Lib.hid (e1.trans (by rw [w1]))
      clear w1 e1
      by_cases r1 : 1 ≤ s.size
      · by_cases r2 : s.size ≤ 5
        · have i1 : (1 : Int) ≤ (s.size : Int) := by omega
          have i2 : (s.size : Int) ≤ 5 := by omega
          have R1 := Lib.hid r1
          have R2 := Lib.hid r2
          cases h1 : (s.toList == [105, 102]) with
          | true =>
            go_wp2_with fail
            go_ret
            exact ⟨by rw [E1.out]; simp [h1], rfl⟩
          | false =>
            cases h2 : (s.toList == [102, 115, 116]) with
            | true =>
              go_wp2_with fail
              go_ret
              exact ⟨by rw [E1.out]; simp [h1, h2], rfl⟩
            | false =>
              cases h3 : (s.toList == [115, 110, 100]) with
              | true =>
                go_wp2_with fail
                go_ret
                exact ⟨by rw [E1.out]; simp [h1, h2, h3], rfl⟩
              | false =>
                go_wp2_with fail
                go_ret
                exact ⟨by rw [E1.out]; simp [h1, h2, h3, R1.out, R2.out], rfl⟩
        · have i2 : ¬ ((s.size : Int) ≤ 5) := by omega
          have i1 : (1 : Int) ≤ (s.size : Int) := by omega
          go_wp2_with fail
          go_ret
          exact ⟨by rw [E1.out]; simp [r2], rfl⟩
      · have i1 : ¬ ((1 : Int) ≤ (s.size : Int)) := by omega
        go_wp2_with fail
        go_ret
        exact ⟨by rw [E1.out]; simp [r1], rfl⟩
end Go.Proofs.YtimigpdbegfjaaaGreatDoor
