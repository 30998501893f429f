/-
  Proved: impl.IsName says whether a text is a name; the memory that was there stays as it was.
-/
import Derived.Test.YtafehlhmkomeiaaDoorImplWord
import Derived.Laws.RangeAny
namespace Go.Proofs.YtafehlhmkomeiaaDoor
open Go.RowKit

theorem below_iter (w : World) (s : ByteArray) (k : Nat) : Below w.heap.size w (w.iter s k) := (Below.refl _ _).alloc (Nat.le_refl _) _
set_option maxRecDepth 100000 in
set_option maxHeartbeats 4000000 in
theorem implName (s : ByteArray) (w : World) (hs : s.size ≤ 9223372036854775807) : Calls Tryd.prog 17 #[.string s] w fun e w' => e = .returned (.bool (nameB s)) ∧ Below w.heap.size w w' := by
  by_cases r1 : 1 ≤ s.size
  case neg =>
    have hz : s.size = 0 := by omega
    have hl : s.toList = [] := List.eq_nil_of_length_eq_zero (by rw [size_of_toList]; exact hz)
    have h1 : (s.toList == []) = true := by rw [hl]; rfl
    have h2 : s.toList.isEmpty = true := by rw [hl]; rfl
    have HR := Lib.hid r1
    clear hz hl r1
    go_enter Tryd.func17, Tryd.ntmps17
    go_wp2_with fail
    go_ret
    exact ⟨by simp [nameB, HR.out], Below.refl _ _⟩
  have h1 : (s.toList == []) = false := toList_some r1
  have h2 : s.toList.isEmpty = false := by cases hh : s.toList with | nil => rw [hh] at h1; cases h1 | cons a r => rfl
  by_cases r2 : s.size ≤ 5
  case neg =>
    have i2 : (5 : Int) < (s.size : Int) := by omega
    go_enter Tryd.func17, Tryd.ntmps17
    go_wp2_with fail
    go_ret
    exact ⟨by simp [nameB, r2], Below.refl _ _⟩
  have i2 : ¬ ((5 : Int) < (s.size : Int)) := by omega
  cases hw : wordB s with
  | true =>
    go_enter Tryd.func17, Tryd.ntmps17
    go_wp2_with fail
    refine (implWord s w).mono ?_
    rintro e w1 ⟨rfl, rfl⟩
    go_wp2_with fail
    go_ret
    exact ⟨by simp [nameB, hw], Below.refl _ _⟩
  | false =>
    have HNB : Hid (nameB s = okB s s.size) := by show _ = _; simp [nameB, hw, r1, r2]
    go_enter Tryd.func17, Tryd.ntmps17
    go_wp2_with fail
    refine (implWord s w).mono ?_
    rintro e w1 ⟨rfl, rfl⟩
    go_wp2_with fail
    go_loopw [3] (fun _ wr => ∃ k : Nat, wr = w.iter s k ∧ k ≤ s.size ∧ okB s k = true) (fun _ wr => s.size - wr.iterPos w.heap.size)
    case atStart => exact ⟨0, rfl, by omega, rfl⟩
    case round =>
      obtain ⟨k, rfl, hk, hf⟩ := hrel
      have HF := Lib.hid hf; clear hf
      by_cases hlt : k < s.size
      · have HSUC := Lib.hid (okB_succ s k hlt)
        by_cases hasc : (s[k]'hlt).toNat < 128
        · have hnx : ∀ ty, (Instr.next (.pointer (some ⟨w.heap.size, 0, none⟩)) true ty).run Tryd.prog (w.iter s k) = _ := fun ty => run_next_ascii w s k ty hlt hasc
          by_cases l1 : 97 ≤ (s[k]'hlt).toNat ∧ (s[k]'hlt).toNat ≤ 122
          · have OK := Lib.hid (okAt_letter (k := k) l1.1 l1.2)
            obtain ⟨l1a, l1b⟩ := l1
            have l1d : decide ((97 : Int) ≤ ((s[k]'hlt).toNat : Int)) = true := by simpa using (by omega : (97 : Int) ≤ ((s[k]'hlt).toNat : Int))
            have l2d : decide (((s[k]'hlt).toNat : Int) ≤ 122) = true := by simpa using (by omega : ((s[k]'hlt).toNat : Int) ≤ 122)
            clear l1a l1b
            go_wp2_with fail
            all_goals exact ⟨⟨k + 1, rfl, hlt, by rw [HSUC.out, HF.out, OK.out]; rfl⟩, by simp; omega⟩
          · by_cases l3 : 97 ≤ (s[k]'hlt).toNat
            · skip
              by_cases z : k = 0
              · have OK := Lib.hid (okAt_bad (c := (s[k]'hlt).toNat) (k := k) (by omega) (Or.inl z))
                have l1d : decide ((97 : Int) ≤ ((s[k]'hlt).toNat : Int)) = true := by simpa using (by omega : (97 : Int) ≤ ((s[k]'hlt).toNat : Int))
                have l2d : decide (((s[k]'hlt).toNat : Int) ≤ 122) = false := by simpa using (by omega : (122 : Int) < ((s[k]'hlt).toNat : Int))
                have zb : ((k : Int) == 0) = true := by simp [z]
                clear l1 l3 z
                go_wp2_with fail
                all_goals go_ret
                all_goals exact ⟨by rw [HNB.out, okB_false s (k + 1) s.size (by rw [HSUC.out, HF.out, OK.out]; rfl) hlt]; rfl, below_iter _ _ _⟩
              · have zb : ((k : Int) == 0) = false := by simpa using z
                have z1 : 1 ≤ k := by omega
                by_cases g1 : 48 ≤ (s[k]'hlt).toNat ∧ (s[k]'hlt).toNat ≤ 57
                · have OK := Lib.hid (okAt_digit (k := k) z1 g1.1 g1.2)
                  obtain ⟨g1a, g1b⟩ := g1
                  have l1d : decide ((97 : Int) ≤ ((s[k]'hlt).toNat : Int)) = true := by simpa using (by omega : (97 : Int) ≤ ((s[k]'hlt).toNat : Int))
                  have l2d : decide (((s[k]'hlt).toNat : Int) ≤ 122) = false := by simpa using (by omega : (122 : Int) < ((s[k]'hlt).toNat : Int))
                  have g1d : decide ((48 : Int) ≤ ((s[k]'hlt).toNat : Int)) = true := by simpa using (by omega : (48 : Int) ≤ ((s[k]'hlt).toNat : Int))
                  have g2d : decide (((s[k]'hlt).toNat : Int) ≤ 57) = true := by simpa using (by omega : ((s[k]'hlt).toNat : Int) ≤ 57)
                  clear z l1 l3 g1a g1b
                  go_wp2_with fail
                  all_goals exact ⟨⟨k + 1, rfl, hlt, by rw [HSUC.out, HF.out, OK.out]; rfl⟩, by simp; omega⟩
                · have OK := Lib.hid (okAt_bad (c := (s[k]'hlt).toNat) (k := k) (by omega) (Or.inr (by omega)))
                  by_cases g2 : 48 ≤ (s[k]'hlt).toNat
                  · skip
                    have l1d : decide ((97 : Int) ≤ ((s[k]'hlt).toNat : Int)) = true := by simpa using (by omega : (97 : Int) ≤ ((s[k]'hlt).toNat : Int))
                    have l2d : decide (((s[k]'hlt).toNat : Int) ≤ 122) = false := by simpa using (by omega : (122 : Int) < ((s[k]'hlt).toNat : Int))
                    have g1d : decide ((48 : Int) ≤ ((s[k]'hlt).toNat : Int)) = true := by simpa using (by omega : (48 : Int) ≤ ((s[k]'hlt).toNat : Int))
                    have g2d : decide (((s[k]'hlt).toNat : Int) ≤ 57) = false := by simpa using (by omega : (57 : Int) < ((s[k]'hlt).toNat : Int))
                    clear z l1 l3 g1 g2
                    go_wp2_with fail
                    all_goals go_ret
                    all_goals exact ⟨by rw [HNB.out, okB_false s (k + 1) s.size (by rw [HSUC.out, HF.out, OK.out]; rfl) hlt]; rfl, below_iter _ _ _⟩
                  · skip
                    have l1d : decide ((97 : Int) ≤ ((s[k]'hlt).toNat : Int)) = true := by simpa using (by omega : (97 : Int) ≤ ((s[k]'hlt).toNat : Int))
                    have l2d : decide (((s[k]'hlt).toNat : Int) ≤ 122) = false := by simpa using (by omega : (122 : Int) < ((s[k]'hlt).toNat : Int))
                    have g1d : decide ((48 : Int) ≤ ((s[k]'hlt).toNat : Int)) = false := by simpa using (by omega : ((s[k]'hlt).toNat : Int) < 48)
                    clear z l1 l3 g1 g2
                    go_wp2_with fail
                    all_goals go_ret
                    all_goals exact ⟨by rw [HNB.out, okB_false s (k + 1) s.size (by rw [HSUC.out, HF.out, OK.out]; rfl) hlt]; rfl, below_iter _ _ _⟩
            · skip
              by_cases z : k = 0
              · have OK := Lib.hid (okAt_bad (c := (s[k]'hlt).toNat) (k := k) (by omega) (Or.inl z))
                have l1d : decide ((97 : Int) ≤ ((s[k]'hlt).toNat : Int)) = false := by simpa using (by omega : ((s[k]'hlt).toNat : Int) < 97)
                have zb : ((k : Int) == 0) = true := by simp [z]
                clear l1 l3 z
                go_wp2_with fail
                all_goals go_ret
                all_goals exact ⟨by rw [HNB.out, okB_false s (k + 1) s.size (by rw [HSUC.out, HF.out, OK.out]; rfl) hlt]; rfl, below_iter _ _ _⟩
              · have zb : ((k : Int) == 0) = false := by simpa using z
                have z1 : 1 ≤ k := by omega
                by_cases g1 : 48 ≤ (s[k]'hlt).toNat ∧ (s[k]'hlt).toNat ≤ 57
                · have OK := Lib.hid (okAt_digit (k := k) z1 g1.1 g1.2)
                  obtain ⟨g1a, g1b⟩ := g1
                  have l1d : decide ((97 : Int) ≤ ((s[k]'hlt).toNat : Int)) = false := by simpa using (by omega : ((s[k]'hlt).toNat : Int) < 97)
                  have g1d : decide ((48 : Int) ≤ ((s[k]'hlt).toNat : Int)) = true := by simpa using (by omega : (48 : Int) ≤ ((s[k]'hlt).toNat : Int))
                  have g2d : decide (((s[k]'hlt).toNat : Int) ≤ 57) = true := by simpa using (by omega : ((s[k]'hlt).toNat : Int) ≤ 57)
                  clear z l1 l3 g1a g1b
                  go_wp2_with fail
                  all_goals exact ⟨⟨k + 1, rfl, hlt, by rw [HSUC.out, HF.out, OK.out]; rfl⟩, by simp; omega⟩
                · have OK := Lib.hid (okAt_bad (c := (s[k]'hlt).toNat) (k := k) (by omega) (Or.inr (by omega)))
                  by_cases g2 : 48 ≤ (s[k]'hlt).toNat
                  · skip
                    have l1d : decide ((97 : Int) ≤ ((s[k]'hlt).toNat : Int)) = false := by simpa using (by omega : ((s[k]'hlt).toNat : Int) < 97)
                    have g1d : decide ((48 : Int) ≤ ((s[k]'hlt).toNat : Int)) = true := by simpa using (by omega : (48 : Int) ≤ ((s[k]'hlt).toNat : Int))
                    have g2d : decide (((s[k]'hlt).toNat : Int) ≤ 57) = false := by simpa using (by omega : (57 : Int) < ((s[k]'hlt).toNat : Int))
                    clear z l1 l3 g1 g2
                    go_wp2_with fail
                    all_goals go_ret
                    all_goals exact ⟨by rw [HNB.out, okB_false s (k + 1) s.size (by rw [HSUC.out, HF.out, OK.out]; rfl) hlt]; rfl, below_iter _ _ _⟩
                  · skip
                    have l1d : decide ((97 : Int) ≤ ((s[k]'hlt).toNat : Int)) = false := by simpa using (by omega : ((s[k]'hlt).toNat : Int) < 97)
                    have g1d : decide ((48 : Int) ≤ ((s[k]'hlt).toNat : Int)) = false := by simpa using (by omega : ((s[k]'hlt).toNat : Int) < 48)
                    clear z l1 l3 g1 g2
                    go_wp2_with fail
                    all_goals go_ret
                    all_goals exact ⟨by rw [HNB.out, okB_false s (k + 1) s.size (by rw [HSUC.out, HF.out, OK.out]; rfl) hlt]; rfl, below_iter _ _ _⟩
        · have hnx : ∀ ty, (Instr.next (.pointer (some ⟨w.heap.size, 0, none⟩)) true ty).run Tryd.prog (w.iter s k) = _ := fun ty => run_next_any w s k ty hlt
          have hd := (decode_high s k hlt (by omega)).1
          have OK : Hid (okAt (s[k]'hlt).toNat k = false) := okAt_bad (by omega) (Or.inr (by omega))
          have m1 : decide ((97 : Int) ≤ ((Utf8.decode s k).1 : Int)) = true := by simpa using (by omega : (97 : Int) ≤ ((Utf8.decode s k).1 : Int))
          have m2 : decide (((Utf8.decode s k).1 : Int) ≤ 122) = false := by simpa using (by omega : (122 : Int) < ((Utf8.decode s k).1 : Int))
          have m3 : decide ((48 : Int) ≤ ((Utf8.decode s k).1 : Int)) = true := by simpa using (by omega : (48 : Int) ≤ ((Utf8.decode s k).1 : Int))
          have m4 : decide (((Utf8.decode s k).1 : Int) ≤ 57) = false := by simpa using (by omega : (57 : Int) < ((Utf8.decode s k).1 : Int))
          by_cases z : k = 0
          · have zb : ((k : Int) == 0) = true := by simp [z]
            clear z
            go_wp2_with fail
            go_ret
            exact ⟨by rw [HNB.out, okB_false s (k + 1) s.size (by rw [HSUC.out, HF.out, OK.out]; rfl) hlt]; rfl, below_iter _ _ _⟩
          · have zb : ((k : Int) == 0) = false := by simpa using z
            clear z
            go_wp2_with fail
            go_ret
            exact ⟨by rw [HNB.out, okB_false s (k + 1) s.size (by rw [HSUC.out, HF.out, OK.out]; rfl) hlt]; rfl, below_iter _ _ _⟩
      · have hnx : ∀ ty, (Instr.next (.pointer (some ⟨w.heap.size, 0, none⟩)) true ty).run Tryd.prog (w.iter s k) = _ := fun ty => run_next_end w s k ty hlt
        have hks : k = s.size := by omega
        have HK := Lib.hid hks
        clear hks
        go_wp2_with fail
        go_ret
        exact ⟨by rw [HNB.out, ← HK.out, HF.out]; rfl, below_iter _ _ _⟩
end Go.Proofs.YtafehlhmkomeiaaDoor
