/-
  Proved: laws.markIntSS numbers all elements of paths in memory of their own and touches nothing else; laws.heldIntSS finds the numbers there.
-/
import Derived.Test.YtimigpdbegfjaaaPathsAt
import Derived.StillTailTactics
import Derived.Deep.RegionHeld3
namespace Go.Proofs.Ytimigpdbegfjaaa
open Go.RowKit

set_option maxRecDepth 100000 in
set_option maxHeartbeats 2000000 in
theorem markPs (B : Nat) (v : Value) (pss : List (List Int)) (lo hi : Nat) (k : Int) (w : World) (hB : B ≤ lo) (hk0 : 0 ≤ k) (hk1 : k + plen pss ≤ 1099511627776) (hn : pss.length ≤ 4194304) (hm : ∀ j (h : j < pss.length), pss[j].length ≤ 4194304) (h : PsIn w v pss lo hi) :
    Calls Try.prog 26 #[v, .int .i64 k] w fun e w' => e = .returned (.int .i64 (k + plen pss)) ∧ PsIn w' v (pmarks pss k) lo hi ∧ Below B w w' ∧ Kept lo hi w w' := by
  obtain ⟨svs, ho, hl, hu, hz, hj⟩ := h
  have HO := Lib.hid ho
  have HJ := Lib.hid hj; clear hj
  have HM := Lib.hid hm; clear hm
  have HU := Lib.hid hu; clear hu
  have HL := Lib.hid hl; clear hl
  rcases ho.2 with ⟨rfl, hn0⟩ | ⟨g, cap, cur, rfl, hBg, _, hnc, _⟩
  · have he : pss = [] := List.length_eq_zero_iff.1 hn0
    subst he
    clear ho
    go_enter Try.func26, Try.ntmps26
    go_wp2_with fail
    go_loop [1, 5] (fun m i => m = .int .i64 k ∧ i = .int .i64 0) (fun _ _ => 0)
    case atStart => exact ⟨rfl, rfl⟩
    case round =>
      obtain ⟨rfl, rfl⟩ := hrel
      go_wp2_with fail
      go_ret
      exact ⟨by simp [plen], ⟨svs, HO.out, HL.out, HU.out, hz, fun j h _ => by simp [pmarks] at h⟩, Below.refl _ _, Nat.le_refl _, fun _ _ _ => rfl⟩
  · have hgl := (ho.lt g rfl).2
    have hgu := HU.out g rfl
    have hlz : lo ≤ w.heap.size := Nat.le_trans hBg (Nat.le_of_lt hgl)
    clear ho
    go_enter Try.func26, Try.ntmps26
    go_wp2_with fail
    go_loopw [1, 5] (fun m i wr => ∃ (j : Nat), j ≤ pss.length ∧ i = .int .i64 j ∧ m = .int .i64 (k + plen (pss.take j)) ∧ Below B w wr ∧ Kept lo hi w wr ∧ wr.ownsRow lo 29 1 (.slice (some ⟨g, 0, none⟩) pss.length cap) pss.length svs ∧
      ∀ t (h : t < pss.length) (h' : t < svs.length), IntsIn wr svs[t] (if t < j then imarks (k + plen (pss.take t)) pss[t].length else pss[t]) lo hi) (fun _ i _ => pss.length - (intOf i).toNat)
    case atStart => exact ⟨0, by omega, rfl, by simp [plen], Below.refl _ _, ⟨Nat.le_refl _, fun _ _ _ => rfl⟩, HO.out, fun t h h' => by rw [if_neg (by omega)]; exact (HJ.out t h h').1⟩
    case round =>
      obtain ⟨j, hjl, rfl, rfl, hb, hk, hown, hall⟩ := hrel
      have HB := Lib.hid hb; clear hb
      have HK := Lib.hid hk; clear hk
      have HW := Lib.hid hown
      have HALL := Lib.hid hall; clear hall
      have hple := plen_le pss j
      by_cases hlt : j < pss.length
      · have hlt' : j < svs.length := by rw [HL.out]; exact hlt
        have c1 : wr.cell? ⟨g, j, none⟩ = some svs[j] := by rw [hown.cellAt j (by omega)]; exact List.getElem?_eq_getElem hlt'
        have hI := HALL.out j hlt hlt'
        rw [if_neg (by omega)] at hI
        have HI := Lib.hid hI; clear hI hown
        have hpt := plen_take pss j hlt
        have hp1 := plen_le pss (j + 1)
        have hmj := HM.out j hlt
        go_wp2_with fail
        refine (markInts lo _ pss[j].length _ (k + plen (pss.take j)) (by omega) (by omega) hmj wr HI.out.1).mono ?_
        rintro e w' ⟨rfl, hin, hb1, hoo⟩
        have HIN : Hid (IntsIn w' svs[j] (imarks (k + plen (pss.take j)) pss[j].length) lo hi) := ⟨by rw [imarks_length]; exact hin, HI.out.2.1, Nat.le_trans HI.out.2.2 hoo.1⟩
        have HB2 := Lib.hid (HB.out.trans (hb1.mono hB))
        have hgk : ∀ b, b < wr.heap.size → svs[j].ownBlock ≠ some b → w'.heap[b]? = wr.heap[b]? := hoo.2
        have HW2 : Hid (w'.ownsRow lo 29 1 (.slice (some ⟨g, 0, none⟩) pss.length cap) pss.length svs) := own_keeps HW.out fun b hb => hgk b (HW.out.lt b hb).2 fun e => (HJ.out j hlt hlt').2.1 b e hb
        have HK2 : Hid (Kept lo hi w w') := ⟨Nat.le_trans HK.out.1 hoo.1, fun b h1 h2 => (hgk b (Nat.lt_of_lt_of_le h1 HK.out.1) (fun e => by have q1 := HI.out.2.1 b e; have q2 := (HI.out.1.lt b e).1; omega)).trans (HK.out.2 b h1 h2)⟩
        have HALL2 : Hid (∀ t (h : t < pss.length) (h' : t < svs.length), IntsIn w' svs[t] (if t < j + 1 then imarks (k + plen (pss.take t)) pss[t].length else pss[t]) lo hi) := fun t h h' => by
          by_cases e : t = j
          · subst e; rw [if_pos (by omega)]; exact HIN.out
          · have ht := HALL.out t h h'
            have ht : IntsIn wr svs[t] (if t < j + 1 then imarks (k + plen (pss.take t)) pss[t].length else pss[t]) lo hi := by
              by_cases h3 : t < j
              · rw [if_pos h3] at ht; rw [if_pos (by omega)]; exact ht
              · rw [if_neg h3] at ht; rw [if_neg (by omega)]; exact ht
            exact ⟨own_keeps ht.1 fun b hb => hgk b (ht.1.lt b hb).2 fun e2 => (HJ.out j hlt hlt').2.2 t h' e b e2 hb, ht.2.1, Nat.le_trans ht.2.2 hoo.1⟩
        clear hin hb1 hoo hgk
        go_wp2_with fail
        exact ⟨⟨j + 1, by omega, by go_num, by rw [hpt]; go_num, HB2.out, HK2.out, HW2.out, HALL2.out⟩, by simp [intOf]; omega⟩
      · obtain rfl : j = pss.length := by omega
        go_wp2_with fail
        go_ret
        refine ⟨by rw [List.take_length]; rfl, ⟨svs, by rw [pmarks_length]; exact HW.out, by rw [pmarks_length]; exact HL.out, HU.out, Nat.le_trans hz HK.out.1, fun t h h' => ?_⟩, HB.out, HK.out⟩
        rw [pmarks_length] at h
        have ht := HALL.out t h h'
        rw [if_pos h] at ht
        rw [pmarks_get pss k t (by rw [pmarks_length]; exact h) h]
        exact ⟨ht, (HJ.out t h h').2⟩
set_option maxRecDepth 100000 in
set_option maxHeartbeats 2000000 in
theorem heldPs (v : Value) (pss : List (List Int)) (k : Int) (w : World) (hk0 : 0 ≤ k) (hk1 : k + plen pss ≤ 1099511627776) (hn : pss.length ≤ 4194304) (hm : ∀ j (h : j < pss.length), pss[j].length ≤ 4194304) (h : PsAt w v (pmarks pss k)) :
    Calls Try.prog 27 #[v, .int .i64 k] w fun e w' => e = .returned (.int .i64 (k + plen pss)) ∧ Below w.heap.size w w' := by
  obtain ⟨a, cap, rfl, hcap, hat⟩ := h
  rw [pmarks_length] at hcap ⊢
  have HAT := Lib.hid hat; clear hat
  have HM := Lib.hid hm; clear hm
  go_enter Try.func27, Try.ntmps27
  go_wp2_with fail
  go_loopw [1, 5] (fun m i wr => ∃ (j : Nat), j ≤ pss.length ∧ i = .int .i64 j ∧ m = .int .i64 (k + plen (pss.take j)) ∧ Below w.heap.size w wr) (fun _ i _ => pss.length - (intOf i).toNat)
  case atStart => exact ⟨0, by omega, rfl, by simp [plen], Below.refl _ _⟩
  case round =>
    obtain ⟨j, hjl, rfl, rfl, hb⟩ := hrel
    have HB := Lib.hid hb; clear hb
    have hple := plen_le pss j
    by_cases hlt : j < pss.length
    · obtain ⟨b, off, sv, rfl, hbl, hcell, hi⟩ := HAT.out j (by rw [pmarks_length]; exact hlt)
      rw [pmarks_get pss k j (by rw [pmarks_length]; exact hlt) hlt] at hi
      have c1 : wr.cell? ⟨b, off + j, none⟩ = some sv := by rw [HB.out.cell (p := ⟨b, off + j, none⟩) hbl]; exact hcell
      have HI := Lib.hid (hi.below HB.out); clear hi hcell
      have hpt := plen_take pss j hlt
      have hp1 := plen_le pss (j + 1)
      have hmj := HM.out j hlt
      go_wp2_with fail
      refine (heldInts _ pss[j].length (k + plen (pss.take j)) (by omega) (by omega) hmj wr HI.out).mono ?_
      rintro e w' ⟨rfl, hb1⟩
      have HB2 := Lib.hid (HB.out.trans (hb1.mono HB.out.size)); clear hb1
      go_wp2_with fail
      exact ⟨⟨j + 1, by omega, by go_num, by rw [hpt]; go_num, HB2.out⟩, by simp [intOf]; omega⟩
    · obtain rfl : j = pss.length := by omega
      go_wp2_with fail
      go_ret
      exact ⟨by rw [List.take_length]; rfl, HB.out⟩
end Go.Proofs.Ytimigpdbegfjaaa
