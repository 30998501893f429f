/-
  Proved: spec.UniteNames lists the strings of two lists without doubles, in new memory; the memory that was there stays as it was.
-/
import Derived.Test.YtefoenkmppeidaaSeen
import Derived.Test.YtefoenkmppeidaaWithoutS
namespace Go.Proofs.Ytefoenkmppeidaa
open Go.RowKit

theorem row_below {w w' : World} {B : Nat} {e : TypeId} {size : Nat} {v : Value} {n : Nat} {xs : List Value} (h : w.ownsRow B e size v n xs) (hb : Below w.heap.size w w') : w'.ownsRow B e size v n xs :=
  srow_keeps h fun k hk => hb.block k (h.lt k hk).2
set_option maxRecDepth 100000 in
set_option maxHeartbeats 4000000 in
theorem specUnite (v1 v2 : Value) (ss1 ss2 : List ByteArray) (hn : ss1.length + ss2.length ≤ 1048576) (w : World) (h1 : Strs w v1 ss1) (h2 : Strs w v2 ss2) :
    Calls Try.prog 71 #[v1, v2] w (RowEnd (addAll (addAll [] ss1) ss2) w) := by
  obtain ⟨i0, hi, hz0, hz1, hz2⟩ := info_parts info_str
  have HI := Lib.hid hi; clear hi
  have HZ0 := Lib.hid hz0; clear hz0
  have HZ1 := Lib.hid hz1; clear hz1
  have HZ2 := Lib.hid hz2; clear hz2
  obtain ⟨a1, cap1, rfl, hc1, hat1⟩ := h1
  have HAT1 := Lib.hid hat1; clear hat1
  obtain ⟨a2, cap2, rfl, hc2, hat2⟩ := h2
  have HAT2 := Lib.hid hat2; clear hat2
  go_enter Try.func71, Try.ntmps71
  go_wp2_with fail
  go_loopw [5, 6] (fun o i wr => ∃ (k : Nat) (L : List ByteArray), k ≤ ss1.length ∧ i = .int .i64 k ∧ L = addAll ([]) (ss1.take k) ∧ wr.ownsRow w.heap.size 9 1 o L.length (L.map Value.string) ∧ Below w.heap.size w wr) (fun _ i _ => ss1.length - (intOf i).toNat)
  case atStart => exact ⟨0, [], by omega, rfl, by simp [addAll], World.ownsRow_made w #[] 0 (Nat.le_refl _) (Nat.zero_le _) rfl, (Below.refl _ _).alloc (Nat.le_refl _) _⟩
  case round =>
    obtain ⟨k, L, hk, rfl, hL, hown, hb⟩ := hrel
    have hpart := addAll_part ss1 ([]) k
    rw [← hL] at hpart
    have HL := Lib.hid hL; clear hL
    have HO := Lib.hid hown; clear hown
    have HB := Lib.hid hb; clear hb
    have hll : L.length ≤ 1048576 := by simp at hpart; omega
    by_cases hlt : k < ss1.length
    · obtain ⟨b, off, rfl, hbl, hcell⟩ := HAT1.out k hlt
      have e0 : wr.cell? ⟨b, off + k, none⟩ = some (.string ss1[k]) := (HB.out.cell (p := ⟨b, off + k, none⟩) hbl).trans hcell
      clear hcell
      have HT := Lib.hid (addAll_take ss1 ([]) k hlt)
      obtain ⟨x, hx⟩ : ∃ x, x = ss1[k] := ⟨_, rfl⟩
      rw [← hx] at e0
      have HX := Lib.hid hx; clear hx
      have E0 := Lib.hid e0
      go_wp2_with fail
      refine (specIndex _ L x hll _ (Strs.of_own HO.out)).mono ?_
      rintro e w1 ⟨rfl, hb1⟩
      have e1 : w1.cell? ⟨b, off + k, none⟩ = some (.string x) := (hb1.cell (p := ⟨b, off + k, none⟩) (Nat.lt_of_lt_of_le hbl HB.out.size)).trans E0.out
      clear e0
      have HO1 := Lib.hid (row_below HO.out hb1)
      have HB1 := Lib.hid (HB.out.trans (hb1.mono HB.out.size)); clear hb1
      have hsn := idx_seen L x
      cases hq : seenB L x.data.toList with
      | true =>
        have hge : ¬ (idx L x 0 < 0) := by have := hsn.2 hq; omega
        have HA : Hid (addN L x = L) := by show _ = _; unfold addN; rw [if_pos hq]
        clear hsn hq
        go_wp2_with fail
        exact ⟨⟨k + 1, L, by omega, by go_num, by rw [HT.out, ← HL.out, ← HX.out, HA.out], HO1.out, HB1.out⟩, by simp [intOf]; omega⟩
      | false =>
        have hlt0 : idx L x 0 < 0 := by
          by_cases h : idx L x 0 < 0
          · exact h
          · have := hsn.1 (by omega); rw [hq] at this; cases this
        have HA : Hid (addN L x = L ++ [x]) := by show _ = _; unfold addN; rw [if_neg (by rw [hq]; simp)]
        clear hsn hq
        go_wp2_with (at_builtin; go_must (refine wpList_append_own_at _ rfl _ _ 63 rfl (w.heap.size) 9 i0 (.string ⟨#[]⟩) 1 16 Try.underlying63 HI.out HZ0.out HZ1.out HZ2.out rfl (by decide) _ _ _ rfl (HO1.out.alloc _) ⟨w1.heap.size, 0, none⟩ 1 1 [.string x] rfl rfl (news_str _ _ _) (by simp [Value.oneCell']) (by unfold maxLen; omega) (by omega) (by have := HB1.out.size; simp; omega) ?_); intro v2 w2 hown2 hg2 _ hblk2; refine Hid.out ?_)
        refine Lib.hid ?_
        have hb2 : Below w.heap.size w w2 := (HB1.out.alloc HB1.out.size _).grown hg2 (by have := HB1.out.size; simp; omega) (fun k hk => (HO1.out.lt k hk).1)
        have hown3 : w2.ownsRow w.heap.size 9 1 v2 (L ++ [x]).length ((L ++ [x]).map Value.string) := by simpa using hown2
        have HO2 := Lib.hid hown3; clear hown3 hown2 hg2 hblk2
        have HB2 := Lib.hid hb2; clear hb2 e1
        go_wp2_with fail
        exact ⟨⟨k + 1, L ++ [x], by omega, by go_num, by rw [HT.out, ← HL.out, ← HX.out, HA.out], HO2.out, HB2.out⟩, by simp [intOf]; omega⟩
    · obtain rfl : k = ss1.length := by omega
      have hfin : L = addAll ([]) ss1 := by rw [HL.out, List.take_length]
      subst hfin
      have HOF := HO
      have HBF := HB
      have hlf : (addAll [] ss1).length ≤ ss1.length := by have := addAll_few ss1 []; simpa using this
      have HLF := Lib.hid hlf; clear hlf
      clear HO HB HL
      go_wp2_with fail
      go_loopw [5, 7] (fun o i wr => ∃ (k : Nat) (L : List ByteArray), k ≤ ss2.length ∧ i = .int .i64 k ∧ L = addAll (addAll [] ss1) (ss2.take k) ∧ wr.ownsRow w.heap.size 9 1 o L.length (L.map Value.string) ∧ Below w.heap.size w wr) (fun _ i _ => ss2.length - (intOf i).toNat)
      case atStart => exact ⟨0, addAll [] ss1, by omega, rfl, by simp [addAll], HOF.out, HBF.out⟩
      case round =>
        obtain ⟨k, L, hk, rfl, hL, hown, hb⟩ := hrel
        have hpart := addAll_part ss2 (addAll [] ss1) k
        rw [← hL] at hpart
        have HL := Lib.hid hL; clear hL
        have HO := Lib.hid hown; clear hown
        have HB := Lib.hid hb; clear hb
        have hll : L.length ≤ 1048576 := by have := HLF.out; omega
        by_cases hlt : k < ss2.length
        · obtain ⟨b, off, rfl, hbl, hcell⟩ := HAT2.out k hlt
          have e0 : wr.cell? ⟨b, off + k, none⟩ = some (.string ss2[k]) := (HB.out.cell (p := ⟨b, off + k, none⟩) hbl).trans hcell
          clear hcell
          have HT := Lib.hid (addAll_take ss2 (addAll [] ss1) k hlt)
          obtain ⟨x, hx⟩ : ∃ x, x = ss2[k] := ⟨_, rfl⟩
          rw [← hx] at e0
          have HX := Lib.hid hx; clear hx
          have E0 := Lib.hid e0
          go_wp2_with fail
          refine (specIndex _ L x hll _ (Strs.of_own HO.out)).mono ?_
          rintro e w1 ⟨rfl, hb1⟩
          have e1 : w1.cell? ⟨b, off + k, none⟩ = some (.string x) := (hb1.cell (p := ⟨b, off + k, none⟩) (Nat.lt_of_lt_of_le hbl HB.out.size)).trans E0.out
          clear e0
          have HO1 := Lib.hid (row_below HO.out hb1)
          have HB1 := Lib.hid (HB.out.trans (hb1.mono HB.out.size)); clear hb1
          have hsn := idx_seen L x
          cases hq : seenB L x.data.toList with
          | true =>
            have hge : ¬ (idx L x 0 < 0) := by have := hsn.2 hq; omega
            have HA : Hid (addN L x = L) := by show _ = _; unfold addN; rw [if_pos hq]
            clear hsn hq
            go_wp2_with fail
            exact ⟨⟨k + 1, L, by omega, by go_num, by rw [HT.out, ← HL.out, ← HX.out, HA.out], HO1.out, HB1.out⟩, by simp [intOf]; omega⟩
          | false =>
            have hlt0 : idx L x 0 < 0 := by
              by_cases h : idx L x 0 < 0
              · exact h
              · have := hsn.1 (by omega); rw [hq] at this; cases this
            have HA : Hid (addN L x = L ++ [x]) := by show _ = _; unfold addN; rw [if_neg (by rw [hq]; simp)]
            clear hsn hq
            go_wp2_with (at_builtin; go_must (refine wpList_append_own_at _ rfl _ _ 63 rfl (w.heap.size) 9 i0 (.string ⟨#[]⟩) 1 16 Try.underlying63 HI.out HZ0.out HZ1.out HZ2.out rfl (by decide) _ _ _ rfl (HO1.out.alloc _) ⟨w1.heap.size, 0, none⟩ 1 1 [.string x] rfl rfl (news_str _ _ _) (by simp [Value.oneCell']) (by unfold maxLen; omega) (by omega) (by have := HB1.out.size; simp; omega) ?_); intro v2 w2 hown2 hg2 _ hblk2; refine Hid.out ?_)
            refine Lib.hid ?_
            have hb2 : Below w.heap.size w w2 := (HB1.out.alloc HB1.out.size _).grown hg2 (by have := HB1.out.size; simp; omega) (fun k hk => (HO1.out.lt k hk).1)
            have hown3 : w2.ownsRow w.heap.size 9 1 v2 (L ++ [x]).length ((L ++ [x]).map Value.string) := by simpa using hown2
            have HO2 := Lib.hid hown3; clear hown3 hown2 hg2 hblk2
            have HB2 := Lib.hid hb2; clear hb2 e1
            go_wp2_with fail
            exact ⟨⟨k + 1, L ++ [x], by omega, by go_num, by rw [HT.out, ← HL.out, ← HX.out, HA.out], HO2.out, HB2.out⟩, by simp [intOf]; omega⟩
        · obtain rfl : k = ss2.length := by omega
          have hfin : L = addAll (addAll [] ss1) ss2 := by rw [HL.out, List.take_length]
          have HFN := Lib.hid hfin; clear hfin
          go_wp2_with fail
          go_ret
          rw [← HFN.out]
          exact ⟨_, rfl, StrsIn.of HO.out (Nat.le_refl _), HB.out⟩
end Go.Proofs.Ytefoenkmppeidaa
