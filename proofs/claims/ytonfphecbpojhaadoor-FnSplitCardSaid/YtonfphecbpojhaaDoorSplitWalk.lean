/-
  Proved: the walk of the law FnSplit: it returns true and changes no memory that was there. On these terms: the library's variable MaxLen holds some int.
-/
import Derived.Test.YtonfphecbpojhaaDoorCodeArg
import Derived.Test.YtonfphecbpojhaaDoorDrawSplit
import Derived.Test.YtonfphecbpojhaaDoorImplSplit
import Derived.Test.YtonfphecbpojhaaDoorImplJoin
import Derived.Test.YtonfphecbpojhaaDoorPieces2
namespace Go.Proofs.YtonfphecbpojhaaDoor
open Go.RowKit

/-- A slice of one element that the call owns has an address. -/
theorem own_one {w : World} {B : Nat} {e : TypeId} {size : Nat} {v : Value} {xs : List Value} (h : w.ownsRow B e size v 1 xs) : ∃ g cap, v = .slice (some ⟨g, 0, none⟩) 1 cap := by
  rcases h.2 with ⟨_, h⟩ | ⟨g, cap, cur, rfl, _⟩
  · omega
  · exact ⟨g, cap, rfl⟩
theorem own_len {w : World} {B : Nat} {e : TypeId} {size : Nat} {v : Value} {n : Nat} {xs : List Value} (h : w.ownsRow B e size v n xs) : ∃ a cap, v = .slice a n cap := by
  rcases h.2 with ⟨rfl, rfl⟩ | ⟨g, cap, cur, rfl, _⟩
  · exact ⟨none, 0, rfl⟩
  · exact ⟨_, cap, rfl⟩
theorem part_size (ss : List ByteArray) (j : Nat) (h : j < ss.length) : ss[j].size ≤ total ss := by
  have h1 := total_take ss j h
  have h2 := total_le ss (j + 1)
  omega

set_option maxRecDepth 100000 in
set_option maxHeartbeats 4000000 in
theorem splitWalk (v : Value) (m : Nat) (w : World) (hc : CodeArg w v m) (hM : HasMax w) :
    Calls Tryd.prog 4 #[v] w fun e w' => e = .returned (.bool true) ∧ Below w.heap.size w w' := by
  have HM := Lib.hid hM; clear hM
  obtain ⟨a, cap, rfl, hm, _⟩ := id hc
  have HC := Lib.hid hc; clear hc
  by_cases hs : 1048576 < m
  · go_enter Tryd.func4, Tryd.ntmps4
    go_wp2
    go_ret
    exact ⟨rfl, Below.refl _ _⟩
  · have hs2 : m ≤ 1048576 := by omega
    go_enter Tryd.func4, Tryd.ntmps4
    go_wp2_with (go_at_call 9; go_in)
    refine (drawSplit _ m _ (HC.out.code hs2 (Below.refl _ _))).mono ?_
    rintro e w1 ⟨s, b, rfl, hsz, hb1⟩
    have B1 := Lib.hid hb1; clear hb1
    go_wp2_with fail
    refine (implSplit s b (by omega) _ (HM.out.below B1.out)).mono ?_
    rintro e w2 ⟨v1, ss, rfl, hp, hn, hown, hb2⟩
    have hn2 : ss.length ≤ s.size + 1 := by
      have h1 := pieces_count b s.data.toList
      have h2 := congrArg List.length hp
      rw [List.length_map] at h2
      rw [len_toList] at h1; omega
    have ht : total ss ≤ s.size := by rw [← len_toList]; exact total_pieces b _ _ hp
    obtain ⟨a1, cap1, rfl⟩ := own_len hown
    have HO := Lib.hid hown; clear hown
    have HP := Lib.hid hp; clear hp
    have HT := Lib.hid ht; clear ht
    have B2 := Lib.hid (B1.out.trans (hb2.mono B1.out.size)); clear hb2
    have hcv := conv_mark w2 (b.toNat : Int) (by omega) (by have := b.toNat_lt; omega)
    have e1 : [UInt8.ofNat (b.toNat : Int).toNat] = [b] := by simp
    rw [e1] at hcv
    have B3 : Hid (Below w.heap.size w (w2.alloc (.cells #[.int .u8 (b.toNat : Int)] 5))) := B2.out.alloc B2.out.size _
    have HS := Lib.hid (Strs.of_own (own_below HO.out ((Below.refl _ w2).alloc (Nat.le_refl _) (.cells #[.int .u8 (b.toNat : Int)] 5))))
    go_wp2_with fail
    refine (implJoin _ ss ⟨[b].toArray⟩ (by omega) (by have := HT.out; omega) (by show 1 ≤ 1048576; omega) _ HS.out).mono ?_
    rintro e w4 ⟨rfl, hb4⟩
    have hj : Lib.join (ss.map (·.data.toList)) (ByteArray.mk [b].toArray).data.toList = s.data.toList := by rw [HP.out]; exact join_pieces b _
    rw [hj]
    have HS4 := Lib.hid (HS.out.below hb4)
    have B4 := Lib.hid (B3.out.trans (hb4.mono B3.out.size)); clear hb4 hcv
    clear hj
    go_wp2_with fail
    refine (specSplit s b (by omega) _).mono ?_
    rintro e w5 ⟨v5, ss5, rfl, hp5, _, hown5, hb5⟩
    obtain rfl : ss = ss5 := strs_ext (HP.out.trans hp5.symm)
    obtain ⟨a5, cap5, rfl⟩ := own_len hown5
    have HS5 := Lib.hid (HS4.out.below hb5)
    have B5 := Lib.hid (B4.out.trans (hb5.mono B4.out.size))
    clear hb5 hp5 hown5 e1
    go_wp2_with fail
    go_loopw [6] (fun i wr => ∃ j : Nat, j ≤ ss.length ∧ i = .int .i64 j ∧ Strs wr (.slice a1 ss.length cap1) ss ∧ Below w.heap.size w wr) (fun i _ => ss.length - (intOf i).toNat)
    case atStart => exact ⟨0, by omega, rfl, HS5.out, B5.out⟩
    case round =>
      obtain ⟨j, hj, rfl, hst, hb⟩ := hrel
      have HB := Lib.hid hb; clear hb
      have HST := Lib.hid hst; clear hst
      by_cases hlt : j < ss.length
      · obtain ⟨a2, cap2, e2, hcap, hat⟩ := HST.out
        cases e2
        obtain ⟨bb, off, rfl, hbl, hcell⟩ := hat j hlt
        clear hat
        have hz := part_size ss j hlt
        have hz2 := HT.out
        have hfree : Num.pieces b ss[j].data.toList = [ss[j].data.toList] := by
          refine Num.pieces_free b _ (pieces_each b s.data.toList _ ?_)
          rw [← HP.out]
          exact List.mem_map.2 ⟨ss[j], List.getElem_mem hlt, rfl⟩
        have HF := Lib.hid hfree; clear hfree
        have hzs : ss[j].size ≤ 1048576 := by omega
        clear hz hz2
        go_wp2_with fail
        refine (implSplit ss[j] b hzs _ (HM.out.below HB.out)).mono ?_
        rintro e w6 ⟨v6, ss6, rfl, hp6, _, hown6, hb6⟩
        rw [HF.out] at hp6
        have hl6 : ss6.length = 1 := by
          have := congrArg List.length hp6
          rw [List.length_map] at this; exact this
        rw [hl6] at hown6
        obtain ⟨g6, cap6, rfl⟩ := own_one hown6
        have HST6 := Lib.hid (HST.out.below hb6)
        have HB6 := Lib.hid (HB.out.trans (hb6.mono HB.out.size))
        clear hown6 hp6 hl6 hb6
        go_wp2_with fail
        exact ⟨⟨j + 1, by omega, by go_num, HST6.out, HB6.out⟩, by simp [intOf]; omega⟩
      · go_wp2_with fail
        go_ret
        exact ⟨rfl, HB.out⟩
end Go.Proofs.YtonfphecbpojhaaDoor
