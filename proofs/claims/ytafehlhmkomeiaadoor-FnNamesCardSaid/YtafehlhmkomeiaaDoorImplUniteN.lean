/-
  Proved: impl.UniteNames lists the strings of two lists without doubles, in new memory; the memory that was there stays as it was.
-/
import Derived.Test.YtafehlhmkomeiaaDoorSpecUniteN
namespace Go.Proofs.YtafehlhmkomeiaaDoor
open Go.RowKit Go.Maps Go.WideMaps

theorem ursBase {w : World} {B B' : Nat} {e : TypeId} {size : Nat} {v : Value} {n : Nat} {xs : List Value} (h : w.ownsRow B' e size v n xs) (hB : B ≤ B') : w.ownsRow B e size v n xs := by
  refine ⟨h.1, ?_⟩
  rcases h.2 with h | ⟨g, cap, cur, rfl, r1, r2⟩
  · exact Or.inl h
  · exact Or.inr ⟨g, cap, cur, rfl, Nat.le_trans hB r1, r2⟩
theorem index_0 (a1 a2 : Option Addr) (n1 n2 c1 c2 : Nat) (w : World) : Sem.run Tryd.prog (Instr.index 42 (.agg #[.slice a1 n1 c1, .slice a2 n2 c2]) (.int .i64 0)) w = .ok (.slice a1 n1 c1) w := by kernel_rfl
theorem index_1 (a1 a2 : Option Addr) (n1 n2 c1 c2 : Nat) (w : World) : Sem.run Tryd.prog (Instr.index 42 (.agg #[.slice a1 n1 c1, .slice a2 n2 c2]) (.int .i64 1)) w = .ok (.slice a2 n2 c2) w := by kernel_rfl
theorem own_ne {w : World} {B p : Nat} {e : TypeId} {size : Nat} {v : Value} {n : Nat} {xs : List Value} (h : w.ownsRow B e size v n xs) (hp : p < B) : v.ownBlock ≠ some p := fun e => by
  have := (h.lt _ e).1
  omega
def outL (ss1 ss2 : List ByteArray) : Nat → List ByteArray
  | 0 => []
  | 1 => addAll [] ss1
  | _ => addAll (addAll [] ss1) ss2
set_option maxRecDepth 100000 in
set_option maxHeartbeats 4000000 in
theorem implUnite (v1 v2 : Value) (ss1 ss2 : List ByteArray) (hn : ss1.length + ss2.length ≤ 1048576) (hs1 : ∀ j (h : j < ss1.length), ss1[j].size ≤ 9223372036854775807) (hs2 : ∀ j (h : j < ss2.length), ss2[j].size ≤ 9223372036854775807) (w : World) (h1 : Strs w v1 ss1) (h2 : Strs w v2 ss2) :
    Calls Tryd.prog 8 #[v1, v2] w (RowEnd (addAll (addAll [] ss1) ss2) w) := by
  obtain ⟨i0, hi, hz0, hz1, hz2⟩ := info_parts info_str
  have HI := Lib.hid hi; clear hi
  have HZ0 := Lib.hid hz0; clear hz0
  have HZ1 := Lib.hid hz1; clear hz1
  have HZ2 := Lib.hid hz2; clear hz2
  have HSZ1 := Lib.hid hs1; clear hs1
  have HSZ2 := Lib.hid hs2; clear hs2
  obtain ⟨a1, cap1, rfl, hc1, hat1⟩ := h1
  have HAT1 := Lib.hid hat1; clear hat1
  obtain ⟨a2, cap2, rfl, hc2, hat2⟩ := h2
  have HAT2 := Lib.hid hat2; clear hat2
  have hlf : (addAll [] ss1).length ≤ ss1.length := by have := addAll_few ss1 []; simpa using this
  have hmm := @run_makeMap Tryd.prog
  go_enter Tryd.func8, Tryd.ntmps8
  go_wp2_with fail
  clear hmm
  go_loopw [6, 15] (fun o i wr => ∃ (j : Nat) (L : List ByteArray), j ≤ 2 ∧ i = .int .i64 j ∧ L = outL ss1 ss2 j ∧ wr.ownsRow (w.heap.size + 1) 9 1 o L.length (L.map Value.string) ∧ NamesAt wr w.heap.size L.length L ∧ Below w.heap.size w wr ∧ w.heap.size + 1 ≤ wr.heap.size) (fun _ i _ => 2 - (intOf i).toNat)
  case atStart => exact ⟨0, [], by omega, rfl, rfl, World.ownsRow_nil _ _ _ _, by show SetAt _ _ _ _ _ _ _ _; rw [← seenB_nil]; exact SetAt.new _ _ _ _ _, (Below.refl _ _).alloc (Nat.le_refl _) _, by simp⟩
  case round =>
    obtain ⟨j, L0, hj, hi, hL0, hown, hset, hb, hzF⟩ := hrel
    rcases (by omega : j = 0 ∨ j = 1 ∨ j = 2) with rfl | rfl | rfl
    · have hi0 : _ = Value.int .i64 0 := hi
      subst hi0
      clear hi
      obtain rfl : L0 = [] := hL0
      have HOF := Lib.hid hown; clear hown
      have HNF := Lib.hid hset; clear hset
      have HBF := Lib.hid hb; clear hb
      have hl0 : ([] : List ByteArray).length ≤ 1048576 - ss1.length := by simp
      have HL0 := Lib.hid hl0; clear hl0
      have hix := index_0 a1 a2 ss1.length ss2.length cap1 cap2 wr
      go_wp2_with fail
      go_loopw [6, 20] (fun o i wx => ∃ (k : Nat) (L : List ByteArray), k ≤ ss1.length ∧ i = .int .i64 k ∧ L = addAll ([]) (ss1.take k) ∧ wx.ownsRow (w.heap.size + 1) 9 1 o L.length (L.map Value.string) ∧ NamesAt wx w.heap.size L.length L ∧ Below w.heap.size w wx ∧ w.heap.size + 1 ≤ wx.heap.size) (fun _ i _ => ss1.length - (intOf i).toNat)
      case atStart => exact ⟨0, [], by omega, rfl, by simp [addAll], HOF.out, HNF.out, HBF.out, hzF⟩
      case round =>
        clear HOF HNF HBF hzF
        obtain ⟨k, L, hk, rfl, hL, hown, hset, hb, hz⟩ := hrel
        have hpart := addAll_part ss1 ([]) k
        rw [← hL] at hpart
        have HL := Lib.hid hL; clear hL
        have hll : L.length ≤ 1048576 := by have := HL0.out; omega
        have hne := own_ne hown (Nat.lt_succ_self w.heap.size)
        have HNE := Lib.hid hne; clear hne
        have HO := Lib.hid hown; clear hown
        have HN := Lib.hid hset; clear hset
        have HB := Lib.hid hb; clear hb
        by_cases hlt : k < ss1.length
        · obtain ⟨b, off, rfl, hbl, hcell⟩ := HAT1.out k hlt
          have e0 : wr.cell? ⟨b, off + k, none⟩ = some (.string ss1[k]) := (HB.out.cell (p := ⟨b, off + k, none⟩) hbl).trans hcell
          clear hcell
          have HT := Lib.hid (addAll_take ss1 ([]) k hlt)
          have hxs := HSZ1.out k hlt
          obtain ⟨x, hx⟩ : ∃ x, x = ss1[k] := ⟨_, rfl⟩
          rw [← hx] at e0 hxs
          have HX := Lib.hid hx; clear hx
          have hkey : keyOf Tryd.prog 9 (.string x) = some (.string x.data.toList) := keyOf_string_mk Tryd.underlying9 hxs
          have HK := Lib.hid hkey; clear hkey
          go_wp2_with (first
            | (at_lookup; refine set_lookup _ rfl _ _ 40 rfl law_str Tryd.underlying40 Tryd.underlying4 (zero_bool _) rfl HN.out _ x.data.toList rfl HK.out ?_)
            | (at_mapUpdate; refine set_store _ rfl _ _ _ 40 rfl law_str Tryd.underlying40 Tryd.underlying4 rfl HN.out (by unfold maxLen; omega) _ x.data.toList rfl true rfl HK.out (fun _ h => by injection h) trivial ?_; intro w1 hset1 hg1)
            | (at_builtin; go_must (refine wpList_append_own_at _ rfl _ _ 24 rfl (w.heap.size + 1) 9 i0 (.string ⟨#[]⟩) 1 16 Tryd.underlying24 HI.out HZ0.out HZ1.out HZ2.out rfl (by decide) _ _ _ rfl ((HO.out.kept hg1 (Or.inr HNE.out)).alloc _) ⟨w1.heap.size, 0, none⟩ 1 1 [.string x] rfl rfl (news_str _ _ _) (by simp [Value.oneCell']) (by unfold maxLen; omega) (by omega) (by have := hg1.size; simp; omega) ?_); intro v2 w2 hown2 hg2 _ hblk2))
          · have hq0 : (!seenB L x.data.toList) = true := by assumption
            have hq : seenB L x.data.toList = false := by simpa using hq0
            have HA : Hid (addN L x = L ++ [x]) := by show _ = _; unfold addN; rw [if_neg (by rw [hq]; simp)]
            have hz1 := hg1.size
            have hz2 := hg2.size
            simp only [World.size_alloc] at hz2
            have ho1 := HO.out.kept hg1 (Or.inr HNE.out)
            have hn1 : NamesAt w1 w.heap.size (L.length + 1) (L ++ [x]) := by
              show SetAt _ _ _ _ _ _ _ _
              rw [← seenB_put]; exact hset1
            have hn2 : NamesAt w2 w.heap.size (L ++ [x]).length (L ++ [x]) := by
              rw [List.length_append]
              refine SetAt.kept hn1 ?_
              rw [hg2.block w.heap.size (by simp; omega) (fun e => HNE.out e.symm)]
              exact heap_alloc_old _ _ (by omega)
            have hb1 : Below w.heap.size w w1 := HB.out.grown hg1 HB.out.size (fun j hj => by cases hj; exact Nat.le_refl _)
            have hb2 : Below w.heap.size w w2 := (hb1.alloc hb1.size _).grown hg2 (by simp; omega) (fun k hk => by have := (ho1.lt k hk).1; omega)
            have hown3 : w2.ownsRow (w.heap.size + 1) 9 1 v2 (L ++ [x]).length ((L ++ [x]).map Value.string) := by simpa using hown2
            have HO2 := Lib.hid hown3
            have HN2 := Lib.hid hn2
            have HB2 := Lib.hid hb2
            have hzz : w.heap.size + 1 ≤ w2.heap.size := by omega
            clear hown2 hown3 hg1 hg2 hn1 hn2 hset1 hb1 hb2 ho1 hblk2
            go_roundw
            case rel => exact ⟨k + 1, L ++ [x], by omega, by go_num, by rw [HT.out, ← HL.out, ← HX.out, HA.out], HO2.out, HN2.out, HB2.out, hzz⟩
            case measure => simp [intOf]; omega
          · have hq0 : (!seenB L x.data.toList) = false := by assumption
            have hq : seenB L x.data.toList = true := by simpa using hq0
            have HA : Hid (addN L x = L) := by show _ = _; unfold addN; rw [if_pos hq]
            go_roundw
            case rel => exact ⟨k + 1, L, by omega, by go_num, by rw [HT.out, ← HL.out, ← HX.out, HA.out], HO.out, HN.out, HB.out, hz⟩
            case measure => simp [intOf]; omega
        · obtain rfl : k = ss1.length := by omega
          have hfin : L = addAll ([]) ss1 := by rw [HL.out, List.take_length]
          have HFN := Lib.hid hfin; clear hfin
          go_wp2_with fail
          exact ⟨⟨1, L, by omega, rfl, by rw [HFN.out]; rfl, HO.out, HN.out, HB.out, hz⟩, by simp [intOf]⟩
    · have hi0 : _ = Value.int .i64 1 := hi
      subst hi0
      clear hi
      obtain rfl : L0 = addAll [] ss1 := hL0
      have HOF := Lib.hid hown; clear hown
      have HNF := Lib.hid hset; clear hset
      have HBF := Lib.hid hb; clear hb
      have hl0 : (addAll [] ss1).length ≤ 1048576 - ss2.length := by omega
      have HL0 := Lib.hid hl0; clear hl0
      have hix := index_1 a1 a2 ss1.length ss2.length cap1 cap2 wr
      go_wp2_with fail
      go_loopw [6, 20] (fun o i wx => ∃ (k : Nat) (L : List ByteArray), k ≤ ss2.length ∧ i = .int .i64 k ∧ L = addAll (addAll [] ss1) (ss2.take k) ∧ wx.ownsRow (w.heap.size + 1) 9 1 o L.length (L.map Value.string) ∧ NamesAt wx w.heap.size L.length L ∧ Below w.heap.size w wx ∧ w.heap.size + 1 ≤ wx.heap.size) (fun _ i _ => ss2.length - (intOf i).toNat)
      case atStart => exact ⟨0, addAll [] ss1, by omega, rfl, by simp [addAll], HOF.out, HNF.out, HBF.out, hzF⟩
      case round =>
        clear HOF HNF HBF hzF
        obtain ⟨k, L, hk, rfl, hL, hown, hset, hb, hz⟩ := hrel
        have hpart := addAll_part ss2 (addAll [] ss1) k
        rw [← hL] at hpart
        have HL := Lib.hid hL; clear hL
        have hll : L.length ≤ 1048576 := by have := HL0.out; omega
        have hne := own_ne hown (Nat.lt_succ_self w.heap.size)
        have HNE := Lib.hid hne; clear hne
        have HO := Lib.hid hown; clear hown
        have HN := Lib.hid hset; clear hset
        have HB := Lib.hid hb; clear hb
        by_cases hlt : k < ss2.length
        · obtain ⟨b, off, rfl, hbl, hcell⟩ := HAT2.out k hlt
          have e0 : wr.cell? ⟨b, off + k, none⟩ = some (.string ss2[k]) := (HB.out.cell (p := ⟨b, off + k, none⟩) hbl).trans hcell
          clear hcell
          have HT := Lib.hid (addAll_take ss2 (addAll [] ss1) k hlt)
          have hxs := HSZ2.out k hlt
          obtain ⟨x, hx⟩ : ∃ x, x = ss2[k] := ⟨_, rfl⟩
          rw [← hx] at e0 hxs
          have HX := Lib.hid hx; clear hx
          have hkey : keyOf Tryd.prog 9 (.string x) = some (.string x.data.toList) := keyOf_string_mk Tryd.underlying9 hxs
          have HK := Lib.hid hkey; clear hkey
          go_wp2_with (first
            | (at_lookup; refine set_lookup _ rfl _ _ 40 rfl law_str Tryd.underlying40 Tryd.underlying4 (zero_bool _) rfl HN.out _ x.data.toList rfl HK.out ?_)
            | (at_mapUpdate; refine set_store _ rfl _ _ _ 40 rfl law_str Tryd.underlying40 Tryd.underlying4 rfl HN.out (by unfold maxLen; omega) _ x.data.toList rfl true rfl HK.out (fun _ h => by injection h) trivial ?_; intro w1 hset1 hg1)
            | (at_builtin; go_must (refine wpList_append_own_at _ rfl _ _ 24 rfl (w.heap.size + 1) 9 i0 (.string ⟨#[]⟩) 1 16 Tryd.underlying24 HI.out HZ0.out HZ1.out HZ2.out rfl (by decide) _ _ _ rfl ((HO.out.kept hg1 (Or.inr HNE.out)).alloc _) ⟨w1.heap.size, 0, none⟩ 1 1 [.string x] rfl rfl (news_str _ _ _) (by simp [Value.oneCell']) (by unfold maxLen; omega) (by omega) (by have := hg1.size; simp; omega) ?_); intro v2 w2 hown2 hg2 _ hblk2))
          · have hq0 : (!seenB L x.data.toList) = true := by assumption
            have hq : seenB L x.data.toList = false := by simpa using hq0
            have HA : Hid (addN L x = L ++ [x]) := by show _ = _; unfold addN; rw [if_neg (by rw [hq]; simp)]
            have hz1 := hg1.size
            have hz2 := hg2.size
            simp only [World.size_alloc] at hz2
            have ho1 := HO.out.kept hg1 (Or.inr HNE.out)
            have hn1 : NamesAt w1 w.heap.size (L.length + 1) (L ++ [x]) := by
              show SetAt _ _ _ _ _ _ _ _
              rw [← seenB_put]; exact hset1
            have hn2 : NamesAt w2 w.heap.size (L ++ [x]).length (L ++ [x]) := by
              rw [List.length_append]
              refine SetAt.kept hn1 ?_
              rw [hg2.block w.heap.size (by simp; omega) (fun e => HNE.out e.symm)]
              exact heap_alloc_old _ _ (by omega)
            have hb1 : Below w.heap.size w w1 := HB.out.grown hg1 HB.out.size (fun j hj => by cases hj; exact Nat.le_refl _)
            have hb2 : Below w.heap.size w w2 := (hb1.alloc hb1.size _).grown hg2 (by simp; omega) (fun k hk => by have := (ho1.lt k hk).1; omega)
            have hown3 : w2.ownsRow (w.heap.size + 1) 9 1 v2 (L ++ [x]).length ((L ++ [x]).map Value.string) := by simpa using hown2
            have HO2 := Lib.hid hown3
            have HN2 := Lib.hid hn2
            have HB2 := Lib.hid hb2
            have hzz : w.heap.size + 1 ≤ w2.heap.size := by omega
            clear hown2 hown3 hg1 hg2 hn1 hn2 hset1 hb1 hb2 ho1 hblk2
            go_roundw
            case rel => exact ⟨k + 1, L ++ [x], by omega, by go_num, by rw [HT.out, ← HL.out, ← HX.out, HA.out], HO2.out, HN2.out, HB2.out, hzz⟩
            case measure => simp [intOf]; omega
          · have hq0 : (!seenB L x.data.toList) = false := by assumption
            have hq : seenB L x.data.toList = true := by simpa using hq0
            have HA : Hid (addN L x = L) := by show _ = _; unfold addN; rw [if_pos hq]
            go_roundw
            case rel => exact ⟨k + 1, L, by omega, by go_num, by rw [HT.out, ← HL.out, ← HX.out, HA.out], HO.out, HN.out, HB.out, hz⟩
            case measure => simp [intOf]; omega
        · obtain rfl : k = ss2.length := by omega
          have hfin : L = addAll (addAll [] ss1) ss2 := by rw [HL.out, List.take_length]
          have HFN := Lib.hid hfin; clear hfin
          go_wp2_with fail
          exact ⟨⟨2, L, by omega, rfl, by rw [HFN.out]; rfl, HO.out, HN.out, HB.out, hz⟩, by simp [intOf]⟩
    · have hi0 : _ = Value.int .i64 2 := hi
      subst hi0
      clear hi
      have HL0 : Hid (addAll (addAll [] ss1) ss2 = L0) := hL0.symm
      have HO := Lib.hid hown; clear hown
      have HB := Lib.hid hb; clear hb
      clear hL0 hset
      go_wp2_with fail
      go_ret
      rw [HL0.out]
      refine ⟨_, rfl, ⟨?_, fun k hk => (HO.out.lt k hk).2, Nat.le_refl _⟩, HB.out⟩
      exact ursBase HO.out (Nat.le_succ _)
end Go.Proofs.YtafehlhmkomeiaaDoor
