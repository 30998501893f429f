/-
  Proved: impl.FreshName finds the first of the texts base, base1, base2 .. that is not in a list; the memory that was there stays as it was. On these terms: the library's table of powers of ten holds what the program's text lays.
-/
import Derived.Test.YtafehlhmkomeiaaDoorSpecFresh
import Derived.Test.YtafehlhmkomeiaaDoorImplFormat
namespace Go.Proofs.YtafehlhmkomeiaaDoor
open Go.RowKit Go.Maps Go.ChangeShapes Go.WideShapes Go.ChangeAt Go.WideMaps Go.WideElems

set_option maxRecDepth 100000 in
set_option maxHeartbeats 2000000 in
theorem implFresh (v : Value) (ss : List ByteArray) (base : ByteArray) (hn : ss.length ≤ 1048576) (hs : base.size ≤ 1048576) (hsz : ∀ j (h : j < ss.length), ss[j].size ≤ 9223372036854775807) (w : World)
    (htab : Lib.TabIs Tryd.prog w "internal/strconv.uint64pow10" .u64 Lib.pow10Tab) (h : Strs w v ss) :
    Calls Tryd.prog 6 #[v, .string base] w fun e w' => ∃ m, e = .returned (.string (cand base m)) ∧ FreshAt ss base m ∧ Below w.heap.size w w' := by
  have HSZ := Lib.hid hsz; clear hsz
  have HTAB := Lib.hid htab; clear htab
  obtain ⟨a, cap, rfl, hc, hat⟩ := h
  have HAT := Lib.hid hat; clear hat
  have hmm := @run_makeMap Tryd.prog
  go_enter Tryd.func6, Tryd.ntmps6
  go_wp2_with fail
  clear hmm
  go_loopw [7, 13] (fun _ i wr => ∃ k : Nat, k ≤ ss.length ∧ i = .int .i64 k ∧ NamesAt wr w.heap.size k (ss.take k) ∧ Below w.heap.size w wr) (fun _ i _ => ss.length - (intOf i).toNat)
  case atStart => exact ⟨0, by omega, rfl, by show SetAt _ _ _ _ _ _ _ _; rw [List.take_zero, ← seenB_nil]; exact SetAt.new _ _ _ _ _, (Below.refl _ _).alloc (Nat.le_refl _) _⟩
  case round =>
    obtain ⟨k, hk, rfl, hset, hb⟩ := hrel
    have HSET := Lib.hid hset; clear hset
    have HB := Lib.hid hb; clear hb
    by_cases hlt : k < ss.length
    · obtain ⟨b, off, rfl, hbl, hcell⟩ := HAT.out k hlt
      have e0 : wr.cell? ⟨b, off + k, none⟩ = some (.string ss[k]) := (HB.out.cell (p := ⟨b, off + k, none⟩) hbl).trans hcell
      clear hcell
      have hkey : keyOf Tryd.prog 9 (.string ss[k]) = some (.string ss[k].data.toList) := keyOf_string_mk Tryd.underlying9 (HSZ.out k hlt)
      have HK := Lib.hid hkey; clear hkey
      go_wp2_with (at_mapUpdate; refine set_store _ rfl _ _ _ 40 rfl law_str Tryd.underlying40 Tryd.underlying4 rfl HSET.out (by unfold maxLen; omega) _ ss[k].data.toList rfl true rfl HK.out (fun _ h => by injection h) trivial ?_; intro w1 hset1 hg1)
      have hset2 : NamesAt w1 w.heap.size (k + 1) (ss.take (k + 1)) := by
        show SetAt _ _ _ _ _ _ _ _
        rw [take_add ss k hlt, ← seenB_put]; exact hset1
      have HS2 := Lib.hid hset2
      have HB2 := Lib.hid (HB.out.grown hg1 HB.out.size (fun j hj => by cases hj; exact Nat.le_refl _))
      clear hset1 hset2 hg1
      go_wp2_with fail
      exact ⟨⟨k + 1, by omega, by go_num, HS2.out, HB2.out⟩, by simp [intOf]; omega⟩
    · obtain rfl : k = ss.length := by omega
      have hset := HSET.out
      rw [List.take_length] at hset
      have HS1 := Lib.hid hset; clear hset HSET
      go_wp2_with fail
      go_loopw [8, 9] (fun o i wx => ∃ m : Nat, i = .int .i64 ((m : Int) + 1) ∧ o = .string (cand base m) ∧ (∀ j, j < m → cand base j ∈ ss) ∧ NamesAt wx w.heap.size ss.length ss ∧ Below w.heap.size w wx) (fun _ i _ => ss.length + 2 - (intOf i).toNat)
      case atStart => exact ⟨0, rfl, rfl, fun j hj => by omega, HS1.out, HB.out⟩
      case round =>
        obtain ⟨m, rfl, rfl, hm, hset, hb⟩ := hrel
        have hfew := cand_few hm
        have HM := Lib.hid hm; clear hm
        have HBX := Lib.hid hb; clear hb
        have HSX := Lib.hid hset; clear hset
        have hcs := cand_size (m := m) hs (by omega)
        have hkey : keyOf Tryd.prog 9 (.string (cand base m)) = some (.string (cand base m).data.toList) := keyOf_string_mk Tryd.underlying9 (by unfold maxLen; omega)
        have HK := Lib.hid hkey; clear hkey
        have hmem := seenB_mem ss (cand base m)
        go_wp2_with (at_lookup; refine set_lookup _ rfl _ _ 40 rfl law_str Tryd.underlying40 Tryd.underlying4 (zero_bool _) rfl HSX.out _ (cand base m).data.toList rfl HK.out ?_)
        · have hq : seenB ss (cand base m).data.toList = true := by assumption
          have HQ := Lib.hid (hmem.1 hq)
          clear hmem
          refine (implFormat ((m : Int) + 1) (by omega) (by omega) _ (Law.tab_below HBX.out HTAB.out)).mono ?_
          rintro e w2 ⟨rfl, hb2⟩
          have HS2 := Lib.hid (HSX.out.below hb2)
          have HB2 := Lib.hid (HBX.out.trans (hb2.mono HBX.out.size)); clear hb2
          have hle := itoa_short ((m : Int) + 1) (by omega) (by omega)
          have hcat : ¬ (9223372036854775807 < base.size + (ByteArray.mk (Lib.itoa ((m : Int) + 1)).toArray).size) := by
            show ¬ (_ < _ + (Lib.itoa ((m : Int) + 1)).toArray.size); simp; omega
          go_wp2_with fail
          refine ⟨⟨m + 1, by go_num, rfl, fun j hj => ?_, HS2.out, HB2.out⟩, by simp [intOf]; omega⟩
          by_cases e : j = m
          · rw [e]; exact HQ.out
          · exact HM.out j (by omega)
        · have hq : seenB ss (cand base m).data.toList = false := by assumption
          have HQ : Hid (cand base m ∉ ss) := fun h => by have := hmem.2 h; rw [hq] at this; cases this
          clear hmem
          go_ret
          exact ⟨m, rfl, ⟨HM.out, HQ.out⟩, HBX.out⟩
end Go.Proofs.YtafehlhmkomeiaaDoor
