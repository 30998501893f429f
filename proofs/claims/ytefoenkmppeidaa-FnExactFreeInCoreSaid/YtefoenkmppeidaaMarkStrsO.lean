/-
  Proved: laws.markStringS overwrites the strings of a slice of the call's own with marks and touches nothing else, old blocks of others neither.
-/
import Derived.Test.YtefoenkmppeidaaMarkStrs
import Derived.Test.YtefoenkmppeidaaMarkInts
namespace Go.Proofs.Ytefoenkmppeidaa
open Go.RowKit

set_option maxRecDepth 100000 in
set_option maxHeartbeats 1000000 in
theorem markStrsO (B : Nat) (v : Value) (n : Nat) (xs : List Value) (k : Int) (hk0 : 0 < k) (hk1 : k ≤ 4194304) (hn : n ≤ 4194304) (w : World) (hB : B ≤ w.heap.size) (hown : w.ownsRow B 9 1 v n xs) :
    Calls Try.prog 31 #[v, .int .i64 k] w fun e w' => e = .returned (.int .i64 (k + n)) ∧ w'.ownsRow B 9 1 v n ((marks k n).map Value.string) ∧ Below B w w' ∧ OnlyOwn v w w' := by
  have hx : Hid (xs.length = n) := by have := hown.1; show _ = _; omega
  have HO := Lib.hid hown
  rcases hown.2 with ⟨rfl, rfl⟩ | ⟨g, cap, cur, rfl, hBg, _, hnc, _⟩
  · clear hown
    go_enter Try.func31, Try.ntmps31
    go_wp2_with fail
    go_loop [1, 5] (fun m i => m = .int .i64 k ∧ i = .int .i64 0) (fun _ _ => 0)
    case atStart => exact ⟨rfl, rfl⟩
    case round =>
      obtain ⟨rfl, rfl⟩ := hrel
      go_wp2_with fail
      go_ret
      have e : xs = [] := List.length_eq_zero_iff.1 hx.out
      have ho := HO.out
      rw [e] at ho
      exact ⟨by simp, ho, Below.refl _ _, OnlyOwn.refl _ _⟩
  · have hgl := (hown.lt g rfl).2
    clear hown
    go_enter Try.func31, Try.ntmps31
    go_wp2_with fail
    go_loopw [1, 5] (fun m i wr => ∃ (j : Nat) (cs : List Value), j ≤ n ∧ i = .int .i64 j ∧ m = .int .i64 (k + j) ∧ cs.length = n ∧ (∀ t, t < j → cs[t]? = some (.string (mt (k + t).natAbs))) ∧ wr.ownsRow B 9 1 (.slice (some ⟨g, 0, none⟩) n cap) n cs ∧ Below B w wr ∧ OnlyOwn (.slice (some ⟨g, 0, none⟩) n cap) w wr) (fun _ i _ => n - (intOf i).toNat)
    case atStart => exact ⟨0, xs, by omega, rfl, by simp, hx.out, fun t h => by omega, HO.out, Below.refl _ _, OnlyOwn.refl _ _⟩
    case round =>
      obtain ⟨j, cs, hj, rfl, rfl, hcs, hm, hown, hb, hoo⟩ := hrel
      have HOO := Lib.hid hoo; clear hoo
      have HM := Lib.hid hm; clear hm
      have HCS := Lib.hid hcs; clear hcs
      by_cases hlt : j < n
      · have HO2 := Lib.hid hown; clear hown
        have HB2 := Lib.hid hb; clear hb
        go_wp2_with fail
        refine (markText (k + j) (by omega) (by omega) _).mono ?_
        rintro e w1 ⟨rfl, hb1⟩
        have hown1 : w1.ownsRow B 9 1 (.slice (some ⟨g, 0, none⟩) n cap) n cs := by
          have hh : w1.heap[g]? = wr.heap[g]? := hb1.block g (HO2.out.lt g rfl).2
          refine ⟨HO2.out.1, ?_⟩
          rcases HO2.out.2 with h | ⟨g', cap', cur', e, r1, r2, r3⟩
          · exact Or.inl h
          · cases e
            exact Or.inr ⟨g, cap, cur', rfl, r1, by rw [hh]; exact r2, r3⟩
        have c1 : ∃ u, w1.cell? ⟨g, j, none⟩ = some u := by
          rw [hown1.cellAt j (by omega)]
          exact ⟨_, List.getElem?_eq_getElem (by rw [HCS.out]; exact hlt)⟩
        obtain ⟨u, c1⟩ := c1
        have f1 := hown1.frozenAt j
        have HS := Lib.hid (hown1.stored j (.string (mt (k + j).natAbs)))
        have HB3 := Lib.hid (HB2.out.trans (hb1.mono (Nat.le_trans hB HB2.out.size)))
        have HOO1 : Hid (OnlyOwn (.slice (some ⟨g, 0, none⟩) n cap) w w1) := ⟨Nat.le_trans HOO.out.1 hb1.size, fun b q1 q2 => by rw [hb1.block b (Nat.lt_of_lt_of_le q1 HOO.out.1)]; exact HOO.out.2 b q1 q2⟩
        clear hown1 hb1
        go_wp2_with fail
        refine ⟨⟨j + 1, cs.set j (.string (mt (k + j).natAbs)), by omega, by go_num, by go_num, by rw [List.length_set]; exact HCS.out, fun t ht => ?_, HS.out.1, HB3.out.setCell hBg _, by simpa using HOO1.out.1, fun b q1 q2 => ?_⟩, by simp [intOf]; omega⟩
        · rw [List.getElem?_set]
          by_cases e : j = t
          · subst e; rw [if_pos rfl, if_pos (by rw [HCS.out]; exact hlt)]
          · rw [if_neg e]; exact HM.out t (by omega)
        · rw [heap_setCell_other _ _ _ _ (fun e => q2 (by rw [e]; rfl))]
          exact HOO1.out.2 b q1 q2
      · obtain rfl : j = n := by omega
        go_wp2_with fail
        go_ret
        have e : cs = (marks k j).map Value.string := by
          apply List.ext_getElem?
          intro t
          by_cases ht : t < j
          · rw [HM.out t ht, List.getElem?_map, List.getElem?_eq_getElem (by rw [marks_length]; exact ht), marks_get]; rfl
          · rw [List.getElem?_eq_none (by rw [HCS.out]; omega), List.getElem?_eq_none (by rw [List.length_map, marks_length]; omega)]
        subst e
        exact ⟨rfl, hown, hb, HOO.out⟩

end Go.Proofs.Ytefoenkmppeidaa
