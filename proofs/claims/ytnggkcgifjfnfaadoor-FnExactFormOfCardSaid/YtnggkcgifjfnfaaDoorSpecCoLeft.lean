/-
  Proved: spec.l18Left takes the nodes of a core expression from what is left, and stops below 0; the memory that was there stays as it was.
-/
import Derived.Test.YtnggkcgifjfnfaaDoorCoForm
import Derived.Test.YtnggkcgifjfnfaaDoorSzCore
import Derived.Test.YtnggkcgifjfnfaaDoorHold
namespace Go.Proofs.YtnggkcgifjfnfaaDoor
open Go.RowKit

theorem left_next {l c x m r : Int} (hm : m = max (l - c) (-1)) (h0 : ¬ m < 0) (hr : r = max (m - x) (-1)) : r = max (l - (c + x)) (-1) := by omega
theorem left_stop {l c c2 m : Int} (hm : m = max (l - c) (-1)) (h0 : m < 0) (hc : c ≤ c2) : m = max (l - c2) (-1) := by omega
set_option maxRecDepth 100000 in
set_option maxHeartbeats 4000000 in
theorem specCoLeft : ∀ (d : Nat) (v : Value) (t : Co) (left : Int) (w : World), 0 ≤ left → left ≤ 1048576 → CoAt w d v t → t.bulk ≤ 1048576 →
    Calls Tryd.prog 29 #[v, .int .i64 left] w fun e w' => e = .returned (.int .i64 (max (left - t.count) (-1))) ∧ Below w.heap.size w w'
  | 0, _, _, _, _, _, _, h, _ => h.elim
  | d + 1, v, .node kd nm0 n0 fr ty es ns vs, left, w, hl0, hl1, h, hsz => by
    have IH : Hid (∀ (v : Value) (t : Co) (left : Int) (w : World), 0 ≤ left → left ≤ 1048576 → CoAt w d v t → t.bulk ≤ 1048576 → Calls Tryd.prog 29 #[v, .int .i64 left] w fun e w' => e = .returned (.int .i64 (max (left - t.count) (-1))) ∧ Below w.heap.size w w') := specCoLeft d
    have HV := co_parts h
    obtain ⟨c3, c4, c5, c6, sl, el, rfl, hk0, hk1, hn0, hn1, hnm, hfr, hty, ⟨a, cap, rfl, hcap, hcap2, hat⟩, hln, a2, cap2, rfl, hcpe, hcpe2, hae⟩ := h
    obtain ⟨k, nm, n, fk, fa, fn, fc, tk, ta, tn, tc, sa, sn, sc, ea, en, ec, hv⟩ := HV
    injection hv with hv
    injection hv with hv
    simp at hv
    obtain ⟨rfl, rfl, rfl, rfl, rfl, rfl, rfl, HVR⟩ := hv
    clear HVR
    have HAT := Lib.hid hat; clear hat
    have HAE := Lib.hid hae; clear hae
    have HLN := Lib.hid hln; clear hln
    have hbk : (Co.node kd nm0 n0 fr ty es ns vs).bulk = nm0.size + (fr.size - 1) + (ty.size - 1) + Co.bulks es + (txs ns + Co.bulks vs) := rfl
    have HSZ : Hid (Co.bulks es + Co.bulks vs ≤ 1048576) := by show _ ≤ _; omega
    have HNM : Hid (nm0.size ≤ 1048576) := by show _ ≤ _; omega
    have HTXS : Hid (txs ns ≤ 1048576) := by show _ ≤ _; omega
    have HFZ : Hid (fr.size ≤ 1048577) := by show _ ≤ _; omega
    have HTZ : Hid (ty.size ≤ 1048577) := by show _ ≤ _; omega
    have hlen : es.length ≤ 1048576 := by have := Co.length_le es; omega
    have hlen2 : vs.length ≤ 1048576 := by have := Co.length_le vs; omega
    have HFR := Lib.hid hfr
    have HTY := Lib.hid hty
    clear hsz hbk hty hfr
    have HFIN : Hid ((Co.node kd nm0 n0 fr ty es ns vs).count = 1 + Co.counts es + Co.counts vs) := by show _ = _; simp [Co.count]
    clear HFR HTY HFZ HTZ HNM HTXS
    go_enter Tryd.func29, Tryd.ntmps29
    go_wp2_with fail
    go_loopw [1, 5] (fun l i wr => ∃ (k : Nat) (m : Int), k ≤ es.length ∧ i = .int .i64 k ∧ l = .int .i64 m ∧ m = max (left - 1 - (Co.counts (es.take k) : Int)) (-1) ∧ Below (w.heap.size + 1) (w.alloc (.cells #[.int .i64 kd, .string nm0, .int .i64 n0, .int .i64 fk, .slice fa fn fc, .int .i64 tk, .slice ta tn tc, .slice a es.length cap, .slice a2 vs.length cap2] 37)) wr) (fun _ i _ => es.length - (intOf i).toNat)
    case atStart => exact ⟨0, left - 1, by omega, rfl, rfl, by simp [Co.counts]; omega, Below.refl _ _⟩
    case round =>
      obtain ⟨k, m, hk, rfl, rfl, hm, hb⟩ := hrel
      have HM := Lib.hid hm
      have hm0 : -1 ≤ m ∧ m ≤ 1048576 := by omega
      clear hm
      have b7 := box_cell hb 7
      have b8 := box_cell hb 8
      have HB := Lib.hid (box_below hb)
      have HBX := Lib.hid hb; clear hb
      have HS2 := HSZ.out
      by_cases hlt : k < es.length
      · by_cases hneg : m < 0
        · have HM2 := Lib.hid (left_stop HM.out hneg (c2 := (Co.counts es : Int)) (by have := Co.counts_le_all es k; omega))
          have HM2f := Lib.hid HM2.out
          clear HM2 HM
          go_wp2_with fail
          go_loopw [1, 6] (fun l i wr => ∃ (k : Nat) (m : Int), k ≤ vs.length ∧ i = .int .i64 k ∧ l = .int .i64 m ∧ m = max (left - 1 - (Co.counts es : Int) - (Co.counts (vs.take k) : Int)) (-1) ∧ Below (w.heap.size + 1) (w.alloc (.cells #[.int .i64 kd, .string nm0, .int .i64 n0, .int .i64 fk, .slice fa fn fc, .int .i64 tk, .slice ta tn tc, .slice a es.length cap, .slice a2 vs.length cap2] 37)) wr) (fun _ i _ => vs.length - (intOf i).toNat)
          case atStart => exact ⟨0, m, by omega, rfl, rfl, by have := HM2f.out; simp [Co.counts]; omega, HBX.out⟩
          case round =>
            obtain ⟨k, m, hk, rfl, rfl, hm, hb⟩ := hrel
            have HM := Lib.hid hm
            have hm0 : -1 ≤ m ∧ m ≤ 1048576 := by omega
            clear hm
            have b7 := box_cell hb 7
            have b8 := box_cell hb 8
            have HB := Lib.hid (box_below hb)
            have HBX := Lib.hid hb; clear hb
            have HS2 := HSZ.out
            by_cases hlt : k < vs.length
            · by_cases hneg : m < 0
              · have HM2 := Lib.hid (left_stop HM.out hneg (c2 := (Co.counts vs : Int)) (by have := Co.counts_le_all vs k; omega))
                go_wp2_with fail
                go_ret
                refine ⟨?_, HB.out⟩
                have e1 := HM2.out
                rw [HFIN.out]
                have e2 : m = max (left - ((1 + Co.counts es + Co.counts vs : Nat) : Int)) (-1) := by omega
                rw [e2]
                rfl
              · have hlt2 : k < ns.length := by have := HLN.out; omega
                obtain ⟨b, off, x0, x1, x2, x3, x4, x5, x6, x7, x8, rfl, hbl, hnz, hcn, hc0, hc1, hc2, hc3, hc4, hc5, hc6, hc7, hc8, ht⟩ := HAE.out k hlt hlt2
                have hg := Co.bulk_get vs k hlt
                have e0 : wr.cell? ⟨b, off + k * 10 + 1, none⟩ = some x0 := by rw [HB.out.cell (p := ⟨b, off + k * 10 + 1, none⟩) hbl]; exact hc0
                have e1 : wr.cell? ⟨b, off + k * 10 + 2, none⟩ = some x1 := by rw [HB.out.cell (p := ⟨b, off + k * 10 + 2, none⟩) hbl]; exact hc1
                have e2 : wr.cell? ⟨b, off + k * 10 + 3, none⟩ = some x2 := by rw [HB.out.cell (p := ⟨b, off + k * 10 + 3, none⟩) hbl]; exact hc2
                have e3 : wr.cell? ⟨b, off + k * 10 + 4, none⟩ = some x3 := by rw [HB.out.cell (p := ⟨b, off + k * 10 + 4, none⟩) hbl]; exact hc3
                have e4 : wr.cell? ⟨b, off + k * 10 + 5, none⟩ = some x4 := by rw [HB.out.cell (p := ⟨b, off + k * 10 + 5, none⟩) hbl]; exact hc4
                have e5 : wr.cell? ⟨b, off + k * 10 + 6, none⟩ = some x5 := by rw [HB.out.cell (p := ⟨b, off + k * 10 + 6, none⟩) hbl]; exact hc5
                have e6 : wr.cell? ⟨b, off + k * 10 + 7, none⟩ = some x6 := by rw [HB.out.cell (p := ⟨b, off + k * 10 + 7, none⟩) hbl]; exact hc6
                have e7 : wr.cell? ⟨b, off + k * 10 + 8, none⟩ = some x7 := by rw [HB.out.cell (p := ⟨b, off + k * 10 + 8, none⟩) hbl]; exact hc7
                have e8 : wr.cell? ⟨b, off + k * 10 + 9, none⟩ = some x8 := by rw [HB.out.cell (p := ⟨b, off + k * 10 + 9, none⟩) hbl]; exact hc8
                have HT := Lib.hid (ht.below HB.out)
                have HPX := Lib.hid HBX.out
                clear ht hc0 hc1 hc2 hc3 hc4 hc5 hc6 hc7 hc8 hcn hnz
                go_wp2_with fail
                refine (IH.out _ _ m _ (by omega) (by omega) HT.out (by omega)).mono ?_
                rintro e w' ⟨rfl, hb1⟩
                have HN := Lib.hid (box_next HPX.out hb1); clear hb1
                have HT2 := Lib.hid (Co.counts_take vs k hlt)
                have HM3 := Lib.hid (left_next HM.out (by omega) rfl (x := (vs[k].count : Int)))
                go_wp2_with fail
                exact ⟨⟨k + 1, _, by omega, by go_num, rfl, by rw [HT2.out]; have h3 := HM3.out; omega, HN.out⟩, by simp [intOf]; omega⟩
            · obtain rfl : k = vs.length := by omega
              have HM2 := Lib.hid HM.out
              rw [List.take_length] at HM2
              go_wp2_with fail
              go_ret
              refine ⟨?_, HB.out⟩
              have e1 := HM2.out
              rw [HFIN.out]
              have e2 : m = max (left - ((1 + Co.counts es + Co.counts vs : Nat) : Int)) (-1) := by omega
              rw [e2]
              rfl
        · obtain ⟨b, off, x0, x1, x2, x3, x4, x5, x6, x7, x8, rfl, hbl, hc0, hc1, hc2, hc3, hc4, hc5, hc6, hc7, hc8, ht⟩ := HAT.out k hlt
          have hg := Co.bulk_get es k hlt
          have e0 : wr.cell? ⟨b, off + k * 9, none⟩ = some x0 := by rw [HB.out.cell (p := ⟨b, off + k * 9, none⟩) hbl]; exact hc0
          have e1 : wr.cell? ⟨b, off + k * 9 + 1, none⟩ = some x1 := by rw [HB.out.cell (p := ⟨b, off + k * 9 + 1, none⟩) hbl]; exact hc1
          have e2 : wr.cell? ⟨b, off + k * 9 + 2, none⟩ = some x2 := by rw [HB.out.cell (p := ⟨b, off + k * 9 + 2, none⟩) hbl]; exact hc2
          have e3 : wr.cell? ⟨b, off + k * 9 + 3, none⟩ = some x3 := by rw [HB.out.cell (p := ⟨b, off + k * 9 + 3, none⟩) hbl]; exact hc3
          have e4 : wr.cell? ⟨b, off + k * 9 + 4, none⟩ = some x4 := by rw [HB.out.cell (p := ⟨b, off + k * 9 + 4, none⟩) hbl]; exact hc4
          have e5 : wr.cell? ⟨b, off + k * 9 + 5, none⟩ = some x5 := by rw [HB.out.cell (p := ⟨b, off + k * 9 + 5, none⟩) hbl]; exact hc5
          have e6 : wr.cell? ⟨b, off + k * 9 + 6, none⟩ = some x6 := by rw [HB.out.cell (p := ⟨b, off + k * 9 + 6, none⟩) hbl]; exact hc6
          have e7 : wr.cell? ⟨b, off + k * 9 + 7, none⟩ = some x7 := by rw [HB.out.cell (p := ⟨b, off + k * 9 + 7, none⟩) hbl]; exact hc7
          have e8 : wr.cell? ⟨b, off + k * 9 + 8, none⟩ = some x8 := by rw [HB.out.cell (p := ⟨b, off + k * 9 + 8, none⟩) hbl]; exact hc8
          have HT := Lib.hid (ht.below HB.out)
          have HPX := Lib.hid HBX.out
          clear ht hc0 hc1 hc2 hc3 hc4 hc5 hc6 hc7 hc8
          go_wp2_with fail
          refine (IH.out _ _ m _ (by omega) (by omega) HT.out (by omega)).mono ?_
          rintro e w' ⟨rfl, hb1⟩
          have HN := Lib.hid (box_next HPX.out hb1); clear hb1
          have HT2 := Lib.hid (Co.counts_take es k hlt)
          have HM3 := Lib.hid (left_next HM.out (by omega) rfl (x := (es[k].count : Int)))
          go_wp2_with fail
          exact ⟨⟨k + 1, _, by omega, by go_num, rfl, by rw [HT2.out]; have h3 := HM3.out; omega, HN.out⟩, by simp [intOf]; omega⟩
      · obtain rfl : k = es.length := by omega
        have HM2 := Lib.hid HM.out
        rw [List.take_length] at HM2
        have HM2f := Lib.hid HM2.out
        clear HM2 HM
        go_wp2_with fail
        go_loopw [1, 6] (fun l i wr => ∃ (k : Nat) (m : Int), k ≤ vs.length ∧ i = .int .i64 k ∧ l = .int .i64 m ∧ m = max (left - 1 - (Co.counts es : Int) - (Co.counts (vs.take k) : Int)) (-1) ∧ Below (w.heap.size + 1) (w.alloc (.cells #[.int .i64 kd, .string nm0, .int .i64 n0, .int .i64 fk, .slice fa fn fc, .int .i64 tk, .slice ta tn tc, .slice a es.length cap, .slice a2 vs.length cap2] 37)) wr) (fun _ i _ => vs.length - (intOf i).toNat)
        case atStart => exact ⟨0, m, by omega, rfl, rfl, by have := HM2f.out; simp [Co.counts]; omega, HBX.out⟩
        case round =>
          obtain ⟨k, m, hk, rfl, rfl, hm, hb⟩ := hrel
          have HM := Lib.hid hm
          have hm0 : -1 ≤ m ∧ m ≤ 1048576 := by omega
          clear hm
          have b7 := box_cell hb 7
          have b8 := box_cell hb 8
          have HB := Lib.hid (box_below hb)
          have HBX := Lib.hid hb; clear hb
          have HS2 := HSZ.out
          by_cases hlt : k < vs.length
          · by_cases hneg : m < 0
            · have HM2 := Lib.hid (left_stop HM.out hneg (c2 := (Co.counts vs : Int)) (by have := Co.counts_le_all vs k; omega))
              go_wp2_with fail
              go_ret
              refine ⟨?_, HB.out⟩
              have e1 := HM2.out
              rw [HFIN.out]
              have e2 : m = max (left - ((1 + Co.counts es + Co.counts vs : Nat) : Int)) (-1) := by omega
              rw [e2]
              rfl
            · have hlt2 : k < ns.length := by have := HLN.out; omega
              obtain ⟨b, off, x0, x1, x2, x3, x4, x5, x6, x7, x8, rfl, hbl, hnz, hcn, hc0, hc1, hc2, hc3, hc4, hc5, hc6, hc7, hc8, ht⟩ := HAE.out k hlt hlt2
              have hg := Co.bulk_get vs k hlt
              have e0 : wr.cell? ⟨b, off + k * 10 + 1, none⟩ = some x0 := by rw [HB.out.cell (p := ⟨b, off + k * 10 + 1, none⟩) hbl]; exact hc0
              have e1 : wr.cell? ⟨b, off + k * 10 + 2, none⟩ = some x1 := by rw [HB.out.cell (p := ⟨b, off + k * 10 + 2, none⟩) hbl]; exact hc1
              have e2 : wr.cell? ⟨b, off + k * 10 + 3, none⟩ = some x2 := by rw [HB.out.cell (p := ⟨b, off + k * 10 + 3, none⟩) hbl]; exact hc2
              have e3 : wr.cell? ⟨b, off + k * 10 + 4, none⟩ = some x3 := by rw [HB.out.cell (p := ⟨b, off + k * 10 + 4, none⟩) hbl]; exact hc3
              have e4 : wr.cell? ⟨b, off + k * 10 + 5, none⟩ = some x4 := by rw [HB.out.cell (p := ⟨b, off + k * 10 + 5, none⟩) hbl]; exact hc4
              have e5 : wr.cell? ⟨b, off + k * 10 + 6, none⟩ = some x5 := by rw [HB.out.cell (p := ⟨b, off + k * 10 + 6, none⟩) hbl]; exact hc5
              have e6 : wr.cell? ⟨b, off + k * 10 + 7, none⟩ = some x6 := by rw [HB.out.cell (p := ⟨b, off + k * 10 + 7, none⟩) hbl]; exact hc6
              have e7 : wr.cell? ⟨b, off + k * 10 + 8, none⟩ = some x7 := by rw [HB.out.cell (p := ⟨b, off + k * 10 + 8, none⟩) hbl]; exact hc7
              have e8 : wr.cell? ⟨b, off + k * 10 + 9, none⟩ = some x8 := by rw [HB.out.cell (p := ⟨b, off + k * 10 + 9, none⟩) hbl]; exact hc8
              have HT := Lib.hid (ht.below HB.out)
              have HPX := Lib.hid HBX.out
              clear ht hc0 hc1 hc2 hc3 hc4 hc5 hc6 hc7 hc8 hcn hnz
              go_wp2_with fail
              refine (IH.out _ _ m _ (by omega) (by omega) HT.out (by omega)).mono ?_
              rintro e w' ⟨rfl, hb1⟩
              have HN := Lib.hid (box_next HPX.out hb1); clear hb1
              have HT2 := Lib.hid (Co.counts_take vs k hlt)
              have HM3 := Lib.hid (left_next HM.out (by omega) rfl (x := (vs[k].count : Int)))
              go_wp2_with fail
              exact ⟨⟨k + 1, _, by omega, by go_num, rfl, by rw [HT2.out]; have h3 := HM3.out; omega, HN.out⟩, by simp [intOf]; omega⟩
          · obtain rfl : k = vs.length := by omega
            have HM2 := Lib.hid HM.out
            rw [List.take_length] at HM2
            go_wp2_with fail
            go_ret
            refine ⟨?_, HB.out⟩
            have e1 := HM2.out
            rw [HFIN.out]
            have e2 : m = max (left - ((1 + Co.counts es + Co.counts vs : Nat) : Int)) (-1) := by omega
            rw [e2]
            rfl
end Go.Proofs.YtnggkcgifjfnfaaDoor
