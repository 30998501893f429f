/-
  Proved: impl.coreWithin says whether a core expression is of the right form and fits into the room that is left; it counts the room down, and touches nothing else. impl.IsCore says whether it is valid.
-/
import Derived.Test.YtcohfbdhdngplaaDoorCoForm
import Derived.Test.YtcohfbdhdngplaaDoorSzCore
import Derived.Test.YtcohfbdhdngplaaDoorHold
import Derived.Test.YtcohfbdhdngplaaDoorName
import Derived.Test.YtcohfbdhdngplaaDoorSpecIn
import Derived.Test.YtcohfbdhdngplaaDoorCoLite
import Derived.Test.YtcohfbdhdngplaaDoorPart
import Derived.Test.YtcohfbdhdngplaaDoorSpecValid
import Derived.Test.YtcohfbdhdngplaaDoorStrs
import Derived.Test.YtcohfbdhdngplaaDoorCoreTab
import Derived.Test.YtcohfbdhdngplaaDoorCoreTextGZ
import Derived.Test.YtcohfbdhdngplaaDoorSetAt
import Derived.Laws.RangeAny
import Derived.Test.YtcohfbdhdngplaaDoorTyEq
import Derived.Test.YtcohfbdhdngplaaDoorCoreTextGB
import Derived.Deep.RegionHeld3
/-
  Proved: spec.l18Left takes the nodes of a core expression from what is left, and stops below 0; the memory that was there stays as it was.
-/
namespace Go.Proofs.YtcohfbdhdngplaaDoor
open Go.RowKit

theorem left_next {l c x m r : Int} (hm : m = max (l - c) (-1)) (h0 : ¬ m < 0) (hr : r = max (m - x) (-1)) : r = max (l - (c + x)) (-1) := by omega
theorem left_stop {l c c2 m : Int} (hm : m = max (l - c) (-1)) (h0 : m < 0) (hc : c ≤ c2) : m = max (l - c2) (-1) := by omega
set_option maxRecDepth 100000 in
set_option maxHeartbeats 4000000 in
theorem specCoLeft : ∀ (d : Nat) (v : Value) (t : Co) (left : Int) (w : World), 0 ≤ left → left ≤ 1048576 → CoAt w d v t → t.bulk ≤ 1048576 →
    Calls Tryd.prog 89 #[v, .int .i64 left] w fun e w' => e = .returned (.int .i64 (max (left - t.count) (-1))) ∧ Below w.heap.size w w'
  | 0, _, _, _, _, _, _, h, _ => h.elim
  | d + 1, v, .node kd nm0 n0 fr ty es ns vs, left, w, hl0, hl1, h, hsz => by
    have IH : Hid (∀ (v : Value) (t : Co) (left : Int) (w : World), 0 ≤ left → left ≤ 1048576 → CoAt w d v t → t.bulk ≤ 1048576 → Calls Tryd.prog 89 #[v, .int .i64 left] w fun e w' => e = .returned (.int .i64 (max (left - t.count) (-1))) ∧ Below w.heap.size w w') := specCoLeft d
    have HV := co_parts h
    obtain ⟨c3, c4, c5, c6, sl, el, rfl, hk0, hk1, hn0, hn1, hnm, hfr, hty, ⟨a, cap, rfl, hcap, hcap2, hat⟩, hln, a2, cap2, rfl, hcpe, hcpe2, hae⟩ := h
    obtain ⟨k, nm, n, fk, fa, fn, fc, tk, ta, tn, tc, sa, sn, sc, ea, en, ec, hv⟩ := HV
    injection hv with hv
    injection hv with hv
    simp at hv
    obtain ⟨rfl, rfl, rfl, rfl, rfl, rfl, rfl, HVR⟩ := hv
    clear HVR
    have HAT := Lib.hid hat; clear hat
    have HAE := Lib.hid hae; clear hae
    have HLN := Lib.hid hln; clear hln
    have hbk : (Co.node kd nm0 n0 fr ty es ns vs).bulk = nm0.size + (fr.size - 1) + (ty.size - 1) + Co.bulks es + (txs ns + Co.bulks vs) := rfl
    have HSZ : Hid (Co.bulks es + Co.bulks vs ≤ 1048576) := by show _ ≤ _; omega
    have HNM : Hid (nm0.size ≤ 1048576) := by show _ ≤ _; omega
    have HTXS : Hid (txs ns ≤ 1048576) := by show _ ≤ _; omega
    have HFZ : Hid (fr.size ≤ 1048577) := by show _ ≤ _; omega
    have HTZ : Hid (ty.size ≤ 1048577) := by show _ ≤ _; omega
    have hlen : es.length ≤ 1048576 := by have := Co.length_le es; omega
    have hlen2 : vs.length ≤ 1048576 := by have := Co.length_le vs; omega
    have HFR := Lib.hid hfr
    have HTY := Lib.hid hty
    clear hsz hbk hty hfr
    have HFIN : Hid ((Co.node kd nm0 n0 fr ty es ns vs).count = 1 + Co.counts es + Co.counts vs) := by show _ = _; simp [Co.count]
    clear HFR HTY HFZ HTZ HNM HTXS
    go_enter Tryd.func89, Tryd.ntmps89
    go_wp2_with fail
    go_loopw [1, 5] (fun l i wr => ∃ (k : Nat) (m : Int), k ≤ es.length ∧ i = .int .i64 k ∧ l = .int .i64 m ∧ m = max (left - 1 - (Co.counts (es.take k) : Int)) (-1) ∧ Below (w.heap.size + 1) (w.alloc (.cells #[.int .i64 kd, .string nm0, .int .i64 n0, .int .i64 fk, .slice fa fn fc, .int .i64 tk, .slice ta tn tc, .slice a es.length cap, .slice a2 vs.length cap2] 67)) wr) (fun _ i _ => es.length - (intOf i).toNat)
    case atStart => exact ⟨0, left - 1, by omega, rfl, rfl, by simp [Co.counts]; omega, Below.refl _ _⟩
    case round =>
      obtain ⟨k, m, hk, rfl, rfl, hm, hb⟩ := hrel
      have HM := Lib.hid hm
      have hm0 : -1 ≤ m ∧ m ≤ 1048576 := by omega
      clear hm
      have b7 := box_cell hb 7
      have b8 := box_cell hb 8
      have HB := Lib.hid (box_below hb)
      have HBX := Lib.hid hb; clear hb
      have HS2 := HSZ.out
      by_cases hlt : k < es.length
      · by_cases hneg : m < 0
        · have HM2 := Lib.hid (left_stop HM.out hneg (c2 := (Co.counts es : Int)) (by have := Co.counts_le_all es k; omega))
          have HM2f := Lib.hid HM2.out
          clear HM2 HM
          go_wp2_with fail
          go_loopw [1, 6] (fun l i wr => ∃ (k : Nat) (m : Int), k ≤ vs.length ∧ i = .int .i64 k ∧ l = .int .i64 m ∧ m = max (left - 1 - (Co.counts es : Int) - (Co.counts (vs.take k) : Int)) (-1) ∧ Below (w.heap.size + 1) (w.alloc (.cells #[.int .i64 kd, .string nm0, .int .i64 n0, .int .i64 fk, .slice fa fn fc, .int .i64 tk, .slice ta tn tc, .slice a es.length cap, .slice a2 vs.length cap2] 67)) wr) (fun _ i _ => vs.length - (intOf i).toNat)
          case atStart => exact ⟨0, m, by omega, rfl, rfl, by have := HM2f.out; simp [Co.counts]; omega, HBX.out⟩
          case round =>
            obtain ⟨k, m, hk, rfl, rfl, hm, hb⟩ := hrel
            have HM := Lib.hid hm
            have hm0 : -1 ≤ m ∧ m ≤ 1048576 := by omega
            clear hm
            have b7 := box_cell hb 7
            have b8 := box_cell hb 8
            have HB := Lib.hid (box_below hb)
            have HBX := Lib.hid hb; clear hb
            have HS2 := HSZ.out
            by_cases hlt : k < vs.length
            · by_cases hneg : m < 0
              · have HM2 := Lib.hid (left_stop HM.out hneg (c2 := (Co.counts vs : Int)) (by have := Co.counts_le_all vs k; omega))
                go_wp2_with fail
                go_ret
                refine ⟨?_, HB.out⟩
                have e1 := HM2.out
                rw [HFIN.out]
                have e2 : m = max (left - ((1 + Co.counts es + Co.counts vs : Nat) : Int)) (-1) := by omega
                rw [e2]
                rfl
              · have hlt2 : k < ns.length := by have := HLN.out; omega
                obtain ⟨b, off, x0, x1, x2, x3, x4, x5, x6, x7, x8, rfl, hbl, hnz, hcn, hc0, hc1, hc2, hc3, hc4, hc5, hc6, hc7, hc8, ht⟩ := HAE.out k hlt hlt2
                have hg := Co.bulk_get vs k hlt
                have e0 : wr.cell? ⟨b, off + k * 10 + 1, none⟩ = some x0 := by rw [HB.out.cell (p := ⟨b, off + k * 10 + 1, none⟩) hbl]; exact hc0
                have e1 : wr.cell? ⟨b, off + k * 10 + 2, none⟩ = some x1 := by rw [HB.out.cell (p := ⟨b, off + k * 10 + 2, none⟩) hbl]; exact hc1
                have e2 : wr.cell? ⟨b, off + k * 10 + 3, none⟩ = some x2 := by rw [HB.out.cell (p := ⟨b, off + k * 10 + 3, none⟩) hbl]; exact hc2
                have e3 : wr.cell? ⟨b, off + k * 10 + 4, none⟩ = some x3 := by rw [HB.out.cell (p := ⟨b, off + k * 10 + 4, none⟩) hbl]; exact hc3
                have e4 : wr.cell? ⟨b, off + k * 10 + 5, none⟩ = some x4 := by rw [HB.out.cell (p := ⟨b, off + k * 10 + 5, none⟩) hbl]; exact hc4
                have e5 : wr.cell? ⟨b, off + k * 10 + 6, none⟩ = some x5 := by rw [HB.out.cell (p := ⟨b, off + k * 10 + 6, none⟩) hbl]; exact hc5
                have e6 : wr.cell? ⟨b, off + k * 10 + 7, none⟩ = some x6 := by rw [HB.out.cell (p := ⟨b, off + k * 10 + 7, none⟩) hbl]; exact hc6
                have e7 : wr.cell? ⟨b, off + k * 10 + 8, none⟩ = some x7 := by rw [HB.out.cell (p := ⟨b, off + k * 10 + 8, none⟩) hbl]; exact hc7
                have e8 : wr.cell? ⟨b, off + k * 10 + 9, none⟩ = some x8 := by rw [HB.out.cell (p := ⟨b, off + k * 10 + 9, none⟩) hbl]; exact hc8
                have HT := Lib.hid (ht.below HB.out)
                have HPX := Lib.hid HBX.out
                clear ht hc0 hc1 hc2 hc3 hc4 hc5 hc6 hc7 hc8 hcn hnz
                go_wp2_with fail
                refine (IH.out _ _ m _ (by omega) (by omega) HT.out (by omega)).mono ?_
                rintro e w' ⟨rfl, hb1⟩
                have HN := Lib.hid (box_next HPX.out hb1); clear hb1
                have HT2 := Lib.hid (Co.counts_take vs k hlt)
                have HM3 := Lib.hid (left_next HM.out (by omega) rfl (x := (vs[k].count : Int)))
                go_wp2_with fail
                exact ⟨⟨k + 1, _, by omega, by go_num, rfl, by rw [HT2.out]; have h3 := HM3.out; omega, HN.out⟩, by simp [intOf]; omega⟩
            · obtain rfl : k = vs.length := by omega
              have HM2 := Lib.hid HM.out
              rw [List.take_length] at HM2
              go_wp2_with fail
              go_ret
              refine ⟨?_, HB.out⟩
              have e1 := HM2.out
              rw [HFIN.out]
              have e2 : m = max (left - ((1 + Co.counts es + Co.counts vs : Nat) : Int)) (-1) := by omega
              rw [e2]
              rfl
        · obtain ⟨b, off, x0, x1, x2, x3, x4, x5, x6, x7, x8, rfl, hbl, hc0, hc1, hc2, hc3, hc4, hc5, hc6, hc7, hc8, ht⟩ := HAT.out k hlt
          have hg := Co.bulk_get es k hlt
          have e0 : wr.cell? ⟨b, off + k * 9, none⟩ = some x0 := by rw [HB.out.cell (p := ⟨b, off + k * 9, none⟩) hbl]; exact hc0
          have e1 : wr.cell? ⟨b, off + k * 9 + 1, none⟩ = some x1 := by rw [HB.out.cell (p := ⟨b, off + k * 9 + 1, none⟩) hbl]; exact hc1
          have e2 : wr.cell? ⟨b, off + k * 9 + 2, none⟩ = some x2 := by rw [HB.out.cell (p := ⟨b, off + k * 9 + 2, none⟩) hbl]; exact hc2
          have e3 : wr.cell? ⟨b, off + k * 9 + 3, none⟩ = some x3 := by rw [HB.out.cell (p := ⟨b, off + k * 9 + 3, none⟩) hbl]; exact hc3
          have e4 : wr.cell? ⟨b, off + k * 9 + 4, none⟩ = some x4 := by rw [HB.out.cell (p := ⟨b, off + k * 9 + 4, none⟩) hbl]; exact hc4
          have e5 : wr.cell? ⟨b, off + k * 9 + 5, none⟩ = some x5 := by rw [HB.out.cell (p := ⟨b, off + k * 9 + 5, none⟩) hbl]; exact hc5
          have e6 : wr.cell? ⟨b, off + k * 9 + 6, none⟩ = some x6 := by rw [HB.out.cell (p := ⟨b, off + k * 9 + 6, none⟩) hbl]; exact hc6
          have e7 : wr.cell? ⟨b, off + k * 9 + 7, none⟩ = some x7 := by rw [HB.out.cell (p := ⟨b, off + k * 9 + 7, none⟩) hbl]; exact hc7
          have e8 : wr.cell? ⟨b, off + k * 9 + 8, none⟩ = some x8 := by rw [HB.out.cell (p := ⟨b, off + k * 9 + 8, none⟩) hbl]; exact hc8
          have HT := Lib.hid (ht.below HB.out)
          have HPX := Lib.hid HBX.out
          clear ht hc0 hc1 hc2 hc3 hc4 hc5 hc6 hc7 hc8
          go_wp2_with fail
          refine (IH.out _ _ m _ (by omega) (by omega) HT.out (by omega)).mono ?_
          rintro e w' ⟨rfl, hb1⟩
          have HN := Lib.hid (box_next HPX.out hb1); clear hb1
          have HT2 := Lib.hid (Co.counts_take es k hlt)
          have HM3 := Lib.hid (left_next HM.out (by omega) rfl (x := (es[k].count : Int)))
          go_wp2_with fail
          exact ⟨⟨k + 1, _, by omega, by go_num, rfl, by rw [HT2.out]; have h3 := HM3.out; omega, HN.out⟩, by simp [intOf]; omega⟩
      · obtain rfl : k = es.length := by omega
        have HM2 := Lib.hid HM.out
        rw [List.take_length] at HM2
        have HM2f := Lib.hid HM2.out
        clear HM2 HM
        go_wp2_with fail
        go_loopw [1, 6] (fun l i wr => ∃ (k : Nat) (m : Int), k ≤ vs.length ∧ i = .int .i64 k ∧ l = .int .i64 m ∧ m = max (left - 1 - (Co.counts es : Int) - (Co.counts (vs.take k) : Int)) (-1) ∧ Below (w.heap.size + 1) (w.alloc (.cells #[.int .i64 kd, .string nm0, .int .i64 n0, .int .i64 fk, .slice fa fn fc, .int .i64 tk, .slice ta tn tc, .slice a es.length cap, .slice a2 vs.length cap2] 67)) wr) (fun _ i _ => vs.length - (intOf i).toNat)
        case atStart => exact ⟨0, m, by omega, rfl, rfl, by have := HM2f.out; simp [Co.counts]; omega, HBX.out⟩
        case round =>
          obtain ⟨k, m, hk, rfl, rfl, hm, hb⟩ := hrel
          have HM := Lib.hid hm
          have hm0 : -1 ≤ m ∧ m ≤ 1048576 := by omega
          clear hm
          have b7 := box_cell hb 7
          have b8 := box_cell hb 8
          have HB := Lib.hid (box_below hb)
          have HBX := Lib.hid hb; clear hb
          have HS2 := HSZ.out
          by_cases hlt : k < vs.length
          · by_cases hneg : m < 0
            · have HM2 := Lib.hid (left_stop HM.out hneg (c2 := (Co.counts vs : Int)) (by have := Co.counts_le_all vs k; omega))
              go_wp2_with fail
              go_ret
              refine ⟨?_, HB.out⟩
              have e1 := HM2.out
              rw [HFIN.out]
              have e2 : m = max (left - ((1 + Co.counts es + Co.counts vs : Nat) : Int)) (-1) := by omega
              rw [e2]
              rfl
            · have hlt2 : k < ns.length := by have := HLN.out; omega
              obtain ⟨b, off, x0, x1, x2, x3, x4, x5, x6, x7, x8, rfl, hbl, hnz, hcn, hc0, hc1, hc2, hc3, hc4, hc5, hc6, hc7, hc8, ht⟩ := HAE.out k hlt hlt2
              have hg := Co.bulk_get vs k hlt
              have e0 : wr.cell? ⟨b, off + k * 10 + 1, none⟩ = some x0 := by rw [HB.out.cell (p := ⟨b, off + k * 10 + 1, none⟩) hbl]; exact hc0
              have e1 : wr.cell? ⟨b, off + k * 10 + 2, none⟩ = some x1 := by rw [HB.out.cell (p := ⟨b, off + k * 10 + 2, none⟩) hbl]; exact hc1
              have e2 : wr.cell? ⟨b, off + k * 10 + 3, none⟩ = some x2 := by rw [HB.out.cell (p := ⟨b, off + k * 10 + 3, none⟩) hbl]; exact hc2
              have e3 : wr.cell? ⟨b, off + k * 10 + 4, none⟩ = some x3 := by rw [HB.out.cell (p := ⟨b, off + k * 10 + 4, none⟩) hbl]; exact hc3
              have e4 : wr.cell? ⟨b, off + k * 10 + 5, none⟩ = some x4 := by rw [HB.out.cell (p := ⟨b, off + k * 10 + 5, none⟩) hbl]; exact hc4
              have e5 : wr.cell? ⟨b, off + k * 10 + 6, none⟩ = some x5 := by rw [HB.out.cell (p := ⟨b, off + k * 10 + 6, none⟩) hbl]; exact hc5
              have e6 : wr.cell? ⟨b, off + k * 10 + 7, none⟩ = some x6 := by rw [HB.out.cell (p := ⟨b, off + k * 10 + 7, none⟩) hbl]; exact hc6
              have e7 : wr.cell? ⟨b, off + k * 10 + 8, none⟩ = some x7 := by rw [HB.out.cell (p := ⟨b, off + k * 10 + 8, none⟩) hbl]; exact hc7
              have e8 : wr.cell? ⟨b, off + k * 10 + 9, none⟩ = some x8 := by rw [HB.out.cell (p := ⟨b, off + k * 10 + 9, none⟩) hbl]; exact hc8
              have HT := Lib.hid (ht.below HB.out)
              have HPX := Lib.hid HBX.out
              clear ht hc0 hc1 hc2 hc3 hc4 hc5 hc6 hc7 hc8 hcn hnz
              go_wp2_with fail
              refine (IH.out _ _ m _ (by omega) (by omega) HT.out (by omega)).mono ?_
              rintro e w' ⟨rfl, hb1⟩
              have HN := Lib.hid (box_next HPX.out hb1); clear hb1
              have HT2 := Lib.hid (Co.counts_take vs k hlt)
              have HM3 := Lib.hid (left_next HM.out (by omega) rfl (x := (vs[k].count : Int)))
              go_wp2_with fail
              exact ⟨⟨k + 1, _, by omega, by go_num, rfl, by rw [HT2.out]; have h3 := HM3.out; omega, HN.out⟩, by simp [intOf]; omega⟩
          · obtain rfl : k = vs.length := by omega
            have HM2 := Lib.hid HM.out
            rw [List.take_length] at HM2
            go_wp2_with fail
            go_ret
            refine ⟨?_, HB.out⟩
            have e1 := HM2.out
            rw [HFIN.out]
            have e2 : m = max (left - ((1 + Co.counts es + Co.counts vs : Nat) : Int)) (-1) := by omega
            rw [e2]
            rfl
end Go.Proofs.YtcohfbdhdngplaaDoor
/-
  Proved: spec.IsName says whether a text is a name; the memory that was there stays as it was.
-/
namespace Go.Proofs.YtcohfbdhdngplaaDoor
open Go.RowKit

set_option maxRecDepth 100000 in
set_option maxHeartbeats 4000000 in
theorem specName (s : ByteArray) (w : World) (hs : s.size ≤ 9223372036854775807) : Calls Tryd.prog 124 #[.string s] w fun e w' => e = .returned (.bool (nameB s)) ∧ w' = w := by
  go_enter Tryd.func124, Tryd.ntmps124
  go_wp2_with fail
  go_loop [3] (fun i => ∃ k : Nat, k ≤ s.size ∧ i = .int .i64 k ∧ okB s k = true) (fun i => s.size - (intOf i).toNat)
  case atStart => exact ⟨0, by omega, rfl, rfl⟩
  case round =>
    obtain ⟨k, hk, rfl, hf⟩ := hrel
    have HF := Lib.hid hf; clear hf
    by_cases hlt : k < s.size
    · skip
      have HSUC := Lib.hid (okB_succ s k hlt)
      have hc255 : (s[k]'hlt).toNat < 256 := UInt8.toNat_lt _
      by_cases l1 : 97 ≤ (s[k]'hlt).toNat ∧ (s[k]'hlt).toNat ≤ 122
      · have OK := Lib.hid (okAt_letter (k := k) l1.1 l1.2)
        obtain ⟨l1a, l1b⟩ := l1
        have l1d : decide ((97 : Int) ≤ ((s[k]'hlt).toNat : Int)) = true := by simpa using (by omega : (97 : Int) ≤ ((s[k]'hlt).toNat : Int))
        have l2d : decide (((s[k]'hlt).toNat : Int) ≤ 122) = true := by simpa using (by omega : ((s[k]'hlt).toNat : Int) ≤ 122)
        clear l1a l1b
        go_wp2_with fail
        exact ⟨⟨k + 1, by omega, by go_num, by rw [HSUC.out, HF.out, OK.out]; rfl⟩, by simp [intOf]; omega⟩
      · by_cases l3 : 97 ≤ (s[k]'hlt).toNat
        · skip
          by_cases z : k = 0
          · have OK := Lib.hid (okAt_bad (c := (s[k]'hlt).toNat) (k := k) (by omega) (Or.inl z))
            have l1d : decide ((97 : Int) ≤ ((s[k]'hlt).toNat : Int)) = true := by simpa using (by omega : (97 : Int) ≤ ((s[k]'hlt).toNat : Int))
            have l2d : decide (((s[k]'hlt).toNat : Int) ≤ 122) = false := by simpa using (by omega : (122 : Int) < ((s[k]'hlt).toNat : Int))
            have zb : ((k : Int) == 0) = true := by simp [z]
            clear l1 l3 z
            go_wp2_with fail
            go_ret
            exact ⟨by rw [nameB, okB_false s (k + 1) s.size (by rw [HSUC.out, HF.out, OK.out]; rfl) hlt]; simp, rfl⟩
          · have zb : ((k : Int) == 0) = false := by simpa using z
            have z1 : 1 ≤ k := by omega
            by_cases g1 : 48 ≤ (s[k]'hlt).toNat ∧ (s[k]'hlt).toNat ≤ 57
            · have OK := Lib.hid (okAt_digit (k := k) z1 g1.1 g1.2)
              obtain ⟨g1a, g1b⟩ := g1
              have l1d : decide ((97 : Int) ≤ ((s[k]'hlt).toNat : Int)) = true := by simpa using (by omega : (97 : Int) ≤ ((s[k]'hlt).toNat : Int))
              have l2d : decide (((s[k]'hlt).toNat : Int) ≤ 122) = false := by simpa using (by omega : (122 : Int) < ((s[k]'hlt).toNat : Int))
              have g1d : decide (((s[k]'hlt).toNat : Int) < 48) = false := by simpa using (by omega : (48 : Int) ≤ ((s[k]'hlt).toNat : Int))
              have g2d : decide ((57 : Int) < ((s[k]'hlt).toNat : Int)) = false := by simpa using (by omega : ((s[k]'hlt).toNat : Int) ≤ 57)
              clear z l1 l3 g1a g1b
              go_wp2_with fail
              exact ⟨⟨k + 1, by omega, by go_num, by rw [HSUC.out, HF.out, OK.out]; rfl⟩, by simp [intOf]; omega⟩
            · have OK := Lib.hid (okAt_bad (c := (s[k]'hlt).toNat) (k := k) (by omega) (Or.inr (by omega)))
              by_cases g2 : 48 ≤ (s[k]'hlt).toNat
              · skip
                have l1d : decide ((97 : Int) ≤ ((s[k]'hlt).toNat : Int)) = true := by simpa using (by omega : (97 : Int) ≤ ((s[k]'hlt).toNat : Int))
                have l2d : decide (((s[k]'hlt).toNat : Int) ≤ 122) = false := by simpa using (by omega : (122 : Int) < ((s[k]'hlt).toNat : Int))
                have g1d : decide (((s[k]'hlt).toNat : Int) < 48) = false := by simpa using (by omega : (48 : Int) ≤ ((s[k]'hlt).toNat : Int))
                have g2d : decide ((57 : Int) < ((s[k]'hlt).toNat : Int)) = true := by simpa using (by omega : (57 : Int) < ((s[k]'hlt).toNat : Int))
                clear z l1 l3 g1 g2
                go_wp2_with fail
                go_ret
                exact ⟨by rw [nameB, okB_false s (k + 1) s.size (by rw [HSUC.out, HF.out, OK.out]; rfl) hlt]; simp, rfl⟩
              · skip
                have l1d : decide ((97 : Int) ≤ ((s[k]'hlt).toNat : Int)) = true := by simpa using (by omega : (97 : Int) ≤ ((s[k]'hlt).toNat : Int))
                have l2d : decide (((s[k]'hlt).toNat : Int) ≤ 122) = false := by simpa using (by omega : (122 : Int) < ((s[k]'hlt).toNat : Int))
                have g1d : decide (((s[k]'hlt).toNat : Int) < 48) = true := by simpa using (by omega : ((s[k]'hlt).toNat : Int) < 48)
                clear z l1 l3 g1 g2
                go_wp2_with fail
                go_ret
                exact ⟨by rw [nameB, okB_false s (k + 1) s.size (by rw [HSUC.out, HF.out, OK.out]; rfl) hlt]; simp, rfl⟩
        · skip
          by_cases z : k = 0
          · have OK := Lib.hid (okAt_bad (c := (s[k]'hlt).toNat) (k := k) (by omega) (Or.inl z))
            have l1d : decide ((97 : Int) ≤ ((s[k]'hlt).toNat : Int)) = false := by simpa using (by omega : ((s[k]'hlt).toNat : Int) < 97)
            have zb : ((k : Int) == 0) = true := by simp [z]
            clear l1 l3 z
            go_wp2_with fail
            go_ret
            exact ⟨by rw [nameB, okB_false s (k + 1) s.size (by rw [HSUC.out, HF.out, OK.out]; rfl) hlt]; simp, rfl⟩
          · have zb : ((k : Int) == 0) = false := by simpa using z
            have z1 : 1 ≤ k := by omega
            by_cases g1 : 48 ≤ (s[k]'hlt).toNat ∧ (s[k]'hlt).toNat ≤ 57
            · have OK := Lib.hid (okAt_digit (k := k) z1 g1.1 g1.2)
              obtain ⟨g1a, g1b⟩ := g1
              have l1d : decide ((97 : Int) ≤ ((s[k]'hlt).toNat : Int)) = false := by simpa using (by omega : ((s[k]'hlt).toNat : Int) < 97)
              have g1d : decide (((s[k]'hlt).toNat : Int) < 48) = false := by simpa using (by omega : (48 : Int) ≤ ((s[k]'hlt).toNat : Int))
              have g2d : decide ((57 : Int) < ((s[k]'hlt).toNat : Int)) = false := by simpa using (by omega : ((s[k]'hlt).toNat : Int) ≤ 57)
              clear z l1 l3 g1a g1b
              go_wp2_with fail
              exact ⟨⟨k + 1, by omega, by go_num, by rw [HSUC.out, HF.out, OK.out]; rfl⟩, by simp [intOf]; omega⟩
            · have OK := Lib.hid (okAt_bad (c := (s[k]'hlt).toNat) (k := k) (by omega) (Or.inr (by omega)))
              by_cases g2 : 48 ≤ (s[k]'hlt).toNat
              · skip
                have l1d : decide ((97 : Int) ≤ ((s[k]'hlt).toNat : Int)) = false := by simpa using (by omega : ((s[k]'hlt).toNat : Int) < 97)
                have g1d : decide (((s[k]'hlt).toNat : Int) < 48) = false := by simpa using (by omega : (48 : Int) ≤ ((s[k]'hlt).toNat : Int))
                have g2d : decide ((57 : Int) < ((s[k]'hlt).toNat : Int)) = true := by simpa using (by omega : (57 : Int) < ((s[k]'hlt).toNat : Int))
                clear z l1 l3 g1 g2
                go_wp2_with fail
                go_ret
                exact ⟨by rw [nameB, okB_false s (k + 1) s.size (by rw [HSUC.out, HF.out, OK.out]; rfl) hlt]; simp, rfl⟩
              · skip
                have l1d : decide ((97 : Int) ≤ ((s[k]'hlt).toNat : Int)) = false := by simpa using (by omega : ((s[k]'hlt).toNat : Int) < 97)
                have g1d : decide (((s[k]'hlt).toNat : Int) < 48) = true := by simpa using (by omega : ((s[k]'hlt).toNat : Int) < 48)
                clear z l1 l3 g1 g2
                go_wp2_with fail
                go_ret
                exact ⟨by rw [nameB, okB_false s (k + 1) s.size (by rw [HSUC.out, HF.out, OK.out]; rfl) hlt]; simp, rfl⟩
    · obtain rfl : k = s.size := by omega
      go_wp2_with fail
      refine (specIn _ _ _ w).mono ?_
      rintro e w9 ⟨rfl, rfl⟩
      have w1 : wordB s = ((s.toList == [105, 102]) || ((s.toList == [102, 115, 116]) || (s.toList == [115, 110, 100]))) := rfl
      have e1 : nameB s = (decide (1 ≤ s.size) && (decide (s.size ≤ 5) && !(wordB s))) := by rw [nameB, HF.out]; simp
      have E1 := Lib.hid (e1.trans (by rw [w1]))
      clear w1 e1
      by_cases r1 : 1 ≤ s.size
      · by_cases r2 : s.size ≤ 5
        · have i1 : (1 : Int) ≤ (s.size : Int) := by omega
          have i2 : (s.size : Int) ≤ 5 := by omega
          have R1 := Lib.hid r1
          have R2 := Lib.hid r2
          cases h1 : (s.toList == [105, 102]) with
          | true =>
            go_wp2_with fail
            go_ret
            exact ⟨by rw [E1.out]; simp [h1], rfl⟩
          | false =>
            cases h2 : (s.toList == [102, 115, 116]) with
            | true =>
              go_wp2_with fail
              go_ret
              exact ⟨by rw [E1.out]; simp [h1, h2], rfl⟩
            | false =>
              cases h3 : (s.toList == [115, 110, 100]) with
              | true =>
                go_wp2_with fail
                go_ret
                exact ⟨by rw [E1.out]; simp [h1, h2, h3], rfl⟩
              | false =>
                go_wp2_with fail
                go_ret
                exact ⟨by rw [E1.out]; simp [h1, h2, h3, R1.out, R2.out], rfl⟩
        · have i2 : ¬ ((s.size : Int) ≤ 5) := by omega
          have i1 : (1 : Int) ≤ (s.size : Int) := by omega
          go_wp2_with fail
          go_ret
          exact ⟨by rw [E1.out]; simp [r2], rfl⟩
      · have i1 : ¬ ((1 : Int) ≤ (s.size : Int)) := by omega
        go_wp2_with fail
        go_ret
        exact ⟨by rw [E1.out]; simp [r1], rfl⟩
end Go.Proofs.YtcohfbdhdngplaaDoor
/-
  Proved: spec.l18Zero, spec.l18Types and spec.l18Fields say whether the types, the name and the number of a node belong to its kind; the memory that was there stays as it was.
-/
namespace Go.Proofs.YtcohfbdhdngplaaDoor
open Go.RowKit

set_option maxRecDepth 100000 in
set_option maxHeartbeats 1000000 in
theorem specZero (d : Nat) (v : Value) (t : Ty) (w : World) (h : TyAt w d v t) :
    Calls Tryd.prog 151 #[v] w fun e w' => e = .returned (.bool (t.beq (.node 0 []))) ∧ Below w.heap.size w w' := by
  obtain ⟨yk, ya, yn, yc, rfl⟩ := agg_parts h
  have hz := co_ty_zero h
  have HZ := Lib.hid hz
  clear hz h
  by_cases q : yk = 0
  · subst q
    by_cases q1 : yn = 0
    · have q1b : ((yn : Int) == 0) = true := by simp [q1]
      go_enter Tryd.func151, Tryd.ntmps151
      go_wp2_with fail
      go_ret
      exact ⟨by rw [HZ.out]; simp [q1], below_alloc _ _⟩
    · have q1b : ((yn : Int) == 0) = false := by simp [q1]
      go_enter Tryd.func151, Tryd.ntmps151
      go_wp2_with fail
      go_ret
      exact ⟨by rw [HZ.out]; simp [q1], below_alloc _ _⟩
  · have qb : (yk == 0) = false := by simp [q]
    go_enter Tryd.func151, Tryd.ntmps151
    go_wp2_with fail
    go_ret
    exact ⟨by rw [HZ.out]; simp [q], below_alloc _ _⟩
set_option maxRecDepth 100000 in
set_option maxHeartbeats 4000000 in
theorem specCoTypes (d : Nat) (v : Value) (kd : Int) (nm0 : ByteArray) (n0 : Int) (fr ty : Ty) (es : List Co) (ns : List ByteArray) (vs : List Co) (w : World) (h : CoAt w (d + 1) v (.node kd nm0 n0 fr ty es ns vs)) (hsz : (Co.node kd nm0 n0 fr ty es ns vs).bulk ≤ 1048576) :
    Calls Tryd.prog 132 #[v] w fun e w' => e = .returned (.bool (coTypesB kd fr ty)) ∧ Below w.heap.size w w' := by
  have HV := co_parts h
  obtain ⟨c3, c4, c5, c6, sl, el, rfl, hk0, hk1, hn0, hn1, hnm, hfr, hty, ⟨a, cap, rfl, hcap, hcap2, hat⟩, hln, a2, cap2, rfl, hcpe, hcpe2, hae⟩ := h
  obtain ⟨k, nm, n, fk, fa, fn, fc, tk, ta, tn, tc, sa, sn, sc, ea, en, ec, hv⟩ := HV
  injection hv with hv
  injection hv with hv
  simp at hv
  obtain ⟨rfl, rfl, rfl, rfl, rfl, rfl, rfl, HVR⟩ := hv
  clear HVR
  have HAT := Lib.hid hat; clear hat
  have HAE := Lib.hid hae; clear hae
  have HLN := Lib.hid hln; clear hln
  have hbk : (Co.node kd nm0 n0 fr ty es ns vs).bulk = nm0.size + (fr.size - 1) + (ty.size - 1) + Co.bulks es + (txs ns + Co.bulks vs) := rfl
  have HSZ : Hid (Co.bulks es + Co.bulks vs ≤ 1048576) := by show _ ≤ _; omega
  have HNM : Hid (nm0.size ≤ 1048576) := by show _ ≤ _; omega
  have HTXS : Hid (txs ns ≤ 1048576) := by show _ ≤ _; omega
  have HFZ : Hid (fr.size ≤ 1048577) := by show _ ≤ _; omega
  have HTZ : Hid (ty.size ≤ 1048577) := by show _ ≤ _; omega
  have hlen : es.length ≤ 1048576 := by have := Co.length_le es; omega
  have hlen2 : vs.length ≤ 1048576 := by have := Co.length_le vs; omega
  have HFR := Lib.hid hfr
  have HTY := Lib.hid hty
  clear hsz hbk hty hfr
  have B0 : Hid (Below (w.heap.size + 1) (w.alloc (.cells #[.int .i64 kd, .string nm0, .int .i64 n0, .int .i64 fk, .slice fa fn fc, .int .i64 tk, .slice ta tn tc, .slice a es.length cap, .slice a2 vs.length cap2] 67)) (w.alloc (.cells #[.int .i64 kd, .string nm0, .int .i64 n0, .int .i64 fk, .slice fa fn fc, .int .i64 tk, .slice ta tn tc, .slice a es.length cap, .slice a2 vs.length cap2] 67))) := Below.refl _ _
  have HTYb := Lib.hid (HTY.out.below (box_below B0.out))
  have HFRb := Lib.hid (HFR.out.below (box_below B0.out))
  clear HTY HFR HAT HAE HLN HSZ HTXS
  by_cases q4 : kd = 4
  · subst q4
    go_enter Tryd.func132, Tryd.ntmps132
    go_wp2_with fail
    refine (specValid d _ ty _ HTYb.out HTZ.out).mono ?_
    rintro e w2 ⟨rfl, hb2⟩
    have HTY2 := Lib.hid (HTYb.out.below hb2)
    have HFR2 := Lib.hid (HFRb.out.below hb2)
    have B2 := Lib.hid (box_next B0.out hb2); clear hb2
    clear HTYb HFRb
    cases hvt : ty.valid with
    | false =>
      have c0 := box_cell B2.out 0
      have c1 := box_cell B2.out 1
      have c2 := box_cell B2.out 2
      have c3 := box_cell B2.out 3
      have c4 := box_cell B2.out 4
      have c5 := box_cell B2.out 5
      have c6 := box_cell B2.out 6
      have c7 := box_cell B2.out 7
      have c8 := box_cell B2.out 8
      go_wp2_with fail
      go_ret
      exact ⟨by simp [coTypesB, coTyFor, tgtB, srcB, *], box_below B2.out⟩
    | true =>
      have c0 := box_cell B2.out 0
      have c1 := box_cell B2.out 1
      have c2 := box_cell B2.out 2
      have c3 := box_cell B2.out 3
      have c4 := box_cell B2.out 4
      have c5 := box_cell B2.out 5
      have c6 := box_cell B2.out 6
      have c7 := box_cell B2.out 7
      have c8 := box_cell B2.out 8
      go_wp2_with fail
      refine (specValid d _ fr _ HFR2.out HFZ.out).mono ?_
      rintro e w3 ⟨rfl, hb3⟩
      have HTY3 := Lib.hid (HTY2.out.below hb3)
      have HFR3 := Lib.hid (HFR2.out.below hb3)
      have B3 := Lib.hid (box_next B2.out hb3); clear hb3
      clear HTY2 HFR2
      clear c0 c1 c2 c3 c4 c5 c6 c7 c8
      cases hvf : fr.valid with
      | true =>
        have FZ := valid_some hvf
        have c0 := box_cell B3.out 0
        have c1 := box_cell B3.out 1
        have c2 := box_cell B3.out 2
        have c3 := box_cell B3.out 3
        have c4 := box_cell B3.out 4
        have c5 := box_cell B3.out 5
        have c6 := box_cell B3.out 6
        have c7 := box_cell B3.out 7
        have c8 := box_cell B3.out 8
        go_wp2_with fail
        go_ret
        exact ⟨by simp [coTypesB, coTyFor, tgtB, srcB, *], box_below B3.out⟩
      | false =>
        have c0 := box_cell B3.out 0
        have c1 := box_cell B3.out 1
        have c2 := box_cell B3.out 2
        have c3 := box_cell B3.out 3
        have c4 := box_cell B3.out 4
        have c5 := box_cell B3.out 5
        have c6 := box_cell B3.out 6
        have c7 := box_cell B3.out 7
        have c8 := box_cell B3.out 8
        go_wp2_with fail
        refine (specZero d _ fr _ HFR3.out).mono ?_
        rintro e w5 ⟨rfl, hb5⟩
        have B5 := Lib.hid (box_next B3.out hb5); clear hb5
        clear c0 c1 c2 c3 c4 c5 c6 c7 c8
        cases hzf : fr.beq (.node 0 []) with
        | false =>
          have c0 := box_cell B5.out 0
          have c1 := box_cell B5.out 1
          have c2 := box_cell B5.out 2
          have c3 := box_cell B5.out 3
          have c4 := box_cell B5.out 4
          have c5 := box_cell B5.out 5
          have c6 := box_cell B5.out 6
          have c7 := box_cell B5.out 7
          have c8 := box_cell B5.out 8
          go_wp2_with fail
          go_ret
          exact ⟨by simp [coTypesB, coTyFor, tgtB, srcB, *], box_below B5.out⟩
        | true =>
          have c0 := box_cell B5.out 0
          have c1 := box_cell B5.out 1
          have c2 := box_cell B5.out 2
          have c3 := box_cell B5.out 3
          have c4 := box_cell B5.out 4
          have c5 := box_cell B5.out 5
          have c6 := box_cell B5.out 6
          have c7 := box_cell B5.out 7
          have c8 := box_cell B5.out 8
          go_wp2_with fail
          go_ret
          exact ⟨by simp [coTypesB, coTyFor, tgtB, srcB, *], box_below B5.out⟩
  by_cases q14 : kd = 14
  · subst q14
    go_enter Tryd.func132, Tryd.ntmps132
    go_wp2_with fail
    refine (specValid d _ ty _ HTYb.out HTZ.out).mono ?_
    rintro e w2 ⟨rfl, hb2⟩
    have HTY2 := Lib.hid (HTYb.out.below hb2)
    have HFR2 := Lib.hid (HFRb.out.below hb2)
    have B2 := Lib.hid (box_next B0.out hb2); clear hb2
    clear HTYb HFRb
    cases hvt : ty.valid with
    | false =>
      have c0 := box_cell B2.out 0
      have c1 := box_cell B2.out 1
      have c2 := box_cell B2.out 2
      have c3 := box_cell B2.out 3
      have c4 := box_cell B2.out 4
      have c5 := box_cell B2.out 5
      have c6 := box_cell B2.out 6
      have c7 := box_cell B2.out 7
      have c8 := box_cell B2.out 8
      go_wp2_with fail
      go_ret
      exact ⟨by simp [coTypesB, coTyFor, tgtB, srcB, *], box_below B2.out⟩
    | true =>
      have c0 := box_cell B2.out 0
      have c1 := box_cell B2.out 1
      have c2 := box_cell B2.out 2
      have c3 := box_cell B2.out 3
      have c4 := box_cell B2.out 4
      have c5 := box_cell B2.out 5
      have c6 := box_cell B2.out 6
      have c7 := box_cell B2.out 7
      have c8 := box_cell B2.out 8
      go_wp2_with fail
      refine (specValid d _ fr _ HFR2.out HFZ.out).mono ?_
      rintro e w3 ⟨rfl, hb3⟩
      have HTY3 := Lib.hid (HTY2.out.below hb3)
      have HFR3 := Lib.hid (HFR2.out.below hb3)
      have B3 := Lib.hid (box_next B2.out hb3); clear hb3
      clear HTY2 HFR2
      clear c0 c1 c2 c3 c4 c5 c6 c7 c8
      cases hvf : fr.valid with
      | false =>
        have c0 := box_cell B3.out 0
        have c1 := box_cell B3.out 1
        have c2 := box_cell B3.out 2
        have c3 := box_cell B3.out 3
        have c4 := box_cell B3.out 4
        have c5 := box_cell B3.out 5
        have c6 := box_cell B3.out 6
        have c7 := box_cell B3.out 7
        have c8 := box_cell B3.out 8
        go_wp2_with fail
        go_ret
        exact ⟨by simp [coTypesB, coTyFor, tgtB, srcB, *], box_below B3.out⟩
      | true =>
        have c0 := box_cell B3.out 0
        have c1 := box_cell B3.out 1
        have c2 := box_cell B3.out 2
        have c3 := box_cell B3.out 3
        have c4 := box_cell B3.out 4
        have c5 := box_cell B3.out 5
        have c6 := box_cell B3.out 6
        have c7 := box_cell B3.out 7
        have c8 := box_cell B3.out 8
        go_wp2_with fail
        go_ret
        exact ⟨by simp [coTypesB, coTyFor, tgtB, srcB, *], box_below B3.out⟩
  by_cases q15 : kd = 15
  · subst q15
    go_enter Tryd.func132, Tryd.ntmps132
    go_wp2_with fail
    refine (specValid d _ ty _ HTYb.out HTZ.out).mono ?_
    rintro e w2 ⟨rfl, hb2⟩
    have HTY2 := Lib.hid (HTYb.out.below hb2)
    have HFR2 := Lib.hid (HFRb.out.below hb2)
    have B2 := Lib.hid (box_next B0.out hb2); clear hb2
    clear HTYb HFRb
    cases hvt : ty.valid with
    | false =>
      have c0 := box_cell B2.out 0
      have c1 := box_cell B2.out 1
      have c2 := box_cell B2.out 2
      have c3 := box_cell B2.out 3
      have c4 := box_cell B2.out 4
      have c5 := box_cell B2.out 5
      have c6 := box_cell B2.out 6
      have c7 := box_cell B2.out 7
      have c8 := box_cell B2.out 8
      go_wp2_with fail
      go_ret
      exact ⟨by simp [coTypesB, coTyFor, tgtB, srcB, *], box_below B2.out⟩
    | true =>
      have c0 := box_cell B2.out 0
      have c1 := box_cell B2.out 1
      have c2 := box_cell B2.out 2
      have c3 := box_cell B2.out 3
      have c4 := box_cell B2.out 4
      have c5 := box_cell B2.out 5
      have c6 := box_cell B2.out 6
      have c7 := box_cell B2.out 7
      have c8 := box_cell B2.out 8
      go_wp2_with fail
      refine (specValid d _ fr _ HFR2.out HFZ.out).mono ?_
      rintro e w3 ⟨rfl, hb3⟩
      have HTY3 := Lib.hid (HTY2.out.below hb3)
      have HFR3 := Lib.hid (HFR2.out.below hb3)
      have B3 := Lib.hid (box_next B2.out hb3); clear hb3
      clear HTY2 HFR2
      clear c0 c1 c2 c3 c4 c5 c6 c7 c8
      cases hvf : fr.valid with
      | false =>
        have c0 := box_cell B3.out 0
        have c1 := box_cell B3.out 1
        have c2 := box_cell B3.out 2
        have c3 := box_cell B3.out 3
        have c4 := box_cell B3.out 4
        have c5 := box_cell B3.out 5
        have c6 := box_cell B3.out 6
        have c7 := box_cell B3.out 7
        have c8 := box_cell B3.out 8
        go_wp2_with fail
        go_ret
        exact ⟨by simp [coTypesB, coTyFor, tgtB, srcB, *], box_below B3.out⟩
      | true =>
        have c0 := box_cell B3.out 0
        have c1 := box_cell B3.out 1
        have c2 := box_cell B3.out 2
        have c3 := box_cell B3.out 3
        have c4 := box_cell B3.out 4
        have c5 := box_cell B3.out 5
        have c6 := box_cell B3.out 6
        have c7 := box_cell B3.out 7
        have c8 := box_cell B3.out 8
        go_wp2_with fail
        go_ret
        exact ⟨by simp [coTypesB, coTyFor, tgtB, srcB, *], box_below B3.out⟩
  have z4 : (kd == 4) = false := by simp [q4]
  have z14 : (kd == 14) = false := by simp [q14]
  have z15 : (kd == 15) = false := by simp [q15]
  go_enter Tryd.func132, Tryd.ntmps132
  go_wp2_with fail
  refine (specValid d _ ty _ HTYb.out HTZ.out).mono ?_
  rintro e w2 ⟨rfl, hb2⟩
  have HTY2 := Lib.hid (HTYb.out.below hb2)
  have HFR2 := Lib.hid (HFRb.out.below hb2)
  have B2 := Lib.hid (box_next B0.out hb2); clear hb2
  clear HTYb HFRb
  cases hvt : ty.valid with
  | true =>
    have TZ := valid_some hvt
    have c0 := box_cell B2.out 0
    have c1 := box_cell B2.out 1
    have c2 := box_cell B2.out 2
    have c3 := box_cell B2.out 3
    have c4 := box_cell B2.out 4
    have c5 := box_cell B2.out 5
    have c6 := box_cell B2.out 6
    have c7 := box_cell B2.out 7
    have c8 := box_cell B2.out 8
    go_wp2_with fail
    go_ret
    exact ⟨by simp [coTypesB, coTyFor, tgtB, srcB, *], box_below B2.out⟩
  | false =>
    have c0 := box_cell B2.out 0
    have c1 := box_cell B2.out 1
    have c2 := box_cell B2.out 2
    have c3 := box_cell B2.out 3
    have c4 := box_cell B2.out 4
    have c5 := box_cell B2.out 5
    have c6 := box_cell B2.out 6
    have c7 := box_cell B2.out 7
    have c8 := box_cell B2.out 8
    go_wp2_with fail
    refine (specValid d _ fr _ HFR2.out HFZ.out).mono ?_
    rintro e w3 ⟨rfl, hb3⟩
    have HTY3 := Lib.hid (HTY2.out.below hb3)
    have HFR3 := Lib.hid (HFR2.out.below hb3)
    have B3 := Lib.hid (box_next B2.out hb3); clear hb3
    clear HTY2 HFR2
    clear c0 c1 c2 c3 c4 c5 c6 c7 c8
    cases hvf : fr.valid with
    | true =>
      have FZ := valid_some hvf
      have c0 := box_cell B3.out 0
      have c1 := box_cell B3.out 1
      have c2 := box_cell B3.out 2
      have c3 := box_cell B3.out 3
      have c4 := box_cell B3.out 4
      have c5 := box_cell B3.out 5
      have c6 := box_cell B3.out 6
      have c7 := box_cell B3.out 7
      have c8 := box_cell B3.out 8
      go_wp2_with fail
      go_ret
      exact ⟨by simp [coTypesB, coTyFor, tgtB, srcB, *], box_below B3.out⟩
    | false =>
      have c0 := box_cell B3.out 0
      have c1 := box_cell B3.out 1
      have c2 := box_cell B3.out 2
      have c3 := box_cell B3.out 3
      have c4 := box_cell B3.out 4
      have c5 := box_cell B3.out 5
      have c6 := box_cell B3.out 6
      have c7 := box_cell B3.out 7
      have c8 := box_cell B3.out 8
      go_wp2_with fail
      refine (specZero d _ ty _ HTY3.out).mono ?_
      rintro e w4 ⟨rfl, hb4⟩
      have HFR4 := Lib.hid (HFR3.out.below hb4)
      have B4 := Lib.hid (box_next B3.out hb4); clear hb4
      clear HFR3 HTY3
      clear c0 c1 c2 c3 c4 c5 c6 c7 c8
      cases hzt : ty.beq (.node 0 []) with
      | false =>
        have c0 := box_cell B4.out 0
        have c1 := box_cell B4.out 1
        have c2 := box_cell B4.out 2
        have c3 := box_cell B4.out 3
        have c4 := box_cell B4.out 4
        have c5 := box_cell B4.out 5
        have c6 := box_cell B4.out 6
        have c7 := box_cell B4.out 7
        have c8 := box_cell B4.out 8
        go_wp2_with fail
        go_ret
        exact ⟨by simp [coTypesB, coTyFor, tgtB, srcB, *], box_below B4.out⟩
      | true =>
        have c0 := box_cell B4.out 0
        have c1 := box_cell B4.out 1
        have c2 := box_cell B4.out 2
        have c3 := box_cell B4.out 3
        have c4 := box_cell B4.out 4
        have c5 := box_cell B4.out 5
        have c6 := box_cell B4.out 6
        have c7 := box_cell B4.out 7
        have c8 := box_cell B4.out 8
        go_wp2_with fail
        refine (specZero d _ fr _ HFR4.out).mono ?_
        rintro e w5 ⟨rfl, hb5⟩
        have B5 := Lib.hid (box_next B4.out hb5); clear hb5
        clear c0 c1 c2 c3 c4 c5 c6 c7 c8
        cases hzf : fr.beq (.node 0 []) with
        | false =>
          have c0 := box_cell B5.out 0
          have c1 := box_cell B5.out 1
          have c2 := box_cell B5.out 2
          have c3 := box_cell B5.out 3
          have c4 := box_cell B5.out 4
          have c5 := box_cell B5.out 5
          have c6 := box_cell B5.out 6
          have c7 := box_cell B5.out 7
          have c8 := box_cell B5.out 8
          go_wp2_with fail
          go_ret
          exact ⟨by simp [coTypesB, coTyFor, tgtB, srcB, *], box_below B5.out⟩
        | true =>
          have c0 := box_cell B5.out 0
          have c1 := box_cell B5.out 1
          have c2 := box_cell B5.out 2
          have c3 := box_cell B5.out 3
          have c4 := box_cell B5.out 4
          have c5 := box_cell B5.out 5
          have c6 := box_cell B5.out 6
          have c7 := box_cell B5.out 7
          have c8 := box_cell B5.out 8
          go_wp2_with fail
          go_ret
          exact ⟨by simp [coTypesB, coTyFor, tgtB, srcB, *], box_below B5.out⟩
set_option maxRecDepth 100000 in
set_option maxHeartbeats 4000000 in
theorem specCoFields (d : Nat) (v : Value) (kd : Int) (nm0 : ByteArray) (n0 : Int) (fr ty : Ty) (es : List Co) (ns : List ByteArray) (vs : List Co) (w : World) (h : CoAt w (d + 1) v (.node kd nm0 n0 fr ty es ns vs)) (hsz : (Co.node kd nm0 n0 fr ty es ns vs).bulk ≤ 1048576) :
    Calls Tryd.prog 115 #[v] w fun e w' => e = .returned (.bool (coFieldsB kd nm0 n0 fr ty)) ∧ Below w.heap.size w w' := by
  have HWH := Lib.hid h
  have HBK := Lib.hid hsz
  have HV := co_parts h
  obtain ⟨c3, c4, c5, c6, sl, el, rfl, hk0, hk1, hn0, hn1, hnm, hfr, hty, ⟨a, cap, rfl, hcap, hcap2, hat⟩, hln, a2, cap2, rfl, hcpe, hcpe2, hae⟩ := h
  obtain ⟨k, nm, n, fk, fa, fn, fc, tk, ta, tn, tc, sa, sn, sc, ea, en, ec, hv⟩ := HV
  injection hv with hv
  injection hv with hv
  simp at hv
  obtain ⟨rfl, rfl, rfl, rfl, rfl, rfl, rfl, HVR⟩ := hv
  clear HVR
  have HAT := Lib.hid hat; clear hat
  have HAE := Lib.hid hae; clear hae
  have HLN := Lib.hid hln; clear hln
  have hbk : (Co.node kd nm0 n0 fr ty es ns vs).bulk = nm0.size + (fr.size - 1) + (ty.size - 1) + Co.bulks es + (txs ns + Co.bulks vs) := rfl
  have HSZ : Hid (Co.bulks es + Co.bulks vs ≤ 1048576) := by show _ ≤ _; omega
  have HNM : Hid (nm0.size ≤ 1048576) := by show _ ≤ _; omega
  have HTXS : Hid (txs ns ≤ 1048576) := by show _ ≤ _; omega
  have HFZ : Hid (fr.size ≤ 1048577) := by show _ ≤ _; omega
  have HTZ : Hid (ty.size ≤ 1048577) := by show _ ≤ _; omega
  have hlen : es.length ≤ 1048576 := by have := Co.length_le es; omega
  have hlen2 : vs.length ≤ 1048576 := by have := Co.length_le vs; omega
  have HFR := Lib.hid hfr
  have HTY := Lib.hid hty
  clear hsz hbk hty hfr
  have B0 : Hid (Below (w.heap.size + 1) (w.alloc (.cells #[.int .i64 kd, .string nm0, .int .i64 n0, .int .i64 fk, .slice fa fn fc, .int .i64 tk, .slice ta tn tc, .slice a es.length cap, .slice a2 vs.length cap2] 67)) (w.alloc (.cells #[.int .i64 kd, .string nm0, .int .i64 n0, .int .i64 fk, .slice fa fn fc, .int .i64 tk, .slice ta tn tc, .slice a es.length cap, .slice a2 vs.length cap2] 67))) := Below.refl _ _
  have HWb := Lib.hid (HWH.out.below (box_below B0.out))
  have hnz := HNM.out
  clear HTY HFR HAT HAE HLN HSZ HTXS HWH
  by_cases q3 : kd = 3
  · subst q3
    go_enter Tryd.func115, Tryd.ntmps115
    go_wp2_with fail
    refine (specName nm0 _ (by omega)).mono ?_
    rintro e w1 ⟨rfl, hw1⟩
    subst hw1
    cases hnb : nameB nm0 with
    | false =>
      have c0 := box_cell B0.out 0
      have c1 := box_cell B0.out 1
      have c2 := box_cell B0.out 2
      have c3 := box_cell B0.out 3
      have c4 := box_cell B0.out 4
      have c5 := box_cell B0.out 5
      have c6 := box_cell B0.out 6
      have c7 := box_cell B0.out 7
      have c8 := box_cell B0.out 8
      go_wp2_with fail
      go_ret
      exact ⟨by simp [coFieldsB, coNameFor, coNumFor, *], box_below B0.out⟩
    | true =>
      have NZ := co_name_some hnb
      have c0 := box_cell B0.out 0
      have c1 := box_cell B0.out 1
      have c2 := box_cell B0.out 2
      have c3 := box_cell B0.out 3
      have c4 := box_cell B0.out 4
      have c5 := box_cell B0.out 5
      have c6 := box_cell B0.out 6
      have c7 := box_cell B0.out 7
      have c8 := box_cell B0.out 8
      go_wp2_with fail
      refine (specCoTypes d _ 3 nm0 n0 fr ty es ns vs _ HWb.out HBK.out).mono ?_
      rintro e w2 ⟨rfl, hb2⟩
      have B2 := Lib.hid (box_next B0.out hb2); clear hb2
      clear c0 c1 c2 c3 c4 c5 c6 c7 c8
      cases hct : coTypesB 3 fr ty with
      | false =>
        have c0 := box_cell B2.out 0
        have c1 := box_cell B2.out 1
        have c2 := box_cell B2.out 2
        have c3 := box_cell B2.out 3
        have c4 := box_cell B2.out 4
        have c5 := box_cell B2.out 5
        have c6 := box_cell B2.out 6
        have c7 := box_cell B2.out 7
        have c8 := box_cell B2.out 8
        go_wp2_with fail
        go_ret
        exact ⟨by simp [coFieldsB, coNameFor, coNumFor, *], box_below B2.out⟩
      | true =>
        by_cases qn : n0 = 0
        · subst qn
          have c0 := box_cell B2.out 0
          have c1 := box_cell B2.out 1
          have c2 := box_cell B2.out 2
          have c3 := box_cell B2.out 3
          have c4 := box_cell B2.out 4
          have c5 := box_cell B2.out 5
          have c6 := box_cell B2.out 6
          have c7 := box_cell B2.out 7
          have c8 := box_cell B2.out 8
          go_wp2_with fail
          go_ret
          exact ⟨by simp [coFieldsB, coNameFor, coNumFor, *], box_below B2.out⟩
        · have qnb : (n0 == 0) = false := by simp [qn]
          have c0 := box_cell B2.out 0
          have c1 := box_cell B2.out 1
          have c2 := box_cell B2.out 2
          have c3 := box_cell B2.out 3
          have c4 := box_cell B2.out 4
          have c5 := box_cell B2.out 5
          have c6 := box_cell B2.out 6
          have c7 := box_cell B2.out 7
          have c8 := box_cell B2.out 8
          go_wp2_with fail
          go_ret
          exact ⟨by simp [coFieldsB, coNameFor, coNumFor, *], box_below B2.out⟩
  by_cases q4 : kd = 4
  · subst q4
    go_enter Tryd.func115, Tryd.ntmps115
    go_wp2_with fail
    refine (specName nm0 _ (by omega)).mono ?_
    rintro e w1 ⟨rfl, hw1⟩
    subst hw1
    cases hnb : nameB nm0 with
    | false =>
      have c0 := box_cell B0.out 0
      have c1 := box_cell B0.out 1
      have c2 := box_cell B0.out 2
      have c3 := box_cell B0.out 3
      have c4 := box_cell B0.out 4
      have c5 := box_cell B0.out 5
      have c6 := box_cell B0.out 6
      have c7 := box_cell B0.out 7
      have c8 := box_cell B0.out 8
      go_wp2_with fail
      go_ret
      exact ⟨by simp [coFieldsB, coNameFor, coNumFor, *], box_below B0.out⟩
    | true =>
      have NZ := co_name_some hnb
      have c0 := box_cell B0.out 0
      have c1 := box_cell B0.out 1
      have c2 := box_cell B0.out 2
      have c3 := box_cell B0.out 3
      have c4 := box_cell B0.out 4
      have c5 := box_cell B0.out 5
      have c6 := box_cell B0.out 6
      have c7 := box_cell B0.out 7
      have c8 := box_cell B0.out 8
      go_wp2_with fail
      refine (specCoTypes d _ 4 nm0 n0 fr ty es ns vs _ HWb.out HBK.out).mono ?_
      rintro e w2 ⟨rfl, hb2⟩
      have B2 := Lib.hid (box_next B0.out hb2); clear hb2
      clear c0 c1 c2 c3 c4 c5 c6 c7 c8
      cases hct : coTypesB 4 fr ty with
      | false =>
        have c0 := box_cell B2.out 0
        have c1 := box_cell B2.out 1
        have c2 := box_cell B2.out 2
        have c3 := box_cell B2.out 3
        have c4 := box_cell B2.out 4
        have c5 := box_cell B2.out 5
        have c6 := box_cell B2.out 6
        have c7 := box_cell B2.out 7
        have c8 := box_cell B2.out 8
        go_wp2_with fail
        go_ret
        exact ⟨by simp [coFieldsB, coNameFor, coNumFor, *], box_below B2.out⟩
      | true =>
        by_cases qn : n0 = 0
        · subst qn
          have c0 := box_cell B2.out 0
          have c1 := box_cell B2.out 1
          have c2 := box_cell B2.out 2
          have c3 := box_cell B2.out 3
          have c4 := box_cell B2.out 4
          have c5 := box_cell B2.out 5
          have c6 := box_cell B2.out 6
          have c7 := box_cell B2.out 7
          have c8 := box_cell B2.out 8
          go_wp2_with fail
          go_ret
          exact ⟨by simp [coFieldsB, coNameFor, coNumFor, *], box_below B2.out⟩
        · have qnb : (n0 == 0) = false := by simp [qn]
          have c0 := box_cell B2.out 0
          have c1 := box_cell B2.out 1
          have c2 := box_cell B2.out 2
          have c3 := box_cell B2.out 3
          have c4 := box_cell B2.out 4
          have c5 := box_cell B2.out 5
          have c6 := box_cell B2.out 6
          have c7 := box_cell B2.out 7
          have c8 := box_cell B2.out 8
          go_wp2_with fail
          go_ret
          exact ⟨by simp [coFieldsB, coNameFor, coNumFor, *], box_below B2.out⟩
  by_cases q1 : kd = 1
  · subst q1
    go_enter Tryd.func115, Tryd.ntmps115
    go_wp2_with fail
    refine (specName nm0 _ (by omega)).mono ?_
    rintro e w1 ⟨rfl, hw1⟩
    subst hw1
    cases hnb : nameB nm0 with
    | true =>
      have NZ := co_name_some hnb
      have c0 := box_cell B0.out 0
      have c1 := box_cell B0.out 1
      have c2 := box_cell B0.out 2
      have c3 := box_cell B0.out 3
      have c4 := box_cell B0.out 4
      have c5 := box_cell B0.out 5
      have c6 := box_cell B0.out 6
      have c7 := box_cell B0.out 7
      have c8 := box_cell B0.out 8
      go_wp2_with fail
      go_ret
      exact ⟨by simp [coFieldsB, coNameFor, coNumFor, *], box_below B0.out⟩
    | false =>
      by_cases NZ : nm0.size = 0
      · have e1 := co_text_zero NZ
        have c0 := box_cell B0.out 0
        have c1 := box_cell B0.out 1
        have c2 := box_cell B0.out 2
        have c3 := box_cell B0.out 3
        have c4 := box_cell B0.out 4
        have c5 := box_cell B0.out 5
        have c6 := box_cell B0.out 6
        have c7 := box_cell B0.out 7
        have c8 := box_cell B0.out 8
        go_wp2_with fail
        refine (specCoTypes d _ 1 nm0 n0 fr ty es ns vs _ HWb.out HBK.out).mono ?_
        rintro e w2 ⟨rfl, hb2⟩
        have B2 := Lib.hid (box_next B0.out hb2); clear hb2
        clear c0 c1 c2 c3 c4 c5 c6 c7 c8
        cases hct : coTypesB 1 fr ty with
        | false =>
          have c0 := box_cell B2.out 0
          have c1 := box_cell B2.out 1
          have c2 := box_cell B2.out 2
          have c3 := box_cell B2.out 3
          have c4 := box_cell B2.out 4
          have c5 := box_cell B2.out 5
          have c6 := box_cell B2.out 6
          have c7 := box_cell B2.out 7
          have c8 := box_cell B2.out 8
          go_wp2_with fail
          go_ret
          exact ⟨by simp [coFieldsB, coNameFor, coNumFor, *], box_below B2.out⟩
        | true =>
          have c0 := box_cell B2.out 0
          have c1 := box_cell B2.out 1
          have c2 := box_cell B2.out 2
          have c3 := box_cell B2.out 3
          have c4 := box_cell B2.out 4
          have c5 := box_cell B2.out 5
          have c6 := box_cell B2.out 6
          have c7 := box_cell B2.out 7
          have c8 := box_cell B2.out 8
          go_wp2_with fail
          refine (specIn n0 1 99 _).mono ?_
          rintro e w9 ⟨rfl, hw9⟩
          subst hw9
          go_wp2_with fail
          go_ret
          exact ⟨by simp [coFieldsB, coNameFor, coNumFor, *], box_below B2.out⟩
      · have e1 := toList_some (s := nm0) (by omega)
        have c0 := box_cell B0.out 0
        have c1 := box_cell B0.out 1
        have c2 := box_cell B0.out 2
        have c3 := box_cell B0.out 3
        have c4 := box_cell B0.out 4
        have c5 := box_cell B0.out 5
        have c6 := box_cell B0.out 6
        have c7 := box_cell B0.out 7
        have c8 := box_cell B0.out 8
        go_wp2_with fail
        go_ret
        exact ⟨by simp [coFieldsB, coNameFor, coNumFor, *], box_below B0.out⟩
  by_cases q2 : kd = 2
  · subst q2
    go_enter Tryd.func115, Tryd.ntmps115
    go_wp2_with fail
    refine (specName nm0 _ (by omega)).mono ?_
    rintro e w1 ⟨rfl, hw1⟩
    subst hw1
    cases hnb : nameB nm0 with
    | true =>
      have NZ := co_name_some hnb
      have c0 := box_cell B0.out 0
      have c1 := box_cell B0.out 1
      have c2 := box_cell B0.out 2
      have c3 := box_cell B0.out 3
      have c4 := box_cell B0.out 4
      have c5 := box_cell B0.out 5
      have c6 := box_cell B0.out 6
      have c7 := box_cell B0.out 7
      have c8 := box_cell B0.out 8
      go_wp2_with fail
      go_ret
      exact ⟨by simp [coFieldsB, coNameFor, coNumFor, *], box_below B0.out⟩
    | false =>
      by_cases NZ : nm0.size = 0
      · have e1 := co_text_zero NZ
        have c0 := box_cell B0.out 0
        have c1 := box_cell B0.out 1
        have c2 := box_cell B0.out 2
        have c3 := box_cell B0.out 3
        have c4 := box_cell B0.out 4
        have c5 := box_cell B0.out 5
        have c6 := box_cell B0.out 6
        have c7 := box_cell B0.out 7
        have c8 := box_cell B0.out 8
        go_wp2_with fail
        refine (specCoTypes d _ 2 nm0 n0 fr ty es ns vs _ HWb.out HBK.out).mono ?_
        rintro e w2 ⟨rfl, hb2⟩
        have B2 := Lib.hid (box_next B0.out hb2); clear hb2
        clear c0 c1 c2 c3 c4 c5 c6 c7 c8
        cases hct : coTypesB 2 fr ty with
        | false =>
          have c0 := box_cell B2.out 0
          have c1 := box_cell B2.out 1
          have c2 := box_cell B2.out 2
          have c3 := box_cell B2.out 3
          have c4 := box_cell B2.out 4
          have c5 := box_cell B2.out 5
          have c6 := box_cell B2.out 6
          have c7 := box_cell B2.out 7
          have c8 := box_cell B2.out 8
          go_wp2_with fail
          go_ret
          exact ⟨by simp [coFieldsB, coNameFor, coNumFor, *], box_below B2.out⟩
        | true =>
          have c0 := box_cell B2.out 0
          have c1 := box_cell B2.out 1
          have c2 := box_cell B2.out 2
          have c3 := box_cell B2.out 3
          have c4 := box_cell B2.out 4
          have c5 := box_cell B2.out 5
          have c6 := box_cell B2.out 6
          have c7 := box_cell B2.out 7
          have c8 := box_cell B2.out 8
          go_wp2_with fail
          refine (specIn n0 1 99 _).mono ?_
          rintro e w9 ⟨rfl, hw9⟩
          subst hw9
          go_wp2_with fail
          go_ret
          exact ⟨by simp [coFieldsB, coNameFor, coNumFor, *], box_below B2.out⟩
      · have e1 := toList_some (s := nm0) (by omega)
        have c0 := box_cell B0.out 0
        have c1 := box_cell B0.out 1
        have c2 := box_cell B0.out 2
        have c3 := box_cell B0.out 3
        have c4 := box_cell B0.out 4
        have c5 := box_cell B0.out 5
        have c6 := box_cell B0.out 6
        have c7 := box_cell B0.out 7
        have c8 := box_cell B0.out 8
        go_wp2_with fail
        go_ret
        exact ⟨by simp [coFieldsB, coNameFor, coNumFor, *], box_below B0.out⟩
  by_cases q9 : kd = 9
  · subst q9
    go_enter Tryd.func115, Tryd.ntmps115
    go_wp2_with fail
    refine (specName nm0 _ (by omega)).mono ?_
    rintro e w1 ⟨rfl, hw1⟩
    subst hw1
    cases hnb : nameB nm0 with
    | true =>
      have NZ := co_name_some hnb
      have c0 := box_cell B0.out 0
      have c1 := box_cell B0.out 1
      have c2 := box_cell B0.out 2
      have c3 := box_cell B0.out 3
      have c4 := box_cell B0.out 4
      have c5 := box_cell B0.out 5
      have c6 := box_cell B0.out 6
      have c7 := box_cell B0.out 7
      have c8 := box_cell B0.out 8
      go_wp2_with fail
      go_ret
      exact ⟨by simp [coFieldsB, coNameFor, coNumFor, *], box_below B0.out⟩
    | false =>
      by_cases NZ : nm0.size = 0
      · have e1 := co_text_zero NZ
        have c0 := box_cell B0.out 0
        have c1 := box_cell B0.out 1
        have c2 := box_cell B0.out 2
        have c3 := box_cell B0.out 3
        have c4 := box_cell B0.out 4
        have c5 := box_cell B0.out 5
        have c6 := box_cell B0.out 6
        have c7 := box_cell B0.out 7
        have c8 := box_cell B0.out 8
        go_wp2_with fail
        refine (specCoTypes d _ 9 nm0 n0 fr ty es ns vs _ HWb.out HBK.out).mono ?_
        rintro e w2 ⟨rfl, hb2⟩
        have B2 := Lib.hid (box_next B0.out hb2); clear hb2
        clear c0 c1 c2 c3 c4 c5 c6 c7 c8
        cases hct : coTypesB 9 fr ty with
        | false =>
          have c0 := box_cell B2.out 0
          have c1 := box_cell B2.out 1
          have c2 := box_cell B2.out 2
          have c3 := box_cell B2.out 3
          have c4 := box_cell B2.out 4
          have c5 := box_cell B2.out 5
          have c6 := box_cell B2.out 6
          have c7 := box_cell B2.out 7
          have c8 := box_cell B2.out 8
          go_wp2_with fail
          go_ret
          exact ⟨by simp [coFieldsB, coNameFor, coNumFor, *], box_below B2.out⟩
        | true =>
          have c0 := box_cell B2.out 0
          have c1 := box_cell B2.out 1
          have c2 := box_cell B2.out 2
          have c3 := box_cell B2.out 3
          have c4 := box_cell B2.out 4
          have c5 := box_cell B2.out 5
          have c6 := box_cell B2.out 6
          have c7 := box_cell B2.out 7
          have c8 := box_cell B2.out 8
          go_wp2_with fail
          refine (specIn n0 0 1 _).mono ?_
          rintro e w9 ⟨rfl, hw9⟩
          subst hw9
          go_wp2_with fail
          go_ret
          exact ⟨by simp [coFieldsB, coNameFor, coNumFor, *], box_below B2.out⟩
      · have e1 := toList_some (s := nm0) (by omega)
        have c0 := box_cell B0.out 0
        have c1 := box_cell B0.out 1
        have c2 := box_cell B0.out 2
        have c3 := box_cell B0.out 3
        have c4 := box_cell B0.out 4
        have c5 := box_cell B0.out 5
        have c6 := box_cell B0.out 6
        have c7 := box_cell B0.out 7
        have c8 := box_cell B0.out 8
        go_wp2_with fail
        go_ret
        exact ⟨by simp [coFieldsB, coNameFor, coNumFor, *], box_below B0.out⟩
  by_cases q6 : kd = 6
  · subst q6
    go_enter Tryd.func115, Tryd.ntmps115
    go_wp2_with fail
    refine (specName nm0 _ (by omega)).mono ?_
    rintro e w1 ⟨rfl, hw1⟩
    subst hw1
    cases hnb : nameB nm0 with
    | true =>
      have NZ := co_name_some hnb
      have c0 := box_cell B0.out 0
      have c1 := box_cell B0.out 1
      have c2 := box_cell B0.out 2
      have c3 := box_cell B0.out 3
      have c4 := box_cell B0.out 4
      have c5 := box_cell B0.out 5
      have c6 := box_cell B0.out 6
      have c7 := box_cell B0.out 7
      have c8 := box_cell B0.out 8
      go_wp2_with fail
      go_ret
      exact ⟨by simp [coFieldsB, coNameFor, coNumFor, *], box_below B0.out⟩
    | false =>
      by_cases NZ : nm0.size = 0
      · have e1 := co_text_zero NZ
        have c0 := box_cell B0.out 0
        have c1 := box_cell B0.out 1
        have c2 := box_cell B0.out 2
        have c3 := box_cell B0.out 3
        have c4 := box_cell B0.out 4
        have c5 := box_cell B0.out 5
        have c6 := box_cell B0.out 6
        have c7 := box_cell B0.out 7
        have c8 := box_cell B0.out 8
        go_wp2_with fail
        refine (specCoTypes d _ 6 nm0 n0 fr ty es ns vs _ HWb.out HBK.out).mono ?_
        rintro e w2 ⟨rfl, hb2⟩
        have B2 := Lib.hid (box_next B0.out hb2); clear hb2
        clear c0 c1 c2 c3 c4 c5 c6 c7 c8
        cases hct : coTypesB 6 fr ty with
        | false =>
          have c0 := box_cell B2.out 0
          have c1 := box_cell B2.out 1
          have c2 := box_cell B2.out 2
          have c3 := box_cell B2.out 3
          have c4 := box_cell B2.out 4
          have c5 := box_cell B2.out 5
          have c6 := box_cell B2.out 6
          have c7 := box_cell B2.out 7
          have c8 := box_cell B2.out 8
          go_wp2_with fail
          go_ret
          exact ⟨by simp [coFieldsB, coNameFor, coNumFor, *], box_below B2.out⟩
        | true =>
          have c0 := box_cell B2.out 0
          have c1 := box_cell B2.out 1
          have c2 := box_cell B2.out 2
          have c3 := box_cell B2.out 3
          have c4 := box_cell B2.out 4
          have c5 := box_cell B2.out 5
          have c6 := box_cell B2.out 6
          have c7 := box_cell B2.out 7
          have c8 := box_cell B2.out 8
          go_wp2_with fail
          go_ret
          exact ⟨by simp [coFieldsB, coNameFor, coNumFor, *], box_below B2.out⟩
      · have e1 := toList_some (s := nm0) (by omega)
        have c0 := box_cell B0.out 0
        have c1 := box_cell B0.out 1
        have c2 := box_cell B0.out 2
        have c3 := box_cell B0.out 3
        have c4 := box_cell B0.out 4
        have c5 := box_cell B0.out 5
        have c6 := box_cell B0.out 6
        have c7 := box_cell B0.out 7
        have c8 := box_cell B0.out 8
        go_wp2_with fail
        go_ret
        exact ⟨by simp [coFieldsB, coNameFor, coNumFor, *], box_below B0.out⟩
  have z1 : (kd == 1) = false := by simp [q1]
  have z2 : (kd == 2) = false := by simp [q2]
  have z3 : (kd == 3) = false := by simp [q3]
  have z4 : (kd == 4) = false := by simp [q4]
  have z6 : (kd == 6) = false := by simp [q6]
  have z9 : (kd == 9) = false := by simp [q9]
  go_enter Tryd.func115, Tryd.ntmps115
  go_wp2_with fail
  refine (specName nm0 _ (by omega)).mono ?_
  rintro e w1 ⟨rfl, hw1⟩
  subst hw1
  cases hnb : nameB nm0 with
  | true =>
    have NZ := co_name_some hnb
    have c0 := box_cell B0.out 0
    have c1 := box_cell B0.out 1
    have c2 := box_cell B0.out 2
    have c3 := box_cell B0.out 3
    have c4 := box_cell B0.out 4
    have c5 := box_cell B0.out 5
    have c6 := box_cell B0.out 6
    have c7 := box_cell B0.out 7
    have c8 := box_cell B0.out 8
    go_wp2_with fail
    go_ret
    exact ⟨by simp [coFieldsB, coNameFor, coNumFor, *], box_below B0.out⟩
  | false =>
    by_cases NZ : nm0.size = 0
    · have e1 := co_text_zero NZ
      have c0 := box_cell B0.out 0
      have c1 := box_cell B0.out 1
      have c2 := box_cell B0.out 2
      have c3 := box_cell B0.out 3
      have c4 := box_cell B0.out 4
      have c5 := box_cell B0.out 5
      have c6 := box_cell B0.out 6
      have c7 := box_cell B0.out 7
      have c8 := box_cell B0.out 8
      go_wp2_with fail
      refine (specCoTypes d _ kd nm0 n0 fr ty es ns vs _ HWb.out HBK.out).mono ?_
      rintro e w2 ⟨rfl, hb2⟩
      have B2 := Lib.hid (box_next B0.out hb2); clear hb2
      clear c0 c1 c2 c3 c4 c5 c6 c7 c8
      cases hct : coTypesB kd fr ty with
      | false =>
        have c0 := box_cell B2.out 0
        have c1 := box_cell B2.out 1
        have c2 := box_cell B2.out 2
        have c3 := box_cell B2.out 3
        have c4 := box_cell B2.out 4
        have c5 := box_cell B2.out 5
        have c6 := box_cell B2.out 6
        have c7 := box_cell B2.out 7
        have c8 := box_cell B2.out 8
        go_wp2_with fail
        go_ret
        exact ⟨by simp [coFieldsB, coNameFor, coNumFor, *], box_below B2.out⟩
      | true =>
        by_cases qn : n0 = 0
        · subst qn
          have c0 := box_cell B2.out 0
          have c1 := box_cell B2.out 1
          have c2 := box_cell B2.out 2
          have c3 := box_cell B2.out 3
          have c4 := box_cell B2.out 4
          have c5 := box_cell B2.out 5
          have c6 := box_cell B2.out 6
          have c7 := box_cell B2.out 7
          have c8 := box_cell B2.out 8
          go_wp2_with fail
          go_ret
          exact ⟨by simp [coFieldsB, coNameFor, coNumFor, *], box_below B2.out⟩
        · have qnb : (n0 == 0) = false := by simp [qn]
          have c0 := box_cell B2.out 0
          have c1 := box_cell B2.out 1
          have c2 := box_cell B2.out 2
          have c3 := box_cell B2.out 3
          have c4 := box_cell B2.out 4
          have c5 := box_cell B2.out 5
          have c6 := box_cell B2.out 6
          have c7 := box_cell B2.out 7
          have c8 := box_cell B2.out 8
          go_wp2_with fail
          go_ret
          exact ⟨by simp [coFieldsB, coNameFor, coNumFor, *], box_below B2.out⟩
    · have e1 := toList_some (s := nm0) (by omega)
      have c0 := box_cell B0.out 0
      have c1 := box_cell B0.out 1
      have c2 := box_cell B0.out 2
      have c3 := box_cell B0.out 3
      have c4 := box_cell B0.out 4
      have c5 := box_cell B0.out 5
      have c6 := box_cell B0.out 6
      have c7 := box_cell B0.out 7
      have c8 := box_cell B0.out 8
      go_wp2_with fail
      go_ret
      exact ⟨by simp [coFieldsB, coNameFor, coNumFor, *], box_below B0.out⟩
end Go.Proofs.YtcohfbdhdngplaaDoor
/-
  Proved: a row of a call's own reads the same while its block stays; the one cell of a slice that was just built.
-/
namespace Go.Proofs.YtcohfbdhdngplaaDoor
open Go.RowKit

theorem rowKeep {w w' : World} {B : Nat} {e : TypeId} {size : Nat} {v : Value} {n : Nat} {xs : List Value} (h : w.ownsRow B e size v n xs) (hb : Below w.heap.size w w') : w'.ownsRow B e size v n xs := by
  have hk : ∀ k, v.ownBlock = some k → w'.heap[k]? = w.heap[k]? := fun k hk => hb.block k (h.lt k hk).2
  refine ⟨h.1, ?_⟩
  rcases h.2 with h | ⟨g, cap, cur, rfl, r1, r2, r3⟩
  · exact Or.inl h
  · exact Or.inr ⟨g, cap, cur, rfl, r1, by rw [hk g rfl]; exact r2, r3⟩
theorem newsStr (w : World) (x : Value) (t : TypeId) : ∀ j u, [x][j]? = some u → (w.alloc (.cells #[x] t)).cell? ((⟨w.heap.size, 0, none⟩ : Addr).add j) = some u := by
  intro j u hj
  match j, hj with
  | 0, hj =>
    simp at hj
    subst hj
    simp [Addr.add]
end Go.Proofs.YtcohfbdhdngplaaDoor
/-
  Proved: impl.CoreArity and spec.CoreArity give the number of Args of a kind of core expressions; the memory that was there stays as it was.
-/
namespace Go.Proofs.YtcohfbdhdngplaaDoor
open Go.RowKit

set_option maxRecDepth 100000 in
set_option maxHeartbeats 2000000 in
theorem implCoArity (n : Int) (w : World) (htab : CoreTab w) :
    Calls Tryd.prog 134 #[.int .i64 n] w fun e w' => e = .returned (.int .i64 (coArity n)) ∧ Below w.heap.size w w' := by
  by_cases q : 1 ≤ n ∧ n ≤ 15
  · rcases (by omega : n = 1 ∨ n = 2 ∨ n = 3 ∨ n = 4 ∨ n = 5 ∨ n = 6 ∨ n = 7 ∨ n = 8 ∨ n = 9 ∨ n = 10 ∨ n = 11 ∨ n = 12 ∨ n = 13 ∨ n = 14 ∨ n = 15) with rfl | rfl | rfl | rfl | rfl | rfl | rfl | rfl | rfl | rfl | rfl | rfl | rfl | rfl | rfl
    · have c := htab.2 1 (by decide)
      go_enter Tryd.func134, Tryd.ntmps134
      go_wp2_with fail
      go_ret
      exact ⟨rfl, Below.refl _ _⟩
    · have c := htab.2 2 (by decide)
      go_enter Tryd.func134, Tryd.ntmps134
      go_wp2_with fail
      go_ret
      exact ⟨rfl, Below.refl _ _⟩
    · have c := htab.2 3 (by decide)
      go_enter Tryd.func134, Tryd.ntmps134
      go_wp2_with fail
      go_ret
      exact ⟨rfl, Below.refl _ _⟩
    · have c := htab.2 4 (by decide)
      go_enter Tryd.func134, Tryd.ntmps134
      go_wp2_with fail
      go_ret
      exact ⟨rfl, Below.refl _ _⟩
    · have c := htab.2 5 (by decide)
      go_enter Tryd.func134, Tryd.ntmps134
      go_wp2_with fail
      go_ret
      exact ⟨rfl, Below.refl _ _⟩
    · have c := htab.2 6 (by decide)
      go_enter Tryd.func134, Tryd.ntmps134
      go_wp2_with fail
      go_ret
      exact ⟨rfl, Below.refl _ _⟩
    · have c := htab.2 7 (by decide)
      go_enter Tryd.func134, Tryd.ntmps134
      go_wp2_with fail
      go_ret
      exact ⟨rfl, Below.refl _ _⟩
    · have c := htab.2 8 (by decide)
      go_enter Tryd.func134, Tryd.ntmps134
      go_wp2_with fail
      go_ret
      exact ⟨rfl, Below.refl _ _⟩
    · have c := htab.2 9 (by decide)
      go_enter Tryd.func134, Tryd.ntmps134
      go_wp2_with fail
      go_ret
      exact ⟨rfl, Below.refl _ _⟩
    · have c := htab.2 10 (by decide)
      go_enter Tryd.func134, Tryd.ntmps134
      go_wp2_with fail
      go_ret
      exact ⟨rfl, Below.refl _ _⟩
    · have c := htab.2 11 (by decide)
      go_enter Tryd.func134, Tryd.ntmps134
      go_wp2_with fail
      go_ret
      exact ⟨rfl, Below.refl _ _⟩
    · have c := htab.2 12 (by decide)
      go_enter Tryd.func134, Tryd.ntmps134
      go_wp2_with fail
      go_ret
      exact ⟨rfl, Below.refl _ _⟩
    · have c := htab.2 13 (by decide)
      go_enter Tryd.func134, Tryd.ntmps134
      go_wp2_with fail
      go_ret
      exact ⟨rfl, Below.refl _ _⟩
    · have c := htab.2 14 (by decide)
      go_enter Tryd.func134, Tryd.ntmps134
      go_wp2_with fail
      go_ret
      exact ⟨rfl, Below.refl _ _⟩
    · have c := htab.2 15 (by decide)
      go_enter Tryd.func134, Tryd.ntmps134
      go_wp2_with fail
      go_ret
      exact ⟨rfl, Below.refl _ _⟩
  · by_cases q1 : n < 1
    · go_enter Tryd.func134, Tryd.ntmps134
      go_wp2_with fail
      go_ret
      exact ⟨by rw [coArity_out q]; rfl, Below.refl _ _⟩
    · have q2 : 15 < n := by omega
      go_enter Tryd.func134, Tryd.ntmps134
      go_wp2_with fail
      go_ret
      exact ⟨by rw [coArity_out q]; rfl, Below.refl _ _⟩
set_option maxRecDepth 100000 in
set_option maxHeartbeats 2000000 in
theorem specCoArity (n : Int) (w : World) :
    Calls Tryd.prog 117 #[.int .i64 n] w fun e w' => e = .returned (.int .i64 (coArity n)) ∧ Below w.heap.size w w' := by
  by_cases q : 1 ≤ n ∧ n ≤ 15
  · rcases (by omega : n = 1 ∨ n = 2 ∨ n = 3 ∨ n = 4 ∨ n = 5 ∨ n = 6 ∨ n = 7 ∨ n = 8 ∨ n = 9 ∨ n = 10 ∨ n = 11 ∨ n = 12 ∨ n = 13 ∨ n = 14 ∨ n = 15) with rfl | rfl | rfl | rfl | rfl | rfl | rfl | rfl | rfl | rfl | rfl | rfl | rfl | rfl | rfl
    · go_enter Tryd.func117, Tryd.ntmps117
      go_wp2_with fail
      refine (specIn _ _ _ _).mono ?_
      rintro e w1 ⟨rfl, rfl⟩
      go_wp2_with fail
      go_ret
      exact ⟨rfl, (Below.refl _ _).alloc (Nat.le_refl _) _⟩
    · go_enter Tryd.func117, Tryd.ntmps117
      go_wp2_with fail
      refine (specIn _ _ _ _).mono ?_
      rintro e w1 ⟨rfl, rfl⟩
      go_wp2_with fail
      go_ret
      exact ⟨rfl, (Below.refl _ _).alloc (Nat.le_refl _) _⟩
    · go_enter Tryd.func117, Tryd.ntmps117
      go_wp2_with fail
      refine (specIn _ _ _ _).mono ?_
      rintro e w1 ⟨rfl, rfl⟩
      go_wp2_with fail
      go_ret
      exact ⟨rfl, (Below.refl _ _).alloc (Nat.le_refl _) _⟩
    · go_enter Tryd.func117, Tryd.ntmps117
      go_wp2_with fail
      refine (specIn _ _ _ _).mono ?_
      rintro e w1 ⟨rfl, rfl⟩
      go_wp2_with fail
      go_ret
      exact ⟨rfl, (Below.refl _ _).alloc (Nat.le_refl _) _⟩
    · go_enter Tryd.func117, Tryd.ntmps117
      go_wp2_with fail
      refine (specIn _ _ _ _).mono ?_
      rintro e w1 ⟨rfl, rfl⟩
      go_wp2_with fail
      go_ret
      exact ⟨rfl, (Below.refl _ _).alloc (Nat.le_refl _) _⟩
    · go_enter Tryd.func117, Tryd.ntmps117
      go_wp2_with fail
      refine (specIn _ _ _ _).mono ?_
      rintro e w1 ⟨rfl, rfl⟩
      go_wp2_with fail
      go_ret
      exact ⟨rfl, (Below.refl _ _).alloc (Nat.le_refl _) _⟩
    · go_enter Tryd.func117, Tryd.ntmps117
      go_wp2_with fail
      refine (specIn _ _ _ _).mono ?_
      rintro e w1 ⟨rfl, rfl⟩
      go_wp2_with fail
      go_ret
      exact ⟨rfl, (Below.refl _ _).alloc (Nat.le_refl _) _⟩
    · go_enter Tryd.func117, Tryd.ntmps117
      go_wp2_with fail
      refine (specIn _ _ _ _).mono ?_
      rintro e w1 ⟨rfl, rfl⟩
      go_wp2_with fail
      go_ret
      exact ⟨rfl, (Below.refl _ _).alloc (Nat.le_refl _) _⟩
    · go_enter Tryd.func117, Tryd.ntmps117
      go_wp2_with fail
      refine (specIn _ _ _ _).mono ?_
      rintro e w1 ⟨rfl, rfl⟩
      go_wp2_with fail
      go_ret
      exact ⟨rfl, (Below.refl _ _).alloc (Nat.le_refl _) _⟩
    · go_enter Tryd.func117, Tryd.ntmps117
      go_wp2_with fail
      refine (specIn _ _ _ _).mono ?_
      rintro e w1 ⟨rfl, rfl⟩
      go_wp2_with fail
      go_ret
      exact ⟨rfl, (Below.refl _ _).alloc (Nat.le_refl _) _⟩
    · go_enter Tryd.func117, Tryd.ntmps117
      go_wp2_with fail
      refine (specIn _ _ _ _).mono ?_
      rintro e w1 ⟨rfl, rfl⟩
      go_wp2_with fail
      go_ret
      exact ⟨rfl, (Below.refl _ _).alloc (Nat.le_refl _) _⟩
    · go_enter Tryd.func117, Tryd.ntmps117
      go_wp2_with fail
      refine (specIn _ _ _ _).mono ?_
      rintro e w1 ⟨rfl, rfl⟩
      go_wp2_with fail
      go_ret
      exact ⟨rfl, (Below.refl _ _).alloc (Nat.le_refl _) _⟩
    · go_enter Tryd.func117, Tryd.ntmps117
      go_wp2_with fail
      refine (specIn _ _ _ _).mono ?_
      rintro e w1 ⟨rfl, rfl⟩
      go_wp2_with fail
      go_ret
      exact ⟨rfl, (Below.refl _ _).alloc (Nat.le_refl _) _⟩
    · go_enter Tryd.func117, Tryd.ntmps117
      go_wp2_with fail
      refine (specIn _ _ _ _).mono ?_
      rintro e w1 ⟨rfl, rfl⟩
      go_wp2_with fail
      go_ret
      exact ⟨rfl, (Below.refl _ _).alloc (Nat.le_refl _) _⟩
    · go_enter Tryd.func117, Tryd.ntmps117
      go_wp2_with fail
      refine (specIn _ _ _ _).mono ?_
      rintro e w1 ⟨rfl, rfl⟩
      go_wp2_with fail
      go_ret
      exact ⟨rfl, (Below.refl _ _).alloc (Nat.le_refl _) _⟩
  · have hb : (decide (1 ≤ n) && decide (n ≤ 15)) = false := by
      by_cases q1 : 1 ≤ n
      · have q2 : ¬ (n ≤ 15) := fun h => q ⟨q1, h⟩
        simp [q1, q2]
      · simp [q1]
    go_enter Tryd.func117, Tryd.ntmps117
    go_wp2_with fail
    refine (specIn _ _ _ _).mono ?_
    rintro e w1 ⟨rfl, rfl⟩
    go_wp2_with fail
    go_ret
    exact ⟨by rw [coArity_out q]; rfl, Below.refl _ _⟩
end Go.Proofs.YtcohfbdhdngplaaDoor
/-
  Proved: spec.l18Env and spec.l18Form say whether an environment and a whole core expression have the right form; the memory that was there stays as it was.
-/
namespace Go.Proofs.YtcohfbdhdngplaaDoor
open Go.RowKit

theorem row_start (w : World) (o : Obj) : ((w.alloc o).alloc (.cells #[] 9)).ownsRow (w.heap.size + 1) 9 1 (.slice (some ⟨w.heap.size + 1, 0, none⟩) 0 0) 0 [] := by
  have h := World.ownsRow_made (size := 1) (e := 9) (w.alloc o) #[] 0 (base := w.heap.size + 1) (by simp) (Nat.zero_le _) rfl
  simpa using h
def envB (k : Int) (ns : List ByteArray) (vs : List Co) : Bool := ownNames [] ns && (Co.forms vs && envK k ns)
theorem envB_name {k : Int} {ns : List ByteArray} {vs : List Co} {j : Nat} (h : j < ns.length) (hb : (nameB ns[j] && !seenB (ns.take j) ns[j].data.toList) = false) : envB k ns vs = false := by
  have e := ownNames_take ns [] j h
  rw [List.nil_append, hb, Bool.and_false] at e
  unfold envB
  rw [ownNames_false ns [] (j + 1) e]; rfl
theorem envB_form {k : Int} {ns : List ByteArray} {vs : List Co} {j : Nat} (h : j < vs.length) (hb : vs[j].form = false) : envB k ns vs = false := by
  have e := Co.forms_take vs j h
  rw [hb, Bool.and_false] at e
  unfold envB
  rw [Co.forms_false vs (j + 1) e, Bool.false_and, Bool.and_false]
theorem coform_of {kd : Int} {nm : ByteArray} {n : Int} {fr ty : Ty} {es : List Co} {ns : List ByteArray} {vs : List Co} {b e c : Bool} {r : Int} (h1 : Co.forms es = true) (h3 : coFieldsB kd nm n fr ty = b) (h2 : envB kd ns vs = e) (h4 : coArity kd = r) (h5 : c = (b && (e && decide ((es.length : Int) = r)))) : (Co.node kd nm n fr ty es ns vs).form = c := by
  subst h3 h4 h2 h5
  simp only [Co.form, h1, envB, Bool.true_and]
set_option maxRecDepth 100000 in
set_option maxHeartbeats 4000000 in
theorem specCoEnv (d : Nat) (IH : Hid (∀ (v : Value) (t : Co) (w : World), CoAt w d v t → t.bulk ≤ 1048576 → Calls Tryd.prog 90 #[v] w fun e w' => e = .returned (.bool t.form) ∧ Below w.heap.size w w')) (v : Value) (kd : Int) (nm0 : ByteArray) (n0 : Int) (fr ty : Ty) (es : List Co) (ns : List ByteArray) (vs : List Co) (w : World) (h : CoAt w (d + 1) v (.node kd nm0 n0 fr ty es ns vs)) (hsz : (Co.node kd nm0 n0 fr ty es ns vs).bulk ≤ 1048576) :
    Calls Tryd.prog 116 #[v] w fun e w' => e = .returned (.bool (envB kd ns vs)) ∧ Below w.heap.size w w' := by
  obtain ⟨i0, hi, hz0, hz1, hz2⟩ := info_parts info_str
  have HI := Lib.hid hi; clear hi
  have HZ0 := Lib.hid hz0; clear hz0
  have HZ1 := Lib.hid hz1; clear hz1
  have HZ2 := Lib.hid hz2; clear hz2
  have HV := co_parts h
  obtain ⟨c3, c4, c5, c6, sl, el, rfl, hk0, hk1, hn0, hn1, hnm, hfr, hty, ⟨a, cap, rfl, hcap, hcap2, hat⟩, hln, a2, cap2, rfl, hcpe, hcpe2, hae⟩ := h
  obtain ⟨k, nm, n, fk, fa, fn, fc, tk, ta, tn, tc, sa, sn, sc, ea, en, ec, hv⟩ := HV
  injection hv with hv
  injection hv with hv
  simp at hv
  obtain ⟨rfl, rfl, rfl, rfl, rfl, rfl, rfl, HVR⟩ := hv
  clear HVR
  have HAT := Lib.hid hat; clear hat
  have HAE := Lib.hid hae; clear hae
  have HLN := Lib.hid hln; clear hln
  have hbk : (Co.node kd nm0 n0 fr ty es ns vs).bulk = nm0.size + (fr.size - 1) + (ty.size - 1) + Co.bulks es + (txs ns + Co.bulks vs) := rfl
  have HSZ : Hid (Co.bulks es + Co.bulks vs ≤ 1048576) := by show _ ≤ _; omega
  have HNM : Hid (nm0.size ≤ 1048576) := by show _ ≤ _; omega
  have HTXS : Hid (txs ns ≤ 1048576) := by show _ ≤ _; omega
  have HFZ : Hid (fr.size ≤ 1048577) := by show _ ≤ _; omega
  have HTZ : Hid (ty.size ≤ 1048577) := by show _ ≤ _; omega
  have hlen : es.length ≤ 1048576 := by have := Co.length_le es; omega
  have hlen2 : vs.length ≤ 1048576 := by have := Co.length_le vs; omega
  have HFR := Lib.hid hfr
  have HTY := Lib.hid hty
  clear hsz hbk hty hfr
  clear HFR HTY HFZ HTZ HNM HTXS HAT
  go_enter Tryd.func116, Tryd.ntmps116
  go_wp2_with fail
  go_loopw [3, 4] (fun o i wr => ∃ (k : Nat) (L : List ByteArray), k ≤ vs.length ∧ i = .int .i64 k ∧ L = ns.take k ∧ ownNames [] (ns.take k) = true ∧ Co.forms (vs.take k) = true ∧ wr.ownsRow (w.heap.size + 1) 9 1 o L.length (L.map Value.string) ∧ Below (w.heap.size + 1) (w.alloc (.cells #[.int .i64 kd, .string nm0, .int .i64 n0, .int .i64 fk, .slice fa fn fc, .int .i64 tk, .slice ta tn tc, .slice a es.length cap, .slice a2 vs.length cap2] 67)) wr) (fun _ i _ => vs.length - (intOf i).toNat)
  case atStart => exact ⟨0, [], by omega, rfl, by simp, by simp [ownNames], by simp [Co.forms], row_start w _, (Below.refl _ _).alloc (by simp) _⟩
  case round =>
    obtain ⟨k, L, hk, rfl, hL, hon, hfo, hown, hb⟩ := hrel
    have hll : L.length ≤ 1048576 := by rw [hL, List.length_take]; have := HLN.out; omega
    have HON := Lib.hid hon; clear hon
    have HFO := Lib.hid hfo; clear hfo
    have HL := Lib.hid hL; clear hL
    have HO := Lib.hid hown; clear hown
    have HBX := Lib.hid hb; clear hb
    have hzr : w.heap.size + 1 ≤ wr.heap.size := by have := HBX.out.size; simpa using this
    by_cases hlt : k < vs.length
    · have HB := Lib.hid (box_below HBX.out)
      have b8 := box_cell HBX.out 8
      have hlt2 : k < ns.length := by have := HLN.out; omega
      obtain ⟨b, off, x0, x1, x2, x3, x4, x5, x6, x7, x8, rfl, hbl, hnz, hcn, hc0, hc1, hc2, hc3, hc4, hc5, hc6, hc7, hc8, ht⟩ := HAE.out k hlt hlt2
      have hg := Co.bulk_get vs k hlt
      have HS2 := HSZ.out
      have HTK := Lib.hid (take_add ns k hlt2)
      have HOT := Lib.hid (ownNames_take ns [] k hlt2)
      have HFT := Lib.hid (Co.forms_take vs k hlt)
      have HNAME : Hid ((nameB ns[k] && !seenB L ns[k].data.toList) = false → envB kd ns vs = false) := by intro hq; rw [HL.out] at hq; exact envB_name hlt2 hq
      have HFORM : Hid (vs[k].form = false → envB kd ns vs = false) := fun hq => envB_form hlt hq
      obtain ⟨x, hx⟩ : ∃ x, x = ns[k] := ⟨_, rfl⟩
      rw [← hx] at hcn hnz
      rw [← hx] at HTK HOT HNAME
      clear hx
      have HC : Hid (wr.cell? ⟨b, off + k * 10, none⟩ = some (.string x) ∧ wr.cell? ⟨b, off + k * 10 + 1, none⟩ = some x0 ∧ wr.cell? ⟨b, off + k * 10 + 2, none⟩ = some x1 ∧ wr.cell? ⟨b, off + k * 10 + 3, none⟩ = some x2 ∧ wr.cell? ⟨b, off + k * 10 + 4, none⟩ = some x3 ∧ wr.cell? ⟨b, off + k * 10 + 5, none⟩ = some x4 ∧ wr.cell? ⟨b, off + k * 10 + 6, none⟩ = some x5 ∧ wr.cell? ⟨b, off + k * 10 + 7, none⟩ = some x6 ∧ wr.cell? ⟨b, off + k * 10 + 8, none⟩ = some x7 ∧ wr.cell? ⟨b, off + k * 10 + 9, none⟩ = some x8) := by
        have hcl : ∀ o, wr.cell? ⟨b, o, none⟩ = w.cell? ⟨b, o, none⟩ := fun o => HB.out.cell (p := ⟨b, o, none⟩) hbl
        exact ⟨(hcl _).trans hcn, (hcl _).trans hc0, (hcl _).trans hc1, (hcl _).trans hc2, (hcl _).trans hc3, (hcl _).trans hc4, (hcl _).trans hc5, (hcl _).trans hc6, (hcl _).trans hc7, (hcl _).trans hc8⟩
      have HT := Lib.hid (ht.below HB.out)
      have hbr : b < wr.heap.size := Nat.lt_of_lt_of_le hbl HB.out.size
      clear ht hcn hc0 hc1 hc2 hc3 hc4 hc5 hc6 hc7 hc8
      have en := HC.out.1
      go_wp2_with fail
      refine (specName x _ hnz).mono ?_
      rintro e w1 ⟨rfl, hw1⟩
      subst hw1
      cases hnb : nameB x with
      | false =>
        have HNO := Lib.hid (HNAME.out (by rw [hnb]; rfl))
        go_wp2_with fail
        go_ret
        exact ⟨by rw [HNO.out]; rfl, HB.out⟩
      | true =>
        have HNB := Lib.hid hnb; clear hnb
        go_wp2_with fail
        refine (specIndex _ L x hll _ (Strs.of_own HO.out)).mono ?_
        rintro e w2 ⟨rfl, hb2⟩
        have HBX2 := Lib.hid (box_next HBX.out hb2)
        have HB2 := Lib.hid (box_below HBX2.out)
        have HT2 := Lib.hid (HT.out.below hb2)
        have HO2 := Lib.hid (rowKeep HO.out hb2)
        clear b8 en
        have b8 := box_cell HBX2.out 8
        obtain ⟨en, q0, q1, q2, q3, q4, q5, q6, q7, q8⟩ := HC.out
        have hk2 : ∀ o, w2.cell? ⟨b, o, none⟩ = w1.cell? ⟨b, o, none⟩ := fun o => hb2.cell (p := ⟨b, o, none⟩) hbr
        replace en := (hk2 _).trans en
        replace q0 := (hk2 _).trans q0
        replace q1 := (hk2 _).trans q1
        replace q2 := (hk2 _).trans q2
        replace q3 := (hk2 _).trans q3
        replace q4 := (hk2 _).trans q4
        replace q5 := (hk2 _).trans q5
        replace q6 := (hk2 _).trans q6
        replace q7 := (hk2 _).trans q7
        replace q8 := (hk2 _).trans q8
        clear hk2 hb2 HC HT
        have hsn := idx_seen L x
        cases hq : seenB L x.data.toList with
        | true =>
          have hge : ¬ (idx L x 0 < 0) := by have := hsn.2 hq; omega
          have HNO := Lib.hid (HNAME.out (by rw [HNB.out, hq]; rfl))
          clear hsn hq
          go_wp2_with fail
          go_ret
          exact ⟨by rw [HNO.out]; rfl, HB2.out⟩
        | false =>
          have hlt0 : idx L x 0 < 0 := by
            by_cases h : idx L x 0 < 0
            · exact h
            · have := hsn.1 (by omega); rw [hq] at this; cases this
          have HQ := Lib.hid hq
          clear hsn hq
          go_wp2_with fail
          refine (IH.out _ _ _ HT2.out (by omega)).mono ?_
          rintro e w3 ⟨rfl, hb3⟩
          have HBX3 := Lib.hid (box_next HBX2.out hb3)
          have HB3 := Lib.hid (box_below HBX3.out)
          have HO3 := Lib.hid (rowKeep HO2.out hb3)
          have en3 : w3.cell? ⟨b, off + k * 10, none⟩ = some (.string x) := (hb3.cell (p := ⟨b, off + k * 10, none⟩) (Nat.lt_of_lt_of_le hbl HB2.out.size)).trans en
          clear hb3 en q0 q1 q2 q3 q4 q5 q6 q7 q8 b8 HT2 HO2
          have b8 := box_cell HBX3.out 8
          cases hf : vs[k].form with
          | false =>
            have HNO := Lib.hid (HFORM.out hf)
            clear hf
            go_wp2_with fail
            go_ret
            exact ⟨by rw [HNO.out]; rfl, HB3.out⟩
          | true =>
            have HF := Lib.hid hf; clear hf
            have hz3 : w.heap.size + 1 ≤ w3.heap.size := by have := HBX3.out.size; simpa using this
            go_wp2_with (at_builtin; go_must (refine wpList_append_own_at _ rfl _ _ 122 rfl (w.heap.size + 1) 9 i0 (.string ⟨#[]⟩) 1 16 Tryd.underlying122 HI.out HZ0.out HZ1.out HZ2.out rfl (by decide) _ _ _ rfl (HO3.out.alloc _) ⟨w3.heap.size, 0, none⟩ 1 1 [.string x] rfl rfl (newsStr _ _ _) (by simp [Value.oneCell']) (by unfold maxLen; omega) (by omega) (by simp; omega) ?_); intro v2 w4 hown2 hg2 _ hblk2; refine Hid.out ?_)
            refine Lib.hid ?_
            have hb4 := (HBX3.out.alloc hz3 _).grown hg2 (by simp; omega) (fun k hk => (HO3.out.lt k hk).1)
            have hown3 : w4.ownsRow (w.heap.size + 1) 9 1 v2 (L ++ [x]).length ((L ++ [x]).map Value.string) := by simpa using hown2
            have HO4 := Lib.hid hown3; clear hown3 hown2 hg2 hblk2
            have HB4 := Lib.hid hb4; clear hb4 en3 b8
            go_wp2_with fail
            exact ⟨⟨k + 1, L ++ [x], by omega, by go_num, by rw [HTK.out, HL.out], by have h := HQ.out; rw [HL.out] at h; rw [HOT.out, HON.out, HNB.out, List.nil_append, h]; rfl, by rw [HFT.out, HFO.out, HF.out]; rfl, HO4.out, HB4.out⟩, by simp [intOf]; omega⟩
    · obtain rfl : k = vs.length := by omega
      obtain ⟨a9, cap9, rfl, _, _⟩ := Strs.of_own HO.out
      have HEN : Hid (envB kd ns vs = envK kd ns) := by
        have h1 := HON.out
        have h2 := HFO.out
        rw [← HLN.out, List.take_length] at h1
        rw [List.take_length] at h2
        show _ = _; unfold envB; rw [h1, h2]; rfl
      have hl9 : L.length = ns.length := by rw [HL.out, List.length_take, ← HLN.out]; omega
      have b0 := box_cell HBX.out 0
      have b8 := box_cell HBX.out 8
      have HB := Lib.hid (box_below HBX.out)
      clear HO HL HAE HON HFO
      rw [hl9]
      clear hl9
      by_cases y0 : ns.length = 0
      · have y0b : ((ns.length : Int) == 0) = true := by simp [y0]
        go_wp2_with fail
        go_ret
        exact ⟨by rw [HEN.out]; simp [envK, y0], HB.out⟩
      have y0b : ((ns.length : Int) == 0) = false := by simp [y0]
      by_cases y1 : kd = 1
      · subst y1
        go_wp2_with fail
        go_ret
        exact ⟨by rw [HEN.out]; simp [envK, boundB], HB.out⟩
      by_cases y2 : kd = 2
      · subst y2
        go_wp2_with fail
        go_ret
        exact ⟨by rw [HEN.out]; simp [envK, boundB], HB.out⟩
      have y1b : (kd == 1) = false := by simp [y1]
      have y2b : (kd == 2) = false := by simp [y2]
      go_wp2_with fail
      go_ret
      exact ⟨by rw [HEN.out]; simp [envK, boundB, y0, y1, y2], HB.out⟩
set_option maxRecDepth 100000 in
set_option maxHeartbeats 4000000 in
theorem specCoForm : ∀ (d : Nat) (v : Value) (t : Co) (w : World), CoAt w d v t → t.bulk ≤ 1048576 →
    Calls Tryd.prog 90 #[v] w fun e w' => e = .returned (.bool t.form) ∧ Below w.heap.size w w'
  | 0, _, _, _, h, _ => h.elim
  | d + 1, v, .node kd nm0 n0 fr ty es ns vs, w, h, hsz => by
    have IH : Hid (∀ (v : Value) (t : Co) (w : World), CoAt w d v t → t.bulk ≤ 1048576 → Calls Tryd.prog 90 #[v] w fun e w' => e = .returned (.bool t.form) ∧ Below w.heap.size w w') := specCoForm d
    have HWH := Lib.hid h
    have HBK := Lib.hid hsz
    have HV := co_parts h
    obtain ⟨c3, c4, c5, c6, sl, el, rfl, hk0, hk1, hn0, hn1, hnm, hfr, hty, ⟨a, cap, rfl, hcap, hcap2, hat⟩, hln, a2, cap2, rfl, hcpe, hcpe2, hae⟩ := h
    obtain ⟨k, nm, n, fk, fa, fn, fc, tk, ta, tn, tc, sa, sn, sc, ea, en, ec, hv⟩ := HV
    injection hv with hv
    injection hv with hv
    simp at hv
    obtain ⟨rfl, rfl, rfl, rfl, rfl, rfl, rfl, HVR⟩ := hv
    clear HVR
    have HAT := Lib.hid hat; clear hat
    have HAE := Lib.hid hae; clear hae
    have HLN := Lib.hid hln; clear hln
    have hbk : (Co.node kd nm0 n0 fr ty es ns vs).bulk = nm0.size + (fr.size - 1) + (ty.size - 1) + Co.bulks es + (txs ns + Co.bulks vs) := rfl
    have HSZ : Hid (Co.bulks es + Co.bulks vs ≤ 1048576) := by show _ ≤ _; omega
    have HNM : Hid (nm0.size ≤ 1048576) := by show _ ≤ _; omega
    have HTXS : Hid (txs ns ≤ 1048576) := by show _ ≤ _; omega
    have HFZ : Hid (fr.size ≤ 1048577) := by show _ ≤ _; omega
    have HTZ : Hid (ty.size ≤ 1048577) := by show _ ≤ _; omega
    have hlen : es.length ≤ 1048576 := by have := Co.length_le es; omega
    have hlen2 : vs.length ≤ 1048576 := by have := Co.length_le vs; omega
    have HFR := Lib.hid hfr
    have HTY := Lib.hid hty
    clear hsz hbk hty hfr
    clear HFR HTY HFZ HTZ HNM HTXS HAE HLN
    go_enter Tryd.func90, Tryd.ntmps90
    go_wp2_with fail
    go_loopw [3] (fun i wr => ∃ k : Nat, k ≤ es.length ∧ i = .int .i64 k ∧ Co.forms (es.take k) = true ∧ Below (w.heap.size + 1) (w.alloc (.cells #[.int .i64 kd, .string nm0, .int .i64 n0, .int .i64 fk, .slice fa fn fc, .int .i64 tk, .slice ta tn tc, .slice a es.length cap, .slice a2 vs.length cap2] 67)) wr) (fun i _ => es.length - (intOf i).toNat)
    case atStart => exact ⟨0, by omega, rfl, by simp [Co.forms], Below.refl _ _⟩
    case round =>
      obtain ⟨k, hk, rfl, hf, hb⟩ := hrel
      have HF := Lib.hid hf; clear hf
      have HB := Lib.hid (box_below hb)
      have HBX := Lib.hid hb; clear hb
      by_cases hlt : k < es.length
      · have b7 := box_cell HBX.out 7
        obtain ⟨b, off, x0, x1, x2, x3, x4, x5, x6, x7, x8, rfl, hbl, hc0, hc1, hc2, hc3, hc4, hc5, hc6, hc7, hc8, ht⟩ := HAT.out k hlt
        have hg := Co.bulk_get es k hlt
        have HS2 := HSZ.out
        have e0 : wr.cell? ⟨b, off + k * 9, none⟩ = some x0 := by rw [HB.out.cell (p := ⟨b, off + k * 9, none⟩) hbl]; exact hc0
        have e1 : wr.cell? ⟨b, off + k * 9 + 1, none⟩ = some x1 := by rw [HB.out.cell (p := ⟨b, off + k * 9 + 1, none⟩) hbl]; exact hc1
        have e2 : wr.cell? ⟨b, off + k * 9 + 2, none⟩ = some x2 := by rw [HB.out.cell (p := ⟨b, off + k * 9 + 2, none⟩) hbl]; exact hc2
        have e3 : wr.cell? ⟨b, off + k * 9 + 3, none⟩ = some x3 := by rw [HB.out.cell (p := ⟨b, off + k * 9 + 3, none⟩) hbl]; exact hc3
        have e4 : wr.cell? ⟨b, off + k * 9 + 4, none⟩ = some x4 := by rw [HB.out.cell (p := ⟨b, off + k * 9 + 4, none⟩) hbl]; exact hc4
        have e5 : wr.cell? ⟨b, off + k * 9 + 5, none⟩ = some x5 := by rw [HB.out.cell (p := ⟨b, off + k * 9 + 5, none⟩) hbl]; exact hc5
        have e6 : wr.cell? ⟨b, off + k * 9 + 6, none⟩ = some x6 := by rw [HB.out.cell (p := ⟨b, off + k * 9 + 6, none⟩) hbl]; exact hc6
        have e7 : wr.cell? ⟨b, off + k * 9 + 7, none⟩ = some x7 := by rw [HB.out.cell (p := ⟨b, off + k * 9 + 7, none⟩) hbl]; exact hc7
        have e8 : wr.cell? ⟨b, off + k * 9 + 8, none⟩ = some x8 := by rw [HB.out.cell (p := ⟨b, off + k * 9 + 8, none⟩) hbl]; exact hc8
        have HT := Lib.hid (ht.below HB.out)
        have HFT := Lib.hid (Co.forms_take es k hlt)
        have HNO : Hid (es[k].form = false → (Co.node kd nm0 n0 fr ty es ns vs).form = false) := fun hq => by
          have e := Co.forms_take es k hlt
          rw [hq, Bool.and_false] at e
          simp only [Co.form, Co.forms_false es (k + 1) e, Bool.false_and]
        clear ht hc0 hc1 hc2 hc3 hc4 hc5 hc6 hc7 hc8
        go_wp2_with fail
        refine (IH.out _ _ _ HT.out (by omega)).mono ?_
        rintro e w' ⟨rfl, hb1⟩
        have HN := Lib.hid (box_next HBX.out hb1); clear hb1
        cases hf : es[k].form with
        | false =>
          have HX := Lib.hid (HNO.out hf)
          clear hf
          go_wp2_with fail
          go_ret
          exact ⟨by rw [HX.out]; rfl, box_below HN.out⟩
        | true =>
          have HF1 := Lib.hid hf; clear hf
          go_wp2_with fail
          exact ⟨⟨k + 1, by omega, by go_num, by rw [HFT.out, HF.out, HF1.out]; rfl, HN.out⟩, by simp [intOf]; omega⟩
      · obtain rfl : k = es.length := by omega
        have HFA := Lib.hid (show Co.forms es = true by have := HF.out; rw [List.take_length] at this; exact this)
        have XA := Lib.hid (co_box_of HBX.out)
        have HW2 := Lib.hid (HWH.out.below HB.out)
        have b7 := box_cell HBX.out 7
        go_wp2_with fail
        have C1 : ∀ q : Grown wr.heap.size wr, Calls Tryd.prog 115 #[.agg #[.int .i64 kd, .string nm0, .int .i64 n0, .int .i64 fk, .slice fa fn fc, .int .i64 tk, .slice ta tn tc, .slice a es.length cap, .slice a2 vs.length cap2]] q.val fun e w' => e = .returned (.bool (coFieldsB kd nm0 n0 fr ty)) ∧ Below q.val.heap.size q.val w' := fun q => specCoFields d _ kd nm0 n0 fr ty es ns vs _ (HW2.out.below q.old) HBK.out
        have C2 : ∀ q : Grown wr.heap.size wr, Calls Tryd.prog 116 #[.agg #[.int .i64 kd, .string nm0, .int .i64 n0, .int .i64 fk, .slice fa fn fc, .int .i64 tk, .slice ta tn tc, .slice a es.length cap, .slice a2 vs.length cap2]] q.val fun e w' => e = .returned (.bool (envB kd ns vs)) ∧ Below q.val.heap.size q.val w' := fun q => specCoEnv d IH _ kd nm0 n0 fr ty es ns vs _ (HW2.out.below q.old) HBK.out
        have C3 : ∀ q : Grown wr.heap.size wr, Calls Tryd.prog 117 #[.int .i64 kd] q.val fun e w' => e = .returned (.int .i64 (coArity kd)) ∧ Below q.val.heap.size q.val w' := fun q => specCoArity _ _
        obtain ⟨fb, hfb⟩ : ∃ b, coFieldsB kd nm0 n0 fr ty = b := ⟨_, rfl⟩
        obtain ⟨eb, heb⟩ : ∃ b, envB kd ns vs = b := ⟨_, rfl⟩
        obtain ⟨r, hr⟩ : ∃ r, coArity kd = r := ⟨_, rfl⟩
        rw [hfb] at C1
        rw [heb] at C2
        rw [hr] at C3
        have HFB := Lib.hid hfb
        have HEB := Lib.hid heb
        have HR := Lib.hid hr
        clear hfb heb hr b7
        have g0 : ∀ q : Grown wr.heap.size wr, q.val.cell? ⟨w.heap.size, 0, none⟩ = _ := fun q => (XA.out.grown q).2 0
        have g1 : ∀ q : Grown wr.heap.size wr, q.val.cell? ⟨w.heap.size, 1, none⟩ = _ := fun q => (XA.out.grown q).2 1
        have g2 : ∀ q : Grown wr.heap.size wr, q.val.cell? ⟨w.heap.size, 2, none⟩ = _ := fun q => (XA.out.grown q).2 2
        have g3 : ∀ q : Grown wr.heap.size wr, q.val.cell? ⟨w.heap.size, 3, none⟩ = _ := fun q => (XA.out.grown q).2 3
        have g4 : ∀ q : Grown wr.heap.size wr, q.val.cell? ⟨w.heap.size, 4, none⟩ = _ := fun q => (XA.out.grown q).2 4
        have g5 : ∀ q : Grown wr.heap.size wr, q.val.cell? ⟨w.heap.size, 5, none⟩ = _ := fun q => (XA.out.grown q).2 5
        have g6 : ∀ q : Grown wr.heap.size wr, q.val.cell? ⟨w.heap.size, 6, none⟩ = _ := fun q => (XA.out.grown q).2 6
        have g7 : ∀ q : Grown wr.heap.size wr, q.val.cell? ⟨w.heap.size, 7, none⟩ = _ := fun q => (XA.out.grown q).2 7
        have g8 : ∀ q : Grown wr.heap.size wr, q.val.cell? ⟨w.heap.size, 8, none⟩ = _ := fun q => (XA.out.grown q).2 8
        clear XA HW2 HAT IH HBX HWH HF HSZ
        cases fb
        case false =>
          refine wp_region_grown wr.heap.size (by kernel_rfl) (by kernel_rfl) ?_
          repeat (go_big_quiet_step ((first | (go_at_call 115; exact grown_of (Nat.le_refl _) (C1 _)) | (go_at_call 116; exact grown_of (Nat.le_refl _) (C2 _)) | (go_at_call 117; exact grown_of (Nat.le_refl _) (C3 _)))))
          refine wpQuiet_nil ?_
          rintro _ ⟨⟨wq, hq⟩, rfl⟩
          go_wp2_with fail
          go_ret
          exact ⟨by rw [coform_of HFA.out HFB.out HEB.out HR.out (c := false) (by simp)]; rfl, below_thru HB.out (Nat.le_refl _) hq⟩
        case true =>
          cases eb
          case false =>
            refine wp_region_grown wr.heap.size (by kernel_rfl) (by kernel_rfl) ?_
            repeat (go_big_quiet_step ((first | (go_at_call 115; exact grown_of (Nat.le_refl _) (C1 _)) | (go_at_call 116; exact grown_of (Nat.le_refl _) (C2 _)) | (go_at_call 117; exact grown_of (Nat.le_refl _) (C3 _)))))
            refine wpQuiet_nil ?_
            rintro _ ⟨⟨wq, hq⟩, rfl⟩
            go_wp2_with fail
            go_ret
            exact ⟨by rw [coform_of HFA.out HFB.out HEB.out HR.out (c := false) (by simp)]; rfl, below_thru HB.out (Nat.le_refl _) hq⟩
          case true =>
            by_cases qa : (es.length : Int) = r
            · have qb : ((es.length : Int) == r) = true := by simp [qa]
              refine wp_region_grown wr.heap.size (by kernel_rfl) (by kernel_rfl) ?_
              repeat (go_big_quiet_step ((first | (go_at_call 115; exact grown_of (Nat.le_refl _) (C1 _)) | (go_at_call 116; exact grown_of (Nat.le_refl _) (C2 _)) | (go_at_call 117; exact grown_of (Nat.le_refl _) (C3 _)))))
              refine wpQuiet_nil ?_
              rintro _ ⟨⟨wq, hq⟩, rfl⟩
              go_wp2_with fail
              go_ret
              exact ⟨by rw [coform_of HFA.out HFB.out HEB.out HR.out (c := true) (by simp [qa])]; rfl, below_thru HB.out (Nat.le_refl _) hq⟩
            · have qb : ((es.length : Int) == r) = false := by simp [qa]
              refine wp_region_grown wr.heap.size (by kernel_rfl) (by kernel_rfl) ?_
              repeat (go_big_quiet_step ((first | (go_at_call 115; exact grown_of (Nat.le_refl _) (C1 _)) | (go_at_call 116; exact grown_of (Nat.le_refl _) (C2 _)) | (go_at_call 117; exact grown_of (Nat.le_refl _) (C3 _)))))
              refine wpQuiet_nil ?_
              rintro _ ⟨⟨wq, hq⟩, rfl⟩
              go_wp2_with fail
              go_ret
              exact ⟨by rw [coform_of HFA.out HFB.out HEB.out HR.out (c := false) (by simp [qa])]; rfl, below_thru HB.out (Nat.le_refl _) hq⟩
end Go.Proofs.YtcohfbdhdngplaaDoor
/-
  Proved: spec.IsCore says whether a core expression is valid; the memory that was there stays as it was.
-/
namespace Go.Proofs.YtcohfbdhdngplaaDoor
open Go.RowKit

theorem co_valid {t : Co} {b : Bool} (h : b = decide (0 ≤ max ((600 : Int) - t.count) (-1))) : t.valid = (b && t.form) := by
  have e : decide (0 ≤ max ((600 : Int) - t.count) (-1)) = decide (t.count ≤ 600) := decide_eq_decide.2 (by omega)
  rw [h, e]; rfl
set_option maxRecDepth 100000 in
set_option maxHeartbeats 2000000 in
theorem specIsCore (d : Nat) (v : Value) (t : Co) (w : World) (h : CoAt w d v t) (hsz : t.bulk ≤ 1048576) :
    Calls Tryd.prog 59 #[v] w fun e w' => e = .returned (.bool t.valid) ∧ Below w.heap.size w w' := by
  have HT := Lib.hid h
  obtain ⟨yk, ynm, yn, yfk, yfa, yfn, yfc, ytk, yta, ytn, ytc, ya, ym, yc, za, zm, zc, rfl⟩ := co_parts h
  clear h
  have B0 : Hid (Below (w.heap.size + 1) (w.alloc (.cells #[.int .i64 yk, .string ynm, .int .i64 yn, .int .i64 yfk, .slice yfa yfn yfc, .int .i64 ytk, .slice yta ytn ytc, .slice ya ym yc, .slice za zm zc] 67)) (w.alloc (.cells #[.int .i64 yk, .string ynm, .int .i64 yn, .int .i64 yfk, .slice yfa yfn yfc, .int .i64 ytk, .slice yta ytn ytc, .slice ya ym yc, .slice za zm zc] 67))) := Below.refl _ _
  have HT0 := Lib.hid (HT.out.below (box_below B0.out))
  go_enter Tryd.func59, Tryd.ntmps59
  go_wp2_with fail
  refine (specCoLeft d _ t 600 _ (by omega) (by omega) HT0.out hsz).mono ?_
  rintro e w1 ⟨rfl, hb1⟩
  have B1 := Lib.hid (box_next B0.out hb1); clear hb1
  have hv := @co_valid t _ rfl
  obtain ⟨r, hr⟩ : ∃ r, r = max ((600 : Int) - t.count) (-1) := ⟨_, rfl⟩
  rw [← hr] at hv ⊢
  have HV := Lib.hid hv; clear hv hr
  have c0 := box_cell B1.out 0
  have c1 := box_cell B1.out 1
  have c2 := box_cell B1.out 2
  have c3 := box_cell B1.out 3
  have c4 := box_cell B1.out 4
  have c5 := box_cell B1.out 5
  have c6 := box_cell B1.out 6
  have c7 := box_cell B1.out 7
  have c8 := box_cell B1.out 8
  by_cases q1 : r < 0
  · go_wp2_with fail
    go_ret
    exact ⟨by rw [HV.out]; simp; omega, box_below B1.out⟩
  · go_wp2_with fail
    refine (specCoForm d _ t _ (HT.out.below (box_below B1.out)) hsz).mono ?_
    rintro e w3 ⟨rfl, hb3⟩
    have B3 := Lib.hid (box_next B1.out hb3); clear hb3 B1 c0 c1 c2 c3 c4 c5 c6 c7 c8
    go_wp2_with fail
    go_ret
    exact ⟨by rw [HV.out]; simp [show 0 ≤ r by omega], box_below B3.out⟩
end Go.Proofs.YtcohfbdhdngplaaDoor
/-
  Proved: a look-up in a map that a call has made and uses as a set, behind '&&' or '||', where its guard wants it.
-/
namespace Go.Proofs.YtcohfbdhdngplaaDoor
open Go.RowKit Go.Maps

theorem set_lookup_w {α : Type} {P : Program} {K E : TypeId} {lit : α → Lit} {b n : Nat} {f : α → Bool} {ops : Array Oper} {rest : List Oper} {o : Oper} {a : Act} {Q : Exit → Act → World → Prop} (w : World)
    (hw : Region.wanted o (yielded ops a.tmps) = true) (m x : Operand) (t : TypeId) (hop : o.op = Op.lookup t m x false)
    (KD : Keyed P K) (ht : P.underlying t = some (.map K E)) (he : P.underlying E = some .bool) (hz : (zeroValue E).run P w = .ok (.bool false) w)
    (hm : a.eval m = .map (some b)) (hown : SetAt P K E lit w b n f) (key : Value) (s : α) (hx : a.eval x = key) (hkey : keyOf P K key = some (lit s))
    (hK : wpList P ops Q rest (a.put o.dst (.bool (f s))) w) :
    wpList P ops Q (o :: rest) a w := by
  refine wpList_step fun K' hK' => ?_
  rw [if_pos hw]
  obtain ⟨D, hown, hat⟩ := hown
  obtain ⟨v, ps, hrun, hv⟩ := hown.lookup KD ht hz (plainElem_bool he false) hkey
  obtain ⟨c, rfl, hc⟩ := plainElem_bool_inv he hv
  simp only [Prod.mk.injEq] at hc
  obtain rfl : c = f s := by
    have := (hat s).symm.trans hc.1
    injection this with this
    injection this with this
    exact this.symm
  unfold Oper.wp
  simp [execOp, hop, hm, hx, hrun, Result.andThen]
  exact hK' _ _ hK
end Go.Proofs.YtcohfbdhdngplaaDoor
/-
  Proved: impl.isWord says whether a text is one of the three words; the memory that was there stays as it was.
-/
namespace Go.Proofs.YtcohfbdhdngplaaDoor
open Go.RowKit

set_option maxRecDepth 100000 in
theorem implWord (s : ByteArray) (w : World) : Calls Tryd.prog 152 #[.string s] w fun e w' => e = .returned (.bool (wordB s)) ∧ w = w' := by
  cases h1 : (s.toList == [105, 102]) with
  | true =>
    go_enter Tryd.func152, Tryd.ntmps152
    go_wp2_with fail
    go_ret
    exact ⟨by simp [wordB, h1], rfl⟩
  | false =>
    cases h2 : (s.toList == [102, 115, 116]) with
    | true =>
      go_enter Tryd.func152, Tryd.ntmps152
      go_wp2_with fail
      go_ret
      exact ⟨by simp [wordB, h1, h2], rfl⟩
    | false =>
      cases h3 : (s.toList == [115, 110, 100]) with
      | true =>
        go_enter Tryd.func152, Tryd.ntmps152
        go_wp2_with fail
        go_ret
        exact ⟨by simp [wordB, h1, h2, h3], rfl⟩
      | false =>
        go_enter Tryd.func152, Tryd.ntmps152
        go_wp2_with fail
        go_ret
        exact ⟨by simp [wordB, h1, h2, h3], rfl⟩
end Go.Proofs.YtcohfbdhdngplaaDoor
/-
  Proved: impl.IsName says whether a text is a name; the memory that was there stays as it was.
-/
namespace Go.Proofs.YtcohfbdhdngplaaDoor
open Go.RowKit

theorem below_iter (w : World) (s : ByteArray) (k : Nat) : Below w.heap.size w (w.iter s k) := (Below.refl _ _).alloc (Nat.le_refl _) _
set_option maxRecDepth 100000 in
set_option maxHeartbeats 4000000 in
theorem implName (s : ByteArray) (w : World) (hs : s.size ≤ 9223372036854775807) : Calls Tryd.prog 136 #[.string s] w fun e w' => e = .returned (.bool (nameB s)) ∧ Below w.heap.size w w' := by
  by_cases r1 : 1 ≤ s.size
  case neg =>
    have hz : s.size = 0 := by omega
    have hl : s.toList = [] := List.eq_nil_of_length_eq_zero (by rw [size_of_toList]; exact hz)
    have h1 : (s.toList == []) = true := by rw [hl]; rfl
    have h2 : s.toList.isEmpty = true := by rw [hl]; rfl
    have HR := Lib.hid r1
    clear hz hl r1
    go_enter Tryd.func136, Tryd.ntmps136
    go_wp2_with fail
    go_ret
    exact ⟨by simp [nameB, HR.out], Below.refl _ _⟩
  have h1 : (s.toList == []) = false := toList_some r1
  have h2 : s.toList.isEmpty = false := by cases hh : s.toList with | nil => rw [hh] at h1; cases h1 | cons a r => rfl
  by_cases r2 : s.size ≤ 5
  case neg =>
    have i2 : (5 : Int) < (s.size : Int) := by omega
    go_enter Tryd.func136, Tryd.ntmps136
    go_wp2_with fail
    go_ret
    exact ⟨by simp [nameB, r2], Below.refl _ _⟩
  have i2 : ¬ ((5 : Int) < (s.size : Int)) := by omega
  cases hw : wordB s with
  | true =>
    go_enter Tryd.func136, Tryd.ntmps136
    go_wp2_with fail
    refine (implWord s w).mono ?_
    rintro e w1 ⟨rfl, rfl⟩
    go_wp2_with fail
    go_ret
    exact ⟨by simp [nameB, hw], Below.refl _ _⟩
  | false =>
    have HNB : Hid (nameB s = okB s s.size) := by show _ = _; simp [nameB, hw, r1, r2]
    go_enter Tryd.func136, Tryd.ntmps136
    go_wp2_with fail
    refine (implWord s w).mono ?_
    rintro e w1 ⟨rfl, rfl⟩
    go_wp2_with fail
    go_loopw [3] (fun _ wr => ∃ k : Nat, wr = w.iter s k ∧ k ≤ s.size ∧ okB s k = true) (fun _ wr => s.size - wr.iterPos w.heap.size)
    case atStart => exact ⟨0, rfl, by omega, rfl⟩
    case round =>
      obtain ⟨k, rfl, hk, hf⟩ := hrel
      have HF := Lib.hid hf; clear hf
      by_cases hlt : k < s.size
      · have HSUC := Lib.hid (okB_succ s k hlt)
        by_cases hasc : (s[k]'hlt).toNat < 128
        · have hnx : ∀ ty, (Instr.next (.pointer (some ⟨w.heap.size, 0, none⟩)) true ty).run Tryd.prog (w.iter s k) = _ := fun ty => run_next_ascii w s k ty hlt hasc
          by_cases l1 : 97 ≤ (s[k]'hlt).toNat ∧ (s[k]'hlt).toNat ≤ 122
          · have OK := Lib.hid (okAt_letter (k := k) l1.1 l1.2)
            obtain ⟨l1a, l1b⟩ := l1
            have l1d : decide ((97 : Int) ≤ ((s[k]'hlt).toNat : Int)) = true := by simpa using (by omega : (97 : Int) ≤ ((s[k]'hlt).toNat : Int))
            have l2d : decide (((s[k]'hlt).toNat : Int) ≤ 122) = true := by simpa using (by omega : ((s[k]'hlt).toNat : Int) ≤ 122)
            clear l1a l1b
            go_wp2_with fail
            all_goals exact ⟨⟨k + 1, rfl, hlt, by rw [HSUC.out, HF.out, OK.out]; rfl⟩, by simp; omega⟩
          · by_cases l3 : 97 ≤ (s[k]'hlt).toNat
            · skip
              by_cases z : k = 0
              · have OK := Lib.hid (okAt_bad (c := (s[k]'hlt).toNat) (k := k) (by omega) (Or.inl z))
                have l1d : decide ((97 : Int) ≤ ((s[k]'hlt).toNat : Int)) = true := by simpa using (by omega : (97 : Int) ≤ ((s[k]'hlt).toNat : Int))
                have l2d : decide (((s[k]'hlt).toNat : Int) ≤ 122) = false := by simpa using (by omega : (122 : Int) < ((s[k]'hlt).toNat : Int))
                have zb : ((k : Int) == 0) = true := by simp [z]
                clear l1 l3 z
                go_wp2_with fail
                all_goals go_ret
                all_goals exact ⟨by rw [HNB.out, okB_false s (k + 1) s.size (by rw [HSUC.out, HF.out, OK.out]; rfl) hlt]; rfl, below_iter _ _ _⟩
              · have zb : ((k : Int) == 0) = false := by simpa using z
                have z1 : 1 ≤ k := by omega
                by_cases g1 : 48 ≤ (s[k]'hlt).toNat ∧ (s[k]'hlt).toNat ≤ 57
                · have OK := Lib.hid (okAt_digit (k := k) z1 g1.1 g1.2)
                  obtain ⟨g1a, g1b⟩ := g1
                  have l1d : decide ((97 : Int) ≤ ((s[k]'hlt).toNat : Int)) = true := by simpa using (by omega : (97 : Int) ≤ ((s[k]'hlt).toNat : Int))
                  have l2d : decide (((s[k]'hlt).toNat : Int) ≤ 122) = false := by simpa using (by omega : (122 : Int) < ((s[k]'hlt).toNat : Int))
                  have g1d : decide ((48 : Int) ≤ ((s[k]'hlt).toNat : Int)) = true := by simpa using (by omega : (48 : Int) ≤ ((s[k]'hlt).toNat : Int))
                  have g2d : decide (((s[k]'hlt).toNat : Int) ≤ 57) = true := by simpa using (by omega : ((s[k]'hlt).toNat : Int) ≤ 57)
                  clear z l1 l3 g1a g1b
                  go_wp2_with fail
                  all_goals exact ⟨⟨k + 1, rfl, hlt, by rw [HSUC.out, HF.out, OK.out]; rfl⟩, by simp; omega⟩
                · have OK := Lib.hid (okAt_bad (c := (s[k]'hlt).toNat) (k := k) (by omega) (Or.inr (by omega)))
                  by_cases g2 : 48 ≤ (s[k]'hlt).toNat
                  · skip
                    have l1d : decide ((97 : Int) ≤ ((s[k]'hlt).toNat : Int)) = true := by simpa using (by omega : (97 : Int) ≤ ((s[k]'hlt).toNat : Int))
                    have l2d : decide (((s[k]'hlt).toNat : Int) ≤ 122) = false := by simpa using (by omega : (122 : Int) < ((s[k]'hlt).toNat : Int))
                    have g1d : decide ((48 : Int) ≤ ((s[k]'hlt).toNat : Int)) = true := by simpa using (by omega : (48 : Int) ≤ ((s[k]'hlt).toNat : Int))
                    have g2d : decide (((s[k]'hlt).toNat : Int) ≤ 57) = false := by simpa using (by omega : (57 : Int) < ((s[k]'hlt).toNat : Int))
                    clear z l1 l3 g1 g2
                    go_wp2_with fail
                    all_goals go_ret
                    all_goals exact ⟨by rw [HNB.out, okB_false s (k + 1) s.size (by rw [HSUC.out, HF.out, OK.out]; rfl) hlt]; rfl, below_iter _ _ _⟩
                  · skip
                    have l1d : decide ((97 : Int) ≤ ((s[k]'hlt).toNat : Int)) = true := by simpa using (by omega : (97 : Int) ≤ ((s[k]'hlt).toNat : Int))
                    have l2d : decide (((s[k]'hlt).toNat : Int) ≤ 122) = false := by simpa using (by omega : (122 : Int) < ((s[k]'hlt).toNat : Int))
                    have g1d : decide ((48 : Int) ≤ ((s[k]'hlt).toNat : Int)) = false := by simpa using (by omega : ((s[k]'hlt).toNat : Int) < 48)
                    clear z l1 l3 g1 g2
                    go_wp2_with fail
                    all_goals go_ret
                    all_goals exact ⟨by rw [HNB.out, okB_false s (k + 1) s.size (by rw [HSUC.out, HF.out, OK.out]; rfl) hlt]; rfl, below_iter _ _ _⟩
            · skip
              by_cases z : k = 0
              · have OK := Lib.hid (okAt_bad (c := (s[k]'hlt).toNat) (k := k) (by omega) (Or.inl z))
                have l1d : decide ((97 : Int) ≤ ((s[k]'hlt).toNat : Int)) = false := by simpa using (by omega : ((s[k]'hlt).toNat : Int) < 97)
                have zb : ((k : Int) == 0) = true := by simp [z]
                clear l1 l3 z
                go_wp2_with fail
                all_goals go_ret
                all_goals exact ⟨by rw [HNB.out, okB_false s (k + 1) s.size (by rw [HSUC.out, HF.out, OK.out]; rfl) hlt]; rfl, below_iter _ _ _⟩
              · have zb : ((k : Int) == 0) = false := by simpa using z
                have z1 : 1 ≤ k := by omega
                by_cases g1 : 48 ≤ (s[k]'hlt).toNat ∧ (s[k]'hlt).toNat ≤ 57
                · have OK := Lib.hid (okAt_digit (k := k) z1 g1.1 g1.2)
                  obtain ⟨g1a, g1b⟩ := g1
                  have l1d : decide ((97 : Int) ≤ ((s[k]'hlt).toNat : Int)) = false := by simpa using (by omega : ((s[k]'hlt).toNat : Int) < 97)
                  have g1d : decide ((48 : Int) ≤ ((s[k]'hlt).toNat : Int)) = true := by simpa using (by omega : (48 : Int) ≤ ((s[k]'hlt).toNat : Int))
                  have g2d : decide (((s[k]'hlt).toNat : Int) ≤ 57) = true := by simpa using (by omega : ((s[k]'hlt).toNat : Int) ≤ 57)
                  clear z l1 l3 g1a g1b
                  go_wp2_with fail
                  all_goals exact ⟨⟨k + 1, rfl, hlt, by rw [HSUC.out, HF.out, OK.out]; rfl⟩, by simp; omega⟩
                · have OK := Lib.hid (okAt_bad (c := (s[k]'hlt).toNat) (k := k) (by omega) (Or.inr (by omega)))
                  by_cases g2 : 48 ≤ (s[k]'hlt).toNat
                  · skip
                    have l1d : decide ((97 : Int) ≤ ((s[k]'hlt).toNat : Int)) = false := by simpa using (by omega : ((s[k]'hlt).toNat : Int) < 97)
                    have g1d : decide ((48 : Int) ≤ ((s[k]'hlt).toNat : Int)) = true := by simpa using (by omega : (48 : Int) ≤ ((s[k]'hlt).toNat : Int))
                    have g2d : decide (((s[k]'hlt).toNat : Int) ≤ 57) = false := by simpa using (by omega : (57 : Int) < ((s[k]'hlt).toNat : Int))
                    clear z l1 l3 g1 g2
                    go_wp2_with fail
                    all_goals go_ret
                    all_goals exact ⟨by rw [HNB.out, okB_false s (k + 1) s.size (by rw [HSUC.out, HF.out, OK.out]; rfl) hlt]; rfl, below_iter _ _ _⟩
                  · skip
                    have l1d : decide ((97 : Int) ≤ ((s[k]'hlt).toNat : Int)) = false := by simpa using (by omega : ((s[k]'hlt).toNat : Int) < 97)
                    have g1d : decide ((48 : Int) ≤ ((s[k]'hlt).toNat : Int)) = false := by simpa using (by omega : ((s[k]'hlt).toNat : Int) < 48)
                    clear z l1 l3 g1 g2
                    go_wp2_with fail
                    all_goals go_ret
                    all_goals exact ⟨by rw [HNB.out, okB_false s (k + 1) s.size (by rw [HSUC.out, HF.out, OK.out]; rfl) hlt]; rfl, below_iter _ _ _⟩
        · have hnx : ∀ ty, (Instr.next (.pointer (some ⟨w.heap.size, 0, none⟩)) true ty).run Tryd.prog (w.iter s k) = _ := fun ty => run_next_any w s k ty hlt
          have hd := (decode_high s k hlt (by omega)).1
          have OK : Hid (okAt (s[k]'hlt).toNat k = false) := okAt_bad (by omega) (Or.inr (by omega))
          have m1 : decide ((97 : Int) ≤ ((Utf8.decode s k).1 : Int)) = true := by simpa using (by omega : (97 : Int) ≤ ((Utf8.decode s k).1 : Int))
          have m2 : decide (((Utf8.decode s k).1 : Int) ≤ 122) = false := by simpa using (by omega : (122 : Int) < ((Utf8.decode s k).1 : Int))
          have m3 : decide ((48 : Int) ≤ ((Utf8.decode s k).1 : Int)) = true := by simpa using (by omega : (48 : Int) ≤ ((Utf8.decode s k).1 : Int))
          have m4 : decide (((Utf8.decode s k).1 : Int) ≤ 57) = false := by simpa using (by omega : (57 : Int) < ((Utf8.decode s k).1 : Int))
          by_cases z : k = 0
          · have zb : ((k : Int) == 0) = true := by simp [z]
            clear z
            go_wp2_with fail
            go_ret
            exact ⟨by rw [HNB.out, okB_false s (k + 1) s.size (by rw [HSUC.out, HF.out, OK.out]; rfl) hlt]; rfl, below_iter _ _ _⟩
          · have zb : ((k : Int) == 0) = false := by simpa using z
            clear z
            go_wp2_with fail
            go_ret
            exact ⟨by rw [HNB.out, okB_false s (k + 1) s.size (by rw [HSUC.out, HF.out, OK.out]; rfl) hlt]; rfl, below_iter _ _ _⟩
      · have hnx : ∀ ty, (Instr.next (.pointer (some ⟨w.heap.size, 0, none⟩)) true ty).run Tryd.prog (w.iter s k) = _ := fun ty => run_next_end w s k ty hlt
        have hks : k = s.size := by omega
        have HK := Lib.hid hks
        clear hks
        go_wp2_with fail
        go_ret
        exact ⟨by rw [HNB.out, ← HK.out, HF.out]; rfl, below_iter _ _ _⟩
end Go.Proofs.YtcohfbdhdngplaaDoor
/-
  Proved: impl.EqualType says whether two trees are equal, and leaves the memory that was there as it was.
-/
namespace Go.Proofs.YtcohfbdhdngplaaDoor
open Go.RowKit

set_option maxRecDepth 100000 in
set_option maxHeartbeats 2000000 in
theorem implEqual : ∀ (d : Nat) (v1 v2 : Value) (t1 t2 : Ty) (w : World), TyAt w d v1 t1 → TyAt w d v2 t2 →
    Calls Tryd.prog 149 #[v1, v2] w fun e w' => e = .returned (.bool (t1.beq t2)) ∧ Below w.heap.size w w'
  | 0, _, _, _, _, _, h, _ => h.elim
  | d + 1, v1, v2, .node k1 cs, .node k2 bs, w, h1, h2 => by
    have IH : Hid (∀ (v1 v2 : Value) (t1 t2 : Ty) (w : World), TyAt w d v1 t1 → TyAt w d v2 t2 → Calls Tryd.prog 149 #[v1, v2] w fun e w' => e = .returned (.bool (t1.beq t2)) ∧ Below w.heap.size w w') := implEqual d
    obtain ⟨s1, rfl, hk0, hk1, a1, cap1, rfl, hcap1, hm1, hat1⟩ := h1
    obtain ⟨s2, rfl, hk2, hk3, a2, cap2, rfl, hcap2, hm2, hat2⟩ := h2
    have HA1 := Lib.hid hat1; clear hat1
    have HA2 := Lib.hid hat2; clear hat2
    by_cases q1 : k1 = k2
    · subst q1
      by_cases q2 : bs.length = cs.length
      · have HFIN : Hid ((Ty.node k1 cs).beq (Ty.node k1 bs) = Ty.beqs cs bs) := by show _ = _; simp [Ty.beq]
        rw [q2]
        go_enter Tryd.func149, Tryd.ntmps149
        go_wp2_with fail
        go_loopw [23] (fun i wr => ∃ k : Nat, k ≤ cs.length ∧ i = .int .i64 k ∧ Ty.beqs (cs.take k) (bs.take k) = true ∧ Below (w.heap.size + 2) ((w.alloc (.cells #[.int .i64 k1, .slice a1 cs.length cap1] 32)).alloc (.cells #[.int .i64 k1, .slice a2 cs.length cap2] 32)) wr) (fun i _ => cs.length - (intOf i).toNat)
        case atStart => exact ⟨0, by omega, rfl, by simp [Ty.beqs], Below.refl _ _⟩
        case round =>
          obtain ⟨k, hk, rfl, hf, hb⟩ := hrel
          have HF := Lib.hid hf; clear hf
          have y1 := two_first hb 1
          have y2 := two_next hb 1
          have HB := Lib.hid (two_below hb)
          have HBX := Lib.hid hb; clear hb
          by_cases hlt : k < cs.length
          · have hlt2 : k < bs.length := by omega
            obtain ⟨b1, off1, x0, x1, rfl, hbl1, hc10, hc11, ht1⟩ := HA1.out k hlt
            obtain ⟨b2, off2, z0, z1, rfl, hbl2, hc20, hc21, ht2⟩ := HA2.out k hlt2
            have c10 : wr.cell? ⟨b1, off1 + k * 2, none⟩ = some x0 := by rw [HB.out.cell (p := ⟨b1, off1 + k * 2, none⟩) hbl1]; exact hc10
            have c11 : wr.cell? ⟨b1, off1 + k * 2 + 1, none⟩ = some x1 := by rw [HB.out.cell (p := ⟨b1, off1 + k * 2 + 1, none⟩) hbl1]; exact hc11
            have c20 : wr.cell? ⟨b2, off2 + k * 2, none⟩ = some z0 := by rw [HB.out.cell (p := ⟨b2, off2 + k * 2, none⟩) hbl2]; exact hc20
            have c21 : wr.cell? ⟨b2, off2 + k * 2 + 1, none⟩ = some z1 := by rw [HB.out.cell (p := ⟨b2, off2 + k * 2 + 1, none⟩) hbl2]; exact hc21
            have HT1 := Lib.hid (ht1.below HB.out.drew)
            have HT2 := Lib.hid (ht2.below HB.out.drew)
            clear ht1 ht2 hc10 hc11 hc20 hc21
            go_wp2_with fail
            go_still_tail 10, (by kernel_rfl)
            change wpList _ _ _ _ _ wr.drew
            go_wp2_with fail
            refine (IH.out _ _ _ _ wr.drew HT1.out HT2.out).mono ?_
            rintro e w' ⟨rfl, hb1⟩
            have HN := Lib.hid (two_on HBX.out.drew hb1); clear hb1
            have HTK := Lib.hid (Ty.beqs_take cs bs k hlt hlt2)
            cases hfk : cs[k].beq bs[k] with
            | true =>
              have HFK := Lib.hid hfk; clear hfk
              go_wp2_with fail
              exact ⟨⟨k + 1, by omega, by go_num, by rw [HTK.out, HF.out, HFK.out]; rfl, HN.out⟩, by simp [intOf]; omega⟩
            | false =>
              have HFK := Lib.hid hfk; clear hfk
              go_wp2_with fail
              go_ret
              have e : Ty.beqs cs bs = false := Ty.beqs_false cs bs (k + 1) (by rw [HTK.out, HF.out, HFK.out]; rfl) q2.symm
              exact ⟨by rw [HFIN.out, e]; rfl, two_below HN.out⟩
          · obtain rfl : k = cs.length := by omega
            have e : Hid (Ty.beqs cs bs = true) := by
              have := HF.out
              rw [List.take_length, ← q2, List.take_length] at this; exact this
            go_wp2_with fail
            go_ret
            exact ⟨by rw [HFIN.out, e.out]; rfl, HB.out⟩
      · have HFIN : Hid ((Ty.node k1 cs).beq (Ty.node k1 bs) = false) := by show _ = _; simp [Ty.beq, Ty.beqs_len cs bs (fun e => q2 e.symm)]
        have q3 : ¬ ((cs.length : Int) = (bs.length : Int)) := by omega
        go_enter Tryd.func149, Tryd.ntmps149
        go_wp2_with fail
        go_ret
        exact ⟨by rw [HFIN.out]; rfl, ((Below.refl _ _).alloc (Nat.le_refl _) _).alloc (by simp) _⟩
    · have HFIN : Hid ((Ty.node k1 cs).beq (Ty.node k2 bs) = false) := by show _ = _; simp [Ty.beq, q1]
      go_enter Tryd.func149, Tryd.ntmps149
      go_wp2_with fail
      go_ret
      exact ⟨by rw [HFIN.out]; rfl, ((Below.refl _ _).alloc (Nat.le_refl _) _).alloc (by simp) _⟩
end Go.Proofs.YtcohfbdhdngplaaDoor
/-
  Proved: impl.isCoreNumberFor, impl.isCoreTypeIf and impl.hasOwnNames say whether the number, a type and the names of an environment belong to a node; the memory that was there stays as it was.
-/
namespace Go.Proofs.YtcohfbdhdngplaaDoor
open Go.RowKit Go.Maps Go.WideMaps

set_option maxRecDepth 100000 in
set_option maxHeartbeats 4000000 in
theorem implCoNum (kd n : Int) (w : World) : Calls Tryd.prog 135 #[.int .i64 kd, .int .i64 n] w fun e w' => e = .returned (.bool (coNumFor kd n)) ∧ Below w.heap.size w w' := by
  by_cases q1 : kd = 1
  · subst q1
    by_cases r1 : 1 ≤ n
    · by_cases r2 : n ≤ 99
      · skip
        go_enter Tryd.func135, Tryd.ntmps135
        go_wp2_with fail
        go_ret
        exact ⟨by first | (simp [coNumFor, *]; done) | (simp [coNumFor, *]; omega), Below.refl _ _⟩
      · skip
        go_enter Tryd.func135, Tryd.ntmps135
        go_wp2_with fail
        go_ret
        exact ⟨by first | (simp [coNumFor, *]; done) | (simp [coNumFor, *]; omega), Below.refl _ _⟩
    · skip
      go_enter Tryd.func135, Tryd.ntmps135
      go_wp2_with fail
      go_ret
      exact ⟨by first | (simp [coNumFor, *]; done) | (simp [coNumFor, *]; omega), Below.refl _ _⟩
  by_cases q2 : kd = 2
  · subst q2
    by_cases r1 : 1 ≤ n
    · by_cases r2 : n ≤ 99
      · skip
        go_enter Tryd.func135, Tryd.ntmps135
        go_wp2_with fail
        go_ret
        exact ⟨by first | (simp [coNumFor, *]; done) | (simp [coNumFor, *]; omega), Below.refl _ _⟩
      · skip
        go_enter Tryd.func135, Tryd.ntmps135
        go_wp2_with fail
        go_ret
        exact ⟨by first | (simp [coNumFor, *]; done) | (simp [coNumFor, *]; omega), Below.refl _ _⟩
    · skip
      go_enter Tryd.func135, Tryd.ntmps135
      go_wp2_with fail
      go_ret
      exact ⟨by first | (simp [coNumFor, *]; done) | (simp [coNumFor, *]; omega), Below.refl _ _⟩
  by_cases q9 : kd = 9
  · subst q9
    by_cases r0 : n = 0
    · subst r0
      go_enter Tryd.func135, Tryd.ntmps135
      go_wp2_with fail
      go_ret
      exact ⟨by simp [coNumFor], Below.refl _ _⟩
    · have r0b : (n == 0) = false := by simp [r0]
      by_cases r1 : n = 1
      · subst r1
        go_enter Tryd.func135, Tryd.ntmps135
        go_wp2_with fail
        go_ret
        exact ⟨by simp [coNumFor], Below.refl _ _⟩
      · have r1b : (n == 1) = false := by simp [r1]
        go_enter Tryd.func135, Tryd.ntmps135
        go_wp2_with fail
        go_ret
        exact ⟨by simp [coNumFor]; omega, Below.refl _ _⟩
  have z1 : (kd == 1) = false := by simp [q1]
  have z2 : (kd == 2) = false := by simp [q2]
  have z9 : (kd == 9) = false := by simp [q9]
  by_cases r0 : n = 0
  · subst r0
    go_enter Tryd.func135, Tryd.ntmps135
    go_wp2_with fail
    go_ret
    exact ⟨by simp [coNumFor, q1, q2, q9], Below.refl _ _⟩
  have r0b : (n == 0) = false := by simp [r0]
  by_cases q6 : kd = 6
  · subst q6
    go_enter Tryd.func135, Tryd.ntmps135
    go_wp2_with fail
    go_ret
    exact ⟨by simp [coNumFor], Below.refl _ _⟩
  have z6 : (kd == 6) = false := by simp [q6]
  go_enter Tryd.func135, Tryd.ntmps135
  go_wp2_with fail
  go_ret
  exact ⟨by simp [coNumFor, q1, q2, q9, q6, r0], Below.refl _ _⟩
theorem nil_ty (w : World) {d : Nat} {v : Value} {t : Ty} (h : TyAt w d v t) : TyAt w d (.agg #[.int .i64 0, .slice none 0 0]) (.node 0 []) := by
  cases d with
  | zero => exact h.elim
  | succ d => exact ⟨_, rfl, by omega, by omega, none, 0, rfl, Nat.le_refl _, by omega, fun j hj => by simp at hj⟩
set_option maxRecDepth 100000 in
set_option maxHeartbeats 4000000 in
theorem implCoTyIf (d : Nat) (b : Bool) (v : Value) (t : Ty) (w : World) (h : TyAt w d v t) (hsz : t.size ≤ 1048577) : Calls Tryd.prog 138 #[.bool b, v] w fun e w' => e = .returned (.bool (coTyFor b t)) ∧ Below w.heap.size w w' := by
  have HT := Lib.hid h
  obtain ⟨yk, ya, yn, yc, rfl⟩ := agg_parts h
  clear h
  cases b with
  | true =>
    go_enter Tryd.func138, Tryd.ntmps138
    go_wp2_with fail
    refine (implValid d _ t _ (HT.out.below (below_alloc _ _)) hsz).mono ?_
    rintro e w2 ⟨rfl, hb2⟩
    go_wp2_with fail
    go_ret
    exact ⟨rfl, below_on (below_alloc _ _) hb2 (by simp)⟩
  | false =>
    go_enter Tryd.func138, Tryd.ntmps138
    go_wp2_with fail
    refine (implEqual d _ _ t (.node 0 []) _ (HT.out.below (below_alloc _ _)) (nil_ty _ (HT.out.below (below_alloc _ _)))).mono ?_
    rintro e w2 ⟨rfl, hb2⟩
    go_wp2_with fail
    go_ret
    exact ⟨rfl, below_on (below_alloc _ _) hb2 (by simp)⟩
set_option maxRecDepth 100000 in
set_option maxHeartbeats 4000000 in
theorem own_step {ns : List ByteArray} {k : Nat} (h : k < ns.length) (hb : (nameB ns[k] && !seenB (ns.take k) ns[k].data.toList) = false) : ownNames [] ns = false := by
  have e := ownNames_take ns [] k h
  rw [List.nil_append, hb, Bool.and_false] at e
  exact ownNames_false ns [] (k + 1) e
set_option maxRecDepth 100000 in
set_option maxHeartbeats 4000000 in
theorem implOwnNames (d : Nat) (v : Value) (ns : List ByteArray) (vs : List Co) (w : World) (h : CbsAt w d v ns vs) (hn : vs.length ≤ 1048576) :
    Calls Tryd.prog 137 #[v] w fun e w' => e = .returned (.bool (ownNames [] ns)) ∧ Below w.heap.size w w' := by
  obtain ⟨hln, a, cap, rfl, hcap, hcap2, hat⟩ := h
  have HAT := Lib.hid hat; clear hat
  have HLN := Lib.hid hln; clear hln
  have hmm := @run_makeMap Tryd.prog
  go_enter Tryd.func137, Tryd.ntmps137
  go_wp2_with fail
  clear hmm
  go_loopw [9] (fun i wr => ∃ (k : Nat) (L : List ByteArray), k ≤ vs.length ∧ i = .int .i64 k ∧ L = ns.take k ∧ ownNames [] (ns.take k) = true ∧ NamesAt wr w.heap.size k L ∧ Below w.heap.size w wr) (fun i _ => vs.length - (intOf i).toNat)
  case atStart => exact ⟨0, [], by omega, rfl, by simp, by simp [ownNames], by show SetAt _ _ _ _ _ _ _ _; rw [← seenB_nil]; exact SetAt.new _ _ _ _ _, (Below.refl _ _).alloc (Nat.le_refl _) _⟩
  case round =>
    obtain ⟨k, L, hk, rfl, hL, hon, hset, hb⟩ := hrel
    have HL := Lib.hid hL; clear hL
    have HON := Lib.hid hon; clear hon
    have HB := Lib.hid hb; clear hb
    have HN := Lib.hid hset; clear hset
    by_cases hlt : k < vs.length
    · have hlt2 : k < ns.length := by have := HLN.out; omega
      obtain ⟨b, off, x0, x1, x2, x3, x4, x5, x6, x7, x8, rfl, hbl, hnz, hcn, _⟩ := HAT.out k hlt hlt2
      have HTK := Lib.hid (take_add ns k hlt2)
      have HOT := Lib.hid (ownNames_take ns [] k hlt2)
      have HNAME : Hid ((nameB ns[k] && !seenB L ns[k].data.toList) = false → ownNames [] ns = false) := by intro hq; rw [HL.out] at hq; exact own_step hlt2 hq
      obtain ⟨x, hx⟩ : ∃ x, x = ns[k] := ⟨_, rfl⟩
      rw [← hx] at hcn hnz
      rw [← hx] at HTK HOT HNAME
      clear hx
      have en : wr.cell? ⟨b, off + k * 10, none⟩ = some (.string x) := (HB.out.cell (p := ⟨b, off + k * 10, none⟩) hbl).trans hcn
      have hkey : keyOf Tryd.prog 9 (.string x) = some (.string x.data.toList) := keyOf_string_mk Tryd.underlying9 hnz
      have HK := Lib.hid hkey; clear hkey hcn
      go_wp2_with fail
      refine (implName x _ hnz).mono ?_
      rintro e w2 ⟨rfl, hb2⟩
      replace HN := Lib.hid (HN.out.below hb2)
      replace HB := Lib.hid (HB.out.trans (hb2.mono HB.out.size))
      clear hb2 en
      cases hnb : nameB x with
      | false =>
        have HNO := Lib.hid (HNAME.out (by rw [hnb]; rfl))
        clear hnb
        go_wp2_with fail
        go_ret
        exact ⟨by rw [HNO.out]; rfl, HB.out⟩
      | true =>
        have HNB := Lib.hid hnb; clear hnb
        go_wp2_with (first
          | (at_lookup; refine set_lookup_w _ (by first | rfl | kernel_rfl) _ _ 177 rfl law_str Tryd.underlying177 Tryd.underlying4 (zero_bool _) rfl HN.out _ x.data.toList rfl HK.out ?_)
          | (at_mapUpdate; refine set_store _ rfl _ _ _ 177 rfl law_str Tryd.underlying177 Tryd.underlying4 rfl HN.out (by unfold maxLen; omega) _ x.data.toList rfl true rfl HK.out (fun _ h => by injection h) trivial ?_; intro w1 hset1 hg1))
        · have hq : seenB L x.data.toList = true := by assumption
          have HNO := Lib.hid (HNAME.out (by rw [HNB.out, hq]; rfl))
          go_ret
          exact ⟨by rw [HNO.out]; rfl, HB.out⟩
        · have hq : seenB L x.data.toList = false := by assumption
          have HQ := Lib.hid hq
          have hn1 : NamesAt w1 w.heap.size (k + 1) (L ++ [x]) := by
            show SetAt _ _ _ _ _ _ _ _
            rw [← seenB_put]; exact hset1
          have HN1 := Lib.hid hn1
          have HB1 := Lib.hid (HB.out.grown hg1 HB.out.size (fun j hj => by cases hj; exact Nat.le_refl _))
          clear hset1 hg1 hn1 hq
          go_roundw
          case rel => exact ⟨k + 1, L ++ [x], by omega, by go_num, by rw [HTK.out, HL.out], by have h := HQ.out; rw [HL.out] at h; rw [HOT.out, HON.out, HNB.out, List.nil_append, h]; rfl, HN1.out, HB1.out⟩
          case measure => simp [intOf]; omega
    · obtain rfl : k = vs.length := by omega
      have HEN : Hid (ownNames [] ns = true) := by have h1 := HON.out; rw [← HLN.out, List.take_length] at h1; exact h1
      go_wp2_with fail
      go_ret
      exact ⟨by rw [HEN.out]; rfl, HB.out⟩
end Go.Proofs.YtcohfbdhdngplaaDoor
/-
  Proved: the pinned table of the forms of core expressions holds, five cells a kind, what the program's text says.
-/
namespace Go.Proofs.YtcohfbdhdngplaaDoor
open Go.RowKit Go.ChangeShapes Go.WideShapes Go.ChangeAt

theorem und_types : Tryd.prog.underlying 147 = some (.struct #[⟨"source", 4, 0, false, "", "loop.example/g00585/impl", 0⟩, ⟨"target", 4, 1, false, "", "loop.example/g00585/impl", 1⟩]) := by kernel_rfl
theorem cells_fbool : Tryd.prog.cellsOf 4 = 1 := by kernel_rfl
theorem cells_ftypes : Tryd.prog.cellsOf 147 = 2 := by kernel_rfl
theorem bool_cell {H : Type} {enc : TypeId × Value → H} {w : World} {base : Nat} {sp : Nat → Bool} {held : Bool} {n : Nat} {l : List Value} {y : DataW H × List MemPlace} {z : Bool}
    (h : DataW.trod enc Tryd.prog w base sp held n 4 (l.take 1) = some y) (hy : y.1 = .lit (.bool z)) : l[0]? = some (.bool z) := by
  obtain ⟨b, hb, rfl⟩ := DataW.trod_bool Tryd.underlying4 h
  simp at hy; subst hy
  have := congrArg (·[0]?) hb
  simpa [List.getElem?_take] using this
theorem quadList_of {α : Type} {xs : List α} (h : xs.length = 4) : ∃ a b c d, xs = [a, b, c, d] := by
  match xs, h with
  | [a, b, c, d], _ => exact ⟨a, b, c, d, rfl⟩
theorem pairList_of {α : Type} {xs : List α} (h : xs.length = 2) : ∃ a b, xs = [a, b] := by
  match xs, h with
  | [a, b], _ => exact ⟨a, b, rfl⟩
set_option maxRecDepth 100000 in
theorem form_row {H : Type} {enc : TypeId × Value → H} {w : World} {base : Nat} {sp : Nat → Bool} {held : Bool} {fuel : Nat} {cs : List Value} {ds : List (DataW H)} {p : List MemPlace}
    (h : DataW.trod enc Tryd.prog w base sp held fuel 150 cs = some (.agg ds, p)) (i : Nat) (hi : i < 16) (n b s t : Bool) (z : DataW H)
    (hd : ds[i]? = some (.agg [z, .lit (.bool n), .lit (.bool b), .agg [.lit (.bool s), .lit (.bool t)]])) :
    cs[i * 5 + 1]? = some (.bool n) ∧ cs[i * 5 + 2]? = some (.bool b) ∧ cs[i * 5 + 3]? = some (.bool s) ∧ cs[i * 5 + 4]? = some (.bool t) := by
  obtain ⟨m, d, q, hm, hdd⟩ := forms_cells und_forms cells_form h i hi
  rw [hd] at hdd
  obtain rfl := Option.some.inj hdd
  obtain ⟨xs, n1, _, hx, hl, hlen, hf⟩ := DataW.trod_struct und_form hm
  obtain ⟨x0, x1, x2, x3, rfl⟩ := quadList_of (show xs.length = 4 from hlen)
  have hmap := congrArg Prod.fst hx
  simp only [List.map_cons, List.map_nil, DataW.agg.injEq, List.cons.injEq, and_true] at hmap
  obtain ⟨_, m1, m2, m3⟩ := hmap
  have g1 : DataW.trod enc Tryd.prog w base sp held n1 4 ((((cs.drop (i * 5)).take 5).drop 1).take (Tryd.prog.cellsOf 4)) = some x1 := hf 1 ⟨"named", 4, 1, false, "", "loop.example/g00585/impl", 8⟩ rfl
  have g2 : DataW.trod enc Tryd.prog w base sp held n1 4 ((((cs.drop (i * 5)).take 5).drop 2).take (Tryd.prog.cellsOf 4)) = some x2 := hf 2 ⟨"bound", 4, 2, false, "", "loop.example/g00585/impl", 9⟩ rfl
  have g3 : DataW.trod enc Tryd.prog w base sp held n1 147 ((((cs.drop (i * 5)).take 5).drop 3).take (Tryd.prog.cellsOf 147)) = some x3 := hf 3 ⟨"coreTypes", 147, 3, true, "", "loop.example/g00585/impl", 10⟩ rfl
  rw [cells_fbool] at g1 g2
  rw [cells_ftypes] at g3
  have r1 := bool_cell g1 m1.symm
  have r2 := bool_cell g2 m2.symm
  obtain ⟨x3a, x3b⟩ := x3
  simp only at m3
  subst m3
  obtain ⟨ys, n2, _, hy, hl2, hlen2, hf2⟩ := DataW.trod_struct und_types g3
  obtain ⟨y0, y1, rfl⟩ := pairList_of (show ys.length = 2 from hlen2)
  have hmap2 := congrArg Prod.fst hy
  simp only [List.map_cons, List.map_nil, DataW.agg.injEq, List.cons.injEq, and_true] at hmap2
  obtain ⟨m4, m5⟩ := hmap2
  have g4 : DataW.trod enc Tryd.prog w base sp held n2 4 (((((((cs.drop (i * 5)).take 5).drop 3).take 2)).drop 0).take (Tryd.prog.cellsOf 4)) = some y0 := hf2 0 ⟨"source", 4, 0, false, "", "loop.example/g00585/impl", 0⟩ rfl
  have g5 : DataW.trod enc Tryd.prog w base sp held n2 4 (((((((cs.drop (i * 5)).take 5).drop 3).take 2)).drop 1).take (Tryd.prog.cellsOf 4)) = some y1 := hf2 1 ⟨"target", 4, 1, false, "", "loop.example/g00585/impl", 1⟩ rfl
  rw [cells_fbool] at g4 g5
  have r3 := bool_cell g4 m4.symm
  have r4 := bool_cell g5 m5.symm
  refine ⟨?_, ?_, ?_, ?_⟩
  · simpa [List.getElem?_take, List.getElem?_drop] using r1
  · simpa [List.getElem?_take, List.getElem?_drop] using r2
  · simpa [List.getElem?_take, List.getElem?_drop] using r3
  · simpa [List.getElem?_take, List.getElem?_drop, Nat.add_assoc] using r4
abbrev rowNamed : List Bool := [false, false, false, true, true, false, false, false, false, false, false, false, false, false, false, false]
abbrev rowBound : List Bool := [false, true, true, false, false, false, false, false, false, false, false, false, false, false, false, false]
abbrev rowSrc : List Bool := [false, false, false, false, false, false, false, false, false, false, false, false, false, false, true, true]
abbrev rowTgt : List Bool := [false, false, false, false, true, false, false, false, false, false, false, false, false, false, true, true]
/-- All cells of the table as the program reads them. -/
def CoreFull (w : World) : Prop := CoreTab w ∧ ∀ i, i < 16 → w.cell? ⟨0, i * 5 + 1, none⟩ = some (.bool (rowNamed.getD i false)) ∧ w.cell? ⟨0, i * 5 + 2, none⟩ = some (.bool (rowBound.getD i false)) ∧ w.cell? ⟨0, i * 5 + 3, none⟩ = some (.bool (rowSrc.getD i false)) ∧ w.cell? ⟨0, i * 5 + 4, none⟩ = some (.bool (rowTgt.getD i false))
theorem CoreFull.below {w w' : World} (h : CoreFull w) (hb : Below w.heap.size w w') : CoreFull w' := by
  have hk : ∀ o, w'.cell? ⟨0, o, none⟩ = w.cell? ⟨0, o, none⟩ := fun o => hb.cell (p := ⟨0, o, none⟩) h.1.1
  refine ⟨h.1.below hb, fun i hi => ?_⟩
  obtain ⟨h1, h2, h3, h4⟩ := h.2 i hi
  exact ⟨(hk _).trans h1, (hk _).trans h2, (hk _).trans h3, (hk _).trans h4⟩
set_option maxRecDepth 100000 in
theorem coreFull_of {W : World} (h : laidMet Tryd.prog [("loop.example/g00585/impl.coreForms", Rows.laid_loop_example_g00585_impl_coreForms)] W) : CoreFull W := by
  refine ⟨coreTab_of h, ?_⟩
  have hg : Tryd.prog.globalNamed "loop.example/g00585/impl.coreForms" = some 0 := by kernel_rfl
  have hty : (Tryd.prog.globals[0]?).map (·.type) = some 150 := by kernel_rfl
  obtain ⟨ps, ⟨g', t', cs, fuel, p, q, hg', ht', hvar, hd, _, _⟩, _⟩ := h
  obtain rfl := Option.some.inj (hg.symm.trans hg')
  obtain rfl := Option.some.inj (hty.symm.trans ht')
  have hc : ∀ off, W.cell? ⟨0, off, none⟩ = cs.toList[off]? := fun off => by have := World.var?_cell hg hvar off; simpa using this
  intro i hi
  simp only [hc]
  match i, hi with
  | 0, _ => exact form_row hd 0 (by decide) _ _ _ _ _ rfl
  | 1, _ => exact form_row hd 1 (by decide) _ _ _ _ _ rfl
  | 2, _ => exact form_row hd 2 (by decide) _ _ _ _ _ rfl
  | 3, _ => exact form_row hd 3 (by decide) _ _ _ _ _ rfl
  | 4, _ => exact form_row hd 4 (by decide) _ _ _ _ _ rfl
  | 5, _ => exact form_row hd 5 (by decide) _ _ _ _ _ rfl
  | 6, _ => exact form_row hd 6 (by decide) _ _ _ _ _ rfl
  | 7, _ => exact form_row hd 7 (by decide) _ _ _ _ _ rfl
  | 8, _ => exact form_row hd 8 (by decide) _ _ _ _ _ rfl
  | 9, _ => exact form_row hd 9 (by decide) _ _ _ _ _ rfl
  | 10, _ => exact form_row hd 10 (by decide) _ _ _ _ _ rfl
  | 11, _ => exact form_row hd 11 (by decide) _ _ _ _ _ rfl
  | 12, _ => exact form_row hd 12 (by decide) _ _ _ _ _ rfl
  | 13, _ => exact form_row hd 13 (by decide) _ _ _ _ _ rfl
  | 14, _ => exact form_row hd 14 (by decide) _ _ _ _ _ rfl
  | 15, _ => exact form_row hd 15 (by decide) _ _ _ _ _ rfl
  | _ + 16, h => exact absurd h (by omega)
end Go.Proofs.YtcohfbdhdngplaaDoor
/-
  Proved: impl.isCoreNode says whether the fields, the names of the environment and the number of parts of a node belong to its kind; the memory that was there stays as it was.
-/
namespace Go.Proofs.YtcohfbdhdngplaaDoor
open Go.RowKit

def namedB (k : Int) : Bool := decide (k = 3) || decide (k = 4)
def coNodeB (k : Int) (nm : ByteArray) (n : Int) (fr ty : Ty) (len : Nat) (ns : List ByteArray) : Bool := coFieldsB k nm n fr ty && ((ownNames [] ns && envK k ns) && decide ((len : Int) = coArity k))
theorem coName_eq (k : Int) (nm : ByteArray) : coNameFor k nm = if namedB k then nameB nm else decide (nm.size = 0) := by
  unfold coNameFor namedB
  by_cases h3 : k = 3
  · simp [h3]
  · by_cases h4 : k = 4
    · simp [h4]
    · simp [h3, h4]
theorem coNode_eq (k : Int) (nm : ByteArray) (n : Int) (fr ty : Ty) (len : Nat) (ns : List ByteArray) : coNodeB k nm n fr ty len ns = (decide ((len : Int) = coArity k) && (coNumFor k n && ((if namedB k then nameB nm else decide (nm.size = 0)) && ((boundB k || decide (ns.length = 0)) && (ownNames [] ns && (coTyFor (srcB k) fr && coTyFor (tgtB k) ty)))))) := by
  rw [← coName_eq]
  unfold coNodeB coFieldsB coTypesB envK
  generalize decide ((len : Int) = coArity k) = b1
  generalize coNumFor k n = b2
  generalize coNameFor k nm = b3
  generalize boundB k = b4
  generalize decide (ns.length = 0) = b5
  generalize ownNames [] ns = b6
  generalize coTyFor (srcB k) fr = b7
  generalize coTyFor (tgtB k) ty = b8
  cases b1 <;> cases b2 <;> cases b3 <;> cases b4 <;> cases b5 <;> cases b6 <;> cases b7 <;> cases b8 <;> rfl
theorem rowNamed_eq : ∀ k, k < 16 → rowNamed.getD k false = namedB (k : Int) := by decide
theorem rowBound_eq : ∀ k, k < 16 → rowBound.getD k false = boundB (k : Int) := by decide
theorem rowSrc_eq : ∀ k, k < 16 → rowSrc.getD k false = srcB (k : Int) := by decide
theorem rowTgt_eq : ∀ k, k < 16 → rowTgt.getD k false = tgtB (k : Int) := by decide
/-- A row of the table. -/
theorem CoreFull.row {w : World} (h : CoreFull w) {k : Nat} (hk : k < 16) : w.cell? ⟨0, k * 5, none⟩ = some (.int .i64 (coTab.getD k 0)) ∧ w.cell? ⟨0, k * 5 + 1, none⟩ = some (.bool (namedB k)) ∧ w.cell? ⟨0, k * 5 + 2, none⟩ = some (.bool (boundB k)) ∧ w.cell? ⟨0, k * 5 + 3, none⟩ = some (.bool (srcB k)) ∧ w.cell? ⟨0, k * 5 + 4, none⟩ = some (.bool (tgtB k)) := by
  obtain ⟨h1, h2, h3, h4⟩ := h.2 k hk
  rw [rowNamed_eq k hk] at h1
  rw [rowBound_eq k hk] at h2
  rw [rowSrc_eq k hk] at h3
  rw [rowTgt_eq k hk] at h4
  exact ⟨h.1.2 k hk, h1, h2, h3, h4⟩
set_option maxRecDepth 100000 in
set_option maxHeartbeats 8000000 in
theorem implCoNode (d : Nat) (v : Value) (kd : Int) (nm0 : ByteArray) (n0 : Int) (fr ty : Ty) (es : List Co) (ns : List ByteArray) (vs : List Co) (w : World) (h : PtrCo w (d + 1) v (.node kd nm0 n0 fr ty es ns vs)) (hsz : (Co.node kd nm0 n0 fr ty es ns vs).bulk ≤ 1048576) (htab : CoreFull w) :
    Calls Tryd.prog 119 #[v] w fun e w' => e = .returned (.bool (coNodeB kd nm0 n0 fr ty es.length ns)) ∧ Below w.heap.size w w' := by
  obtain ⟨pb, po, x0, x1, x2, x3, x4, x5, x6, x7, x8, rfl, hpl, k0, k1, k2, k3, k4, k5, k6, k7, k8, ht⟩ := h
  obtain ⟨c3, c4, c5, c6, sl, el, hv, hk0, hk1, hn0, hn1, hnm, hfr, hty, ⟨a, cap, rfl, hcap, hcap2, hat⟩, hln, a2, cap2, rfl, hcpe, hcpe2, hae⟩ := ht
  injection hv with hv
  injection hv with hv
  simp at hv
  obtain ⟨rfl, rfl, rfl, rfl, rfl, rfl, rfl, rfl, rfl⟩ := hv
  obtain ⟨fk, fa, fn, fc, rfl, rfl⟩ := at_parts hfr
  obtain ⟨tk, ta, tn, tc, rfl, rfl⟩ := at_parts hty
  have HEN : Hid (CbsAt w d (.slice a2 vs.length cap2) ns vs) := ⟨hln, a2, cap2, rfl, hcpe, hcpe2, hae⟩
  have hbk : (Co.node kd nm0 n0 fr ty es ns vs).bulk = nm0.size + (fr.size - 1) + (ty.size - 1) + Co.bulks es + (txs ns + Co.bulks vs) := rfl
  have hlen : es.length ≤ 1048576 := by have := Co.length_le es; omega
  have hlen2 : vs.length ≤ 1048576 := by have := Co.length_le vs; omega
  have HNS : Hid (nm0.size ≤ 9223372036854775807) := by show _ ≤ _; omega
  have HFZ : Hid (fr.size ≤ 1048577) := by show _ ≤ _; omega
  have HTZ : Hid (ty.size ≤ 1048577) := by show _ ≤ _; omega
  have HFR := Lib.hid hfr
  have HTY := Lib.hid hty
  have HLN := Lib.hid hln
  have HTB := Lib.hid htab
  clear hat hae hfr hty hln hbk hsz htab
  have HM := Lib.hid (coNode_eq kd nm0 n0 fr ty es.length ns)
  obtain ⟨m, hm⟩ : ∃ m, m = coNodeB kd nm0 n0 fr ty es.length ns := ⟨_, rfl⟩
  rw [← hm] at HM ⊢
  clear hm
  have K0 := Lib.hid k0
  have K1 := Lib.hid k1
  have K2 := Lib.hid k2
  have K3 := Lib.hid k3
  have K4 := Lib.hid k4
  have K5 := Lib.hid k5
  have K6 := Lib.hid k6
  have K7 := Lib.hid k7
  have K8 := Lib.hid k8
  clear k0 k1 k2 k3 k4 k5 k6 k7 k8
  have C1 : ∀ q : Grown w.heap.size w, Calls Tryd.prog 134 #[.int .i64 kd] q.val fun e w' => e = .returned (.int .i64 (coArity kd)) ∧ Below q.val.heap.size q.val w' := fun q => implCoArity _ _ (HTB.out.1.below q.old)
  have C2 : ∀ q : Grown w.heap.size w, Calls Tryd.prog 135 #[.int .i64 kd, .int .i64 n0] q.val fun e w' => e = .returned (.bool (coNumFor kd n0)) ∧ Below q.val.heap.size q.val w' := fun q => implCoNum _ _ _
  obtain ⟨r, hr⟩ : ∃ r, r = coArity kd := ⟨_, rfl⟩
  obtain ⟨bu, hbu⟩ : ∃ b, b = coNumFor kd n0 := ⟨_, rfl⟩
  rw [← hr] at C1 HM
  rw [← hbu] at C2 HM
  have HR := Lib.hid hr
  clear hr hbu
  go_enter Tryd.func119, Tryd.ntmps119
  go_wp2_with fail
  have HB0 : Hid (Below w.heap.size w w) := Below.refl _ _
  have g0 : ∀ q : Grown w.heap.size w, q.val.cell? ⟨pb, po, none⟩ = some (.int .i64 kd) := fun q => (q.old.cell (p := ⟨pb, po, none⟩) (Nat.lt_of_lt_of_le hpl HB0.out.size)).trans ((HB0.out.cell (p := ⟨pb, po, none⟩) hpl).trans K0.out)
  have g1 : ∀ q : Grown w.heap.size w, q.val.cell? ⟨pb, po + 1, none⟩ = some (.string nm0) := fun q => (q.old.cell (p := ⟨pb, po + 1, none⟩) (Nat.lt_of_lt_of_le hpl HB0.out.size)).trans ((HB0.out.cell (p := ⟨pb, po + 1, none⟩) hpl).trans K1.out)
  have g2 : ∀ q : Grown w.heap.size w, q.val.cell? ⟨pb, po + 2, none⟩ = some (.int .i64 n0) := fun q => (q.old.cell (p := ⟨pb, po + 2, none⟩) (Nat.lt_of_lt_of_le hpl HB0.out.size)).trans ((HB0.out.cell (p := ⟨pb, po + 2, none⟩) hpl).trans K2.out)
  have g3 : ∀ q : Grown w.heap.size w, q.val.cell? ⟨pb, po + 3, none⟩ = some (.int .i64 fk) := fun q => (q.old.cell (p := ⟨pb, po + 3, none⟩) (Nat.lt_of_lt_of_le hpl HB0.out.size)).trans ((HB0.out.cell (p := ⟨pb, po + 3, none⟩) hpl).trans K3.out)
  have g4 : ∀ q : Grown w.heap.size w, q.val.cell? ⟨pb, po + 4, none⟩ = some (.slice fa fn fc) := fun q => (q.old.cell (p := ⟨pb, po + 4, none⟩) (Nat.lt_of_lt_of_le hpl HB0.out.size)).trans ((HB0.out.cell (p := ⟨pb, po + 4, none⟩) hpl).trans K4.out)
  have g5 : ∀ q : Grown w.heap.size w, q.val.cell? ⟨pb, po + 5, none⟩ = some (.int .i64 tk) := fun q => (q.old.cell (p := ⟨pb, po + 5, none⟩) (Nat.lt_of_lt_of_le hpl HB0.out.size)).trans ((HB0.out.cell (p := ⟨pb, po + 5, none⟩) hpl).trans K5.out)
  have g6 : ∀ q : Grown w.heap.size w, q.val.cell? ⟨pb, po + 6, none⟩ = some (.slice ta tn tc) := fun q => (q.old.cell (p := ⟨pb, po + 6, none⟩) (Nat.lt_of_lt_of_le hpl HB0.out.size)).trans ((HB0.out.cell (p := ⟨pb, po + 6, none⟩) hpl).trans K6.out)
  have g7 : ∀ q : Grown w.heap.size w, q.val.cell? ⟨pb, po + 7, none⟩ = some (.slice a es.length cap) := fun q => (q.old.cell (p := ⟨pb, po + 7, none⟩) (Nat.lt_of_lt_of_le hpl HB0.out.size)).trans ((HB0.out.cell (p := ⟨pb, po + 7, none⟩) hpl).trans K7.out)
  have g8 : ∀ q : Grown w.heap.size w, q.val.cell? ⟨pb, po + 8, none⟩ = some (.slice a2 vs.length cap2) := fun q => (q.old.cell (p := ⟨pb, po + 8, none⟩) (Nat.lt_of_lt_of_le hpl HB0.out.size)).trans ((HB0.out.cell (p := ⟨pb, po + 8, none⟩) hpl).trans K8.out)
  obtain ⟨bq, hbq⟩ : ∃ x, x = decide ((es.length : Int) = r) := ⟨_, rfl⟩
  rw [← hbq] at HM
  have HBQ := Lib.hid hbq; clear hbq
  obtain ⟨be, hbe⟩ : ∃ x, x = decide (nm0.size = 0) := ⟨_, rfl⟩
  rw [← hbe] at HM
  have HBE := Lib.hid hbe; clear hbe
  obtain ⟨bv, hbv⟩ : ∃ x, x = decide (ns.length = 0) := ⟨_, rfl⟩
  rw [← hbv] at HM
  have HBV := Lib.hid hbv; clear hbv
  obtain ⟨bo, hbo⟩ : ∃ x, x = ownNames [] ns := ⟨_, rfl⟩
  rw [← hbo] at HM
  have HBO := Lib.hid hbo; clear hbo
  cases bq
  case false =>
    have qa : ¬ ((es.length : Int) = r) := of_decide_eq_false HBQ.out.symm
    have qb : ((es.length : Int) == r) = false := by simp [qa]
    have qc : ((es.length : Int) != r) = true := by simp [qa]
    refine wp_region_grown w.heap.size (by kernel_rfl) (by kernel_rfl) ?_
    repeat (go_big_quiet_step ((first | (go_at_call 134; exact grown_of (Nat.le_refl _) (C1 _)) | (go_at_call 135; exact grown_of (Nat.le_refl _) (C2 _)))))
    refine wpQuiet_nil ?_
    rintro w9 ⟨⟨wq, hq⟩, rfl⟩
    go_wp2_with fail
    go_ret
    exact ⟨by rw [HM.out]; rfl, hq⟩
  case true =>
    have qa : (es.length : Int) = r := of_decide_eq_true HBQ.out.symm
    have qb : ((es.length : Int) == r) = true := by simp [qa]
    have qc : ((es.length : Int) != r) = false := by simp [qa]
    cases bu
    case false =>
      refine wp_region_grown w.heap.size (by kernel_rfl) (by kernel_rfl) ?_
      repeat (go_big_quiet_step ((first | (go_at_call 134; exact grown_of (Nat.le_refl _) (C1 _)) | (go_at_call 135; exact grown_of (Nat.le_refl _) (C2 _)))))
      refine wpQuiet_nil ?_
      rintro w9 ⟨⟨wq, hq⟩, rfl⟩
      go_wp2_with fail
      go_ret
      exact ⟨by rw [HM.out]; rfl, hq⟩
    refine wp_region_grown w.heap.size (by kernel_rfl) (by kernel_rfl) ?_
    repeat (go_big_quiet_step ((first | (go_at_call 134; exact grown_of (Nat.le_refl _) (C1 _)) | (go_at_call 135; exact grown_of (Nat.le_refl _) (C2 _)))))
    refine wpQuiet_nil ?_
    rintro w9 ⟨⟨wq, hq⟩, rfl⟩
    have HQ := Lib.hid hq
    clear hq g0 g1 g2 g3 g4 g5 g6 g7 g8 C1 C2
    have hkd : 1 ≤ kd ∧ kd ≤ 15 := by
      have h1 := HR.out
      by_cases h : 1 ≤ kd ∧ kd ≤ 15
      · exact h
      · rw [coArity_out h] at h1; omega
    obtain ⟨k, hk⟩ : ∃ k : Nat, kd = (k : Int) := ⟨kd.toNat, by omega⟩
    subst hk
    have hk16 : k < 16 := by omega
    obtain ⟨t0, t1, t2, t3, t4⟩ := (HTB.out.below HQ.out).row hk16
    obtain ⟨ar, har⟩ : ∃ x, x = coTab.getD k 0 := ⟨_, rfl⟩
    rw [← har] at t0
    obtain ⟨bn, hbn⟩ : ∃ x, x = namedB k := ⟨_, rfl⟩
    rw [← hbn] at t1 HM
    obtain ⟨bb, hbb⟩ : ∃ x, x = boundB k := ⟨_, rfl⟩
    rw [← hbb] at t2 HM
    obtain ⟨bs, hbs⟩ : ∃ x, x = srcB k := ⟨_, rfl⟩
    rw [← hbs] at t3 HM
    obtain ⟨bt, hbt⟩ : ∃ x, x = tgtB k := ⟨_, rfl⟩
    rw [← hbt] at t4 HM
    clear har hbn hbb hbs hbt HR HTB
    have z0 := (HQ.out.cell (p := ⟨pb, po, none⟩) hpl).trans K0.out
    go_wp2_with fail
    obtain ⟨p9, hp9⟩ : ∃ p, p = w9.heap.size := ⟨_, rfl⟩
    obtain ⟨W, hW⟩ : ∃ W, W = w9.alloc (.cells #[.int .i64 ar, .bool bn, .bool bb, .bool bs, .bool bt] 149) := ⟨_, rfl⟩
    have BW : Hid (Below w.heap.size w W) := by rw [hW]; exact HQ.out.alloc HQ.out.size _
    have XF : Hid (BoxAt W p9 #[.int .i64 ar, .bool bn, .bool bb, .bool bs, .bool bt]) := by rw [hW, hp9]; exact BoxAt.new _ _ _
    rw [← hW, ← hp9]
    clear hW hp9 HQ t0 t1 t2 t3 t4 z0
    have HNB := Lib.hid (co_nameB_empty (s := nm0))
    have C3 : ∀ q : Grown W.heap.size W, Calls Tryd.prog 136 #[.string nm0] q.val fun e w' => e = .returned (.bool (nameB nm0)) ∧ Below q.val.heap.size q.val w' := fun q => implName _ _ HNS.out
    obtain ⟨bm, hbm⟩ : ∃ x, x = nameB nm0 := ⟨_, rfl⟩
    rw [← hbm] at C3 HM HNB
    clear hbm
    have g0 : ∀ q : Grown W.heap.size W, q.val.cell? ⟨pb, po, none⟩ = some (.int .i64 k) := fun q => (q.old.cell (p := ⟨pb, po, none⟩) (Nat.lt_of_lt_of_le hpl BW.out.size)).trans ((BW.out.cell (p := ⟨pb, po, none⟩) hpl).trans K0.out)
    have g1 : ∀ q : Grown W.heap.size W, q.val.cell? ⟨pb, po + 1, none⟩ = some (.string nm0) := fun q => (q.old.cell (p := ⟨pb, po + 1, none⟩) (Nat.lt_of_lt_of_le hpl BW.out.size)).trans ((BW.out.cell (p := ⟨pb, po + 1, none⟩) hpl).trans K1.out)
    have g2 : ∀ q : Grown W.heap.size W, q.val.cell? ⟨pb, po + 2, none⟩ = some (.int .i64 n0) := fun q => (q.old.cell (p := ⟨pb, po + 2, none⟩) (Nat.lt_of_lt_of_le hpl BW.out.size)).trans ((BW.out.cell (p := ⟨pb, po + 2, none⟩) hpl).trans K2.out)
    have g3 : ∀ q : Grown W.heap.size W, q.val.cell? ⟨pb, po + 3, none⟩ = some (.int .i64 fk) := fun q => (q.old.cell (p := ⟨pb, po + 3, none⟩) (Nat.lt_of_lt_of_le hpl BW.out.size)).trans ((BW.out.cell (p := ⟨pb, po + 3, none⟩) hpl).trans K3.out)
    have g4 : ∀ q : Grown W.heap.size W, q.val.cell? ⟨pb, po + 4, none⟩ = some (.slice fa fn fc) := fun q => (q.old.cell (p := ⟨pb, po + 4, none⟩) (Nat.lt_of_lt_of_le hpl BW.out.size)).trans ((BW.out.cell (p := ⟨pb, po + 4, none⟩) hpl).trans K4.out)
    have g5 : ∀ q : Grown W.heap.size W, q.val.cell? ⟨pb, po + 5, none⟩ = some (.int .i64 tk) := fun q => (q.old.cell (p := ⟨pb, po + 5, none⟩) (Nat.lt_of_lt_of_le hpl BW.out.size)).trans ((BW.out.cell (p := ⟨pb, po + 5, none⟩) hpl).trans K5.out)
    have g6 : ∀ q : Grown W.heap.size W, q.val.cell? ⟨pb, po + 6, none⟩ = some (.slice ta tn tc) := fun q => (q.old.cell (p := ⟨pb, po + 6, none⟩) (Nat.lt_of_lt_of_le hpl BW.out.size)).trans ((BW.out.cell (p := ⟨pb, po + 6, none⟩) hpl).trans K6.out)
    have g7 : ∀ q : Grown W.heap.size W, q.val.cell? ⟨pb, po + 7, none⟩ = some (.slice a es.length cap) := fun q => (q.old.cell (p := ⟨pb, po + 7, none⟩) (Nat.lt_of_lt_of_le hpl BW.out.size)).trans ((BW.out.cell (p := ⟨pb, po + 7, none⟩) hpl).trans K7.out)
    have g8 : ∀ q : Grown W.heap.size W, q.val.cell? ⟨pb, po + 8, none⟩ = some (.slice a2 vs.length cap2) := fun q => (q.old.cell (p := ⟨pb, po + 8, none⟩) (Nat.lt_of_lt_of_le hpl BW.out.size)).trans ((BW.out.cell (p := ⟨pb, po + 8, none⟩) hpl).trans K8.out)
    have f0 : ∀ q : Grown W.heap.size W, q.val.cell? ⟨p9, 0, none⟩ = _ := fun q => (XF.out.grown q).2 0
    have f1 : ∀ q : Grown W.heap.size W, q.val.cell? ⟨p9, 1, none⟩ = _ := fun q => (XF.out.grown q).2 1
    have f2 : ∀ q : Grown W.heap.size W, q.val.cell? ⟨p9, 2, none⟩ = _ := fun q => (XF.out.grown q).2 2
    have f3 : ∀ q : Grown W.heap.size W, q.val.cell? ⟨p9, 3, none⟩ = _ := fun q => (XF.out.grown q).2 3
    have f4 : ∀ q : Grown W.heap.size W, q.val.cell? ⟨p9, 4, none⟩ = _ := fun q => (XF.out.grown q).2 4
    cases be
    case true =>
      have NZ : nm0.size = 0 := of_decide_eq_true HBE.out.symm
      have e1 := co_text_zero NZ
      have hb0 := HNB.out NZ
      subst hb0
      cases bn
      case true =>
        refine wp_region_grown W.heap.size (by kernel_rfl) (by kernel_rfl) ?_
        repeat (go_big_quiet_step ((first | (go_at_call 136; exact grown_of (Nat.le_refl _) (C3 _)))))
        refine wpQuiet_nil ?_
        rintro w8 ⟨⟨wq, hq8⟩, rfl⟩
        go_wp2_with fail
        go_ret
        exact ⟨by rw [HM.out]; rfl, BW.out.trans (hq8.mono BW.out.size)⟩
      case false =>
        refine wp_region_grown W.heap.size (by kernel_rfl) (by kernel_rfl) ?_
        repeat (go_big_quiet_step ((first | (go_at_call 136; exact grown_of (Nat.le_refl _) (C3 _)))))
        refine wpQuiet_nil ?_
        rintro w8 ⟨⟨wq, hq8⟩, rfl⟩
        have BX := Lib.hid (BW.out.trans (hq8.mono BW.out.size))
        have XX := Lib.hid (XF.out.below hq8)
        clear hq8 g0 g1 g2 g3 g4 g5 g6 g7 g8 f0 f1 f2 f3 f4 C3 BW XF
        have z8 := (BX.out.cell (p := ⟨pb, po + 8, none⟩) hpl).trans K8.out
        have y2 := XX.out.2 2
        cases bb
        case true =>
          go_wp2_with fail
          refine (implOwnNames d _ ns vs _ (HEN.out.below BX.out) hlen2).mono ?_
          rintro e w6 ⟨rfl, hb6⟩
          have BY := Lib.hid (BX.out.trans (hb6.mono BX.out.size))
          have XY := Lib.hid (XX.out.below hb6)
          clear hb6 BX XX z8 y2
          rw [← HBO.out]
          cases bo
          case false =>
            go_wp2_with fail
            go_ret
            exact ⟨by rw [HM.out]; rfl, BY.out⟩
          case true =>
            have C5 : ∀ q : Grown w6.heap.size w6, Calls Tryd.prog 138 #[.bool bs, .agg #[.int .i64 fk, .slice fa fn fc]] q.val fun e w' => e = .returned (.bool (coTyFor bs fr)) ∧ Below q.val.heap.size q.val w' := fun q => implCoTyIf d _ _ fr _ (HFR.out.below (BY.out.trans (q.old.mono BY.out.size))) HFZ.out
            have C6 : ∀ q : Grown w6.heap.size w6, Calls Tryd.prog 138 #[.bool bt, .agg #[.int .i64 tk, .slice ta tn tc]] q.val fun e w' => e = .returned (.bool (coTyFor bt ty)) ∧ Below q.val.heap.size q.val w' := fun q => implCoTyIf d _ _ ty _ (HTY.out.below (BY.out.trans (q.old.mono BY.out.size))) HTZ.out
            obtain ⟨xf, hxf⟩ : ∃ x, x = coTyFor bs fr := ⟨_, rfl⟩
            rw [← hxf] at C5 HM
            obtain ⟨xt, hxt⟩ : ∃ x, x = coTyFor bt ty := ⟨_, rfl⟩
            rw [← hxt] at C6 HM
            clear hxf hxt
            go_wp2_with fail
            have g0 : ∀ q : Grown w6.heap.size w6, q.val.cell? ⟨pb, po, none⟩ = some (.int .i64 k) := fun q => (q.old.cell (p := ⟨pb, po, none⟩) (Nat.lt_of_lt_of_le hpl BY.out.size)).trans ((BY.out.cell (p := ⟨pb, po, none⟩) hpl).trans K0.out)
            have g1 : ∀ q : Grown w6.heap.size w6, q.val.cell? ⟨pb, po + 1, none⟩ = some (.string nm0) := fun q => (q.old.cell (p := ⟨pb, po + 1, none⟩) (Nat.lt_of_lt_of_le hpl BY.out.size)).trans ((BY.out.cell (p := ⟨pb, po + 1, none⟩) hpl).trans K1.out)
            have g2 : ∀ q : Grown w6.heap.size w6, q.val.cell? ⟨pb, po + 2, none⟩ = some (.int .i64 n0) := fun q => (q.old.cell (p := ⟨pb, po + 2, none⟩) (Nat.lt_of_lt_of_le hpl BY.out.size)).trans ((BY.out.cell (p := ⟨pb, po + 2, none⟩) hpl).trans K2.out)
            have g3 : ∀ q : Grown w6.heap.size w6, q.val.cell? ⟨pb, po + 3, none⟩ = some (.int .i64 fk) := fun q => (q.old.cell (p := ⟨pb, po + 3, none⟩) (Nat.lt_of_lt_of_le hpl BY.out.size)).trans ((BY.out.cell (p := ⟨pb, po + 3, none⟩) hpl).trans K3.out)
            have g4 : ∀ q : Grown w6.heap.size w6, q.val.cell? ⟨pb, po + 4, none⟩ = some (.slice fa fn fc) := fun q => (q.old.cell (p := ⟨pb, po + 4, none⟩) (Nat.lt_of_lt_of_le hpl BY.out.size)).trans ((BY.out.cell (p := ⟨pb, po + 4, none⟩) hpl).trans K4.out)
            have g5 : ∀ q : Grown w6.heap.size w6, q.val.cell? ⟨pb, po + 5, none⟩ = some (.int .i64 tk) := fun q => (q.old.cell (p := ⟨pb, po + 5, none⟩) (Nat.lt_of_lt_of_le hpl BY.out.size)).trans ((BY.out.cell (p := ⟨pb, po + 5, none⟩) hpl).trans K5.out)
            have g6 : ∀ q : Grown w6.heap.size w6, q.val.cell? ⟨pb, po + 6, none⟩ = some (.slice ta tn tc) := fun q => (q.old.cell (p := ⟨pb, po + 6, none⟩) (Nat.lt_of_lt_of_le hpl BY.out.size)).trans ((BY.out.cell (p := ⟨pb, po + 6, none⟩) hpl).trans K6.out)
            have g7 : ∀ q : Grown w6.heap.size w6, q.val.cell? ⟨pb, po + 7, none⟩ = some (.slice a es.length cap) := fun q => (q.old.cell (p := ⟨pb, po + 7, none⟩) (Nat.lt_of_lt_of_le hpl BY.out.size)).trans ((BY.out.cell (p := ⟨pb, po + 7, none⟩) hpl).trans K7.out)
            have g8 : ∀ q : Grown w6.heap.size w6, q.val.cell? ⟨pb, po + 8, none⟩ = some (.slice a2 vs.length cap2) := fun q => (q.old.cell (p := ⟨pb, po + 8, none⟩) (Nat.lt_of_lt_of_le hpl BY.out.size)).trans ((BY.out.cell (p := ⟨pb, po + 8, none⟩) hpl).trans K8.out)
            have f0 : ∀ q : Grown w6.heap.size w6, q.val.cell? ⟨p9, 0, none⟩ = _ := fun q => (XY.out.grown q).2 0
            have f1 : ∀ q : Grown w6.heap.size w6, q.val.cell? ⟨p9, 1, none⟩ = _ := fun q => (XY.out.grown q).2 1
            have f2 : ∀ q : Grown w6.heap.size w6, q.val.cell? ⟨p9, 2, none⟩ = _ := fun q => (XY.out.grown q).2 2
            have f3 : ∀ q : Grown w6.heap.size w6, q.val.cell? ⟨p9, 3, none⟩ = _ := fun q => (XY.out.grown q).2 3
            have f4 : ∀ q : Grown w6.heap.size w6, q.val.cell? ⟨p9, 4, none⟩ = _ := fun q => (XY.out.grown q).2 4
            cases xf
            case false =>
              refine wp_region_grown w6.heap.size (by kernel_rfl) (by kernel_rfl) ?_
              repeat (go_big_quiet_step ((first | (go_at_call_of 138 (Value.bool bs); exact grown_of (Nat.le_refl _) (C5 _)) | (go_at_call_of 138 (Value.bool bt); exact grown_of (Nat.le_refl _) (C6 _)))))
              refine wpQuiet_nil ?_
              rintro w7 ⟨⟨wq, hq7⟩, rfl⟩
              clear g0 g1 g2 g3 g4 g5 g6 g7 g8 f0 f1 f2 f3 f4 C5 C6
              go_wp2_with fail
              go_ret
              exact ⟨by rw [HM.out]; rfl, BY.out.trans (hq7.mono BY.out.size)⟩
            case true =>
              refine wp_region_grown w6.heap.size (by kernel_rfl) (by kernel_rfl) ?_
              repeat (go_big_quiet_step ((first | (go_at_call_of 138 (Value.bool bs); exact grown_of (Nat.le_refl _) (C5 _)) | (go_at_call_of 138 (Value.bool bt); exact grown_of (Nat.le_refl _) (C6 _)))))
              refine wpQuiet_nil ?_
              rintro w7 ⟨⟨wq, hq7⟩, rfl⟩
              clear g0 g1 g2 g3 g4 g5 g6 g7 g8 f0 f1 f2 f3 f4 C5 C6
              go_wp2_with fail
              go_ret
              exact ⟨by rw [HM.out]; rfl, BY.out.trans (hq7.mono BY.out.size)⟩
        case false =>
          cases bv
          case true =>
            have hv : vs.length = 0 := by have h1 := of_decide_eq_true HBV.out.symm; have h2 := HLN.out; omega
            have hen0 := HEN.out
            rw [hv] at z8 hen0
            have HEN0 := Lib.hid hen0
            clear hv hen0
            go_wp2_with fail
            refine (implOwnNames d _ ns vs _ (HEN0.out.below BX.out) hlen2).mono ?_
            rintro e w6 ⟨rfl, hb6⟩
            have BY := Lib.hid (BX.out.trans (hb6.mono BX.out.size))
            have XY := Lib.hid (XX.out.below hb6)
            clear hb6 BX XX z8 y2
            rw [← HBO.out]
            cases bo
            case false =>
              go_wp2_with fail
              go_ret
              exact ⟨by rw [HM.out]; rfl, BY.out⟩
            case true =>
              have C5 : ∀ q : Grown w6.heap.size w6, Calls Tryd.prog 138 #[.bool bs, .agg #[.int .i64 fk, .slice fa fn fc]] q.val fun e w' => e = .returned (.bool (coTyFor bs fr)) ∧ Below q.val.heap.size q.val w' := fun q => implCoTyIf d _ _ fr _ (HFR.out.below (BY.out.trans (q.old.mono BY.out.size))) HFZ.out
              have C6 : ∀ q : Grown w6.heap.size w6, Calls Tryd.prog 138 #[.bool bt, .agg #[.int .i64 tk, .slice ta tn tc]] q.val fun e w' => e = .returned (.bool (coTyFor bt ty)) ∧ Below q.val.heap.size q.val w' := fun q => implCoTyIf d _ _ ty _ (HTY.out.below (BY.out.trans (q.old.mono BY.out.size))) HTZ.out
              obtain ⟨xf, hxf⟩ : ∃ x, x = coTyFor bs fr := ⟨_, rfl⟩
              rw [← hxf] at C5 HM
              obtain ⟨xt, hxt⟩ : ∃ x, x = coTyFor bt ty := ⟨_, rfl⟩
              rw [← hxt] at C6 HM
              clear hxf hxt
              go_wp2_with fail
              have g0 : ∀ q : Grown w6.heap.size w6, q.val.cell? ⟨pb, po, none⟩ = some (.int .i64 k) := fun q => (q.old.cell (p := ⟨pb, po, none⟩) (Nat.lt_of_lt_of_le hpl BY.out.size)).trans ((BY.out.cell (p := ⟨pb, po, none⟩) hpl).trans K0.out)
              have g1 : ∀ q : Grown w6.heap.size w6, q.val.cell? ⟨pb, po + 1, none⟩ = some (.string nm0) := fun q => (q.old.cell (p := ⟨pb, po + 1, none⟩) (Nat.lt_of_lt_of_le hpl BY.out.size)).trans ((BY.out.cell (p := ⟨pb, po + 1, none⟩) hpl).trans K1.out)
              have g2 : ∀ q : Grown w6.heap.size w6, q.val.cell? ⟨pb, po + 2, none⟩ = some (.int .i64 n0) := fun q => (q.old.cell (p := ⟨pb, po + 2, none⟩) (Nat.lt_of_lt_of_le hpl BY.out.size)).trans ((BY.out.cell (p := ⟨pb, po + 2, none⟩) hpl).trans K2.out)
              have g3 : ∀ q : Grown w6.heap.size w6, q.val.cell? ⟨pb, po + 3, none⟩ = some (.int .i64 fk) := fun q => (q.old.cell (p := ⟨pb, po + 3, none⟩) (Nat.lt_of_lt_of_le hpl BY.out.size)).trans ((BY.out.cell (p := ⟨pb, po + 3, none⟩) hpl).trans K3.out)
              have g4 : ∀ q : Grown w6.heap.size w6, q.val.cell? ⟨pb, po + 4, none⟩ = some (.slice fa fn fc) := fun q => (q.old.cell (p := ⟨pb, po + 4, none⟩) (Nat.lt_of_lt_of_le hpl BY.out.size)).trans ((BY.out.cell (p := ⟨pb, po + 4, none⟩) hpl).trans K4.out)
              have g5 : ∀ q : Grown w6.heap.size w6, q.val.cell? ⟨pb, po + 5, none⟩ = some (.int .i64 tk) := fun q => (q.old.cell (p := ⟨pb, po + 5, none⟩) (Nat.lt_of_lt_of_le hpl BY.out.size)).trans ((BY.out.cell (p := ⟨pb, po + 5, none⟩) hpl).trans K5.out)
              have g6 : ∀ q : Grown w6.heap.size w6, q.val.cell? ⟨pb, po + 6, none⟩ = some (.slice ta tn tc) := fun q => (q.old.cell (p := ⟨pb, po + 6, none⟩) (Nat.lt_of_lt_of_le hpl BY.out.size)).trans ((BY.out.cell (p := ⟨pb, po + 6, none⟩) hpl).trans K6.out)
              have g7 : ∀ q : Grown w6.heap.size w6, q.val.cell? ⟨pb, po + 7, none⟩ = some (.slice a es.length cap) := fun q => (q.old.cell (p := ⟨pb, po + 7, none⟩) (Nat.lt_of_lt_of_le hpl BY.out.size)).trans ((BY.out.cell (p := ⟨pb, po + 7, none⟩) hpl).trans K7.out)
              have g8 : ∀ q : Grown w6.heap.size w6, q.val.cell? ⟨pb, po + 8, none⟩ = some (.slice a2 vs.length cap2) := fun q => (q.old.cell (p := ⟨pb, po + 8, none⟩) (Nat.lt_of_lt_of_le hpl BY.out.size)).trans ((BY.out.cell (p := ⟨pb, po + 8, none⟩) hpl).trans K8.out)
              have f0 : ∀ q : Grown w6.heap.size w6, q.val.cell? ⟨p9, 0, none⟩ = _ := fun q => (XY.out.grown q).2 0
              have f1 : ∀ q : Grown w6.heap.size w6, q.val.cell? ⟨p9, 1, none⟩ = _ := fun q => (XY.out.grown q).2 1
              have f2 : ∀ q : Grown w6.heap.size w6, q.val.cell? ⟨p9, 2, none⟩ = _ := fun q => (XY.out.grown q).2 2
              have f3 : ∀ q : Grown w6.heap.size w6, q.val.cell? ⟨p9, 3, none⟩ = _ := fun q => (XY.out.grown q).2 3
              have f4 : ∀ q : Grown w6.heap.size w6, q.val.cell? ⟨p9, 4, none⟩ = _ := fun q => (XY.out.grown q).2 4
              cases xf
              case false =>
                refine wp_region_grown w6.heap.size (by kernel_rfl) (by kernel_rfl) ?_
                repeat (go_big_quiet_step ((first | (go_at_call_of 138 (Value.bool bs); exact grown_of (Nat.le_refl _) (C5 _)) | (go_at_call_of 138 (Value.bool bt); exact grown_of (Nat.le_refl _) (C6 _)))))
                refine wpQuiet_nil ?_
                rintro w7 ⟨⟨wq, hq7⟩, rfl⟩
                clear g0 g1 g2 g3 g4 g5 g6 g7 g8 f0 f1 f2 f3 f4 C5 C6
                go_wp2_with fail
                go_ret
                exact ⟨by rw [HM.out]; rfl, BY.out.trans (hq7.mono BY.out.size)⟩
              case true =>
                refine wp_region_grown w6.heap.size (by kernel_rfl) (by kernel_rfl) ?_
                repeat (go_big_quiet_step ((first | (go_at_call_of 138 (Value.bool bs); exact grown_of (Nat.le_refl _) (C5 _)) | (go_at_call_of 138 (Value.bool bt); exact grown_of (Nat.le_refl _) (C6 _)))))
                refine wpQuiet_nil ?_
                rintro w7 ⟨⟨wq, hq7⟩, rfl⟩
                clear g0 g1 g2 g3 g4 g5 g6 g7 g8 f0 f1 f2 f3 f4 C5 C6
                go_wp2_with fail
                go_ret
                exact ⟨by rw [HM.out]; rfl, BY.out.trans (hq7.mono BY.out.size)⟩
          case false =>
            have hp : 0 < vs.length := by have h1 := of_decide_eq_false HBV.out.symm; have h2 := HLN.out; omega
            go_wp2_with fail
            go_ret
            exact ⟨by rw [HM.out]; rfl, BX.out⟩
    case false =>
      have NZ : ¬ (nm0.size = 0) := of_decide_eq_false HBE.out.symm
      have e1 := toList_some (s := nm0) (by omega)
      cases bn
      case false =>
        refine wp_region_grown W.heap.size (by kernel_rfl) (by kernel_rfl) ?_
        repeat (go_big_quiet_step ((first | (go_at_call 136; exact grown_of (Nat.le_refl _) (C3 _)))))
        refine wpQuiet_nil ?_
        rintro w8 ⟨⟨wq, hq8⟩, rfl⟩
        go_wp2_with fail
        go_ret
        exact ⟨by rw [HM.out]; rfl, BW.out.trans (hq8.mono BW.out.size)⟩
      case true =>
        cases bm
        case false =>
          refine wp_region_grown W.heap.size (by kernel_rfl) (by kernel_rfl) ?_
          repeat (go_big_quiet_step ((first | (go_at_call 136; exact grown_of (Nat.le_refl _) (C3 _)))))
          refine wpQuiet_nil ?_
          rintro w8 ⟨⟨wq, hq8⟩, rfl⟩
          go_wp2_with fail
          go_ret
          exact ⟨by rw [HM.out]; rfl, BW.out.trans (hq8.mono BW.out.size)⟩
        case true =>
          refine wp_region_grown W.heap.size (by kernel_rfl) (by kernel_rfl) ?_
          repeat (go_big_quiet_step ((first | (go_at_call 136; exact grown_of (Nat.le_refl _) (C3 _)))))
          refine wpQuiet_nil ?_
          rintro w8 ⟨⟨wq, hq8⟩, rfl⟩
          have BX := Lib.hid (BW.out.trans (hq8.mono BW.out.size))
          have XX := Lib.hid (XF.out.below hq8)
          clear hq8 g0 g1 g2 g3 g4 g5 g6 g7 g8 f0 f1 f2 f3 f4 C3 BW XF
          have z8 := (BX.out.cell (p := ⟨pb, po + 8, none⟩) hpl).trans K8.out
          have y2 := XX.out.2 2
          cases bb
          case true =>
            go_wp2_with fail
            refine (implOwnNames d _ ns vs _ (HEN.out.below BX.out) hlen2).mono ?_
            rintro e w6 ⟨rfl, hb6⟩
            have BY := Lib.hid (BX.out.trans (hb6.mono BX.out.size))
            have XY := Lib.hid (XX.out.below hb6)
            clear hb6 BX XX z8 y2
            rw [← HBO.out]
            cases bo
            case false =>
              go_wp2_with fail
              go_ret
              exact ⟨by rw [HM.out]; rfl, BY.out⟩
            case true =>
              have C5 : ∀ q : Grown w6.heap.size w6, Calls Tryd.prog 138 #[.bool bs, .agg #[.int .i64 fk, .slice fa fn fc]] q.val fun e w' => e = .returned (.bool (coTyFor bs fr)) ∧ Below q.val.heap.size q.val w' := fun q => implCoTyIf d _ _ fr _ (HFR.out.below (BY.out.trans (q.old.mono BY.out.size))) HFZ.out
              have C6 : ∀ q : Grown w6.heap.size w6, Calls Tryd.prog 138 #[.bool bt, .agg #[.int .i64 tk, .slice ta tn tc]] q.val fun e w' => e = .returned (.bool (coTyFor bt ty)) ∧ Below q.val.heap.size q.val w' := fun q => implCoTyIf d _ _ ty _ (HTY.out.below (BY.out.trans (q.old.mono BY.out.size))) HTZ.out
              obtain ⟨xf, hxf⟩ : ∃ x, x = coTyFor bs fr := ⟨_, rfl⟩
              rw [← hxf] at C5 HM
              obtain ⟨xt, hxt⟩ : ∃ x, x = coTyFor bt ty := ⟨_, rfl⟩
              rw [← hxt] at C6 HM
              clear hxf hxt
              go_wp2_with fail
              have g0 : ∀ q : Grown w6.heap.size w6, q.val.cell? ⟨pb, po, none⟩ = some (.int .i64 k) := fun q => (q.old.cell (p := ⟨pb, po, none⟩) (Nat.lt_of_lt_of_le hpl BY.out.size)).trans ((BY.out.cell (p := ⟨pb, po, none⟩) hpl).trans K0.out)
              have g1 : ∀ q : Grown w6.heap.size w6, q.val.cell? ⟨pb, po + 1, none⟩ = some (.string nm0) := fun q => (q.old.cell (p := ⟨pb, po + 1, none⟩) (Nat.lt_of_lt_of_le hpl BY.out.size)).trans ((BY.out.cell (p := ⟨pb, po + 1, none⟩) hpl).trans K1.out)
              have g2 : ∀ q : Grown w6.heap.size w6, q.val.cell? ⟨pb, po + 2, none⟩ = some (.int .i64 n0) := fun q => (q.old.cell (p := ⟨pb, po + 2, none⟩) (Nat.lt_of_lt_of_le hpl BY.out.size)).trans ((BY.out.cell (p := ⟨pb, po + 2, none⟩) hpl).trans K2.out)
              have g3 : ∀ q : Grown w6.heap.size w6, q.val.cell? ⟨pb, po + 3, none⟩ = some (.int .i64 fk) := fun q => (q.old.cell (p := ⟨pb, po + 3, none⟩) (Nat.lt_of_lt_of_le hpl BY.out.size)).trans ((BY.out.cell (p := ⟨pb, po + 3, none⟩) hpl).trans K3.out)
              have g4 : ∀ q : Grown w6.heap.size w6, q.val.cell? ⟨pb, po + 4, none⟩ = some (.slice fa fn fc) := fun q => (q.old.cell (p := ⟨pb, po + 4, none⟩) (Nat.lt_of_lt_of_le hpl BY.out.size)).trans ((BY.out.cell (p := ⟨pb, po + 4, none⟩) hpl).trans K4.out)
              have g5 : ∀ q : Grown w6.heap.size w6, q.val.cell? ⟨pb, po + 5, none⟩ = some (.int .i64 tk) := fun q => (q.old.cell (p := ⟨pb, po + 5, none⟩) (Nat.lt_of_lt_of_le hpl BY.out.size)).trans ((BY.out.cell (p := ⟨pb, po + 5, none⟩) hpl).trans K5.out)
              have g6 : ∀ q : Grown w6.heap.size w6, q.val.cell? ⟨pb, po + 6, none⟩ = some (.slice ta tn tc) := fun q => (q.old.cell (p := ⟨pb, po + 6, none⟩) (Nat.lt_of_lt_of_le hpl BY.out.size)).trans ((BY.out.cell (p := ⟨pb, po + 6, none⟩) hpl).trans K6.out)
              have g7 : ∀ q : Grown w6.heap.size w6, q.val.cell? ⟨pb, po + 7, none⟩ = some (.slice a es.length cap) := fun q => (q.old.cell (p := ⟨pb, po + 7, none⟩) (Nat.lt_of_lt_of_le hpl BY.out.size)).trans ((BY.out.cell (p := ⟨pb, po + 7, none⟩) hpl).trans K7.out)
              have g8 : ∀ q : Grown w6.heap.size w6, q.val.cell? ⟨pb, po + 8, none⟩ = some (.slice a2 vs.length cap2) := fun q => (q.old.cell (p := ⟨pb, po + 8, none⟩) (Nat.lt_of_lt_of_le hpl BY.out.size)).trans ((BY.out.cell (p := ⟨pb, po + 8, none⟩) hpl).trans K8.out)
              have f0 : ∀ q : Grown w6.heap.size w6, q.val.cell? ⟨p9, 0, none⟩ = _ := fun q => (XY.out.grown q).2 0
              have f1 : ∀ q : Grown w6.heap.size w6, q.val.cell? ⟨p9, 1, none⟩ = _ := fun q => (XY.out.grown q).2 1
              have f2 : ∀ q : Grown w6.heap.size w6, q.val.cell? ⟨p9, 2, none⟩ = _ := fun q => (XY.out.grown q).2 2
              have f3 : ∀ q : Grown w6.heap.size w6, q.val.cell? ⟨p9, 3, none⟩ = _ := fun q => (XY.out.grown q).2 3
              have f4 : ∀ q : Grown w6.heap.size w6, q.val.cell? ⟨p9, 4, none⟩ = _ := fun q => (XY.out.grown q).2 4
              cases xf
              case false =>
                refine wp_region_grown w6.heap.size (by kernel_rfl) (by kernel_rfl) ?_
                repeat (go_big_quiet_step ((first | (go_at_call_of 138 (Value.bool bs); exact grown_of (Nat.le_refl _) (C5 _)) | (go_at_call_of 138 (Value.bool bt); exact grown_of (Nat.le_refl _) (C6 _)))))
                refine wpQuiet_nil ?_
                rintro w7 ⟨⟨wq, hq7⟩, rfl⟩
                clear g0 g1 g2 g3 g4 g5 g6 g7 g8 f0 f1 f2 f3 f4 C5 C6
                go_wp2_with fail
                go_ret
                exact ⟨by rw [HM.out]; rfl, BY.out.trans (hq7.mono BY.out.size)⟩
              case true =>
                refine wp_region_grown w6.heap.size (by kernel_rfl) (by kernel_rfl) ?_
                repeat (go_big_quiet_step ((first | (go_at_call_of 138 (Value.bool bs); exact grown_of (Nat.le_refl _) (C5 _)) | (go_at_call_of 138 (Value.bool bt); exact grown_of (Nat.le_refl _) (C6 _)))))
                refine wpQuiet_nil ?_
                rintro w7 ⟨⟨wq, hq7⟩, rfl⟩
                clear g0 g1 g2 g3 g4 g5 g6 g7 g8 f0 f1 f2 f3 f4 C5 C6
                go_wp2_with fail
                go_ret
                exact ⟨by rw [HM.out]; rfl, BY.out.trans (hq7.mono BY.out.size)⟩
          case false =>
            cases bv
            case true =>
              have hv : vs.length = 0 := by have h1 := of_decide_eq_true HBV.out.symm; have h2 := HLN.out; omega
              have hen0 := HEN.out
              rw [hv] at z8 hen0
              have HEN0 := Lib.hid hen0
              clear hv hen0
              go_wp2_with fail
              refine (implOwnNames d _ ns vs _ (HEN0.out.below BX.out) hlen2).mono ?_
              rintro e w6 ⟨rfl, hb6⟩
              have BY := Lib.hid (BX.out.trans (hb6.mono BX.out.size))
              have XY := Lib.hid (XX.out.below hb6)
              clear hb6 BX XX z8 y2
              rw [← HBO.out]
              cases bo
              case false =>
                go_wp2_with fail
                go_ret
                exact ⟨by rw [HM.out]; rfl, BY.out⟩
              case true =>
                have C5 : ∀ q : Grown w6.heap.size w6, Calls Tryd.prog 138 #[.bool bs, .agg #[.int .i64 fk, .slice fa fn fc]] q.val fun e w' => e = .returned (.bool (coTyFor bs fr)) ∧ Below q.val.heap.size q.val w' := fun q => implCoTyIf d _ _ fr _ (HFR.out.below (BY.out.trans (q.old.mono BY.out.size))) HFZ.out
                have C6 : ∀ q : Grown w6.heap.size w6, Calls Tryd.prog 138 #[.bool bt, .agg #[.int .i64 tk, .slice ta tn tc]] q.val fun e w' => e = .returned (.bool (coTyFor bt ty)) ∧ Below q.val.heap.size q.val w' := fun q => implCoTyIf d _ _ ty _ (HTY.out.below (BY.out.trans (q.old.mono BY.out.size))) HTZ.out
                obtain ⟨xf, hxf⟩ : ∃ x, x = coTyFor bs fr := ⟨_, rfl⟩
                rw [← hxf] at C5 HM
                obtain ⟨xt, hxt⟩ : ∃ x, x = coTyFor bt ty := ⟨_, rfl⟩
                rw [← hxt] at C6 HM
                clear hxf hxt
                go_wp2_with fail
                have g0 : ∀ q : Grown w6.heap.size w6, q.val.cell? ⟨pb, po, none⟩ = some (.int .i64 k) := fun q => (q.old.cell (p := ⟨pb, po, none⟩) (Nat.lt_of_lt_of_le hpl BY.out.size)).trans ((BY.out.cell (p := ⟨pb, po, none⟩) hpl).trans K0.out)
                have g1 : ∀ q : Grown w6.heap.size w6, q.val.cell? ⟨pb, po + 1, none⟩ = some (.string nm0) := fun q => (q.old.cell (p := ⟨pb, po + 1, none⟩) (Nat.lt_of_lt_of_le hpl BY.out.size)).trans ((BY.out.cell (p := ⟨pb, po + 1, none⟩) hpl).trans K1.out)
                have g2 : ∀ q : Grown w6.heap.size w6, q.val.cell? ⟨pb, po + 2, none⟩ = some (.int .i64 n0) := fun q => (q.old.cell (p := ⟨pb, po + 2, none⟩) (Nat.lt_of_lt_of_le hpl BY.out.size)).trans ((BY.out.cell (p := ⟨pb, po + 2, none⟩) hpl).trans K2.out)
                have g3 : ∀ q : Grown w6.heap.size w6, q.val.cell? ⟨pb, po + 3, none⟩ = some (.int .i64 fk) := fun q => (q.old.cell (p := ⟨pb, po + 3, none⟩) (Nat.lt_of_lt_of_le hpl BY.out.size)).trans ((BY.out.cell (p := ⟨pb, po + 3, none⟩) hpl).trans K3.out)
                have g4 : ∀ q : Grown w6.heap.size w6, q.val.cell? ⟨pb, po + 4, none⟩ = some (.slice fa fn fc) := fun q => (q.old.cell (p := ⟨pb, po + 4, none⟩) (Nat.lt_of_lt_of_le hpl BY.out.size)).trans ((BY.out.cell (p := ⟨pb, po + 4, none⟩) hpl).trans K4.out)
                have g5 : ∀ q : Grown w6.heap.size w6, q.val.cell? ⟨pb, po + 5, none⟩ = some (.int .i64 tk) := fun q => (q.old.cell (p := ⟨pb, po + 5, none⟩) (Nat.lt_of_lt_of_le hpl BY.out.size)).trans ((BY.out.cell (p := ⟨pb, po + 5, none⟩) hpl).trans K5.out)
                have g6 : ∀ q : Grown w6.heap.size w6, q.val.cell? ⟨pb, po + 6, none⟩ = some (.slice ta tn tc) := fun q => (q.old.cell (p := ⟨pb, po + 6, none⟩) (Nat.lt_of_lt_of_le hpl BY.out.size)).trans ((BY.out.cell (p := ⟨pb, po + 6, none⟩) hpl).trans K6.out)
                have g7 : ∀ q : Grown w6.heap.size w6, q.val.cell? ⟨pb, po + 7, none⟩ = some (.slice a es.length cap) := fun q => (q.old.cell (p := ⟨pb, po + 7, none⟩) (Nat.lt_of_lt_of_le hpl BY.out.size)).trans ((BY.out.cell (p := ⟨pb, po + 7, none⟩) hpl).trans K7.out)
                have g8 : ∀ q : Grown w6.heap.size w6, q.val.cell? ⟨pb, po + 8, none⟩ = some (.slice a2 vs.length cap2) := fun q => (q.old.cell (p := ⟨pb, po + 8, none⟩) (Nat.lt_of_lt_of_le hpl BY.out.size)).trans ((BY.out.cell (p := ⟨pb, po + 8, none⟩) hpl).trans K8.out)
                have f0 : ∀ q : Grown w6.heap.size w6, q.val.cell? ⟨p9, 0, none⟩ = _ := fun q => (XY.out.grown q).2 0
                have f1 : ∀ q : Grown w6.heap.size w6, q.val.cell? ⟨p9, 1, none⟩ = _ := fun q => (XY.out.grown q).2 1
                have f2 : ∀ q : Grown w6.heap.size w6, q.val.cell? ⟨p9, 2, none⟩ = _ := fun q => (XY.out.grown q).2 2
                have f3 : ∀ q : Grown w6.heap.size w6, q.val.cell? ⟨p9, 3, none⟩ = _ := fun q => (XY.out.grown q).2 3
                have f4 : ∀ q : Grown w6.heap.size w6, q.val.cell? ⟨p9, 4, none⟩ = _ := fun q => (XY.out.grown q).2 4
                cases xf
                case false =>
                  refine wp_region_grown w6.heap.size (by kernel_rfl) (by kernel_rfl) ?_
                  repeat (go_big_quiet_step ((first | (go_at_call_of 138 (Value.bool bs); exact grown_of (Nat.le_refl _) (C5 _)) | (go_at_call_of 138 (Value.bool bt); exact grown_of (Nat.le_refl _) (C6 _)))))
                  refine wpQuiet_nil ?_
                  rintro w7 ⟨⟨wq, hq7⟩, rfl⟩
                  clear g0 g1 g2 g3 g4 g5 g6 g7 g8 f0 f1 f2 f3 f4 C5 C6
                  go_wp2_with fail
                  go_ret
                  exact ⟨by rw [HM.out]; rfl, BY.out.trans (hq7.mono BY.out.size)⟩
                case true =>
                  refine wp_region_grown w6.heap.size (by kernel_rfl) (by kernel_rfl) ?_
                  repeat (go_big_quiet_step ((first | (go_at_call_of 138 (Value.bool bs); exact grown_of (Nat.le_refl _) (C5 _)) | (go_at_call_of 138 (Value.bool bt); exact grown_of (Nat.le_refl _) (C6 _)))))
                  refine wpQuiet_nil ?_
                  rintro w7 ⟨⟨wq, hq7⟩, rfl⟩
                  clear g0 g1 g2 g3 g4 g5 g6 g7 g8 f0 f1 f2 f3 f4 C5 C6
                  go_wp2_with fail
                  go_ret
                  exact ⟨by rw [HM.out]; rfl, BY.out.trans (hq7.mono BY.out.size)⟩
            case false =>
              have hp : 0 < vs.length := by have h1 := of_decide_eq_false HBV.out.symm; have h2 := HLN.out; omega
              go_wp2_with fail
              go_ret
              exact ⟨by rw [HM.out]; rfl, BX.out⟩
end Go.Proofs.YtcohfbdhdngplaaDoor
namespace Go.Proofs.YtcohfbdhdngplaaDoor
open Go.RowKit

def cwithin (t : Co) (r : Int) : Bool := decide ((t.count : Int) ≤ r) && t.form
def CWEnd (p : Nat) (r : Int) (t : Co) (w : World) (e : Ending) (w' : World) : Prop :=
  ∃ r' : Int, e = .returned (.bool (cwithin t r)) ∧ Room p r' w w' ∧ (cwithin t r = true → r' = r - t.count)
theorem CWEnd.of {p : Nat} {r r' : Int} {t : Co} {w w' : World} {b : Bool} (hb : cwithin t r = b) (hr : Room p r' w w') (h : b = true → r' = r - t.count) : CWEnd p r t w (.returned (.bool b)) w' := by
  subst hb; exact ⟨r', rfl, hr, h⟩
theorem cwithin_true {t : Co} {r : Int} (h : cwithin t r = true) : (t.count : Int) ≤ r ∧ t.form = true := by
  simp only [cwithin, Bool.and_eq_true, decide_eq_true_eq] at h
  exact h
theorem cwithin_mk {t : Co} {r : Int} (h1 : (t.count : Int) ≤ r) (h3 : t.form = true) : cwithin t r = true := by
  simp only [cwithin, Bool.and_eq_true, decide_eq_true_eq]
  exact ⟨h1, h3⟩
theorem cwithin_not {t : Co} {r : Int} (h : ¬ ((t.count : Int) ≤ r ∧ t.form = true)) : cwithin t r = false := by
  cases hw : cwithin t r with
  | false => rfl
  | true => exact absurd (cwithin_true hw) h
theorem coform_parts {kd : Int} {nm : ByteArray} {n : Int} {fr ty : Ty} {es : List Co} {ns : List ByteArray} {vs : List Co} : (Co.node kd nm n fr ty es ns vs).form = true ↔ Co.forms es = true ∧ coNodeB kd nm n fr ty es.length ns = true ∧ Co.forms vs = true := by
  simp only [Co.form, coNodeB, Bool.and_eq_true]
  constructor
  · rintro ⟨h1, h2, ⟨h3, h4, h5⟩, h6⟩; exact ⟨h1, ⟨h2, ⟨h3, h5⟩, h6⟩, h4⟩
  · rintro ⟨h1, ⟨h2, ⟨h3, h5⟩, h6⟩, h4⟩; exact ⟨h1, h2, ⟨h3, h4, h5⟩, h6⟩
set_option maxRecDepth 100000 in
set_option maxHeartbeats 8000000 in
theorem implCoWithin (w0 : World) (htab : CoreFull w0) : ∀ (d : Nat) (v : Value) (t : Co) (p : Nat) (r : Int) (w : World), PtrCo w0 d v t → Below w0.heap.size w0 w → w0.heap.size ≤ p → t.bulk ≤ 1048576 → p < w.heap.size → 0 ≤ r → r ≤ 1048576 → w.cell? ⟨p, 0, none⟩ = some (.int .i64 r) → w.frozen? ⟨p, 0, none⟩ = false → Calls Tryd.prog 96 #[v, .pointer (some ⟨p, 0, none⟩)] w (CWEnd p r t w)
  | 0, _, _, _, _, _, h, _, _, _, _, _, _, _, _ => by
    obtain ⟨_, _, _, _, _, _, _, _, _, _, _, _, _, _, _, _, _, _, _, _, _, _, h⟩ := h
    exact h.elim
  | d + 1, v, .node kd nm0 n0 fr ty es ns vs, p, r, w, h, hw0, hp0, hsz, hp, hr0, hr1, hcell, hfroz => by
    have IH : Hid (∀ (v : Value) (t : Co) (p : Nat) (r : Int) (w : World), PtrCo w0 d v t → Below w0.heap.size w0 w → w0.heap.size ≤ p → t.bulk ≤ 1048576 → p < w.heap.size → 0 ≤ r → r ≤ 1048576 → w.cell? ⟨p, 0, none⟩ = some (.int .i64 r) → w.frozen? ⟨p, 0, none⟩ = false → Calls Tryd.prog 96 #[v, .pointer (some ⟨p, 0, none⟩)] w (CWEnd p r t w)) := implCoWithin w0 htab d
    have HWH := Lib.hid h
    have HBK := Lib.hid hsz
    obtain ⟨pb, po, x0, x1, x2, x3, x4, x5, x6, x7, x8, rfl, hpl, k0, k1, k2, k3, k4, k5, k6, k7, k8, ht⟩ := h
    obtain ⟨c3, c4, c5, c6, sl, el, hv, hk0, hk1, hn0, hn1, hnm, hfr, hty, ⟨a, cap, rfl, hcap, hcap2, hat⟩, hln, a2, cap2, rfl, hcpe, hcpe2, hae⟩ := ht
    injection hv with hv
    injection hv with hv
    simp at hv
    obtain ⟨rfl, rfl, rfl, rfl, rfl, rfl, rfl, rfl, rfl⟩ := hv
    have HAT := Lib.hid hat; clear hat
    have HAE := Lib.hid hae; clear hae
    have HLN := Lib.hid hln; clear hln
    have hbk : (Co.node kd nm0 n0 fr ty es ns vs).bulk = nm0.size + (fr.size - 1) + (ty.size - 1) + Co.bulks es + (txs ns + Co.bulks vs) := rfl
    have HSZ : Hid (Co.bulks es + Co.bulks vs ≤ 1048576) := by show _ ≤ _; omega
    have hlen : es.length ≤ 1048576 := by have := Co.length_le es; omega
    have hlen2 : vs.length ≤ 1048576 := by have := Co.length_le vs; omega
    have HCT : Hid ((Co.node kd nm0 n0 fr ty es ns vs).count = 1 + Co.counts es + Co.counts vs) := by show _ = _; simp [Co.count]
    have K7 := Lib.hid k7
    have K8 := Lib.hid k8
    clear hsz hbk hfr hty k0 k1 k2 k3 k4 k5 k6 k7 k8
    have HW0 := Lib.hid hw0; clear hw0
    have HC0 := Lib.hid hcell
    have R1 := Lib.hid (Room.stored (r := r - 1) hp (Below.refl _ w) hcell hfroz)
    have HW1 : Hid (Below w0.heap.size w0 (w.setCell ⟨p, 0, none⟩ (.int .i64 (r - 1)))) := HW0.out.trans (R1.out.2.2.1.mono hp0)
    have hz1 : (w.setCell ⟨p, 0, none⟩ (.int .i64 (r - 1))).heap.size = w.heap.size := by simp
    by_cases hr : r < 1
    · have HNO : Hid (cwithin (.node kd nm0 n0 fr ty es ns vs) r = false) := cwithin_not (by rw [HCT.out]; omega)
      go_enter Tryd.func96, Tryd.ntmps96
      go_wp2_with fail
      go_ret
      exact CWEnd.of HNO.out R1.out (fun h => by cases h)
    go_enter Tryd.func96, Tryd.ntmps96
    go_wp2_with fail
    refine (implCoNode d _ kd nm0 n0 fr ty es ns vs _ (HWH.out.below HW1.out) HBK.out (htab.below HW1.out)).mono ?_
    rintro e w2 ⟨rfl, hb2⟩
    have R2 := Lib.hid (R1.out.below hp hb2)
    have HW2 : Hid (Below w0.heap.size w0 w2) := HW0.out.trans (R2.out.2.2.1.mono hp0)
    clear hb2 HW1 hcell hfroz
    have z7 : w2.cell? ⟨pb, po + 7, none⟩ = some (.slice a es.length cap) := (HW2.out.cell (p := ⟨pb, po + 7, none⟩) hpl).trans K7.out
    have z8 : w2.cell? ⟨pb, po + 8, none⟩ = some (.slice a2 vs.length cap2) := (HW2.out.cell (p := ⟨pb, po + 8, none⟩) hpl).trans K8.out
    cases hnode : coNodeB kd nm0 n0 fr ty es.length ns with
    | false =>
      have HNO : Hid (cwithin (.node kd nm0 n0 fr ty es ns vs) r = false) := cwithin_not (fun h => by have := (coform_parts.1 h.2).2.1; rw [hnode] at this; cases this)
      clear hnode
      go_wp2_with fail
      go_ret
      exact CWEnd.of HNO.out R2.out (fun h => by cases h)
    | true =>
      have HND := Lib.hid hnode; clear hnode
      go_wp2_with fail
      go_loopw [26] (fun i wr => ∃ k : Nat, k ≤ es.length ∧ i = .int .i64 k ∧ 0 ≤ r - 1 - (Co.counts (es.take k) : Int) ∧ Co.forms (es.take k) = true ∧ Room p (r - 1 - Co.counts (es.take k)) w wr) (fun i _ => es.length - (intOf i).toNat)
      case atStart => exact ⟨0, by omega, rfl, by simp [Co.counts]; omega, by simp [Co.forms], by simpa [Co.counts] using R2.out⟩
      case round =>
        obtain ⟨k, hk, rfl, hs, hf, hroom⟩ := hrel
        have HS := Lib.hid hs
        have HF := Lib.hid hf
        have HR := Lib.hid hroom
        clear hs hf hroom
        have HWR : Hid (Below w0.heap.size w0 wr) := HW0.out.trans (HR.out.2.2.1.mono hp0)
        have hzr : w.heap.size ≤ wr.heap.size := HR.out.2.2.1.size
        have HS2 := HSZ.out
        have z7 : wr.cell? ⟨pb, po + 7, none⟩ = some (.slice a es.length cap) := (HWR.out.cell (p := ⟨pb, po + 7, none⟩) hpl).trans K7.out
        have z8 : wr.cell? ⟨pb, po + 8, none⟩ = some (.slice a2 vs.length cap2) := (HWR.out.cell (p := ⟨pb, po + 8, none⟩) hpl).trans K8.out
        by_cases hlt : k < es.length
        · obtain ⟨b, off, x0, x1, x2, x3, x4, x5, x6, x7, x8, rfl, hbl, hc0, hc1, hc2, hc3, hc4, hc5, hc6, hc7, hc8, ht⟩ := HAT.out k hlt
          have HP : Hid (PtrCo w0 d (.pointer (some ⟨b, off + k * 9, none⟩)) es[k]) := ⟨b, off + k * 9, _, _, _, _, _, _, _, _, _, rfl, hbl, hc0, hc1, hc2, hc3, hc4, hc5, hc6, hc7, hc8, ht⟩
          clear ht hc0 hc1 hc2 hc3 hc4 hc5 hc6 hc7 hc8
          have hg := Co.bulk_get es k hlt
          have hs0 := HS.out
          have hcl : (Co.counts (es.take k) : Int) ≤ 1048576 := by have := Co.counts_part es k; omega
          go_wp2_with fail
          refine (IH.out _ es[k] p (r - 1 - Co.counts (es.take k)) wr HP.out HWR.out hp0 (by omega) (by omega) (by omega) (by omega) HR.out.1 HR.out.2.1).mono ?_
          rintro e w3 ⟨r3, rfl, hR3, h3⟩
          have HR3 := Lib.hid (HR.out.on hR3)
          have H3 := Lib.hid h3
          clear hR3 h3
          have HT2 := Lib.hid (Co.counts_take es k hlt)
          have HFT := Lib.hid (Co.forms_take es k hlt)
          cases hw : cwithin es[k] (r - 1 - Co.counts (es.take k)) with
          | false =>
            have HNO : Hid (cwithin (.node kd nm0 n0 fr ty es ns vs) r = false) := cwithin_not (fun h => by
              have hp3 := coform_parts.1 h.2
              have h1 := Co.forms_get es k hlt hp3.1
              have h2 := Co.counts_le_all es (k + 1)
              have h4 := h.1
              rw [HCT.out] at h4
              rw [HT2.out] at h2
              rw [cwithin_mk (by omega) h1] at hw; cases hw)
            clear hw
            go_wp2_with fail
            go_ret
            exact CWEnd.of HNO.out HR3.out (fun h => by cases h)
          | true =>
            obtain ⟨v1, v3⟩ := cwithin_true hw
            have hr3 := H3.out hw
            have HV1 := Lib.hid v1
            have HV3 := Lib.hid v3
            have HRR := Lib.hid hr3
            clear hw v1 v3 hr3
            go_wp2_with fail
            refine ⟨⟨k + 1, by omega, by go_num, ?_, ?_, ?_⟩, by simp [intOf]; omega⟩
            · have h1 := HV1.out; rw [HT2.out]; omega
            · rw [HFT.out, HF.out, HV3.out]; rfl
            · have h1 := HR3.out; rw [HRR.out] at h1; rw [HT2.out]; have e : r - 1 - (Co.counts (es.take k) : Int) - (es[k].count : Int) = r - 1 - ((Co.counts (es.take k) + es[k].count : Nat) : Int) := by omega
              rw [e] at h1; exact h1
        · obtain rfl : k = es.length := by omega
          have HFE : Hid (Co.forms es = true) := by have := HF.out; rw [List.take_length] at this; exact this
          have HSE : Hid (0 ≤ r - 1 - (Co.counts es : Int)) := by have := HS.out; rw [List.take_length] at this; exact this
          have HRE : Hid (Room p (r - 1 - Co.counts es) w wr) := by have := HR.out; rw [List.take_length] at this; exact this
          clear HF HS HR
          go_wp2_with fail
          go_loopw [44] (fun i wr => ∃ k : Nat, k ≤ vs.length ∧ i = .int .i64 k ∧ 0 ≤ r - 1 - (Co.counts es : Int) - (Co.counts (vs.take k) : Int) ∧ Co.forms (vs.take k) = true ∧ Room p (r - 1 - (Co.counts es : Int) - Co.counts (vs.take k)) w wr) (fun i _ => vs.length - (intOf i).toNat)
          case atStart => exact ⟨0, by omega, rfl, by have := HSE.out; simp [Co.counts]; omega, by simp [Co.forms], by simpa [Co.counts] using HRE.out⟩
          case round =>
            obtain ⟨k, hk, rfl, hs, hf, hroom⟩ := hrel
            have HS := Lib.hid hs
            have HF := Lib.hid hf
            have HR := Lib.hid hroom
            clear hs hf hroom
            have HWR : Hid (Below w0.heap.size w0 wr) := HW0.out.trans (HR.out.2.2.1.mono hp0)
            have hzr : w.heap.size ≤ wr.heap.size := HR.out.2.2.1.size
            have HS2 := HSZ.out
            have z7 : wr.cell? ⟨pb, po + 7, none⟩ = some (.slice a es.length cap) := (HWR.out.cell (p := ⟨pb, po + 7, none⟩) hpl).trans K7.out
            have z8 : wr.cell? ⟨pb, po + 8, none⟩ = some (.slice a2 vs.length cap2) := (HWR.out.cell (p := ⟨pb, po + 8, none⟩) hpl).trans K8.out
            by_cases hlt : k < vs.length
            · have hlt2 : k < ns.length := by have := HLN.out; omega
              obtain ⟨b, off, x0, x1, x2, x3, x4, x5, x6, x7, x8, rfl, hbl, hnz, hcn, hc0, hc1, hc2, hc3, hc4, hc5, hc6, hc7, hc8, ht⟩ := HAE.out k hlt hlt2
              have HP : Hid (PtrCo w0 d (.pointer (some ⟨b, off + k * 10 + 1, none⟩)) vs[k]) := ⟨b, off + k * 10 + 1, _, _, _, _, _, _, _, _, _, rfl, hbl, hc0, hc1, hc2, hc3, hc4, hc5, hc6, hc7, hc8, ht⟩
              clear ht hc0 hc1 hc2 hc3 hc4 hc5 hc6 hc7 hc8 hcn hnz
              have hg := Co.bulk_get vs k hlt
              have hs0 := HS.out
              have hcl : (Co.counts (vs.take k) : Int) ≤ 1048576 := by have := Co.counts_part vs k; omega
              go_wp2_with fail
              refine (IH.out _ vs[k] p (r - 1 - (Co.counts es : Int) - Co.counts (vs.take k)) wr HP.out HWR.out hp0 (by omega) (by omega) (by omega) (by omega) HR.out.1 HR.out.2.1).mono ?_
              rintro e w3 ⟨r3, rfl, hR3, h3⟩
              have HR3 := Lib.hid (HR.out.on hR3)
              have H3 := Lib.hid h3
              clear hR3 h3
              have HT2 := Lib.hid (Co.counts_take vs k hlt)
              have HFT := Lib.hid (Co.forms_take vs k hlt)
              cases hw : cwithin vs[k] (r - 1 - (Co.counts es : Int) - Co.counts (vs.take k)) with
              | false =>
                have HNO : Hid (cwithin (.node kd nm0 n0 fr ty es ns vs) r = false) := cwithin_not (fun h => by
                  have hp3 := coform_parts.1 h.2
                  have h1 := Co.forms_get vs k hlt hp3.2.2
                  have h2 := Co.counts_le_all vs (k + 1)
                  have h4 := h.1
                  rw [HCT.out] at h4
                  rw [HT2.out] at h2
                  rw [cwithin_mk (by omega) h1] at hw; cases hw)
                clear hw
                go_wp2_with fail
                go_ret
                exact CWEnd.of HNO.out HR3.out (fun h => by cases h)
              | true =>
                obtain ⟨v1, v3⟩ := cwithin_true hw
                have hr3 := H3.out hw
                have HV1 := Lib.hid v1
                have HV3 := Lib.hid v3
                have HRR := Lib.hid hr3
                clear hw v1 v3 hr3
                go_wp2_with fail
                refine ⟨⟨k + 1, by omega, by go_num, ?_, ?_, ?_⟩, by simp [intOf]; omega⟩
                · have h1 := HV1.out; rw [HT2.out]; omega
                · rw [HFT.out, HF.out, HV3.out]; rfl
                · have h1 := HR3.out; rw [HRR.out] at h1; rw [HT2.out]; have e : r - 1 - (Co.counts es : Int) - (Co.counts (vs.take k) : Int) - (vs[k].count : Int) = r - 1 - (Co.counts es : Int) - ((Co.counts (vs.take k) + vs[k].count : Nat) : Int) := by omega
                  rw [e] at h1; exact h1
            · obtain rfl : k = vs.length := by omega
              have HNO : Hid (cwithin (.node kd nm0 n0 fr ty es ns vs) r = true) := by
                have h1 := HS.out
                have h3 := HF.out
                rw [List.take_length] at h1 h3
                exact cwithin_mk (by rw [HCT.out]; omega) (coform_parts.2 ⟨HFE.out, HND.out, h3⟩)
              have HRL : Hid (Room p (r - 1 - Co.counts es - Co.counts vs) w wr) := by have := HR.out; rw [List.take_length] at this; exact this
              go_wp2_with fail
              go_ret
              exact CWEnd.of HNO.out HRL.out (fun _ => by rw [HCT.out]; omega)
set_option maxRecDepth 100000 in
set_option maxHeartbeats 2000000 in
theorem cwithin_valid (t : Co) : cwithin t 600 = t.valid := by
  have e1 : decide ((t.count : Int) ≤ 600) = decide (t.count ≤ 600) := decide_eq_decide.2 (by omega)
  unfold cwithin Co.valid
  rw [e1]
theorem ptr_box {w : World} {d : Nat} {t : Co} {yk yn yfk ytk : Int} {ynm : ByteArray} {yfa yta ya za : Option Addr} {yfn yfc ytn ytc ym yc zm zc : Nat} (h : CoAt w d (.agg #[.int .i64 yk, .string ynm, .int .i64 yn, .int .i64 yfk, .slice yfa yfn yfc, .int .i64 ytk, .slice yta ytn ytc, .slice ya ym yc, .slice za zm zc]) t) :
    PtrCo (w.alloc (.cells #[.int .i64 yk, .string ynm, .int .i64 yn, .int .i64 yfk, .slice yfa yfn yfc, .int .i64 ytk, .slice yta ytn ytc, .slice ya ym yc, .slice za zm zc] 67)) d (.pointer (some ⟨w.heap.size, 0, none⟩)) t := by
  have X := BoxAt.new w #[.int .i64 yk, .string ynm, .int .i64 yn, .int .i64 yfk, .slice yfa yfn yfc, .int .i64 ytk, .slice yta ytn ytc, .slice ya ym yc, .slice za zm zc] 67
  exact ⟨_, 0, _, _, _, _, _, _, _, _, _, rfl, X.1, X.2 0, X.2 1, X.2 2, X.2 3, X.2 4, X.2 5, X.2 6, X.2 7, X.2 8, h.below (below_alloc _ _)⟩
set_option maxRecDepth 100000 in
set_option maxHeartbeats 2000000 in
theorem implIsCore (d : Nat) (v : Value) (t : Co) (w : World) (h : CoAt w d v t) (hsz : t.bulk ≤ 1048576) (htab : CoreFull w) :
    Calls Tryd.prog 63 #[v] w fun e w' => e = .returned (.bool t.valid) ∧ Below w.heap.size w w' := by
  obtain ⟨yk, ynm, yn, yfk, yfa, yfn, yfc, ytk, yta, ytn, ytc, ya, ym, yc, za, zm, zc, rfl⟩ := co_parts h
  have HP := Lib.hid (ptr_box h)
  have HTB := Lib.hid (htab.below (below_alloc w (.cells #[.int .i64 yk, .string ynm, .int .i64 yn, .int .i64 yfk, .slice yfa yfn yfc, .int .i64 ytk, .slice yta ytn ytc, .slice ya ym yc, .slice za zm zc] 67)))
  clear h htab
  have X : Hid (Below (w.heap.size + 1) (w.alloc (.cells #[.int .i64 yk, .string ynm, .int .i64 yn, .int .i64 yfk, .slice yfa yfn yfc, .int .i64 ytk, .slice yta ytn ytc, .slice ya ym yc, .slice za zm zc] 67)) ((w.alloc (.cells #[.int .i64 yk, .string ynm, .int .i64 yn, .int .i64 yfk, .slice yfa yfn yfc, .int .i64 ytk, .slice yta ytn ytc, .slice ya ym yc, .slice za zm zc] 67)).alloc (.cells #[.int .i64 600] 3))) := (Below.refl _ _).alloc (by simp) _
  go_enter Tryd.func63, Tryd.ntmps63
  go_wp2_with fail
  refine (implCoWithin (w.alloc (.cells #[.int .i64 yk, .string ynm, .int .i64 yn, .int .i64 yfk, .slice yfa yfn yfc, .int .i64 ytk, .slice yta ytn ytc, .slice ya ym yc, .slice za zm zc] 67)) HTB.out d _ t (w.heap.size + 1) 600 _ HP.out (by have := X.out; simpa using this) (by simp) hsz (by simp) (by omega) (by omega) (by simp [go_sem]) (by simp [go_sem])).mono ?_
  rintro e w' ⟨r', rfl, hr, _⟩
  have HB : Hid (Below w.heap.size w w') := ((below_alloc w _).alloc (by simp) _).trans (hr.2.2.1.mono (Nat.le_succ _))
  clear hr
  go_wp2_with fail
  go_ret
  exact ⟨by rw [cwithin_valid]; rfl, HB.out⟩
end Go.Proofs.YtcohfbdhdngplaaDoor
