/-
  Proved: impl.hasMarks says whether a mark occurs in an expression; the memory that was there stays as it was.
-/
import Derived.Test.YtadjaclmgdmnbaaDoorExFold
import Derived.Test.YtadjaclmgdmnbaaDoorSpecExForm
namespace Go.Proofs.YtadjaclmgdmnbaaDoor
open Go.RowKit

set_option maxRecDepth 100000 in
set_option maxHeartbeats 2000000 in
theorem implExMarks : ∀ (d : Nat) (v : Value) (t : Ex) (w : World), ExAt w d v t → t.bulk ≤ 1048576 → Calls Tryd.prog 35 #[v] w fun e w' => e = .returned (.bool (t.has 14)) ∧ Below w.heap.size w w'
  | 0, _, _, _, h, _ => h.elim
  | d + 1, v, .node kd nm n ty es, w, h, hsz => by
    have IH : Hid (∀ (v : Value) (t : Ex) (w : World), ExAt w d v t → t.bulk ≤ 1048576 → Calls Tryd.prog 35 #[v] w fun e w' => e = .returned (.bool (t.has 14)) ∧ Below w.heap.size w w') := implExMarks d
    have HV := ex_parts h
    obtain ⟨c3, c4, sl, rfl, hk0, hk1, hn0, hn1, hnm, hty, a, cap, rfl, hcap, hcap2, hat⟩ := h
    obtain ⟨k', nm', n', tk, ta, tn, tc, sa, sn, sc, hv⟩ := HV
    injection hv with hv
    injection hv with hv
    simp at hv
    obtain ⟨rfl, rfl, rfl, rfl, rfl, rfl, rfl, rfl⟩ := hv
    have HAT := Lib.hid hat; clear hat
    have hbk : (Ex.node kd nm n ty es).bulk = nm.size + (ty.size - 1) + Ex.bulks es := rfl
    have HSZ : Hid (Ex.bulks es ≤ 1048576) := by show _ ≤ _; omega
    have HNM : Hid (nm.size ≤ 1048576) := by show _ ≤ _; omega
    have HTZ : Hid (ty.size ≤ 1048577) := by show _ ≤ _; omega
    have hlen : es.length ≤ 1048576 := by have := Ex.length_le es; omega
    clear hsz hbk hty
    by_cases q : kd = 14
    · subst q
      go_enter Tryd.func35, Tryd.ntmps35
      go_wp2_with fail
      go_ret
      exact ⟨by simp [Ex.has], below_alloc _ _⟩
    · have qb0 : (kd == 14) = false := by simp [q]
      go_enter Tryd.func35, Tryd.ntmps35
      go_wp2_with fail
      go_loopw [11] (fun i wr => ∃ k : Nat, k ≤ es.length ∧ i = .int .i64 k ∧ Ex.hass 14 (es.take k) = false ∧ Below (w.heap.size + 1) (w.alloc (.cells #[.int .i64 kd, .string nm, .int .i64 n, .int .i64 tk, .slice ta tn tc, .slice a es.length cap] 35)) wr) (fun i _ => es.length - (intOf i).toNat)
      case atStart => exact ⟨0, by omega, rfl, by simp [Ex.hass], Below.refl _ _⟩
      case round =>
        obtain ⟨k, hk, rfl, hf, hb⟩ := hrel
        have HF := Lib.hid hf; clear hf
        have b0 := box_cell hb 0
        have b1 := box_cell hb 1
        have b2 := box_cell hb 2
        have b3 := box_cell hb 3
        have b4 := box_cell hb 4
        have b5 := box_cell hb 5
        have HB := Lib.hid (box_below hb)
        have HBX := Lib.hid hb; clear hb
        have HS2 := HSZ.out
        by_cases hlt : k < es.length
        · obtain ⟨b, off, x0, x1, x2, x3, x4, x5, rfl, hbl, hc0, hc1, hc2, hc3, hc4, hc5, ht⟩ := HAT.out k hlt
          have hg := Ex.bulk_get es k hlt
          obtain ⟨yk, ynm, yn, ytk, yta, ytn, ytc, ya, ym, yc, rfl, rfl, rfl, rfl, rfl, rfl⟩ := ex_cells ht
          have e0 : wr.cell? ⟨b, off + k * 6, none⟩ = some (.int .i64 yk) := by rw [HB.out.cell (p := ⟨b, off + k * 6, none⟩) hbl]; exact hc0
          have e1 : wr.cell? ⟨b, off + k * 6 + 1, none⟩ = some (.string ynm) := by rw [HB.out.cell (p := ⟨b, off + k * 6 + 1, none⟩) hbl]; exact hc1
          have e2 : wr.cell? ⟨b, off + k * 6 + 2, none⟩ = some (.int .i64 yn) := by rw [HB.out.cell (p := ⟨b, off + k * 6 + 2, none⟩) hbl]; exact hc2
          have e3 : wr.cell? ⟨b, off + k * 6 + 3, none⟩ = some (.int .i64 ytk) := by rw [HB.out.cell (p := ⟨b, off + k * 6 + 3, none⟩) hbl]; exact hc3
          have e4 : wr.cell? ⟨b, off + k * 6 + 4, none⟩ = some (.slice yta ytn ytc) := by rw [HB.out.cell (p := ⟨b, off + k * 6 + 4, none⟩) hbl]; exact hc4
          have e5 : wr.cell? ⟨b, off + k * 6 + 5, none⟩ = some (.slice ya ym yc) := by rw [HB.out.cell (p := ⟨b, off + k * 6 + 5, none⟩) hbl]; exact hc5
          have hp := below_box wr (.cells #[.int .i64 yk, .string ynm, .int .i64 yn, .int .i64 ytk, .slice yta ytn ytc, .slice ya ym yc] 35)
          have HT := Lib.hid ((ht.below HB.out).below hp)
          have HPX := Lib.hid (box_next HBX.out hp)
          clear hp
          clear ht hc0 hc1 hc2 hc3 hc4 hc5
          go_wp2_with fail
          refine (IH.out _ _ _ HT.out (by omega)).mono ?_
          rintro e w' ⟨rfl, hb1⟩
          have HN := Lib.hid (box_next HPX.out hb1); clear hb1
          have HT2 := Lib.hid (Ex.hass_take 14 es k hlt)
          cases hfk : es[k].has 14 with
          | false =>
            have HFK := Lib.hid hfk; clear hfk
            go_wp2_with fail
            exact ⟨⟨k + 1, by omega, by go_num, by rw [HT2.out, HF.out, HFK.out]; rfl, HN.out⟩, by simp [intOf]; omega⟩
          | true =>
            have HFK := Lib.hid hfk; clear hfk
            go_wp2_with fail
            go_ret
            have e : Ex.hass 14 es = true := Ex.hass_true 14 es (k + 1) (by rw [HT2.out, HF.out, HFK.out]; rfl)
            exact ⟨by simp [Ex.has, e], box_below HN.out⟩
        · obtain rfl : k = es.length := by omega
          have HFT : Hid (Ex.hass 14 es = false) := by have := HF.out; rw [List.take_length] at this; exact this
          go_wp2_with fail
          go_ret
          exact ⟨by simp [Ex.has, HFT.out, q], HB.out⟩
end Go.Proofs.YtadjaclmgdmnbaaDoor
