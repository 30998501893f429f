/-
  Proved: spec.CountMarks counts the nodes of one kind of an expression; the memory that was there stays as it was.
-/
import Derived.Test.YtpioddfihaabdaaExK
import Derived.Test.YtpioddfihaabdaaSzExpr
namespace Go.Proofs.Ytpioddfihaabdaa
open Go.RowKit

set_option maxRecDepth 100000 in
set_option maxHeartbeats 2000000 in
theorem specCountMarks : ∀ (d : Nat) (v : Value) (t : Ex) (w : World), ExAt w d v t → t.bulk ≤ 1048576 →
    Calls Try.prog 6 #[v] w fun e w' => e = .returned (.int .i64 ((t.kcount 14 : Nat) : Int)) ∧ Below w.heap.size w w'
  | 0, _, _, _, h, _ => h.elim
  | d + 1, v, .node kd nm n ty es, w, h, hsz => by
    have IH : Hid (∀ (v : Value) (t : Ex) (w : World), ExAt w d v t → t.bulk ≤ 1048576 → Calls Try.prog 6 #[v] w fun e w' => e = .returned (.int .i64 ((t.kcount 14 : Nat) : Int)) ∧ Below w.heap.size w w') := specCountMarks d
    have HV := ex_parts h
    obtain ⟨c3, c4, sl, rfl, hk0, hk1, hn0, hn1, hnm, hty, a, cap, rfl, hcap, hcap2, hat⟩ := h
    obtain ⟨k', nm', n', tk, ta, tn, tc, sa, sn, sc, hv⟩ := HV
    injection hv with hv
    injection hv with hv
    simp at hv
    obtain ⟨rfl, rfl, rfl, rfl, rfl, rfl, rfl, rfl⟩ := hv
    have HAT := Lib.hid hat; clear hat
    have hbk : (Ex.node kd nm n ty es).bulk = nm.size + (ty.size - 1) + Ex.bulks es := rfl
    have HSZ : Hid (Ex.bulks es ≤ 1048576) := by show _ ≤ _; omega
    have hlen : es.length ≤ 1048576 := by have := Ex.length_le es; omega
    clear hsz hbk hty
    by_cases q : kd = 14
    · subst q
      have HFIN : Hid ((Ex.node 14 nm n ty es).kcount 14 = 1 + Ex.kcounts 14 es) := by show _ = _; simp [Ex.kcount]
      go_enter Try.func6, Try.ntmps6
      go_wp2_with fail
      refine (specBitK _ _).mono ?_
      rintro e w9 ⟨rfl, rfl⟩
      go_wp2_with fail
      go_loopw [3, 4] (fun m i wr => ∃ k : Nat, k ≤ es.length ∧ i = .int .i64 k ∧ m = .int .i64 (1 + (Ex.kcounts 14 (es.take k) : Int)) ∧ Below (w.heap.size + 1) (w.alloc (.cells #[.int .i64 14, .string nm, .int .i64 n, .int .i64 tk, .slice ta tn tc, .slice a es.length cap] 35)) wr) (fun _ i _ => es.length - (intOf i).toNat)
      case atStart => exact ⟨0, by omega, rfl, by simp [Ex.kcounts], Below.refl _ _⟩
      case round =>
        obtain ⟨k, hk, rfl, rfl, hb⟩ := hrel
        have b0 := box_cell hb 0
        have b5 := box_cell hb 5
        have HB := Lib.hid (box_below hb)
        have HBX := Lib.hid hb; clear hb
        have HS1 := Ex.kcounts_part 14 es k
        have HS2 := HSZ.out
        by_cases hlt : k < es.length
        · obtain ⟨b, off, x0, x1, x2, x3, x4, x5, rfl, hbl, hc0, hc1, hc2, hc3, hc4, hc5, ht⟩ := HAT.out k hlt
          have hg := Ex.bulk_get es k hlt
          have hg2 := Ex.kcount_le 14 es[k]
          have hg3 := Ex.kcounts_part 14 es (k + 1)
          have e0 : wr.cell? ⟨b, off + k * 6, none⟩ = some x0 := by rw [HB.out.cell (p := ⟨b, off + k * 6, none⟩) hbl]; exact hc0
          have e1 : wr.cell? ⟨b, off + k * 6 + 1, none⟩ = some x1 := by rw [HB.out.cell (p := ⟨b, off + k * 6 + 1, none⟩) hbl]; exact hc1
          have e2 : wr.cell? ⟨b, off + k * 6 + 2, none⟩ = some x2 := by rw [HB.out.cell (p := ⟨b, off + k * 6 + 2, none⟩) hbl]; exact hc2
          have e3 : wr.cell? ⟨b, off + k * 6 + 3, none⟩ = some x3 := by rw [HB.out.cell (p := ⟨b, off + k * 6 + 3, none⟩) hbl]; exact hc3
          have e4 : wr.cell? ⟨b, off + k * 6 + 4, none⟩ = some x4 := by rw [HB.out.cell (p := ⟨b, off + k * 6 + 4, none⟩) hbl]; exact hc4
          have e5 : wr.cell? ⟨b, off + k * 6 + 5, none⟩ = some x5 := by rw [HB.out.cell (p := ⟨b, off + k * 6 + 5, none⟩) hbl]; exact hc5
          have HT := Lib.hid (ht.below HB.out)
          have HPX := Lib.hid HBX.out
          clear ht hc0 hc1 hc2 hc3 hc4 hc5
          go_wp2_with fail
          refine (IH.out _ _ _ HT.out (by omega)).mono ?_
          rintro e w' ⟨rfl, hb1⟩
          have HN := Lib.hid (box_next HPX.out hb1); clear hb1
          have HT2 := Lib.hid (Ex.kcounts_take 14 es k hlt)
          have hg4 : Ex.kcounts 14 (es.take k) + es[k].kcount 14 ≤ Ex.bulks es := by rw [HT2.out] at hg3; omega
          clear hg3
          go_wp2_with fail
          exact ⟨⟨k + 1, by omega, by go_num, by rw [HT2.out]; go_num, HN.out⟩, by simp [intOf]; omega⟩
        · obtain rfl : k = es.length := by omega
          go_wp2_with fail
          go_ret
          refine ⟨?_, HB.out⟩
          rw [List.take_length, HFIN.out]
          simp
    · have qb : (kd == 14) = false := by simp [q]
      have HFIN : Hid ((Ex.node kd nm n ty es).kcount 14 = 0 + Ex.kcounts 14 es) := by show _ = _; simp [Ex.kcount, q]
      go_enter Try.func6, Try.ntmps6
      go_wp2_with fail
      refine (specBitK _ _).mono ?_
      rintro e w9 ⟨rfl, rfl⟩
      go_wp2_with fail
      go_loopw [3, 4] (fun m i wr => ∃ k : Nat, k ≤ es.length ∧ i = .int .i64 k ∧ m = .int .i64 (0 + (Ex.kcounts 14 (es.take k) : Int)) ∧ Below (w.heap.size + 1) (w.alloc (.cells #[.int .i64 kd, .string nm, .int .i64 n, .int .i64 tk, .slice ta tn tc, .slice a es.length cap] 35)) wr) (fun _ i _ => es.length - (intOf i).toNat)
      case atStart => exact ⟨0, by omega, rfl, by simp [Ex.kcounts], Below.refl _ _⟩
      case round =>
        obtain ⟨k, hk, rfl, rfl, hb⟩ := hrel
        have b0 := box_cell hb 0
        have b5 := box_cell hb 5
        have HB := Lib.hid (box_below hb)
        have HBX := Lib.hid hb; clear hb
        have HS1 := Ex.kcounts_part 14 es k
        have HS2 := HSZ.out
        by_cases hlt : k < es.length
        · obtain ⟨b, off, x0, x1, x2, x3, x4, x5, rfl, hbl, hc0, hc1, hc2, hc3, hc4, hc5, ht⟩ := HAT.out k hlt
          have hg := Ex.bulk_get es k hlt
          have hg2 := Ex.kcount_le 14 es[k]
          have hg3 := Ex.kcounts_part 14 es (k + 1)
          have e0 : wr.cell? ⟨b, off + k * 6, none⟩ = some x0 := by rw [HB.out.cell (p := ⟨b, off + k * 6, none⟩) hbl]; exact hc0
          have e1 : wr.cell? ⟨b, off + k * 6 + 1, none⟩ = some x1 := by rw [HB.out.cell (p := ⟨b, off + k * 6 + 1, none⟩) hbl]; exact hc1
          have e2 : wr.cell? ⟨b, off + k * 6 + 2, none⟩ = some x2 := by rw [HB.out.cell (p := ⟨b, off + k * 6 + 2, none⟩) hbl]; exact hc2
          have e3 : wr.cell? ⟨b, off + k * 6 + 3, none⟩ = some x3 := by rw [HB.out.cell (p := ⟨b, off + k * 6 + 3, none⟩) hbl]; exact hc3
          have e4 : wr.cell? ⟨b, off + k * 6 + 4, none⟩ = some x4 := by rw [HB.out.cell (p := ⟨b, off + k * 6 + 4, none⟩) hbl]; exact hc4
          have e5 : wr.cell? ⟨b, off + k * 6 + 5, none⟩ = some x5 := by rw [HB.out.cell (p := ⟨b, off + k * 6 + 5, none⟩) hbl]; exact hc5
          have HT := Lib.hid (ht.below HB.out)
          have HPX := Lib.hid HBX.out
          clear ht hc0 hc1 hc2 hc3 hc4 hc5
          go_wp2_with fail
          refine (IH.out _ _ _ HT.out (by omega)).mono ?_
          rintro e w' ⟨rfl, hb1⟩
          have HN := Lib.hid (box_next HPX.out hb1); clear hb1
          have HT2 := Lib.hid (Ex.kcounts_take 14 es k hlt)
          have hg4 : Ex.kcounts 14 (es.take k) + es[k].kcount 14 ≤ Ex.bulks es := by rw [HT2.out] at hg3; omega
          clear hg3
          go_wp2_with fail
          exact ⟨⟨k + 1, by omega, by go_num, by rw [HT2.out]; go_num, HN.out⟩, by simp [intOf]; omega⟩
        · obtain rfl : k = es.length := by omega
          go_wp2_with fail
          go_ret
          refine ⟨?_, HB.out⟩
          rw [List.take_length, HFIN.out]
          simp
end Go.Proofs.Ytpioddfihaabdaa
