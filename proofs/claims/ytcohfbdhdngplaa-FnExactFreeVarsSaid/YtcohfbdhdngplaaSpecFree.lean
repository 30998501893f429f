/-
  Proved: spec.FreeVars unites the free variables of an expression, in new memory; the memory that was there stays as it was.
-/
import Derived.Test.YtcohfbdhdngplaaFreeTake
import Derived.Test.YtcohfbdhdngplaaSpecUniteS
import Derived.Test.YtcohfbdhdngplaaSzExpr
namespace Go.Proofs.Ytcohfbdhdngplaa
open Go.RowKit

set_option maxRecDepth 100000 in
set_option maxHeartbeats 4000000 in
theorem specFree : ∀ (d : Nat) (v : Value) (t : Ex) (w : World), ExAt w d v t → t.bulk ≤ 1048576 → Calls Try.prog 11 #[v] w (RowEnd t.free w)
  | 0, _, _, _, h, _ => h.elim
  | d + 1, v, .node kd nm n ty es, w, h, hsz => by
    have IH : Hid (∀ (v : Value) (t : Ex) (w : World), ExAt w d v t → t.bulk ≤ 1048576 → Calls Try.prog 11 #[v] w (RowEnd t.free w)) := specFree d
    have HV := ex_parts h
    obtain ⟨c3, c4, sl, rfl, hk0, hk1, hn0, hn1, hnm, hty, a, cap, rfl, hcap, hcap2, hat⟩ := h
    obtain ⟨k', nm', n', tk, ta, tn, tc, sa, sn, sc, hv⟩ := HV
    injection hv with hv
    injection hv with hv
    simp at hv
    obtain ⟨rfl, rfl, rfl, rfl, rfl, rfl, rfl, rfl⟩ := hv
    have HAT := Lib.hid hat; clear hat
    have hbk : (Ex.node kd nm n ty es).bulk = nm.size + (ty.size - 1) + Ex.bulks es := rfl
    have HSZ : Hid (Ex.bulks es ≤ 1048576) := by show _ ≤ _; omega
    have hlen : es.length ≤ 1048576 := by have := Ex.length_le es; omega
    have HNM : Hid (nm.size ≤ 1048576) := by show _ ≤ _; omega
    have HTZ : Hid (ty.size ≤ 1048577) := by show _ ≤ _; omega
    clear hsz hbk hty
    by_cases q : kd = 2
    · subst q
      have HFH : Hid ((Ex.node 2 nm n ty es).free = [nm]) := by show _ = _; simp [Ex.free]
      go_enter Try.func11, Try.ntmps11
      go_wp2_with fail
      go_ret
      rw [HFH.out]
      refine ⟨_, rfl, ⟨?_, fun k hk => ?_, Nat.le_refl _⟩, ((Below.refl _ _).alloc (Nat.le_refl _) _).alloc (by simp) _⟩
      · have := one_made (B := w.heap.size) (w.alloc (.cells #[.int .i64 2, .string nm, .int .i64 n, .int .i64 tk, .slice ta tn tc, .slice a es.length cap] 36)) nm (by simp)
        rw [World.size_alloc] at this
        exact this
      · simp [Value.ownBlock] at hk; subst hk; simp
    · have qb : (kd == 2) = false := by simp; omega
      have HST : Hid (((w.alloc (.cells #[.int .i64 kd, .string nm, .int .i64 n, .int .i64 tk, .slice ta tn tc, .slice a es.length cap] 36)).alloc (.cells #[] 9)).ownsRow (w.heap.size + 1) 9 1 (.slice (some ⟨w.heap.size + 1, 0, none⟩) 0 0) 0 []) := by
        have := World.ownsRow_made (base := w.heap.size + 1) (e := 9) (size := 1) (w.alloc (.cells #[.int .i64 kd, .string nm, .int .i64 n, .int .i64 tk, .slice ta tn tc, .slice a es.length cap] 36)) #[] 0 (by simp) (Nat.zero_le _) rfl
        rw [World.size_alloc] at this
        exact this
      have HSB : Hid (Below (w.heap.size + 1) (w.alloc (.cells #[.int .i64 kd, .string nm, .int .i64 n, .int .i64 tk, .slice ta tn tc, .slice a es.length cap] 36)) ((w.alloc (.cells #[.int .i64 kd, .string nm, .int .i64 n, .int .i64 tk, .slice ta tn tc, .slice a es.length cap] 36)).alloc (.cells #[] 9))) := (Below.refl _ _).alloc (by simp) _
      have HFE : Hid ((Ex.node kd nm n ty es).free = if kd = 3 then without (Ex.frees [] es) nm else Ex.frees [] es) := by show _ = _; simp [Ex.free, q]
      clear q
      go_enter Try.func11, Try.ntmps11
      go_wp2_with fail
      go_loopw [3, 4] (fun o i wr => ∃ (k : Nat) (L : List ByteArray), k ≤ es.length ∧ i = .int .i64 k ∧ wr.ownsRow (w.heap.size + 1) 9 1 o L.length (L.map Value.string) ∧ L = Ex.frees [] (es.take k) ∧ Below (w.heap.size + 1) (w.alloc (.cells #[.int .i64 kd, .string nm, .int .i64 n, .int .i64 tk, .slice ta tn tc, .slice a es.length cap] 36)) wr) (fun _ i _ => es.length - (intOf i).toNat)
      case atStart => exact ⟨0, [], by omega, rfl, HST.out, by simp [Ex.frees], HSB.out⟩
      case round =>
        obtain ⟨k, L, hk, rfl, hown, hL, hb⟩ := hrel
        have b0 := box_cell hb 0
        have b1 := box_cell hb 1
        have b5 := box_cell hb 5
        have HO := Lib.hid hown; clear hown
        have HB := Lib.hid (box_below hb)
        have HBX := Lib.hid hb; clear hb
        have HS2 := HSZ.out
        have hpart := Ex.frees_few (es.take k) []
        have hpart2 := Ex.bulks_le es k
        have hll : L.length ≤ 1048576 := by rw [hL]; simp at hpart; omega
        have hLL : L.length ≤ Ex.bulks (es.take k) := by rw [hL]; simpa using hpart
        have HLL := Lib.hid hLL; clear hLL
        clear hpart hpart2
        have HL := Lib.hid hL; clear hL
        by_cases hlt : k < es.length
        · obtain ⟨b, off, x0, x1, x2, x3, x4, x5, rfl, hbl, hc0, hc1, hc2, hc3, hc4, hc5, ht⟩ := HAT.out k hlt
          have hg := Ex.bulk_get es k hlt
          have e0 : wr.cell? ⟨b, off + k * 6, none⟩ = some (x0) := by rw [HB.out.cell (p := ⟨b, off + k * 6, none⟩) hbl]; exact hc0
          have e1 : wr.cell? ⟨b, off + k * 6 + 1, none⟩ = some (x1) := by rw [HB.out.cell (p := ⟨b, off + k * 6 + 1, none⟩) hbl]; exact hc1
          have e2 : wr.cell? ⟨b, off + k * 6 + 2, none⟩ = some (x2) := by rw [HB.out.cell (p := ⟨b, off + k * 6 + 2, none⟩) hbl]; exact hc2
          have e3 : wr.cell? ⟨b, off + k * 6 + 3, none⟩ = some (x3) := by rw [HB.out.cell (p := ⟨b, off + k * 6 + 3, none⟩) hbl]; exact hc3
          have e4 : wr.cell? ⟨b, off + k * 6 + 4, none⟩ = some (x4) := by rw [HB.out.cell (p := ⟨b, off + k * 6 + 4, none⟩) hbl]; exact hc4
          have e5 : wr.cell? ⟨b, off + k * 6 + 5, none⟩ = some (x5) := by rw [HB.out.cell (p := ⟨b, off + k * 6 + 5, none⟩) hbl]; exact hc5
          have HT := Lib.hid (ht.below HB.out)
          clear ht hc0 hc1 hc2 hc3 hc4 hc5
          have hp2 : Ex.bulk es[k] ≤ 1048576 := by omega
          have hfew := Ex.free_few es[k]
          have hbt := Ex.bulks_take es k hlt
          have hbt2 := Ex.bulks_le es (k + 1)
          have HSUM : Hid (L.length + es[k].free.length ≤ 1048576) := by show _ ≤ _; have := HLL.out; omega
          clear hfew hbt hbt2
          have HTK := Lib.hid (Ex.frees_take es [] k hlt)
          go_wp2_with fail
          refine (IH.out _ _ _ HT.out hp2).mono ?_
          rintro e w1 ⟨v1, rfl, hi1, hb1⟩
          have HO1 := Lib.hid (row_below HO.out hb1)
          have HI1 := Lib.hid hi1
          have HN := Lib.hid (box_next HBX.out hb1)
          have hz1 := HN.out.size
          simp only [World.size_alloc] at hz1
          clear hi1 hb1 e0 e1 e2 e3 e4 e5
          go_wp2_with fail
          refine (specUnite _ _ L es[k].free HSUM.out _ (Strs.of_own HO1.out) HI1.out.strs).mono ?_
          rintro e w2 ⟨v2, rfl, hi2, hb2⟩
          have HO2 := Lib.hid (str_base hi2.1 (B := w.heap.size + 1) (by omega))
          have HB2 := Lib.hid (box_next (box_next HBX.out (w' := wr) (Below.refl _ _)) (w' := wr) (Below.refl _ _))
          have HN2 := Lib.hid (box_next HN.out hb2)
          have HL2 : Hid (addAll (addAll [] L) es[k].free = Ex.frees [] (es.take (k + 1))) := by show _ = _; rw [HTK.out, HL.out]
          clear hi2 hb2 hz1 HB2
          go_wp2_with fail
          exact ⟨⟨k + 1, addAll (addAll [] L) es[k].free, by omega, by go_num, HO2.out, HL2.out, HN2.out⟩, by simp [intOf]; omega⟩
        · obtain rfl : k = es.length := by omega
          have HFN : Hid (Ex.frees [] es = L) := by show _ = _; rw [HL.out, List.take_length]
          by_cases q3 : kd = 3
          · subst q3
            go_wp2_with fail
            refine (specWithout _ L nm (by omega) _ (Strs.of_own HO.out)).mono ?_
            rintro e w1 ⟨v1, rfl, hi1, hb1⟩
            have HI1 := Lib.hid hi1
            have HB1 := Lib.hid hb1
            clear hi1 hb1
            have HFE2 : Hid ((Ex.node 3 nm n ty es).free = without L nm) := by
              show _ = _
              have hfe := HFE.out
              simp only [if_true, HFN.out] at hfe
              exact hfe
            go_wp2_with fail
            go_ret
            rw [HFE2.out]
            exact ⟨v1, rfl, ⟨str_base HI1.out.1 HB.out.size, HI1.out.2.1, HI1.out.2.2⟩, HB.out.trans (HB1.out.mono HB.out.size)⟩
          · have qb3 : (kd == 3) = false := by simp; omega
            have hfe := HFE.out
            rw [if_neg q3, HFN.out] at hfe
            have HFE2 := Lib.hid hfe; clear hfe q3
            go_wp2_with fail
            go_ret
            rw [HFE2.out]
            exact ⟨_, rfl, ⟨str_base HO.out (by omega), fun b hb => (HO.out.lt b hb).2, Nat.le_refl _⟩, HB.out⟩
end Go.Proofs.Ytcohfbdhdngplaa
