/-
  Proved: spec.HolesIn lists the numbers of the holes and marks of an expression, in new memory; the memory that was there stays as it was.
-/
import Derived.Test.YtpioddfihaabdaaExHoles
import Derived.Test.YtpioddfihaabdaaSzExpr
import Derived.Maps.AppendAt
namespace Go.Proofs.Ytpioddfihaabdaa
open Go.RowKit

theorem own_base {w : World} {B B' : Nat} {e : TypeId} {size : Nat} {v : Value} {n : Nat} {xs : List Value} (h : w.ownsRow B' e size v n xs) (hB : B ≤ B') : w.ownsRow B e size v n xs := by
  refine ⟨h.1, ?_⟩
  rcases h.2 with h | ⟨g, cap, cur, rfl, r1, r2⟩
  · exact Or.inl h
  · exact Or.inr ⟨g, cap, cur, rfl, Nat.le_trans hB r1, r2⟩
set_option maxRecDepth 100000 in
set_option maxHeartbeats 4000000 in
theorem specHolesOf : ∀ (d : Nat) (v : Value) (t : Ex) (w : World), ExAt w d v t → t.bulk ≤ 1048576 → Calls Try.prog 20 #[v] w fun e w' => ∃ g cp, e = .returned (.slice (some ⟨g, 0, none⟩) t.holes.length cp) ∧ IntsIn w' (.slice (some ⟨g, 0, none⟩) t.holes.length cp) t.holes w.heap.size w'.heap.size ∧ Below w.heap.size w w'
  | 0, _, _, _, h, _ => h.elim
  | d + 1, v, .node kd nm n ty es, w, h, hsz => by
    have IH : Hid (∀ (v : Value) (t : Ex) (w : World), ExAt w d v t → t.bulk ≤ 1048576 → Calls Try.prog 20 #[v] w fun e w' => ∃ g cp, e = .returned (.slice (some ⟨g, 0, none⟩) t.holes.length cp) ∧ IntsIn w' (.slice (some ⟨g, 0, none⟩) t.holes.length cp) t.holes w.heap.size w'.heap.size ∧ Below w.heap.size w w') := specHolesOf d
    have HV := ex_parts h
    obtain ⟨c3, c4, sl, rfl, hk0, hk1, hn0, hn1, hnm, hty, a, cap, rfl, hcap, hcap2, hat⟩ := h
    obtain ⟨k', nm', n', tk, ta, tn, tc, sa, sn, sc, hv⟩ := HV
    injection hv with hv
    injection hv with hv
    simp at hv
    obtain ⟨rfl, rfl, rfl, rfl, rfl, rfl, rfl, rfl⟩ := hv
    have HAT := Lib.hid hat; clear hat
    have hbk : (Ex.node kd nm n ty es).bulk = nm.size + (ty.size - 1) + Ex.bulks es := rfl
    have HSZ : Hid (Ex.bulks es ≤ 1048576) := by show _ ≤ _; omega
    have HNM : Hid (nm.size ≤ 1048576) := by show _ ≤ _; omega
    have HTZ : Hid (ty.size ≤ 1048577) := by show _ ≤ _; omega
    have hlen : es.length ≤ 1048576 := by have := Ex.length_le es; omega
    clear hsz hbk hty
    obtain ⟨i0, hi, hz0, hz1, hz2⟩ := info_parts info_i
    have HI := Lib.hid hi; clear hi
    have HZ0 := Lib.hid hz0; clear hz0
    have HZ1 := Lib.hid hz1; clear hz1
    have HZ2 := Lib.hid hz2; clear hz2
    by_cases q : kd = 1 ∨ kd = 14
    · rcases q with q | q
      · subst q
        have HFH : Hid ((Ex.node 1 nm n ty es).holes = [n] ++ Ex.holess es) := by show _ = _; simp [Ex.holes]
        have HST : Hid (((w.alloc (.cells #[.int .i64 1, .string nm, .int .i64 n, .int .i64 tk, .slice ta tn tc, .slice a es.length cap] 35)).alloc (.cells #[] 3)).ownsRow (w.heap.size + 1) 3 1 (.slice (some ⟨w.heap.size + 1, 0, none⟩) 0 0) 0 []) := by
          have := World.ownsRow_made (base := w.heap.size + 1) (e := 3) (size := 1) (w.alloc (.cells #[.int .i64 1, .string nm, .int .i64 n, .int .i64 tk, .slice ta tn tc, .slice a es.length cap] 35)) #[] 0 (by simp) (Nat.zero_le _) rfl
          rw [World.size_alloc] at this
          exact this
        have HSB : Hid (Below (w.heap.size + 1) (w.alloc (.cells #[.int .i64 1, .string nm, .int .i64 n, .int .i64 tk, .slice ta tn tc, .slice a es.length cap] 35)) ((w.alloc (.cells #[.int .i64 1, .string nm, .int .i64 n, .int .i64 tk, .slice ta tn tc, .slice a es.length cap] 35)).alloc (.cells #[] 3))) := (Below.refl _ _).alloc (by simp) _
        go_enter Try.func20, Try.ntmps20
        go_wp2_with (at_builtin; go_must (refine wpList_append_own_at _ rfl _ _ 51 rfl (w.heap.size + 1) 3 i0 (.int .i64 0) 1 8 Try.underlying51 HI.out HZ0.out HZ1.out HZ2.out rfl (by decide) _ _ _ rfl (HST.out.alloc _) ⟨w.heap.size + 1 + 1, 0, none⟩ 1 1 [.int .i64 n] rfl rfl (news_at _ _ _ _ (by simp)) (by simp [Value.oneCell']) (by unfold maxLen; omega) (by omega) (by simp) ?_); intro v2 w2 hown2 hg2 hnn2 hblk2; refine Hid.out ?_)
        refine Lib.hid ?_
        have hN2 : Below (w.heap.size + 1) (w.alloc (.cells #[.int .i64 1, .string nm, .int .i64 n, .int .i64 tk, .slice ta tn tc, .slice a es.length cap] 35)) w2 := (HSB.out.alloc (by simp) _).grown hg2 (by simp) (fun b hb => (HST.out.lt b hb).1)
        rcases hown2.2 with ⟨rfl, _⟩ | ⟨g3, cp3, cur, hv2, hrest⟩
        · exact absurd (hnn2.1 rfl).1 (fun h => by injection h with h; cases h)
        have hv3 : v2 = .slice (some ⟨g3, 0, none⟩) 1 cp3 := hv2
        clear hv2
        subst hv3
        clear HST HSB
        have hst : w2.ownsRow (w.heap.size + 1) 3 1 (.slice (some ⟨g3, 0, none⟩) 1 cp3) 1 [.int .i64 n] := by simpa using hown2
        have HST := Lib.hid hst
        have HSB := Lib.hid hN2
        clear hown2 hst hg2 hnn2 hblk2 hrest hN2
        go_wp2_with fail
        go_loopw [3, 4] (fun o i wr => ∃ (k g cp : Nat) (L : List Int), k ≤ es.length ∧ i = .int .i64 k ∧ o = .slice (some ⟨g, 0, none⟩) L.length cp ∧ wr.ownsRow (w.heap.size + 1) 3 1 (.slice (some ⟨g, 0, none⟩) L.length cp) L.length (L.map (Value.int IntKind.i64)) ∧ L = [n] ++ Ex.holess (es.take k) ∧ Below (w.heap.size + 1) (w.alloc (.cells #[.int .i64 1, .string nm, .int .i64 n, .int .i64 tk, .slice ta tn tc, .slice a es.length cap] 35)) wr) (fun _ i _ => es.length - (intOf i).toNat)
        case atStart => exact ⟨0, g3, cp3, [n], by omega, rfl, rfl, HST.out, by simp [Ex.holess], HSB.out⟩
        case round =>
          obtain ⟨k, g, cp, L, hk, rfl, rfl, hown, hL, hb⟩ := hrel
          have b5 := box_cell hb 5
          have HO := Lib.hid hown; clear hown
          have HB := Lib.hid (box_below hb)
          have HBX := Lib.hid hb; clear hb
          have HS2 := HSZ.out
          have hpart := Ex.holess_part es k
          have hll : L.length ≤ 1 + 1048576 := by rw [hL]; simp; omega
          have HL := Lib.hid hL; clear hL
          by_cases hlt : k < es.length
          · obtain ⟨b, off, x0, x1, x2, x3, x4, x5, rfl, hbl, hc0, hc1, hc2, hc3, hc4, hc5, ht⟩ := HAT.out k hlt
            have hg := Ex.bulk_get es k hlt
            have e0 : wr.cell? ⟨b, off + k * 6, none⟩ = some (x0) := by rw [HB.out.cell (p := ⟨b, off + k * 6, none⟩) hbl]; exact hc0
            have e1 : wr.cell? ⟨b, off + k * 6 + 1, none⟩ = some (x1) := by rw [HB.out.cell (p := ⟨b, off + k * 6 + 1, none⟩) hbl]; exact hc1
            have e2 : wr.cell? ⟨b, off + k * 6 + 2, none⟩ = some (x2) := by rw [HB.out.cell (p := ⟨b, off + k * 6 + 2, none⟩) hbl]; exact hc2
            have e3 : wr.cell? ⟨b, off + k * 6 + 3, none⟩ = some (x3) := by rw [HB.out.cell (p := ⟨b, off + k * 6 + 3, none⟩) hbl]; exact hc3
            have e4 : wr.cell? ⟨b, off + k * 6 + 4, none⟩ = some (x4) := by rw [HB.out.cell (p := ⟨b, off + k * 6 + 4, none⟩) hbl]; exact hc4
            have e5 : wr.cell? ⟨b, off + k * 6 + 5, none⟩ = some (x5) := by rw [HB.out.cell (p := ⟨b, off + k * 6 + 5, none⟩) hbl]; exact hc5
            have HT := Lib.hid (ht.below HB.out)
            clear ht hc0 hc1 hc2 hc3 hc4 hc5
            have hp2 : Ex.bulk es[k] ≤ 1048576 := by omega
            have hfew := Ex.holes_few es[k]
            go_wp2_with fail
            refine (IH.out _ _ _ HT.out (by omega)).mono ?_
            rintro e w1 ⟨g1, cp1, rfl, hi1, hb1⟩
            have HI1 := Lib.hid hi1.1
            have HO1 := Lib.hid (own_below HO.out hb1)
            have HN := Lib.hid (box_next HBX.out hb1)
            have hz1b := hb1.size
            have hz1c := HN.out.size
            simp only [World.size_alloc] at hz1c
            clear hi1 hb1
            go_wp2_with (at_builtin; go_must (refine wpList_append_own_at _ rfl _ _ 51 rfl (w.heap.size + 1) 3 i0 (.int .i64 0) 1 8 Try.underlying51 HI.out HZ0.out HZ1.out HZ2.out rfl (by decide) _ _ _ rfl (HO1.out) ⟨g1, 0, none⟩ es[k].holes.length cp1 (es[k].holes.map (Value.int IntKind.i64)) rfl (by simp) (news_row HI1.out) (ints_one _) (by unfold maxLen; omega) (by omega) (by omega) ?_); intro v2 w2 hown2 hg2 hnn2 hblk2; refine Hid.out ?_)
            refine Lib.hid ?_
            have hN2 := HN.out.grown hg2 (by omega) (fun b hb => (HO1.out.lt b hb).1)
            rcases hown2.2 with ⟨rfl, _⟩ | ⟨g3, cp3, cur, rfl, hrest⟩
            · exact absurd (hnn2.1 rfl).1 (fun h => by injection h with h; cases h)
            have HT2 := Lib.hid (Ex.holess_take es k hlt)
            have hlen2 : L.length + es[k].holes.length = (L ++ es[k].holes).length := by simp
            have hmap2 : L.map (Value.int IntKind.i64) ++ es[k].holes.map (Value.int IntKind.i64) = (L ++ es[k].holes).map (Value.int IntKind.i64) := by simp
            rw [hlen2, hmap2] at hown2
            have HO2 := Lib.hid hown2
            have HN2 := Lib.hid hN2
            have HL2 : Hid (L ++ es[k].holes = [n] ++ Ex.holess (es.take (k + 1))) := by show _ = _; rw [HL.out, HT2.out, List.append_assoc]
            clear hown2 hg2 hnn2 hblk2 hrest hN2 hmap2 hz1b hz1c
            go_wp2_with fail
            exact ⟨⟨k + 1, g3, cp3, L ++ es[k].holes, by omega, by go_num, by first | rfl | simp, HO2.out, HL2.out, HN2.out⟩, by simp [intOf]; omega⟩
          · obtain rfl : k = es.length := by omega
            have hfin : (Ex.node 1 nm n ty es).holes = L := by rw [HFH.out, HL.out, List.take_length]
            have HFN := Lib.hid hfin; clear hfin
            go_wp2_with fail
            go_ret
            rw [HFN.out]
            exact ⟨g, cp, rfl, ⟨own_base HO.out (by omega), fun b hb => (HO.out.lt b hb).2, Nat.le_refl _⟩, HB.out⟩
      · subst q
        have HFH : Hid ((Ex.node 14 nm n ty es).holes = [n] ++ Ex.holess es) := by show _ = _; simp [Ex.holes]
        have HST : Hid (((w.alloc (.cells #[.int .i64 14, .string nm, .int .i64 n, .int .i64 tk, .slice ta tn tc, .slice a es.length cap] 35)).alloc (.cells #[] 3)).ownsRow (w.heap.size + 1) 3 1 (.slice (some ⟨w.heap.size + 1, 0, none⟩) 0 0) 0 []) := by
          have := World.ownsRow_made (base := w.heap.size + 1) (e := 3) (size := 1) (w.alloc (.cells #[.int .i64 14, .string nm, .int .i64 n, .int .i64 tk, .slice ta tn tc, .slice a es.length cap] 35)) #[] 0 (by simp) (Nat.zero_le _) rfl
          rw [World.size_alloc] at this
          exact this
        have HSB : Hid (Below (w.heap.size + 1) (w.alloc (.cells #[.int .i64 14, .string nm, .int .i64 n, .int .i64 tk, .slice ta tn tc, .slice a es.length cap] 35)) ((w.alloc (.cells #[.int .i64 14, .string nm, .int .i64 n, .int .i64 tk, .slice ta tn tc, .slice a es.length cap] 35)).alloc (.cells #[] 3))) := (Below.refl _ _).alloc (by simp) _
        go_enter Try.func20, Try.ntmps20
        go_wp2_with (at_builtin; go_must (refine wpList_append_own_at _ rfl _ _ 51 rfl (w.heap.size + 1) 3 i0 (.int .i64 0) 1 8 Try.underlying51 HI.out HZ0.out HZ1.out HZ2.out rfl (by decide) _ _ _ rfl (HST.out.alloc _) ⟨w.heap.size + 1 + 1, 0, none⟩ 1 1 [.int .i64 n] rfl rfl (news_at _ _ _ _ (by simp)) (by simp [Value.oneCell']) (by unfold maxLen; omega) (by omega) (by simp) ?_); intro v2 w2 hown2 hg2 hnn2 hblk2; refine Hid.out ?_)
        refine Lib.hid ?_
        have hN2 : Below (w.heap.size + 1) (w.alloc (.cells #[.int .i64 14, .string nm, .int .i64 n, .int .i64 tk, .slice ta tn tc, .slice a es.length cap] 35)) w2 := (HSB.out.alloc (by simp) _).grown hg2 (by simp) (fun b hb => (HST.out.lt b hb).1)
        rcases hown2.2 with ⟨rfl, _⟩ | ⟨g3, cp3, cur, hv2, hrest⟩
        · exact absurd (hnn2.1 rfl).1 (fun h => by injection h with h; cases h)
        have hv3 : v2 = .slice (some ⟨g3, 0, none⟩) 1 cp3 := hv2
        clear hv2
        subst hv3
        clear HST HSB
        have hst : w2.ownsRow (w.heap.size + 1) 3 1 (.slice (some ⟨g3, 0, none⟩) 1 cp3) 1 [.int .i64 n] := by simpa using hown2
        have HST := Lib.hid hst
        have HSB := Lib.hid hN2
        clear hown2 hst hg2 hnn2 hblk2 hrest hN2
        go_wp2_with fail
        go_loopw [3, 4] (fun o i wr => ∃ (k g cp : Nat) (L : List Int), k ≤ es.length ∧ i = .int .i64 k ∧ o = .slice (some ⟨g, 0, none⟩) L.length cp ∧ wr.ownsRow (w.heap.size + 1) 3 1 (.slice (some ⟨g, 0, none⟩) L.length cp) L.length (L.map (Value.int IntKind.i64)) ∧ L = [n] ++ Ex.holess (es.take k) ∧ Below (w.heap.size + 1) (w.alloc (.cells #[.int .i64 14, .string nm, .int .i64 n, .int .i64 tk, .slice ta tn tc, .slice a es.length cap] 35)) wr) (fun _ i _ => es.length - (intOf i).toNat)
        case atStart => exact ⟨0, g3, cp3, [n], by omega, rfl, rfl, HST.out, by simp [Ex.holess], HSB.out⟩
        case round =>
          obtain ⟨k, g, cp, L, hk, rfl, rfl, hown, hL, hb⟩ := hrel
          have b5 := box_cell hb 5
          have HO := Lib.hid hown; clear hown
          have HB := Lib.hid (box_below hb)
          have HBX := Lib.hid hb; clear hb
          have HS2 := HSZ.out
          have hpart := Ex.holess_part es k
          have hll : L.length ≤ 1 + 1048576 := by rw [hL]; simp; omega
          have HL := Lib.hid hL; clear hL
          by_cases hlt : k < es.length
          · obtain ⟨b, off, x0, x1, x2, x3, x4, x5, rfl, hbl, hc0, hc1, hc2, hc3, hc4, hc5, ht⟩ := HAT.out k hlt
            have hg := Ex.bulk_get es k hlt
            have e0 : wr.cell? ⟨b, off + k * 6, none⟩ = some (x0) := by rw [HB.out.cell (p := ⟨b, off + k * 6, none⟩) hbl]; exact hc0
            have e1 : wr.cell? ⟨b, off + k * 6 + 1, none⟩ = some (x1) := by rw [HB.out.cell (p := ⟨b, off + k * 6 + 1, none⟩) hbl]; exact hc1
            have e2 : wr.cell? ⟨b, off + k * 6 + 2, none⟩ = some (x2) := by rw [HB.out.cell (p := ⟨b, off + k * 6 + 2, none⟩) hbl]; exact hc2
            have e3 : wr.cell? ⟨b, off + k * 6 + 3, none⟩ = some (x3) := by rw [HB.out.cell (p := ⟨b, off + k * 6 + 3, none⟩) hbl]; exact hc3
            have e4 : wr.cell? ⟨b, off + k * 6 + 4, none⟩ = some (x4) := by rw [HB.out.cell (p := ⟨b, off + k * 6 + 4, none⟩) hbl]; exact hc4
            have e5 : wr.cell? ⟨b, off + k * 6 + 5, none⟩ = some (x5) := by rw [HB.out.cell (p := ⟨b, off + k * 6 + 5, none⟩) hbl]; exact hc5
            have HT := Lib.hid (ht.below HB.out)
            clear ht hc0 hc1 hc2 hc3 hc4 hc5
            have hp2 : Ex.bulk es[k] ≤ 1048576 := by omega
            have hfew := Ex.holes_few es[k]
            go_wp2_with fail
            refine (IH.out _ _ _ HT.out (by omega)).mono ?_
            rintro e w1 ⟨g1, cp1, rfl, hi1, hb1⟩
            have HI1 := Lib.hid hi1.1
            have HO1 := Lib.hid (own_below HO.out hb1)
            have HN := Lib.hid (box_next HBX.out hb1)
            have hz1b := hb1.size
            have hz1c := HN.out.size
            simp only [World.size_alloc] at hz1c
            clear hi1 hb1
            go_wp2_with (at_builtin; go_must (refine wpList_append_own_at _ rfl _ _ 51 rfl (w.heap.size + 1) 3 i0 (.int .i64 0) 1 8 Try.underlying51 HI.out HZ0.out HZ1.out HZ2.out rfl (by decide) _ _ _ rfl (HO1.out) ⟨g1, 0, none⟩ es[k].holes.length cp1 (es[k].holes.map (Value.int IntKind.i64)) rfl (by simp) (news_row HI1.out) (ints_one _) (by unfold maxLen; omega) (by omega) (by omega) ?_); intro v2 w2 hown2 hg2 hnn2 hblk2; refine Hid.out ?_)
            refine Lib.hid ?_
            have hN2 := HN.out.grown hg2 (by omega) (fun b hb => (HO1.out.lt b hb).1)
            rcases hown2.2 with ⟨rfl, _⟩ | ⟨g3, cp3, cur, rfl, hrest⟩
            · exact absurd (hnn2.1 rfl).1 (fun h => by injection h with h; cases h)
            have HT2 := Lib.hid (Ex.holess_take es k hlt)
            have hlen2 : L.length + es[k].holes.length = (L ++ es[k].holes).length := by simp
            have hmap2 : L.map (Value.int IntKind.i64) ++ es[k].holes.map (Value.int IntKind.i64) = (L ++ es[k].holes).map (Value.int IntKind.i64) := by simp
            rw [hlen2, hmap2] at hown2
            have HO2 := Lib.hid hown2
            have HN2 := Lib.hid hN2
            have HL2 : Hid (L ++ es[k].holes = [n] ++ Ex.holess (es.take (k + 1))) := by show _ = _; rw [HL.out, HT2.out, List.append_assoc]
            clear hown2 hg2 hnn2 hblk2 hrest hN2 hmap2 hz1b hz1c
            go_wp2_with fail
            exact ⟨⟨k + 1, g3, cp3, L ++ es[k].holes, by omega, by go_num, by first | rfl | simp, HO2.out, HL2.out, HN2.out⟩, by simp [intOf]; omega⟩
          · obtain rfl : k = es.length := by omega
            have hfin : (Ex.node 14 nm n ty es).holes = L := by rw [HFH.out, HL.out, List.take_length]
            have HFN := Lib.hid hfin; clear hfin
            go_wp2_with fail
            go_ret
            rw [HFN.out]
            exact ⟨g, cp, rfl, ⟨own_base HO.out (by omega), fun b hb => (HO.out.lt b hb).2, Nat.le_refl _⟩, HB.out⟩
    · have qb1 : (kd == 1) = false := by simp; omega
      have qb14 : (kd == 14) = false := by simp; omega
      have HFH : Hid ((Ex.node kd nm n ty es).holes = [] ++ Ex.holess es) := by show _ = _; simp [Ex.holes, q]
      have HST : Hid (((w.alloc (.cells #[.int .i64 kd, .string nm, .int .i64 n, .int .i64 tk, .slice ta tn tc, .slice a es.length cap] 35)).alloc (.cells #[] 3)).ownsRow (w.heap.size + 1) 3 1 (.slice (some ⟨w.heap.size + 1, 0, none⟩) 0 0) 0 []) := by
        have := World.ownsRow_made (base := w.heap.size + 1) (e := 3) (size := 1) (w.alloc (.cells #[.int .i64 kd, .string nm, .int .i64 n, .int .i64 tk, .slice ta tn tc, .slice a es.length cap] 35)) #[] 0 (by simp) (Nat.zero_le _) rfl
        rw [World.size_alloc] at this
        exact this
      have HSB : Hid (Below (w.heap.size + 1) (w.alloc (.cells #[.int .i64 kd, .string nm, .int .i64 n, .int .i64 tk, .slice ta tn tc, .slice a es.length cap] 35)) ((w.alloc (.cells #[.int .i64 kd, .string nm, .int .i64 n, .int .i64 tk, .slice ta tn tc, .slice a es.length cap] 35)).alloc (.cells #[] 3))) := (Below.refl _ _).alloc (by simp) _
      go_enter Try.func20, Try.ntmps20
      go_wp2_with fail
      go_loopw [3, 4] (fun o i wr => ∃ (k g cp : Nat) (L : List Int), k ≤ es.length ∧ i = .int .i64 k ∧ o = .slice (some ⟨g, 0, none⟩) L.length cp ∧ wr.ownsRow (w.heap.size + 1) 3 1 (.slice (some ⟨g, 0, none⟩) L.length cp) L.length (L.map (Value.int IntKind.i64)) ∧ L = [] ++ Ex.holess (es.take k) ∧ Below (w.heap.size + 1) (w.alloc (.cells #[.int .i64 kd, .string nm, .int .i64 n, .int .i64 tk, .slice ta tn tc, .slice a es.length cap] 35)) wr) (fun _ i _ => es.length - (intOf i).toNat)
      case atStart => exact ⟨0, w.heap.size + 1, 0, [], by omega, rfl, rfl, HST.out, by simp [Ex.holess], HSB.out⟩
      case round =>
        obtain ⟨k, g, cp, L, hk, rfl, rfl, hown, hL, hb⟩ := hrel
        have b5 := box_cell hb 5
        have HO := Lib.hid hown; clear hown
        have HB := Lib.hid (box_below hb)
        have HBX := Lib.hid hb; clear hb
        have HS2 := HSZ.out
        have hpart := Ex.holess_part es k
        have hll : L.length ≤ 1 + 1048576 := by rw [hL]; simp; omega
        have HL := Lib.hid hL; clear hL
        by_cases hlt : k < es.length
        · obtain ⟨b, off, x0, x1, x2, x3, x4, x5, rfl, hbl, hc0, hc1, hc2, hc3, hc4, hc5, ht⟩ := HAT.out k hlt
          have hg := Ex.bulk_get es k hlt
          have e0 : wr.cell? ⟨b, off + k * 6, none⟩ = some (x0) := by rw [HB.out.cell (p := ⟨b, off + k * 6, none⟩) hbl]; exact hc0
          have e1 : wr.cell? ⟨b, off + k * 6 + 1, none⟩ = some (x1) := by rw [HB.out.cell (p := ⟨b, off + k * 6 + 1, none⟩) hbl]; exact hc1
          have e2 : wr.cell? ⟨b, off + k * 6 + 2, none⟩ = some (x2) := by rw [HB.out.cell (p := ⟨b, off + k * 6 + 2, none⟩) hbl]; exact hc2
          have e3 : wr.cell? ⟨b, off + k * 6 + 3, none⟩ = some (x3) := by rw [HB.out.cell (p := ⟨b, off + k * 6 + 3, none⟩) hbl]; exact hc3
          have e4 : wr.cell? ⟨b, off + k * 6 + 4, none⟩ = some (x4) := by rw [HB.out.cell (p := ⟨b, off + k * 6 + 4, none⟩) hbl]; exact hc4
          have e5 : wr.cell? ⟨b, off + k * 6 + 5, none⟩ = some (x5) := by rw [HB.out.cell (p := ⟨b, off + k * 6 + 5, none⟩) hbl]; exact hc5
          have HT := Lib.hid (ht.below HB.out)
          clear ht hc0 hc1 hc2 hc3 hc4 hc5
          have hp2 : Ex.bulk es[k] ≤ 1048576 := by omega
          have hfew := Ex.holes_few es[k]
          go_wp2_with fail
          refine (IH.out _ _ _ HT.out (by omega)).mono ?_
          rintro e w1 ⟨g1, cp1, rfl, hi1, hb1⟩
          have HI1 := Lib.hid hi1.1
          have HO1 := Lib.hid (own_below HO.out hb1)
          have HN := Lib.hid (box_next HBX.out hb1)
          have hz1b := hb1.size
          have hz1c := HN.out.size
          simp only [World.size_alloc] at hz1c
          clear hi1 hb1
          go_wp2_with (at_builtin; go_must (refine wpList_append_own_at _ rfl _ _ 51 rfl (w.heap.size + 1) 3 i0 (.int .i64 0) 1 8 Try.underlying51 HI.out HZ0.out HZ1.out HZ2.out rfl (by decide) _ _ _ rfl (HO1.out) ⟨g1, 0, none⟩ es[k].holes.length cp1 (es[k].holes.map (Value.int IntKind.i64)) rfl (by simp) (news_row HI1.out) (ints_one _) (by unfold maxLen; omega) (by omega) (by omega) ?_); intro v2 w2 hown2 hg2 hnn2 hblk2; refine Hid.out ?_)
          refine Lib.hid ?_
          have hN2 := HN.out.grown hg2 (by omega) (fun b hb => (HO1.out.lt b hb).1)
          rcases hown2.2 with ⟨rfl, _⟩ | ⟨g3, cp3, cur, rfl, hrest⟩
          · exact absurd (hnn2.1 rfl).1 (fun h => by injection h with h; cases h)
          have HT2 := Lib.hid (Ex.holess_take es k hlt)
          have hlen2 : L.length + es[k].holes.length = (L ++ es[k].holes).length := by simp
          have hmap2 : L.map (Value.int IntKind.i64) ++ es[k].holes.map (Value.int IntKind.i64) = (L ++ es[k].holes).map (Value.int IntKind.i64) := by simp
          rw [hlen2, hmap2] at hown2
          have HO2 := Lib.hid hown2
          have HN2 := Lib.hid hN2
          have HL2 : Hid (L ++ es[k].holes = [] ++ Ex.holess (es.take (k + 1))) := by show _ = _; rw [HL.out, HT2.out, List.append_assoc]
          clear hown2 hg2 hnn2 hblk2 hrest hN2 hmap2 hz1b hz1c
          go_wp2_with fail
          exact ⟨⟨k + 1, g3, cp3, L ++ es[k].holes, by omega, by go_num, by first | rfl | simp, HO2.out, HL2.out, HN2.out⟩, by simp [intOf]; omega⟩
        · obtain rfl : k = es.length := by omega
          have hfin : (Ex.node kd nm n ty es).holes = L := by rw [HFH.out, HL.out, List.take_length]
          have HFN := Lib.hid hfin; clear hfin
          go_wp2_with fail
          go_ret
          rw [HFN.out]
          exact ⟨g, cp, rfl, ⟨own_base HO.out (by omega), fun b hb => (HO.out.lt b hb).2, Nat.le_refl _⟩, HB.out⟩
theorem specHoles (d : Nat) (v : Value) (t : Ex) (w : World) (h : ExAt w d v t) (hsz : t.bulk ≤ 1048576) :
    Calls Try.prog 20 #[v] w fun e w' => ∃ v, e = .returned v ∧ IntsIn w' v t.holes w.heap.size w'.heap.size ∧ Below w.heap.size w w' :=
  (specHolesOf d v t w h hsz).mono fun _ _ ⟨_, _, he, hi, hb⟩ => ⟨_, he, hi, hb⟩
end Go.Proofs.Ytpioddfihaabdaa
