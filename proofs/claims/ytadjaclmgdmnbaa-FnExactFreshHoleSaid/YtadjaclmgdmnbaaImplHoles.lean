/-
  Proved: impl.appendHoles appends the numbers of the holes and marks of an expression to a row of the call's own, and impl.HolesIn lists them in new memory; no other memory that was there changes.
-/
import Derived.Test.YtadjaclmgdmnbaaSpecHoles
namespace Go.Proofs.Ytadjaclmgdmnbaa
open Go.RowKit

/-- What appending ends in: the row has grown by the numbers; of old memory only its block has changed. -/
def AppEnd (B : Nat) (v0 : Value) (ns : List Int) (t : Ex) (w : World) (e : Ending) (w' : World) : Prop :=
  ∃ v, e = .returned v ∧ w'.ownsRow B 3 1 v (ns ++ t.holes).length ((ns ++ t.holes).map (Value.int IntKind.i64)) ∧ Below B w w' ∧ OnlyOwn v0 w w' ∧ (v.ownBlock = v0.ownBlock ∨ ∀ k, v.ownBlock = some k → w.heap.size ≤ k)
set_option maxRecDepth 100000 in
set_option maxHeartbeats 4000000 in
theorem implAppHoles : ∀ (d : Nat) (B : Nat) (v0 v : Value) (ns : List Int) (t : Ex) (w0 w : World), ExAt w0 d v t → Below w0.heap.size w0 w → w0.heap.size ≤ B → B ≤ w.heap.size → ns.length + t.bulk ≤ 2097152 → w.ownsRow B 3 1 v0 ns.length (ns.map (Value.int IntKind.i64)) → Calls Try.prog 46 #[v0, v] w (AppEnd B v0 ns t w)
  | 0, _, _, _, _, _, _, _, h, _, _, _, _, _ => h.elim
  | d + 1, B, v0, v, ns, .node kd nm n ty es, w0, w, h, hw0, hB0, hBw, hnb, hown => by
    have IH : Hid (∀ (B : Nat) (v0 v : Value) (ns : List Int) (t : Ex) (w0 w : World), ExAt w0 d v t → Below w0.heap.size w0 w → w0.heap.size ≤ B → B ≤ w.heap.size → ns.length + t.bulk ≤ 2097152 → w.ownsRow B 3 1 v0 ns.length (ns.map (Value.int IntKind.i64)) → Calls Try.prog 46 #[v0, v] w (AppEnd B v0 ns t w)) := implAppHoles d
    have hsz : (Ex.node kd nm n ty es).bulk ≤ 2097152 := by omega
    have HV := ex_parts h
    obtain ⟨c3, c4, sl, rfl, hk0, hk1, hn0, hn1, hnm, hty, a, cap, rfl, hcap, hcap2, hat⟩ := h
    obtain ⟨k', nm', n', tk, ta, tn, tc, sa, sn, sc, hv⟩ := HV
    injection hv with hv
    injection hv with hv
    simp at hv
    obtain ⟨rfl, rfl, rfl, rfl, rfl, rfl, rfl, rfl⟩ := hv
    have HAT := Lib.hid hat; clear hat
    have hbk : (Ex.node kd nm n ty es).bulk = nm.size + (ty.size - 1) + Ex.bulks es := rfl
    have HSZ : Hid (Ex.bulks es ≤ 2097152) := by show _ ≤ _; omega
    have HNM : Hid (nm.size ≤ 2097152) := by show _ ≤ _; omega
    have HTZ : Hid (ty.size ≤ 2097153) := by show _ ≤ _; omega
    have hlen : es.length ≤ 2097152 := by have := Ex.length_le es; omega
    have hnb2 : ns.length + Ex.bulks es ≤ 2097152 := by omega
    clear hsz hbk hty hnb
    obtain ⟨i0, hi, hz0, hz1, hz2⟩ := info_parts info_i
    have HI := Lib.hid hi; clear hi
    have HZ0 := Lib.hid hz0; clear hz0
    have HZ1 := Lib.hid hz1; clear hz1
    have HZ2 := Lib.hid hz2; clear hz2
    have HW0 := Lib.hid hw0; clear hw0
    have HOWN := Lib.hid hown; clear hown
    by_cases q : kd = 1 ∨ kd = 14
    · rcases q with q | q
      · subst q
        have HFH : Hid (ns ++ (Ex.node 1 nm n ty es).holes = ns ++ [n] ++ Ex.holess es) := by show _ = _; simp [Ex.holes]
        have HX0 : Hid (BoxAt (w.alloc (.cells #[.int .i64 1, .string nm, .int .i64 n, .int .i64 tk, .slice ta tn tc, .slice a es.length cap] 36)) w.heap.size #[.int .i64 1, .string nm, .int .i64 n, .int .i64 tk, .slice ta tn tc, .slice a es.length cap]) := BoxAt.new _ _ _
        have HBa : Hid (Below B w (w.alloc (.cells #[.int .i64 1, .string nm, .int .i64 n, .int .i64 tk, .slice ta tn tc, .slice a es.length cap] 36))) := (Below.refl _ _).alloc hBw _
        have HOa := Lib.hid (own_below HOWN.out (below_alloc w (.cells #[.int .i64 1, .string nm, .int .i64 n, .int .i64 tk, .slice ta tn tc, .slice a es.length cap] 36)))
        have HNS : Hid ((ns ++ [n]).length + Ex.bulks es ≤ 2097153) := by show _ ≤ _; simp; omega
        have hnl : ns.length ≤ 2097152 := by omega
        go_enter Try.func46, Try.ntmps46
        go_wp2_with (at_builtin; go_must (refine wpList_append_own_at _ rfl _ _ 29 rfl (B) 3 i0 (.int .i64 0) 1 8 Try.underlying29 HI.out HZ0.out HZ1.out HZ2.out rfl (by decide) _ _ _ rfl (HOa.out.alloc _) ⟨w.heap.size + 1, 0, none⟩ 1 1 [.int .i64 n] rfl rfl (news_at _ _ _ _ (by simp)) (by simp [Value.oneCell']) (by unfold maxLen; omega) (by omega) (by simp; omega) ?_); intro v2 w2 hown2 hg2 _ hblk2; refine Hid.out ?_)
        refine Lib.hid ?_
        have hz2 := hg2.size
        simp only [World.size_alloc] at hz2
        have hown2b : w2.ownsRow B 3 1 v2 (ns ++ [n]).length ((ns ++ [n]).map (Value.int IntKind.i64)) := by simpa using hown2
        have HST := Lib.hid hown2b
        have HSB := Lib.hid ((HBa.out.alloc (by simp; omega) _).grown hg2 (by simp; omega) (fun b hb => (HOa.out.lt b hb).1))
        have HSO : Hid (OnlyOwn v0 w w2) := ⟨by omega, fun c c1 c2 => by rw [hg2.block c (by simp; omega) (fun e => c2 e.symm), heap_alloc_old _ _ (by simp; omega), heap_alloc_old _ _ (by omega)]⟩
        have HSV : Hid (v2.ownBlock = v0.ownBlock ∨ ∀ b, v2.ownBlock = some b → w.heap.size ≤ b) := by
          rcases hblk2 with h | h
          · exact Or.inl h
          · exact Or.inr fun c hc => by rw [h] at hc; simp at hc; omega
        have hvn : v0.ownBlock ≠ some w.heap.size := fun e => by have := (HOWN.out.lt _ e).2; omega
        have HSN : Hid (v2.ownBlock ≠ some w.heap.size) := by
          rcases hblk2 with h | h
          · rw [h]; exact hvn
          · rw [h]; intro e; simp at e <;> omega
        have HSX := Lib.hid (BoxAt.kept (HX0.out.below (below_alloc _ (.cells #[.int .i64 n] 3))) hg2.size (hg2.block _ (by simp; omega) (fun e => hvn e.symm)))
        clear hown2 hown2b hg2 hblk2 hz2
        have b5 := HSX.out.2 5
        go_wp2_with fail
        go_loopw [0, 23] (fun o i wr => ∃ (k : Nat), k ≤ es.length ∧ i = .int .i64 k ∧ wr.ownsRow B 3 1 o (ns ++ [n] ++ Ex.holess (es.take k)).length ((ns ++ [n] ++ Ex.holess (es.take k)).map (Value.int IntKind.i64)) ∧ Below B w wr ∧ OnlyOwn v0 w wr ∧ (o.ownBlock = v0.ownBlock ∨ ∀ b, o.ownBlock = some b → w.heap.size ≤ b) ∧ o.ownBlock ≠ some w.heap.size ∧ BoxAt wr w.heap.size #[.int .i64 1, .string nm, .int .i64 n, .int .i64 tk, .slice ta tn tc, .slice a es.length cap]) (fun _ i _ => es.length - (intOf i).toNat)
        case atStart => exact ⟨0, by omega, rfl, by simpa [Ex.holess] using HST.out, HSB.out, HSO.out, HSV.out, HSN.out, HSX.out⟩
        case round =>
          obtain ⟨k, hk, rfl, hown, hb, hoo, hov, hon, hbx⟩ := hrel
          have b5 := hbx.2 5
          have HO := Lib.hid hown
          have HB := Lib.hid hb
          have HOO := Lib.hid hoo
          have HOV := Lib.hid hov
          have HON := Lib.hid hon
          have HX := Lib.hid hbx
          clear hown hb hoo hov hon hbx
          have HS2 := HSZ.out
          have hpart := Ex.holess_part es k
          by_cases hlt : k < es.length
          · obtain ⟨b, off, x0, x1, x2, x3, x4, x5, rfl, hbl, hc0, hc1, hc2, hc3, hc4, hc5, ht⟩ := HAT.out k hlt
            have hg := Ex.bulk_get es k hlt
            obtain ⟨yk, ynm, yn, ytk, yta, ytn, ytc, ya, ym, yc, rfl, rfl, rfl, rfl, rfl, rfl⟩ := ex_cells ht
            have HB0 : Hid (Below w0.heap.size w0 wr) := HW0.out.trans (HB.out.mono hB0)
            have g0 : wr.cell? ⟨b, off + k * 6, none⟩ = some (.int .i64 yk) := by rw [HB0.out.cell (p := ⟨b, off + k * 6, none⟩) hbl]; exact hc0
            have g1 : wr.cell? ⟨b, off + k * 6 + 1, none⟩ = some (.string ynm) := by rw [HB0.out.cell (p := ⟨b, off + k * 6 + 1, none⟩) hbl]; exact hc1
            have g2 : wr.cell? ⟨b, off + k * 6 + 2, none⟩ = some (.int .i64 yn) := by rw [HB0.out.cell (p := ⟨b, off + k * 6 + 2, none⟩) hbl]; exact hc2
            have g3 : wr.cell? ⟨b, off + k * 6 + 3, none⟩ = some (.int .i64 ytk) := by rw [HB0.out.cell (p := ⟨b, off + k * 6 + 3, none⟩) hbl]; exact hc3
            have g4 : wr.cell? ⟨b, off + k * 6 + 4, none⟩ = some (.slice yta ytn ytc) := by rw [HB0.out.cell (p := ⟨b, off + k * 6 + 4, none⟩) hbl]; exact hc4
            have g5 : wr.cell? ⟨b, off + k * 6 + 5, none⟩ = some (.slice ya ym yc) := by rw [HB0.out.cell (p := ⟨b, off + k * 6 + 5, none⟩) hbl]; exact hc5
            have HT := Lib.hid ht
            clear ht hc0 hc1 hc2 hc3 hc4 hc5
            have hzr : w.heap.size ≤ wr.heap.size := HB.out.size
            have HB0b := Lib.hid (HB0.out.alloc HB0.out.size (.cells #[.int .i64 yk, .string ynm, .int .i64 yn, .int .i64 ytk, .slice yta ytn ytc, .slice ya ym yc] 36))
            have HOb := Lib.hid (own_below HO.out (below_alloc wr (.cells #[.int .i64 yk, .string ynm, .int .i64 yn, .int .i64 ytk, .slice yta ytn ytc, .slice ya ym yc] 36)))
            have HXb := Lib.hid (HX.out.below (below_alloc wr (.cells #[.int .i64 yk, .string ynm, .int .i64 yn, .int .i64 ytk, .slice yta ytn ytc, .slice ya ym yc] 36)))
            have hll : (ns ++ [n] ++ Ex.holess (es.take k)).length + es[k].bulk ≤ 2097152 := by have h1 := Ex.holess_few (es.take k); have h2 := Ex.bulks_take es k hlt; have h3 := Ex.bulks_le es (k + 1); have h4 := HNS.out; simp at h4 ⊢; omega
            go_wp2_with fail
            refine (IH.out B _ _ _ es[k] w0 (wr.alloc (.cells #[.int .i64 yk, .string ynm, .int .i64 yn, .int .i64 ytk, .slice yta ytn ytc, .slice ya ym yc] 36)) HT.out HB0b.out hB0 (by simp; omega) hll HOb.out).mono ?_
            rintro e w3 ⟨v3, rfl, hown3, hb3, hoo3, hov3⟩
            have HX3 := Lib.hid (BoxAt.kept HXb.out hoo3.1 (hoo3.2 _ HXb.out.1 HON.out))
            have HT2 := Lib.hid (Ex.holess_take es k hlt)
            have e3 : ns ++ [n] ++ Ex.holess (es.take k) ++ es[k].holes = ns ++ [n] ++ Ex.holess (es.take (k + 1)) := by rw [HT2.out, List.append_assoc]
            rw [e3] at hown3
            have HO3 := Lib.hid hown3
            have HB3 := Lib.hid ((HB.out.alloc (by omega) (.cells #[.int .i64 yk, .string ynm, .int .i64 yn, .int .i64 ytk, .slice yta ytn ytc, .slice ya ym yc] 36)).trans hb3)
            have hz3 := hoo3.1
            simp only [World.size_alloc] at hz3
            have HOO3 : Hid (OnlyOwn v0 w w3) := by
              refine ⟨by omega, fun c c1 c2 => ?_⟩
              have c3 : c < (wr.alloc (.cells #[.int .i64 yk, .string ynm, .int .i64 yn, .int .i64 ytk, .slice yta ytn ytc, .slice ya ym yc] 36)).heap.size := by simp; omega
              rw [hoo3.2 c c3 ?_, heap_alloc_old _ _ (by omega)]
              · exact HOO.out.2 c c1 c2
              · intro e
                rcases HOV.out with h | h
                · rw [h] at e; exact c2 e
                · have := h c e; omega
            have HOV3 : Hid (v3.ownBlock = v0.ownBlock ∨ ∀ b, v3.ownBlock = some b → w.heap.size ≤ b) := by
              rcases hov3 with h | h
              · rw [h]; exact HOV.out
              · exact Or.inr fun c hc => by have := h c hc; simp at this; omega
            have HON3 : Hid (v3.ownBlock ≠ some w.heap.size) := by
              rcases hov3 with h | h
              · rw [h]; exact HON.out
              · intro e; have := h _ e; simp at this; omega
            clear hown3 hb3 hoo3 hov3 e3 hz3
            go_wp2_with fail
            exact ⟨⟨k + 1, by omega, by go_num, HO3.out, HB3.out, HOO3.out, HOV3.out, HON3.out, HX3.out⟩, by simp [intOf]; omega⟩
          · obtain rfl : k = es.length := by omega
            have hfin := HO.out
            rw [List.take_length] at hfin
            have HF := Lib.hid hfin; clear hfin
            go_wp2_with fail
            go_ret
            refine ⟨_, rfl, ?_, HB.out, HOO.out, HOV.out⟩
            rw [HFH.out]
            exact HF.out
      · subst q
        have HFH : Hid (ns ++ (Ex.node 14 nm n ty es).holes = ns ++ [n] ++ Ex.holess es) := by show _ = _; simp [Ex.holes]
        have HX0 : Hid (BoxAt (w.alloc (.cells #[.int .i64 14, .string nm, .int .i64 n, .int .i64 tk, .slice ta tn tc, .slice a es.length cap] 36)) w.heap.size #[.int .i64 14, .string nm, .int .i64 n, .int .i64 tk, .slice ta tn tc, .slice a es.length cap]) := BoxAt.new _ _ _
        have HBa : Hid (Below B w (w.alloc (.cells #[.int .i64 14, .string nm, .int .i64 n, .int .i64 tk, .slice ta tn tc, .slice a es.length cap] 36))) := (Below.refl _ _).alloc hBw _
        have HOa := Lib.hid (own_below HOWN.out (below_alloc w (.cells #[.int .i64 14, .string nm, .int .i64 n, .int .i64 tk, .slice ta tn tc, .slice a es.length cap] 36)))
        have HNS : Hid ((ns ++ [n]).length + Ex.bulks es ≤ 2097153) := by show _ ≤ _; simp; omega
        have hnl : ns.length ≤ 2097152 := by omega
        go_enter Try.func46, Try.ntmps46
        go_wp2_with (at_builtin; go_must (refine wpList_append_own_at _ rfl _ _ 29 rfl (B) 3 i0 (.int .i64 0) 1 8 Try.underlying29 HI.out HZ0.out HZ1.out HZ2.out rfl (by decide) _ _ _ rfl (HOa.out.alloc _) ⟨w.heap.size + 1, 0, none⟩ 1 1 [.int .i64 n] rfl rfl (news_at _ _ _ _ (by simp)) (by simp [Value.oneCell']) (by unfold maxLen; omega) (by omega) (by simp; omega) ?_); intro v2 w2 hown2 hg2 _ hblk2; refine Hid.out ?_)
        refine Lib.hid ?_
        have hz2 := hg2.size
        simp only [World.size_alloc] at hz2
        have hown2b : w2.ownsRow B 3 1 v2 (ns ++ [n]).length ((ns ++ [n]).map (Value.int IntKind.i64)) := by simpa using hown2
        have HST := Lib.hid hown2b
        have HSB := Lib.hid ((HBa.out.alloc (by simp; omega) _).grown hg2 (by simp; omega) (fun b hb => (HOa.out.lt b hb).1))
        have HSO : Hid (OnlyOwn v0 w w2) := ⟨by omega, fun c c1 c2 => by rw [hg2.block c (by simp; omega) (fun e => c2 e.symm), heap_alloc_old _ _ (by simp; omega), heap_alloc_old _ _ (by omega)]⟩
        have HSV : Hid (v2.ownBlock = v0.ownBlock ∨ ∀ b, v2.ownBlock = some b → w.heap.size ≤ b) := by
          rcases hblk2 with h | h
          · exact Or.inl h
          · exact Or.inr fun c hc => by rw [h] at hc; simp at hc; omega
        have hvn : v0.ownBlock ≠ some w.heap.size := fun e => by have := (HOWN.out.lt _ e).2; omega
        have HSN : Hid (v2.ownBlock ≠ some w.heap.size) := by
          rcases hblk2 with h | h
          · rw [h]; exact hvn
          · rw [h]; intro e; simp at e <;> omega
        have HSX := Lib.hid (BoxAt.kept (HX0.out.below (below_alloc _ (.cells #[.int .i64 n] 3))) hg2.size (hg2.block _ (by simp; omega) (fun e => hvn e.symm)))
        clear hown2 hown2b hg2 hblk2 hz2
        have b5 := HSX.out.2 5
        go_wp2_with fail
        go_loopw [0, 23] (fun o i wr => ∃ (k : Nat), k ≤ es.length ∧ i = .int .i64 k ∧ wr.ownsRow B 3 1 o (ns ++ [n] ++ Ex.holess (es.take k)).length ((ns ++ [n] ++ Ex.holess (es.take k)).map (Value.int IntKind.i64)) ∧ Below B w wr ∧ OnlyOwn v0 w wr ∧ (o.ownBlock = v0.ownBlock ∨ ∀ b, o.ownBlock = some b → w.heap.size ≤ b) ∧ o.ownBlock ≠ some w.heap.size ∧ BoxAt wr w.heap.size #[.int .i64 14, .string nm, .int .i64 n, .int .i64 tk, .slice ta tn tc, .slice a es.length cap]) (fun _ i _ => es.length - (intOf i).toNat)
        case atStart => exact ⟨0, by omega, rfl, by simpa [Ex.holess] using HST.out, HSB.out, HSO.out, HSV.out, HSN.out, HSX.out⟩
        case round =>
          obtain ⟨k, hk, rfl, hown, hb, hoo, hov, hon, hbx⟩ := hrel
          have b5 := hbx.2 5
          have HO := Lib.hid hown
          have HB := Lib.hid hb
          have HOO := Lib.hid hoo
          have HOV := Lib.hid hov
          have HON := Lib.hid hon
          have HX := Lib.hid hbx
          clear hown hb hoo hov hon hbx
          have HS2 := HSZ.out
          have hpart := Ex.holess_part es k
          by_cases hlt : k < es.length
          · obtain ⟨b, off, x0, x1, x2, x3, x4, x5, rfl, hbl, hc0, hc1, hc2, hc3, hc4, hc5, ht⟩ := HAT.out k hlt
            have hg := Ex.bulk_get es k hlt
            obtain ⟨yk, ynm, yn, ytk, yta, ytn, ytc, ya, ym, yc, rfl, rfl, rfl, rfl, rfl, rfl⟩ := ex_cells ht
            have HB0 : Hid (Below w0.heap.size w0 wr) := HW0.out.trans (HB.out.mono hB0)
            have g0 : wr.cell? ⟨b, off + k * 6, none⟩ = some (.int .i64 yk) := by rw [HB0.out.cell (p := ⟨b, off + k * 6, none⟩) hbl]; exact hc0
            have g1 : wr.cell? ⟨b, off + k * 6 + 1, none⟩ = some (.string ynm) := by rw [HB0.out.cell (p := ⟨b, off + k * 6 + 1, none⟩) hbl]; exact hc1
            have g2 : wr.cell? ⟨b, off + k * 6 + 2, none⟩ = some (.int .i64 yn) := by rw [HB0.out.cell (p := ⟨b, off + k * 6 + 2, none⟩) hbl]; exact hc2
            have g3 : wr.cell? ⟨b, off + k * 6 + 3, none⟩ = some (.int .i64 ytk) := by rw [HB0.out.cell (p := ⟨b, off + k * 6 + 3, none⟩) hbl]; exact hc3
            have g4 : wr.cell? ⟨b, off + k * 6 + 4, none⟩ = some (.slice yta ytn ytc) := by rw [HB0.out.cell (p := ⟨b, off + k * 6 + 4, none⟩) hbl]; exact hc4
            have g5 : wr.cell? ⟨b, off + k * 6 + 5, none⟩ = some (.slice ya ym yc) := by rw [HB0.out.cell (p := ⟨b, off + k * 6 + 5, none⟩) hbl]; exact hc5
            have HT := Lib.hid ht
            clear ht hc0 hc1 hc2 hc3 hc4 hc5
            have hzr : w.heap.size ≤ wr.heap.size := HB.out.size
            have HB0b := Lib.hid (HB0.out.alloc HB0.out.size (.cells #[.int .i64 yk, .string ynm, .int .i64 yn, .int .i64 ytk, .slice yta ytn ytc, .slice ya ym yc] 36))
            have HOb := Lib.hid (own_below HO.out (below_alloc wr (.cells #[.int .i64 yk, .string ynm, .int .i64 yn, .int .i64 ytk, .slice yta ytn ytc, .slice ya ym yc] 36)))
            have HXb := Lib.hid (HX.out.below (below_alloc wr (.cells #[.int .i64 yk, .string ynm, .int .i64 yn, .int .i64 ytk, .slice yta ytn ytc, .slice ya ym yc] 36)))
            have hll : (ns ++ [n] ++ Ex.holess (es.take k)).length + es[k].bulk ≤ 2097152 := by have h1 := Ex.holess_few (es.take k); have h2 := Ex.bulks_take es k hlt; have h3 := Ex.bulks_le es (k + 1); have h4 := HNS.out; simp at h4 ⊢; omega
            go_wp2_with fail
            refine (IH.out B _ _ _ es[k] w0 (wr.alloc (.cells #[.int .i64 yk, .string ynm, .int .i64 yn, .int .i64 ytk, .slice yta ytn ytc, .slice ya ym yc] 36)) HT.out HB0b.out hB0 (by simp; omega) hll HOb.out).mono ?_
            rintro e w3 ⟨v3, rfl, hown3, hb3, hoo3, hov3⟩
            have HX3 := Lib.hid (BoxAt.kept HXb.out hoo3.1 (hoo3.2 _ HXb.out.1 HON.out))
            have HT2 := Lib.hid (Ex.holess_take es k hlt)
            have e3 : ns ++ [n] ++ Ex.holess (es.take k) ++ es[k].holes = ns ++ [n] ++ Ex.holess (es.take (k + 1)) := by rw [HT2.out, List.append_assoc]
            rw [e3] at hown3
            have HO3 := Lib.hid hown3
            have HB3 := Lib.hid ((HB.out.alloc (by omega) (.cells #[.int .i64 yk, .string ynm, .int .i64 yn, .int .i64 ytk, .slice yta ytn ytc, .slice ya ym yc] 36)).trans hb3)
            have hz3 := hoo3.1
            simp only [World.size_alloc] at hz3
            have HOO3 : Hid (OnlyOwn v0 w w3) := by
              refine ⟨by omega, fun c c1 c2 => ?_⟩
              have c3 : c < (wr.alloc (.cells #[.int .i64 yk, .string ynm, .int .i64 yn, .int .i64 ytk, .slice yta ytn ytc, .slice ya ym yc] 36)).heap.size := by simp; omega
              rw [hoo3.2 c c3 ?_, heap_alloc_old _ _ (by omega)]
              · exact HOO.out.2 c c1 c2
              · intro e
                rcases HOV.out with h | h
                · rw [h] at e; exact c2 e
                · have := h c e; omega
            have HOV3 : Hid (v3.ownBlock = v0.ownBlock ∨ ∀ b, v3.ownBlock = some b → w.heap.size ≤ b) := by
              rcases hov3 with h | h
              · rw [h]; exact HOV.out
              · exact Or.inr fun c hc => by have := h c hc; simp at this; omega
            have HON3 : Hid (v3.ownBlock ≠ some w.heap.size) := by
              rcases hov3 with h | h
              · rw [h]; exact HON.out
              · intro e; have := h _ e; simp at this; omega
            clear hown3 hb3 hoo3 hov3 e3 hz3
            go_wp2_with fail
            exact ⟨⟨k + 1, by omega, by go_num, HO3.out, HB3.out, HOO3.out, HOV3.out, HON3.out, HX3.out⟩, by simp [intOf]; omega⟩
          · obtain rfl : k = es.length := by omega
            have hfin := HO.out
            rw [List.take_length] at hfin
            have HF := Lib.hid hfin; clear hfin
            go_wp2_with fail
            go_ret
            refine ⟨_, rfl, ?_, HB.out, HOO.out, HOV.out⟩
            rw [HFH.out]
            exact HF.out
    · have qb1 : (kd == 1) = false := by simp; omega
      have qb14 : (kd == 14) = false := by simp; omega
      have HFH : Hid (ns ++ (Ex.node kd nm n ty es).holes = ns ++ Ex.holess es) := by show _ = _; simp [Ex.holes, q]
      have HNS : Hid (ns.length + Ex.bulks es ≤ 2097153) := by show _ ≤ _; omega
      have HX0 : Hid (BoxAt (w.alloc (.cells #[.int .i64 kd, .string nm, .int .i64 n, .int .i64 tk, .slice ta tn tc, .slice a es.length cap] 36)) w.heap.size #[.int .i64 kd, .string nm, .int .i64 n, .int .i64 tk, .slice ta tn tc, .slice a es.length cap]) := BoxAt.new _ _ _
      have HBa : Hid (Below B w (w.alloc (.cells #[.int .i64 kd, .string nm, .int .i64 n, .int .i64 tk, .slice ta tn tc, .slice a es.length cap] 36))) := (Below.refl _ _).alloc hBw _
      have HOa := Lib.hid (own_below HOWN.out (below_alloc w (.cells #[.int .i64 kd, .string nm, .int .i64 n, .int .i64 tk, .slice ta tn tc, .slice a es.length cap] 36)))
      have HST := HOa
      have HSB := HBa
      have HSX := HX0
      have HSO : Hid (OnlyOwn v0 w (w.alloc (.cells #[.int .i64 kd, .string nm, .int .i64 n, .int .i64 tk, .slice ta tn tc, .slice a es.length cap] 36))) := ⟨by simp, fun c c1 c2 => heap_alloc_old _ _ c1⟩
      have HSN : Hid (v0.ownBlock ≠ some w.heap.size) := fun e => by have := (HOWN.out.lt _ e).2; omega
      go_enter Try.func46, Try.ntmps46
      go_wp2_with fail
      go_loopw [0, 23] (fun o i wr => ∃ (k : Nat), k ≤ es.length ∧ i = .int .i64 k ∧ wr.ownsRow B 3 1 o (ns ++ Ex.holess (es.take k)).length ((ns ++ Ex.holess (es.take k)).map (Value.int IntKind.i64)) ∧ Below B w wr ∧ OnlyOwn v0 w wr ∧ (o.ownBlock = v0.ownBlock ∨ ∀ b, o.ownBlock = some b → w.heap.size ≤ b) ∧ o.ownBlock ≠ some w.heap.size ∧ BoxAt wr w.heap.size #[.int .i64 kd, .string nm, .int .i64 n, .int .i64 tk, .slice ta tn tc, .slice a es.length cap]) (fun _ i _ => es.length - (intOf i).toNat)
      case atStart => exact ⟨0, by omega, rfl, by simpa [Ex.holess] using HST.out, HSB.out, HSO.out, Or.inl rfl, HSN.out, HSX.out⟩
      case round =>
        obtain ⟨k, hk, rfl, hown, hb, hoo, hov, hon, hbx⟩ := hrel
        have b5 := hbx.2 5
        have HO := Lib.hid hown
        have HB := Lib.hid hb
        have HOO := Lib.hid hoo
        have HOV := Lib.hid hov
        have HON := Lib.hid hon
        have HX := Lib.hid hbx
        clear hown hb hoo hov hon hbx
        have HS2 := HSZ.out
        have hpart := Ex.holess_part es k
        by_cases hlt : k < es.length
        · obtain ⟨b, off, x0, x1, x2, x3, x4, x5, rfl, hbl, hc0, hc1, hc2, hc3, hc4, hc5, ht⟩ := HAT.out k hlt
          have hg := Ex.bulk_get es k hlt
          obtain ⟨yk, ynm, yn, ytk, yta, ytn, ytc, ya, ym, yc, rfl, rfl, rfl, rfl, rfl, rfl⟩ := ex_cells ht
          have HB0 : Hid (Below w0.heap.size w0 wr) := HW0.out.trans (HB.out.mono hB0)
          have g0 : wr.cell? ⟨b, off + k * 6, none⟩ = some (.int .i64 yk) := by rw [HB0.out.cell (p := ⟨b, off + k * 6, none⟩) hbl]; exact hc0
          have g1 : wr.cell? ⟨b, off + k * 6 + 1, none⟩ = some (.string ynm) := by rw [HB0.out.cell (p := ⟨b, off + k * 6 + 1, none⟩) hbl]; exact hc1
          have g2 : wr.cell? ⟨b, off + k * 6 + 2, none⟩ = some (.int .i64 yn) := by rw [HB0.out.cell (p := ⟨b, off + k * 6 + 2, none⟩) hbl]; exact hc2
          have g3 : wr.cell? ⟨b, off + k * 6 + 3, none⟩ = some (.int .i64 ytk) := by rw [HB0.out.cell (p := ⟨b, off + k * 6 + 3, none⟩) hbl]; exact hc3
          have g4 : wr.cell? ⟨b, off + k * 6 + 4, none⟩ = some (.slice yta ytn ytc) := by rw [HB0.out.cell (p := ⟨b, off + k * 6 + 4, none⟩) hbl]; exact hc4
          have g5 : wr.cell? ⟨b, off + k * 6 + 5, none⟩ = some (.slice ya ym yc) := by rw [HB0.out.cell (p := ⟨b, off + k * 6 + 5, none⟩) hbl]; exact hc5
          have HT := Lib.hid ht
          clear ht hc0 hc1 hc2 hc3 hc4 hc5
          have hzr : w.heap.size ≤ wr.heap.size := HB.out.size
          have HB0b := Lib.hid (HB0.out.alloc HB0.out.size (.cells #[.int .i64 yk, .string ynm, .int .i64 yn, .int .i64 ytk, .slice yta ytn ytc, .slice ya ym yc] 36))
          have HOb := Lib.hid (own_below HO.out (below_alloc wr (.cells #[.int .i64 yk, .string ynm, .int .i64 yn, .int .i64 ytk, .slice yta ytn ytc, .slice ya ym yc] 36)))
          have HXb := Lib.hid (HX.out.below (below_alloc wr (.cells #[.int .i64 yk, .string ynm, .int .i64 yn, .int .i64 ytk, .slice yta ytn ytc, .slice ya ym yc] 36)))
          have hll : (ns ++ Ex.holess (es.take k)).length + es[k].bulk ≤ 2097152 := by have h1 := Ex.holess_few (es.take k); have h2 := Ex.bulks_take es k hlt; have h3 := Ex.bulks_le es (k + 1); have h4 := HNS.out; simp at h4 ⊢; omega
          go_wp2_with fail
          refine (IH.out B _ _ _ es[k] w0 (wr.alloc (.cells #[.int .i64 yk, .string ynm, .int .i64 yn, .int .i64 ytk, .slice yta ytn ytc, .slice ya ym yc] 36)) HT.out HB0b.out hB0 (by simp; omega) hll HOb.out).mono ?_
          rintro e w3 ⟨v3, rfl, hown3, hb3, hoo3, hov3⟩
          have HX3 := Lib.hid (BoxAt.kept HXb.out hoo3.1 (hoo3.2 _ HXb.out.1 HON.out))
          have HT2 := Lib.hid (Ex.holess_take es k hlt)
          have e3 : ns ++ Ex.holess (es.take k) ++ es[k].holes = ns ++ Ex.holess (es.take (k + 1)) := by rw [HT2.out, List.append_assoc]
          rw [e3] at hown3
          have HO3 := Lib.hid hown3
          have HB3 := Lib.hid ((HB.out.alloc (by omega) (.cells #[.int .i64 yk, .string ynm, .int .i64 yn, .int .i64 ytk, .slice yta ytn ytc, .slice ya ym yc] 36)).trans hb3)
          have hz3 := hoo3.1
          simp only [World.size_alloc] at hz3
          have HOO3 : Hid (OnlyOwn v0 w w3) := by
            refine ⟨by omega, fun c c1 c2 => ?_⟩
            have c3 : c < (wr.alloc (.cells #[.int .i64 yk, .string ynm, .int .i64 yn, .int .i64 ytk, .slice yta ytn ytc, .slice ya ym yc] 36)).heap.size := by simp; omega
            rw [hoo3.2 c c3 ?_, heap_alloc_old _ _ (by omega)]
            · exact HOO.out.2 c c1 c2
            · intro e
              rcases HOV.out with h | h
              · rw [h] at e; exact c2 e
              · have := h c e; omega
          have HOV3 : Hid (v3.ownBlock = v0.ownBlock ∨ ∀ b, v3.ownBlock = some b → w.heap.size ≤ b) := by
            rcases hov3 with h | h
            · rw [h]; exact HOV.out
            · exact Or.inr fun c hc => by have := h c hc; simp at this; omega
          have HON3 : Hid (v3.ownBlock ≠ some w.heap.size) := by
            rcases hov3 with h | h
            · rw [h]; exact HON.out
            · intro e; have := h _ e; simp at this; omega
          clear hown3 hb3 hoo3 hov3 e3 hz3
          go_wp2_with fail
          exact ⟨⟨k + 1, by omega, by go_num, HO3.out, HB3.out, HOO3.out, HOV3.out, HON3.out, HX3.out⟩, by simp [intOf]; omega⟩
        · obtain rfl : k = es.length := by omega
          have hfin := HO.out
          rw [List.take_length] at hfin
          have HF := Lib.hid hfin; clear hfin
          go_wp2_with fail
          go_ret
          refine ⟨_, rfl, ?_, HB.out, HOO.out, HOV.out⟩
          rw [HFH.out]
          exact HF.out
set_option maxRecDepth 100000 in
theorem implHoles (d : Nat) (v : Value) (t : Ex) (w : World) (h : ExAt w d v t) (hsz : t.bulk ≤ 1048576) :
    Calls Try.prog 13 #[v] w fun e w' => ∃ v, e = .returned v ∧ IntsIn w' v t.holes w.heap.size w'.heap.size ∧ Below w.heap.size w w' := by
  have HT := Lib.hid h
  obtain ⟨yk, ynm, yn, ytk, yta, ytn, ytc, ya, ym, yc, rfl⟩ := ex_parts h
  clear h
  have E0 := Lib.hid (below_alloc w (.cells #[.int .i64 yk, .string ynm, .int .i64 yn, .int .i64 ytk, .slice yta ytn ytc, .slice ya ym yc] 36))
  go_enter Try.func13, Try.ntmps13
  go_wp2_with fail
  refine (implAppHoles d (w.heap.size + 1) (.slice none 0 0) _ [] t (w.alloc (.cells #[.int .i64 yk, .string ynm, .int .i64 yn, .int .i64 ytk, .slice yta ytn ytc, .slice ya ym yc] 36)) _ (HT.out.below E0.out) (Below.refl _ _) (by simp) (by simp) (by simp; omega) (World.ownsRow_nil _ _ _ _)).mono ?_
  rintro e w1 ⟨v1, rfl, hown, hb, _, _⟩
  have HO := Lib.hid hown
  have HB := Lib.hid (E0.out.trans (hb.mono (Nat.le_succ _)))
  clear hown hb
  go_wp2_with fail
  go_ret
  refine ⟨_, rfl, ?_, HB.out⟩
  have h := HO.out
  rw [List.nil_append] at h
  exact ⟨own_base h (Nat.le_succ _), fun b hb => (h.lt b hb).2, Nat.le_refl _⟩
theorem implHolesRow (d : Nat) (v : Value) (t : Ex) (w : World) (h : ExAt w d v t) (hsz : t.bulk ≤ 1048576) :
    Calls Try.prog 13 #[v] w fun e w' => ∃ a cp, e = .returned (.slice a t.holes.length cp) ∧ Below w.heap.size w w' :=
  (implHoles d v t w h hsz).mono fun e w' ⟨v, he, hi, hb⟩ => by
    obtain ⟨a, cp, hv, _⟩ := hi.ints
    exact ⟨a, cp, by rw [he, hv], hb⟩
end Go.Proofs.Ytadjaclmgdmnbaa
