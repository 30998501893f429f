/-
  Proved: laws.szCore, szCoreS, szCoreBind and szCoreBindS say whether what a core expression holds fits into what is left; they leave the memory that was there as it was.
-/
import Derived.Test.YtefoenkmppeidaaCoTree
import Derived.Test.YtefoenkmppeidaaSzType
import Derived.Test.YtefoenkmppeidaaHold
namespace Go.Proofs.Ytefoenkmppeidaa
open Go.RowKit

def SzCoSaid (d : Nat) : Prop := ∀ (v : Value) (t : Co) (left : Int) (w : World), 0 ≤ left → left ≤ 1048576 → CoAt w d v t →
  Calls Try.prog 24 #[v, .int .i64 left] w (SzTyEnd t.bulk left w)
def SzCosSaid (d : Nat) : Prop := ∀ (v : Value) (ts : List Co) (left : Int) (w : World), 0 ≤ left → left ≤ 1048576 → CosAt w d v ts →
  Calls Try.prog 69 #[v, .int .i64 left] w (SzTyEnd (Co.bulks ts) left w)
def SzCbSaid (d : Nat) : Prop := ∀ (v : Value) (nm : ByteArray) (t : Co) (left : Int) (w : World), 0 ≤ left → left ≤ 1048576 → CbAt w d v nm t →
  Calls Try.prog 105 #[v, .int .i64 left] w (SzTyEnd (nm.size + t.bulk) left w)
def SzCbsSaid (d : Nat) : Prop := ∀ (v : Value) (ns : List ByteArray) (ts : List Co) (left : Int) (w : World), 0 ≤ left → left ≤ 1048576 → CbsAt w d v ns ts →
  Calls Try.prog 70 #[v, .int .i64 left] w (SzTyEnd (txs ns + Co.bulks ts) left w)

set_option maxRecDepth 100000 in
set_option maxHeartbeats 2000000 in
theorem szCos_step (d : Nat) (ih : SzCoSaid d) : SzCosSaid d := by
  intro v ts left w hl0 hl1 h
  have IH := Lib.hid ih; clear ih
  obtain ⟨a, cap, rfl, hcap, hcap2, hat⟩ := h
  have HAT := Lib.hid hat; clear hat
  by_cases hneg : left - ts.length < 0
  · have HLN := Lib.hid (Co.length_le ts)
    go_enter Try.func69, Try.ntmps69
    go_wp2_with fail
    go_ret
    exact ⟨-1, rfl, Below.refl _ _, Or.inl ⟨by omega, by omega⟩⟩
  · go_enter Try.func69, Try.ntmps69
    go_wp2_with fail
    go_loopw [1, 5] (fun l i wr => ∃ (k : Nat) (m : Int), k ≤ ts.length ∧ i = .int .i64 k ∧ l = .int .i64 m ∧ 0 ≤ m ∧ m ≤ 1048576 ∧ m + (ts.length - k) + (Co.bulks (ts.take k)) = left ∧ Below w.heap.size w wr) (fun _ i _ => ts.length - (intOf i).toNat)
    case atStart => exact ⟨0, left - ts.length, by omega, rfl, rfl, by omega, by omega, by simp [Co.bulks], Below.refl _ _⟩
    case round =>
      obtain ⟨k, m, hk, rfl, rfl, hm0, hm1, he, hb⟩ := hrel
      have HE := Lib.hid he; clear he
      have HB := Lib.hid hb; clear hb
      by_cases hlt : k < ts.length
      · obtain ⟨b, off, x0, x1, x2, x3, x4, x5, x6, x7, x8, rfl, hbl, hc0, hc1, hc2, hc3, hc4, hc5, hc6, hc7, hc8, ht⟩ := HAT.out k hlt
        have e0 : wr.cell? ⟨b, off + k * 9, none⟩ = some x0 := by rw [HB.out.cell (p := ⟨b, off + k * 9, none⟩) hbl]; exact hc0
        have e1 : wr.cell? ⟨b, off + k * 9 + 1, none⟩ = some x1 := by rw [HB.out.cell (p := ⟨b, off + k * 9 + 1, none⟩) hbl]; exact hc1
        have e2 : wr.cell? ⟨b, off + k * 9 + 2, none⟩ = some x2 := by rw [HB.out.cell (p := ⟨b, off + k * 9 + 2, none⟩) hbl]; exact hc2
        have e3 : wr.cell? ⟨b, off + k * 9 + 3, none⟩ = some x3 := by rw [HB.out.cell (p := ⟨b, off + k * 9 + 3, none⟩) hbl]; exact hc3
        have e4 : wr.cell? ⟨b, off + k * 9 + 4, none⟩ = some x4 := by rw [HB.out.cell (p := ⟨b, off + k * 9 + 4, none⟩) hbl]; exact hc4
        have e5 : wr.cell? ⟨b, off + k * 9 + 5, none⟩ = some x5 := by rw [HB.out.cell (p := ⟨b, off + k * 9 + 5, none⟩) hbl]; exact hc5
        have e6 : wr.cell? ⟨b, off + k * 9 + 6, none⟩ = some x6 := by rw [HB.out.cell (p := ⟨b, off + k * 9 + 6, none⟩) hbl]; exact hc6
        have e7 : wr.cell? ⟨b, off + k * 9 + 7, none⟩ = some x7 := by rw [HB.out.cell (p := ⟨b, off + k * 9 + 7, none⟩) hbl]; exact hc7
        have e8 : wr.cell? ⟨b, off + k * 9 + 8, none⟩ = some x8 := by rw [HB.out.cell (p := ⟨b, off + k * 9 + 8, none⟩) hbl]; exact hc8
        have HT := Lib.hid (ht.below HB.out)
        have HS := Lib.hid (Co.bulks_take ts k hlt)
        clear ht hc0 hc1 hc2 hc3 hc4 hc5 hc6 hc7 hc8
        go_wp2_with fail
        refine (IH.out _ _ m wr hm0 hm1 HT.out).mono ?_
        rintro e w' ⟨r, rfl, hb1, hr⟩
        have HN := Lib.hid (HB.out.trans (hb1.mono HB.out.size)); clear hb1
        rcases hr with ⟨hr, hr2⟩ | ⟨hr, hr2⟩
        · go_wp2_with fail
          go_ret
          exact ⟨-1, rfl, HN.out, Or.inl ⟨by omega, by omega⟩⟩
        · have HR := Lib.hid hr2; clear hr2
          have hr3 : r ≤ 1048576 := by have := HR.out; omega
          go_wp2_with fail
          exact ⟨⟨k + 1, r, by omega, by go_num, rfl, hr, hr3, by rw [HS.out]; have h1 := HE.out; have h2 := HR.out; omega, HN.out⟩, by simp [intOf]; omega⟩
      · obtain rfl : k = ts.length := by omega
        go_wp2_with fail
        go_ret
        refine ⟨m, rfl, HB.out, Or.inr ⟨hm0, ?_⟩⟩
        have := HE.out
        rw [List.take_length] at this; omega

set_option maxRecDepth 100000 in
set_option maxHeartbeats 2000000 in
theorem szCbs_step (d : Nat) (ih : SzCbSaid d) : SzCbsSaid d := by
  intro v ns ts left w hl0 hl1 h
  have IH := Lib.hid ih; clear ih
  obtain ⟨hln, a, cap, rfl, hcap, hcap2, hat⟩ := h
  have HAT := Lib.hid hat; clear hat
  by_cases hneg : left - ts.length < 0
  · have HLN := Lib.hid (Co.length_le ts)
    go_enter Try.func70, Try.ntmps70
    go_wp2_with fail
    go_ret
    exact ⟨-1, rfl, Below.refl _ _, Or.inl ⟨by omega, by omega⟩⟩
  · go_enter Try.func70, Try.ntmps70
    go_wp2_with fail
    go_loopw [1, 5] (fun l i wr => ∃ (k : Nat) (m : Int), k ≤ ts.length ∧ i = .int .i64 k ∧ l = .int .i64 m ∧ 0 ≤ m ∧ m ≤ 1048576 ∧ m + (ts.length - k) + (txs (ns.take k) + Co.bulks (ts.take k)) = left ∧ Below w.heap.size w wr) (fun _ i _ => ts.length - (intOf i).toNat)
    case atStart => exact ⟨0, left - ts.length, by omega, rfl, rfl, by omega, by omega, by simp [Co.bulks, txs], Below.refl _ _⟩
    case round =>
      obtain ⟨k, m, hk, rfl, rfl, hm0, hm1, he, hb⟩ := hrel
      have HE := Lib.hid he; clear he
      have HB := Lib.hid hb; clear hb
      by_cases hlt : k < ts.length
      · have hlt2 : k < ns.length := by omega
        obtain ⟨b, off, x0, x1, x2, x3, x4, x5, x6, x7, x8, rfl, hbl, hnz, hcn, hc0, hc1, hc2, hc3, hc4, hc5, hc6, hc7, hc8, ht⟩ := HAT.out k hlt hlt2
        have en : wr.cell? ⟨b, off + k * 10, none⟩ = some (.string ns[k]) := by rw [HB.out.cell (p := ⟨b, off + k * 10, none⟩) hbl]; exact hcn
        have e0 : wr.cell? ⟨b, off + k * 10 + 1, none⟩ = some x0 := by rw [HB.out.cell (p := ⟨b, off + k * 10 + 1, none⟩) hbl]; exact hc0
        have e1 : wr.cell? ⟨b, off + k * 10 + 2, none⟩ = some x1 := by rw [HB.out.cell (p := ⟨b, off + k * 10 + 2, none⟩) hbl]; exact hc1
        have e2 : wr.cell? ⟨b, off + k * 10 + 3, none⟩ = some x2 := by rw [HB.out.cell (p := ⟨b, off + k * 10 + 3, none⟩) hbl]; exact hc2
        have e3 : wr.cell? ⟨b, off + k * 10 + 4, none⟩ = some x3 := by rw [HB.out.cell (p := ⟨b, off + k * 10 + 4, none⟩) hbl]; exact hc3
        have e4 : wr.cell? ⟨b, off + k * 10 + 5, none⟩ = some x4 := by rw [HB.out.cell (p := ⟨b, off + k * 10 + 5, none⟩) hbl]; exact hc4
        have e5 : wr.cell? ⟨b, off + k * 10 + 6, none⟩ = some x5 := by rw [HB.out.cell (p := ⟨b, off + k * 10 + 6, none⟩) hbl]; exact hc5
        have e6 : wr.cell? ⟨b, off + k * 10 + 7, none⟩ = some x6 := by rw [HB.out.cell (p := ⟨b, off + k * 10 + 7, none⟩) hbl]; exact hc6
        have e7 : wr.cell? ⟨b, off + k * 10 + 8, none⟩ = some x7 := by rw [HB.out.cell (p := ⟨b, off + k * 10 + 8, none⟩) hbl]; exact hc7
        have e8 : wr.cell? ⟨b, off + k * 10 + 9, none⟩ = some x8 := by rw [HB.out.cell (p := ⟨b, off + k * 10 + 9, none⟩) hbl]; exact hc8
        have HT := Lib.hid (ht.below HB.out)
        have HS := Lib.hid (Co.bulks_take ts k hlt)
        have HSN := Lib.hid (txs_take ns k hlt2)
        clear ht hc0 hc1 hc2 hc3 hc4 hc5 hc6 hc7 hc8 hcn
        go_wp2_with fail
        refine (IH.out _ ns[k] _ m wr hm0 hm1 ⟨hnz, _, _, _, _, _, _, _, _, _, rfl, HT.out⟩).mono ?_
        rintro e w' ⟨r, rfl, hb1, hr⟩
        have HN := Lib.hid (HB.out.trans (hb1.mono HB.out.size)); clear hb1
        rcases hr with ⟨hr, hr2⟩ | ⟨hr, hr2⟩
        · go_wp2_with fail
          go_ret
          exact ⟨-1, rfl, HN.out, Or.inl ⟨by omega, by omega⟩⟩
        · have HR := Lib.hid hr2; clear hr2
          have hr3 : r ≤ 1048576 := by have := HR.out; omega
          go_wp2_with fail
          exact ⟨⟨k + 1, r, by omega, by go_num, rfl, hr, hr3, by rw [HS.out]; rw [HSN.out]; have h1 := HE.out; have h2 := HR.out; omega, HN.out⟩, by simp [intOf]; omega⟩
      · obtain rfl : k = ts.length := by omega
        go_wp2_with fail
        go_ret
        refine ⟨m, rfl, HB.out, Or.inr ⟨hm0, ?_⟩⟩
        have := HE.out
        rw [List.take_length, ← hln, List.take_length, hln] at this; omega

set_option maxRecDepth 100000 in
set_option maxHeartbeats 2000000 in
theorem szCb_step (d : Nat) (ih : SzCoSaid d) : SzCbSaid d := by
  intro v nm0 t left w hl0 hl1 h
  obtain ⟨k, nm, n, fk, fa, fn, fc, tk, ta, tn, tc, sa, sn, sc, ea, en, ec, rfl⟩ := cb_parts h
  obtain ⟨hnz, c0, c1, c2, c3, c4, c5, c6, c7, c8, hv, h⟩ := h
  have hv2 : .int .i64 k = c0 ∧ .string nm = c1 ∧ .int .i64 n = c2 ∧ .int .i64 fk = c3 ∧ .slice fa fn fc = c4 ∧ .int .i64 tk = c5 ∧ .slice ta tn tc = c6 ∧ .slice sa sn sc = c7 ∧ .slice ea en ec = c8 := by injection hv with hv; injection hv with hv; simpa using hv
  obtain ⟨rfl, rfl, rfl, rfl, rfl, rfl, rfl, rfl, rfl⟩ := hv2
  clear hv
  have IH := Lib.hid ih; clear ih
  have hb0 := below_alloc w (.cells #[.string nm0, .int .i64 k, .string nm, .int .i64 n, .int .i64 fk, .slice fa fn fc, .int .i64 tk, .slice ta tn tc, .slice sa sn sc, .slice ea en ec] 154)
  have HT := Lib.hid (h.below hb0)
  clear h hb0
  by_cases hneg : left - (nm0.size : Int) < 0
  · go_enter Try.func105, Try.ntmps105
    go_wp2_with fail
    go_ret
    exact ⟨-1, rfl, below_alloc _ _, Or.inl ⟨by omega, by omega⟩⟩
  · go_enter Try.func105, Try.ntmps105
    go_wp2_with fail
    refine (IH.out _ t _ _ (by omega) (by omega) HT.out).mono ?_
    rintro e w' ⟨r, rfl, hb1, hr⟩
    have HN := Lib.hid (box_next (Below.refl _ _) hb1); clear hb1
    rcases hr with ⟨hr, hr2⟩ | ⟨hr, hr2⟩
    · go_wp2_with fail
      go_ret
      exact ⟨-1, rfl, box_below HN.out, Or.inl ⟨by omega, by omega⟩⟩
    · have HR := Lib.hid hr2; clear hr2
      go_wp2_with fail
      go_ret
      exact ⟨r, rfl, box_below HN.out, Or.inr ⟨hr, by have h1 := HR.out; omega⟩⟩

set_option maxRecDepth 100000 in
set_option maxHeartbeats 2000000 in
theorem szCo_step (d : Nat) (ih : SzCosSaid d) (ih2 : SzCbsSaid d) : SzCoSaid (d + 1) := by
  intro v t left w hl0 hl1 h
  have IH := Lib.hid ih; clear ih
  have IH2 := Lib.hid ih2; clear ih2
  have HV := co_parts h
  cases t with
  | node kd nm0 n0 fr ty ts ns vs =>
    obtain ⟨c3, c4, c5, c6, sl, el, rfl, hk0, hk1, hn0, hn1, hnm, hfr, hty, h, he⟩ := h
    obtain ⟨k, nm, n, fk, fa, fn, fc, tk, ta, tn, tc, sa, sn, sc, ea, en, ec, hv⟩ := HV
    injection hv with hv
    injection hv with hv
    simp at hv
    obtain ⟨rfl, rfl, rfl, rfl, rfl, rfl, rfl, rfl, rfl⟩ := hv
    have hb0 := below_alloc w (.cells #[.int .i64 kd, .string nm0, .int .i64 n0, .int .i64 fk, .slice fa fn fc, .int .i64 tk, .slice ta tn tc, .slice sa sn sc, .slice ea en ec] 61)
    have HFR := Lib.hid (hfr.below hb0)
    have HTY := Lib.hid (hty.below hb0)
    have HT : Hid (CosAt (w.alloc (.cells #[.int .i64 kd, .string nm0, .int .i64 n0, .int .i64 fk, .slice fa fn fc, .int .i64 tk, .slice ta tn tc, .slice sa sn sc, .slice ea en ec] 61)) d (.slice sa sn sc) ts) := CosAt.below h hb0
    have HE : Hid (CbsAt (w.alloc (.cells #[.int .i64 kd, .string nm0, .int .i64 n0, .int .i64 fk, .slice fa fn fc, .int .i64 tk, .slice ta tn tc, .slice sa sn sc, .slice ea en ec] 61)) d (.slice ea en ec) ns vs) := CbsAt.below he hb0
    clear hfr hty h he hb0
    have hbk : Hid ((Co.node kd nm0 n0 fr ty ts ns vs).bulk = nm0.size + (fr.size - 1) + (ty.size - 1) + Co.bulks ts + (txs ns + Co.bulks vs)) := rfl
    by_cases hneg : left - (nm0.size : Int) < 0
    · go_enter Try.func24, Try.ntmps24
      go_wp2_with fail
      go_ret
      exact ⟨-1, rfl, below_alloc _ _, Or.inl ⟨by omega, by omega⟩⟩
    · go_enter Try.func24, Try.ntmps24
      go_wp2_with fail
      refine (szTy_all d _ fr _ _ (by omega) (by omega) HFR.out).mono ?_
      rintro e w1 ⟨r1, rfl, hb1, hr⟩
      have HN := Lib.hid (box_next (Below.refl _ _) hb1)
      replace HTY := Lib.hid (HTY.out.below hb1)
      replace HT := Lib.hid (HT.out.below hb1)
      replace HE := Lib.hid (HE.out.below hb1); clear hb1
      have b5 := box_cell HN.out 5
      have b6 := box_cell HN.out 6
      rcases hr with ⟨hr, hr2⟩ | ⟨hr, hr2⟩
      · go_wp2_with fail
        go_ret
        exact ⟨-1, rfl, box_below HN.out, Or.inl ⟨by omega, by omega⟩⟩
      have HR1 := Lib.hid hr2
      have hr3 : r1 ≤ 1048576 := by omega
      clear hr2
      go_wp2_with fail
      clear b5 b6
      refine (szTy_all d _ ty _ _ hr hr3 HTY.out).mono ?_
      rintro e w2 ⟨r2, rfl, hb1, hs⟩
      replace HN := Lib.hid (box_next HN.out hb1)
      replace HT := Lib.hid (HT.out.below hb1)
      replace HE := Lib.hid (HE.out.below hb1); clear hb1
      have b7 := box_cell HN.out 7
      rcases hs with ⟨hs, hs2⟩ | ⟨hs, hs2⟩
      · go_wp2_with fail
        go_ret
        exact ⟨-1, rfl, box_below HN.out, Or.inl ⟨by omega, by omega⟩⟩
      have HR2 := Lib.hid hs2
      have hs3 : r2 ≤ 1048576 := by omega
      clear hs2
      go_wp2_with fail
      clear b7
      refine (IH.out _ _ r2 _ hs hs3 HT.out).mono ?_
      rintro e w3 ⟨r3, rfl, hb1, hu⟩
      replace HN := Lib.hid (box_next HN.out hb1)
      replace HE := Lib.hid (HE.out.below hb1); clear hb1
      have b8 := box_cell HN.out 8
      rcases hu with ⟨hu, hu2⟩ | ⟨hu, hu2⟩
      · go_wp2_with fail
        go_ret
        exact ⟨-1, rfl, box_below HN.out, Or.inl ⟨by omega, by omega⟩⟩
      have HR3 := Lib.hid hu2
      have hu3 : r3 ≤ 1048576 := by omega
      clear hu2
      go_wp2_with fail
      clear b8
      refine (IH2.out _ _ _ r3 _ hu hu3 HE.out).mono ?_
      rintro e w4 ⟨r4, rfl, hb1, hx⟩
      replace HN := Lib.hid (box_next HN.out hb1); clear hb1
      rcases hx with ⟨hx, hx2⟩ | ⟨hx, hx2⟩
      · go_wp2_with fail
        go_ret
        exact ⟨-1, rfl, box_below HN.out, Or.inl ⟨by omega, by omega⟩⟩
      have HR4 := Lib.hid hx2; clear hx2
      go_wp2_with fail
      go_ret
      exact ⟨r4, rfl, box_below HN.out, Or.inr ⟨hx, by rw [hbk.out]; have := HR1.out; have := HR2.out; have := HR3.out; have := HR4.out; omega⟩⟩
theorem szCo_all : ∀ d, SzCoSaid d
  | 0 => fun _ _ _ _ _ _ h => h.elim
  | d + 1 => szCo_step d (szCos_step d (szCo_all d)) (szCbs_step d (szCb_step d (szCo_all d)))
theorem szCbs_all (d : Nat) : SzCbsSaid d := szCbs_step d (szCb_step d (szCo_all d))
end Go.Proofs.Ytefoenkmppeidaa
