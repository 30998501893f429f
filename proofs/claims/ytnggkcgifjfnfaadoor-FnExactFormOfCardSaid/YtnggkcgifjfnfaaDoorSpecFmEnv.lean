/-
  Proved: spec.l24All and spec.l24Env give the form of several parts together; the memory that was there stays as it was.
-/
import Derived.Test.YtnggkcgifjfnfaaDoorCoFm
import Derived.Test.YtnggkcgifjfnfaaDoorCoVals
import Derived.Test.YtnggkcgifjfnfaaDoorSzCore
import Derived.Test.YtnggkcgifjfnfaaDoorHold
import Derived.Test.YtnggkcgifjfnfaaDoorRowKeep
import Derived.Test.YtnggkcgifjfnfaaDoorAppendNil
namespace Go.Proofs.YtnggkcgifjfnfaaDoor
open Go.RowKit

theorem info_co : (Tryd.prog.info? 37).map (fun i => (i.zero, i.size, i.bytes)) = some (some (.agg #[.int .i64 0, .string ⟨#[]⟩, .int .i64 0, .int .i64 0, .slice none 0 0, .int .i64 0, .slice none 0 0, .slice none 0 0, .slice none 0 0]), 9, 144) := by kernel_rfl
theorem Co.bulks_append (es fs : List Co) : Co.bulks (es ++ fs) = Co.bulks es + Co.bulks fs := by
  induction es with
  | nil => simp [Co.bulks]
  | cons a r ih => simp only [List.cons_append, Co.bulks, ih]; omega
theorem Co.forms_append (es fs : List Co) : Co.forms (es ++ fs) = (Co.forms es && Co.forms fs) := by
  induction es with
  | nil => simp [Co.forms]
  | cons a r ih => simp only [List.cons_append, Co.forms, ih, Bool.and_assoc]
set_option maxRecDepth 100000 in
set_option maxHeartbeats 4000000 in
theorem specFmAll (d : Nat) (IH : Hid (∀ (v : Value) (t : Co) (w : World), CoAt w d v t → t.bulk ≤ 1048576 → t.form = true → Calls Tryd.prog 16 #[v] w fun e w' => e = .returned (.int .i64 t.fm) ∧ Below w.heap.size w w')) (v : Value) (l : List Co) (w : World) (h : CosAt w d v l) (hsz : Co.bulks l ≤ 1048576) (hform : Co.forms l = true) :
    Calls Tryd.prog 33 #[v] w fun e w' => e = .returned (.int .i64 (allF (Co.fms l))) ∧ Below w.heap.size w w' := by
  obtain ⟨a, cap, rfl, hcap, hcap2, hat⟩ := h
  have HAT := Lib.hid hat; clear hat
  have HSZ := Lib.hid hsz
  have HFO := Lib.hid hform
  have hlen : l.length ≤ 1048576 := by have := Co.length_le l; omega
  clear hsz hform
  go_enter Tryd.func33, Tryd.ntmps33
  go_wp2_with fail
  go_loopw [3, 4] (fun o i wr => ∃ k : Nat, k ≤ l.length ∧ i = .int .i64 k ∧ hasF 0 (Co.fms (l.take k)) = false ∧ ((hasF 2 (Co.fms (l.take k)) = true ∧ o = .int .i64 2) ∨ (hasF 2 (Co.fms (l.take k)) = false ∧ o = .int .i64 1)) ∧ Below w.heap.size w wr) (fun _ i _ => l.length - (intOf i).toNat)
  case atStart => exact ⟨0, by omega, rfl, by simp [Co.fms, hasF], Or.inr ⟨by simp [Co.fms, hasF], rfl⟩, Below.refl _ _⟩
  case round =>
    obtain ⟨k, hk, rfl, h0, ⟨h2, rfl⟩ | ⟨h2, rfl⟩, hb⟩ := hrel
    · have HB := Lib.hid hb; clear hb
      have H0 := Lib.hid h0; clear h0
      have H2 := Lib.hid h2; clear h2
      by_cases hlt : k < l.length
      · obtain ⟨b, off, x0, x1, x2, x3, x4, x5, x6, x7, x8, rfl, hbl, hc0, hc1, hc2, hc3, hc4, hc5, hc6, hc7, hc8, ht⟩ := HAT.out k hlt
        have hg := Co.bulk_get l k hlt
        have HS2 := HSZ.out
        have e0 : wr.cell? ⟨b, off + k * 9, none⟩ = some x0 := by rw [HB.out.cell (p := ⟨b, off + k * 9, none⟩) hbl]; exact hc0
        have e1 : wr.cell? ⟨b, off + k * 9 + 1, none⟩ = some x1 := by rw [HB.out.cell (p := ⟨b, off + k * 9 + 1, none⟩) hbl]; exact hc1
        have e2 : wr.cell? ⟨b, off + k * 9 + 2, none⟩ = some x2 := by rw [HB.out.cell (p := ⟨b, off + k * 9 + 2, none⟩) hbl]; exact hc2
        have e3 : wr.cell? ⟨b, off + k * 9 + 3, none⟩ = some x3 := by rw [HB.out.cell (p := ⟨b, off + k * 9 + 3, none⟩) hbl]; exact hc3
        have e4 : wr.cell? ⟨b, off + k * 9 + 4, none⟩ = some x4 := by rw [HB.out.cell (p := ⟨b, off + k * 9 + 4, none⟩) hbl]; exact hc4
        have e5 : wr.cell? ⟨b, off + k * 9 + 5, none⟩ = some x5 := by rw [HB.out.cell (p := ⟨b, off + k * 9 + 5, none⟩) hbl]; exact hc5
        have e6 : wr.cell? ⟨b, off + k * 9 + 6, none⟩ = some x6 := by rw [HB.out.cell (p := ⟨b, off + k * 9 + 6, none⟩) hbl]; exact hc6
        have e7 : wr.cell? ⟨b, off + k * 9 + 7, none⟩ = some x7 := by rw [HB.out.cell (p := ⟨b, off + k * 9 + 7, none⟩) hbl]; exact hc7
        have e8 : wr.cell? ⟨b, off + k * 9 + 8, none⟩ = some x8 := by rw [HB.out.cell (p := ⟨b, off + k * 9 + 8, none⟩) hbl]; exact hc8
        have HT := Lib.hid (ht.below HB.out)
        have HFK := Lib.hid (Co.forms_get l k hlt HFO.out)
        have HT0 := Lib.hid (Co.fms_take l 0 k hlt)
        have HT2 := Lib.hid (Co.fms_take l 2 k hlt)
        have HHIT := Lib.hid (fun hv => Co.fms_hit l k hlt 0 hv)
        clear ht hc0 hc1 hc2 hc3 hc4 hc5 hc6 hc7 hc8
        go_wp2_with fail
        refine (IH.out _ _ _ HT.out (by omega) HFK.out).mono ?_
        rintro e w' ⟨rfl, hb1⟩
        have HN := Lib.hid (HB.out.trans (hb1.mono HB.out.size)); clear hb1
        have hrg := Co.fm_range l[k]
        obtain ⟨x, hx⟩ : ∃ x, x = l[k].fm := ⟨_, rfl⟩
        rw [← hx] at hrg HT0 HT2 HHIT
        rw [← hx]
        clear hx
        rcases hrg with rfl | rfl | rfl
        · have HX := Lib.hid (HHIT.out rfl)
          go_wp2_with fail
          go_ret
          exact ⟨by unfold allF; rw [HX.out]; rfl, HN.out⟩
        · go_wp2_with fail
          exact ⟨⟨k + 1, by omega, by go_num, by rw [HT0.out, H0.out]; rfl, Or.inl ⟨by rw [HT2.out, H2.out]; rfl, rfl⟩, HN.out⟩, by simp [intOf]; omega⟩
        · go_wp2_with fail
          exact ⟨⟨k + 1, by omega, by go_num, by rw [HT0.out, H0.out]; rfl, Or.inl ⟨by rw [HT2.out, H2.out]; rfl, rfl⟩, HN.out⟩, by simp [intOf]; omega⟩
      · obtain rfl : k = l.length := by omega
        have H0E := H0.out
        have H2E := H2.out
        rw [List.take_length] at H0E H2E
        have HE := Lib.hid (allF_of H0E H2E)
        clear H0E H2E
        go_wp2_with fail
        go_ret
        exact ⟨by rw [HE.out]; rfl, HB.out⟩
    · have HB := Lib.hid hb; clear hb
      have H0 := Lib.hid h0; clear h0
      have H2 := Lib.hid h2; clear h2
      by_cases hlt : k < l.length
      · obtain ⟨b, off, x0, x1, x2, x3, x4, x5, x6, x7, x8, rfl, hbl, hc0, hc1, hc2, hc3, hc4, hc5, hc6, hc7, hc8, ht⟩ := HAT.out k hlt
        have hg := Co.bulk_get l k hlt
        have HS2 := HSZ.out
        have e0 : wr.cell? ⟨b, off + k * 9, none⟩ = some x0 := by rw [HB.out.cell (p := ⟨b, off + k * 9, none⟩) hbl]; exact hc0
        have e1 : wr.cell? ⟨b, off + k * 9 + 1, none⟩ = some x1 := by rw [HB.out.cell (p := ⟨b, off + k * 9 + 1, none⟩) hbl]; exact hc1
        have e2 : wr.cell? ⟨b, off + k * 9 + 2, none⟩ = some x2 := by rw [HB.out.cell (p := ⟨b, off + k * 9 + 2, none⟩) hbl]; exact hc2
        have e3 : wr.cell? ⟨b, off + k * 9 + 3, none⟩ = some x3 := by rw [HB.out.cell (p := ⟨b, off + k * 9 + 3, none⟩) hbl]; exact hc3
        have e4 : wr.cell? ⟨b, off + k * 9 + 4, none⟩ = some x4 := by rw [HB.out.cell (p := ⟨b, off + k * 9 + 4, none⟩) hbl]; exact hc4
        have e5 : wr.cell? ⟨b, off + k * 9 + 5, none⟩ = some x5 := by rw [HB.out.cell (p := ⟨b, off + k * 9 + 5, none⟩) hbl]; exact hc5
        have e6 : wr.cell? ⟨b, off + k * 9 + 6, none⟩ = some x6 := by rw [HB.out.cell (p := ⟨b, off + k * 9 + 6, none⟩) hbl]; exact hc6
        have e7 : wr.cell? ⟨b, off + k * 9 + 7, none⟩ = some x7 := by rw [HB.out.cell (p := ⟨b, off + k * 9 + 7, none⟩) hbl]; exact hc7
        have e8 : wr.cell? ⟨b, off + k * 9 + 8, none⟩ = some x8 := by rw [HB.out.cell (p := ⟨b, off + k * 9 + 8, none⟩) hbl]; exact hc8
        have HT := Lib.hid (ht.below HB.out)
        have HFK := Lib.hid (Co.forms_get l k hlt HFO.out)
        have HT0 := Lib.hid (Co.fms_take l 0 k hlt)
        have HT2 := Lib.hid (Co.fms_take l 2 k hlt)
        have HHIT := Lib.hid (fun hv => Co.fms_hit l k hlt 0 hv)
        clear ht hc0 hc1 hc2 hc3 hc4 hc5 hc6 hc7 hc8
        go_wp2_with fail
        refine (IH.out _ _ _ HT.out (by omega) HFK.out).mono ?_
        rintro e w' ⟨rfl, hb1⟩
        have HN := Lib.hid (HB.out.trans (hb1.mono HB.out.size)); clear hb1
        have hrg := Co.fm_range l[k]
        obtain ⟨x, hx⟩ : ∃ x, x = l[k].fm := ⟨_, rfl⟩
        rw [← hx] at hrg HT0 HT2 HHIT
        rw [← hx]
        clear hx
        rcases hrg with rfl | rfl | rfl
        · have HX := Lib.hid (HHIT.out rfl)
          go_wp2_with fail
          go_ret
          exact ⟨by unfold allF; rw [HX.out]; rfl, HN.out⟩
        · go_wp2_with fail
          exact ⟨⟨k + 1, by omega, by go_num, by rw [HT0.out, H0.out]; rfl, Or.inr ⟨by rw [HT2.out, H2.out]; rfl, rfl⟩, HN.out⟩, by simp [intOf]; omega⟩
        · go_wp2_with fail
          exact ⟨⟨k + 1, by omega, by go_num, by rw [HT0.out, H0.out]; rfl, Or.inl ⟨by rw [HT2.out, H2.out]; rfl, rfl⟩, HN.out⟩, by simp [intOf]; omega⟩
      · obtain rfl : k = l.length := by omega
        have H0E := H0.out
        have H2E := H2.out
        rw [List.take_length] at H0E H2E
        have HE := Lib.hid (allF_of H0E H2E)
        clear H0E H2E
        go_wp2_with fail
        go_ret
        exact ⟨by rw [HE.out]; rfl, HB.out⟩
set_option maxRecDepth 100000 in
set_option maxHeartbeats 4000000 in
theorem specFmEnv (d : Nat) (IH : Hid (∀ (v : Value) (t : Co) (w : World), CoAt w d v t → t.bulk ≤ 1048576 → t.form = true → Calls Tryd.prog 16 #[v] w fun e w' => e = .returned (.int .i64 t.fm) ∧ Below w.heap.size w w')) (v : Value) (kd : Int) (nm0 : ByteArray) (n0 : Int) (fr ty : Ty) (es : List Co) (ns : List ByteArray) (vs : List Co) (w : World) (h : CoAt w (d + 1) v (.node kd nm0 n0 fr ty es ns vs)) (hsz : (Co.node kd nm0 n0 fr ty es ns vs).bulk ≤ 1048576) (hform : Co.forms es = true ∧ Co.forms vs = true) :
    Calls Tryd.prog 32 #[v] w fun e w' => e = .returned (.int .i64 (allF (Co.fms es ++ Co.fms vs))) ∧ Below w.heap.size w w' := by
  obtain ⟨i0, hi, hz0, hz1, hz2⟩ := info_parts info_co
  have HI := Lib.hid hi; clear hi
  have HZ0 := Lib.hid hz0; clear hz0
  have HZ1 := Lib.hid hz1; clear hz1
  have HZ2 := Lib.hid hz2; clear hz2
  have HV := co_parts h
  obtain ⟨c3, c4, c5, c6, sl, el, rfl, hk0, hk1, hn0, hn1, hnm, hfr, hty, ⟨a, cap, rfl, hcap, hcap2, hat⟩, hln, a2, cap2, rfl, hcpe, hcpe2, hae⟩ := h
  obtain ⟨k, nm, n, fk, fa, fn, fc, tk, ta, tn, tc, sa, sn, sc, ea, en, ec, hv⟩ := HV
  injection hv with hv
  injection hv with hv
  simp at hv
  obtain ⟨rfl, rfl, rfl, rfl, rfl, rfl, rfl, HVR⟩ := hv
  clear HVR
  have HAT := Lib.hid hat; clear hat
  have HAE := Lib.hid hae; clear hae
  have HLN := Lib.hid hln; clear hln
  have hbk : (Co.node kd nm0 n0 fr ty es ns vs).bulk = nm0.size + (fr.size - 1) + (ty.size - 1) + Co.bulks es + (txs ns + Co.bulks vs) := rfl
  have HSZ : Hid (Co.bulks es + Co.bulks vs ≤ 1048576) := by show _ ≤ _; omega
  have HNM : Hid (nm0.size ≤ 1048576) := by show _ ≤ _; omega
  have HTXS : Hid (txs ns ≤ 1048576) := by show _ ≤ _; omega
  have HFZ : Hid (fr.size ≤ 1048577) := by show _ ≤ _; omega
  have HTZ : Hid (ty.size ≤ 1048577) := by show _ ≤ _; omega
  have hlen : es.length ≤ 1048576 := by have := Co.length_le es; omega
  have hlen2 : vs.length ≤ 1048576 := by have := Co.length_le vs; omega
  have HFR := Lib.hid hfr
  have HTY := Lib.hid hty
  clear hsz hbk hty hfr
  clear HFR HTY HFZ HTZ HNM HTXS
  have HFO := Lib.hid hform; clear hform
  have HCS : Hid (CosAt w d (.slice a es.length cap) es) := ⟨a, cap, rfl, hcap, hcap2, HAT.out⟩
  obtain ⟨cs, hvals, hcells⟩ := (CosAt.vals HCS.out).2 es.length (Nat.le_refl _)
  rw [List.take_length] at hvals
  have HV := Lib.hid hvals; clear hvals
  have HC := Lib.hid hcells; clear hcells
  have HL := Lib.hid HV.out.len
  clear HAT HCS
  have b7 := box_cell (Below.refl (w.heap.size + 1) (w.alloc (.cells #[.int .i64 kd, .string nm0, .int .i64 n0, .int .i64 fk, .slice fa fn fc, .int .i64 tk, .slice ta tn tc, .slice a es.length cap, .slice a2 vs.length cap2] 37))) 7
  have b8 := box_cell (Below.refl (w.heap.size + 1) (w.alloc (.cells #[.int .i64 kd, .string nm0, .int .i64 n0, .int .i64 fk, .slice fa fn fc, .int .i64 tk, .slice ta tn tc, .slice a es.length cap, .slice a2 vs.length cap2] 37))) 8
  go_enter Tryd.func32, Tryd.ntmps32
  cases a with
  | none =>
    have HMK : Hid (((w.alloc (.cells #[.int .i64 kd, .string nm0, .int .i64 n0, .int .i64 fk, .slice fa fn fc, .int .i64 tk, .slice ta tn tc, .slice none es.length cap, .slice a2 vs.length cap2] 37)).alloc (.cells #[] 37)).ownsRow (w.heap.size + 1) 37 9 (.slice (some ⟨(w.heap.size + 1), 0, none⟩) 0 0) 0 []) := by show World.ownsRow _ _ _ _ _ _ _; simpa using World.ownsRow_made (w.alloc (.cells #[.int .i64 kd, .string nm0, .int .i64 n0, .int .i64 fk, .slice fa fn fc, .int .i64 tk, .slice ta tn tc, .slice none es.length cap, .slice a2 vs.length cap2] 37)) #[] 0 (base := w.heap.size + 1) (e := 37) (size := 9) (by simp) (Nat.zero_le _) rfl
    have hl0 : es.length = 0 := Nat.eq_zero_of_not_pos fun hp => by
      have hne : 0 < cs.length := by have := HL.out; omega
      obtain ⟨b, off, ha, _⟩ := HC.out 0 cs[0] (List.getElem?_eq_getElem hne)
      cases ha
    have hcs : cs = [] := List.length_eq_zero_iff.1 (by have := HL.out; omega)
    have HL0 := Lib.hid hl0; clear hl0
    have HCE := Lib.hid hcs; clear hcs
    have hown : ((w.alloc (.cells #[.int .i64 kd, .string nm0, .int .i64 n0, .int .i64 fk, .slice fa fn fc, .int .i64 tk, .slice ta tn tc, .slice none es.length cap, .slice a2 vs.length cap2] 37)).alloc (.cells #[] 37)).ownsRow (w.heap.size + 1) 37 9 (.slice (some ⟨(w.heap.size + 1), 0, none⟩) 0 0) es.length cs := by rw [HCE.out]; exact (congrArg (fun n => World.ownsRow _ _ _ 9 _ n []) HL0.out).mpr HMK.out
    have hb1 : Below (w.heap.size + 1) (w.alloc (.cells #[.int .i64 kd, .string nm0, .int .i64 n0, .int .i64 fk, .slice fa fn fc, .int .i64 tk, .slice ta tn tc, .slice none es.length cap, .slice a2 vs.length cap2] 37)) ((w.alloc (.cells #[.int .i64 kd, .string nm0, .int .i64 n0, .int .i64 fk, .slice fa fn fc, .int .i64 tk, .slice ta tn tc, .slice none es.length cap, .slice a2 vs.length cap2] 37)).alloc (.cells #[] 37)) := (Below.refl _ _).alloc (by simp) _
    go_wp2_with (at_builtin; refine wpList_append_nil_any rfl _ _ 34 rfl (w.heap.size + 1) 37 i0 9 Tryd.underlying34 HI.out _ 0 [] rfl HMK.out cap es.length HL0.out rfl ?_)
    have HO := Lib.hid hown; clear hown
    have HB := Lib.hid hb1; clear hb1
    clear b7 b8
    have b8 := box_cell HB.out 8
    go_wp2_with fail
    go_loopw [3, 4] (fun v i wr => ∃ (k : Nat) (ds : List Value), k ≤ vs.length ∧ i = .int .i64 k ∧ wr.ownsRow (w.heap.size + 1) 37 9 v (es.length + k) (cs ++ ds) ∧ CoVals w d ds (vs.take k) ∧ Below (w.heap.size + 1) (w.alloc (.cells #[.int .i64 kd, .string nm0, .int .i64 n0, .int .i64 fk, .slice fa fn fc, .int .i64 tk, .slice ta tn tc, .slice none es.length cap, .slice a2 vs.length cap2] 37)) wr) (fun _ i _ => vs.length - (intOf i).toNat)
    case atStart => exact ⟨0, [], by omega, rfl, by simpa using HO.out, by simp [CoVals], HB.out⟩
    case round =>
      obtain ⟨k, ds, hk, rfl, hown, hvs, hb⟩ := hrel
      clear b8
      have HO2 := Lib.hid hown; clear hown
      have HVS := Lib.hid hvs; clear hvs
      have HB2 := Lib.hid hb; clear hb
      have HBB := Lib.hid (box_below HB2.out)
      have b8 := box_cell HB2.out 8
      have hzw : (w.heap.size + 1) ≤ wr.heap.size := by have := HB2.out.size; simpa using this
      by_cases hlt : k < vs.length
      · have hlt2 : k < ns.length := by have := HLN.out; omega
        obtain ⟨b, off, x0, x1, x2, x3, x4, x5, x6, x7, x8, rfl, hbl, hnz, hcn, hc0, hc1, hc2, hc3, hc4, hc5, hc6, hc7, hc8, ht⟩ := HAE.out k hlt hlt2
        obtain ⟨yk, ynm, yn, yfk, yfa, yfn, yfc, ytk, yta, ytn, ytc, ysa, ysn, ysc, yea, yen, yec, rfl, rfl, rfl, rfl, rfl, rfl, rfl, rfl, rfl⟩ := co_cells ht
        have e0 : wr.cell? ⟨b, off + k * 10 + 1, none⟩ = some (.int .i64 yk) := by rw [HBB.out.cell (p := ⟨b, off + k * 10 + 1, none⟩) hbl]; exact hc0
        have e1 : wr.cell? ⟨b, off + k * 10 + 2, none⟩ = some (.string ynm) := by rw [HBB.out.cell (p := ⟨b, off + k * 10 + 2, none⟩) hbl]; exact hc1
        have e2 : wr.cell? ⟨b, off + k * 10 + 3, none⟩ = some (.int .i64 yn) := by rw [HBB.out.cell (p := ⟨b, off + k * 10 + 3, none⟩) hbl]; exact hc2
        have e3 : wr.cell? ⟨b, off + k * 10 + 4, none⟩ = some (.int .i64 yfk) := by rw [HBB.out.cell (p := ⟨b, off + k * 10 + 4, none⟩) hbl]; exact hc3
        have e4 : wr.cell? ⟨b, off + k * 10 + 5, none⟩ = some (.slice yfa yfn yfc) := by rw [HBB.out.cell (p := ⟨b, off + k * 10 + 5, none⟩) hbl]; exact hc4
        have e5 : wr.cell? ⟨b, off + k * 10 + 6, none⟩ = some (.int .i64 ytk) := by rw [HBB.out.cell (p := ⟨b, off + k * 10 + 6, none⟩) hbl]; exact hc5
        have e6 : wr.cell? ⟨b, off + k * 10 + 7, none⟩ = some (.slice yta ytn ytc) := by rw [HBB.out.cell (p := ⟨b, off + k * 10 + 7, none⟩) hbl]; exact hc6
        have e7 : wr.cell? ⟨b, off + k * 10 + 8, none⟩ = some (.slice ysa ysn ysc) := by rw [HBB.out.cell (p := ⟨b, off + k * 10 + 8, none⟩) hbl]; exact hc7
        have e8 : wr.cell? ⟨b, off + k * 10 + 9, none⟩ = some (.slice yea yen yec) := by rw [HBB.out.cell (p := ⟨b, off + k * 10 + 9, none⟩) hbl]; exact hc8
        have HTK := Lib.hid ht
        clear ht hcn hnz hc0 hc1 hc2 hc3 hc4 hc5 hc6 hc7 hc8
        go_wp2_with (at_builtin; go_must (refine wpList_append_own_at _ rfl _ _ 34 rfl (w.heap.size + 1) 37 i0 (.agg #[.int .i64 0, .string ⟨#[]⟩, .int .i64 0, .int .i64 0, .slice none 0 0, .int .i64 0, .slice none 0 0, .slice none 0 0, .slice none 0 0]) 9 144 Tryd.underlying34 HI.out HZ0.out HZ1.out HZ2.out rfl (by decide) _ (es.length + k) (cs ++ ds) rfl (HO2.out.alloc _) ⟨wr.heap.size, 0, none⟩ 1 1 [.int .i64 yk, .string ynm, .int .i64 yn, .int .i64 yfk, .slice yfa yfn yfc, .int .i64 ytk, .slice yta ytn ytc, .slice ysa ysn ysc, .slice yea yen yec] rfl rfl (World.news_of_block (cs := #[.int .i64 yk, .string ynm, .int .i64 yn, .int .i64 yfk, .slice yfa yfn yfc, .int .i64 ytk, .slice yta ytn ytc, .slice ysa ysn ysc, .slice yea yen yec]) (t := 37) (fr := (0, 0)) (heap_alloc_new wr _)) (by simp [Value.oneCell']) (by unfold maxLen; omega) (by omega) (by simp; omega) ?_); intro v2 w2 hown2 hg2 _ hblk2; refine Hid.out ?_)
        refine Lib.hid ?_
        have hb2 := (HB2.out.alloc hzw _).grown hg2 (by simp; omega) (fun k hk => (HO2.out.lt k hk).1)
        have hown3 : w2.ownsRow (w.heap.size + 1) 37 9 v2 (es.length + (k + 1)) (cs ++ (ds ++ [.int .i64 yk, .string ynm, .int .i64 yn, .int .i64 yfk, .slice yfa yfn yfc, .int .i64 ytk, .slice yta ytn ytc, .slice ysa ysn ysc, .slice yea yen yec])) := by rw [← List.append_assoc]; exact hown2
        have HO3 := Lib.hid hown3; clear hown3 hown2 hg2 hblk2
        have HB3 := Lib.hid hb2; clear hb2 b8 e0 e1 e2 e3 e4 e5 e6 e7 e8
        have b8 := box_cell HB3.out 8
        have HVN : Hid (CoVals w d (ds ++ [.int .i64 yk, .string ynm, .int .i64 yn, .int .i64 yfk, .slice yfa yfn yfc, .int .i64 ytk, .slice yta ytn ytc, .slice ysa ysn ysc, .slice yea yen yec]) (vs.take (k + 1))) := by rw [List.take_succ_eq_append_getElem hlt]; exact HVS.out.append ⟨HTK.out, trivial⟩
        go_wp2_with fail
        exact ⟨⟨k + 1, ds ++ [.int .i64 yk, .string ynm, .int .i64 yn, .int .i64 yfk, .slice yfa yfn yfc, .int .i64 ytk, .slice yta ytn ytc, .slice ysa ysn ysc, .slice yea yen yec], by omega, by go_num, HO3.out, HVN.out, HB3.out⟩, by simp [intOf]; omega⟩
      · obtain rfl : k = vs.length := by omega
        have hvv := HVS.out
        rw [List.take_length] at hvv
        have HCA := Lib.hid (CosAt.of_own HO2.out ((HV.out.append hvv).below HBB.out) (by simp))
        clear hvv HO2
        have HS2 := HSZ.out
        have HAL : Hid (∀ v, CosAt wr d v (es ++ vs) → Calls Tryd.prog 33 #[v] wr fun e w' => e = .returned (.int .i64 (allF (Co.fms (es ++ vs)))) ∧ Below wr.heap.size wr w') := fun v hv => specFmAll d IH _ _ _ hv (by rw [Co.bulks_append]; exact HS2) (by rw [Co.forms_append, HFO.out.1, HFO.out.2]; rfl)
        have HCA2 := HCA.out
        obtain ⟨ra, rc, rfl, _⟩ := HCA2
        have HCB := HCA.out
        rw [List.length_append] at HCB
        have HCB2 := Lib.hid HCB; clear HCB HCA
        go_wp2_with fail
        refine (HAL.out _ HCB2.out).mono ?_
        rintro e w' ⟨rfl, hb1⟩
        have HN := Lib.hid (below_thru HBB.out (Nat.le_refl _) hb1); clear hb1
        go_wp2_with fail
        go_ret
        exact ⟨by rw [Co.fms_append]; rfl, HN.out⟩
  | some p =>
    have HMK : Hid (((w.alloc (.cells #[.int .i64 kd, .string nm0, .int .i64 n0, .int .i64 fk, .slice fa fn fc, .int .i64 tk, .slice ta tn tc, .slice (some p) es.length cap, .slice a2 vs.length cap2] 37)).alloc (.cells #[] 37)).ownsRow (w.heap.size + 1) 37 9 (.slice (some ⟨(w.heap.size + 1), 0, none⟩) 0 0) 0 []) := by show World.ownsRow _ _ _ _ _ _ _; simpa using World.ownsRow_made (w.alloc (.cells #[.int .i64 kd, .string nm0, .int .i64 n0, .int .i64 fk, .slice fa fn fc, .int .i64 tk, .slice ta tn tc, .slice (some p) es.length cap, .slice a2 vs.length cap2] 37)) #[] 0 (base := w.heap.size + 1) (e := 37) (size := 9) (by simp) (Nat.zero_le _) rfl
    have HNW : Hid (∀ j u, cs[j]? = some u → ((w.alloc (.cells #[.int .i64 kd, .string nm0, .int .i64 n0, .int .i64 fk, .slice fa fn fc, .int .i64 tk, .slice ta tn tc, .slice (some p) es.length cap, .slice a2 vs.length cap2] 37)).alloc (.cells #[] 37)).cell? (p.add j) = some u) := by
      intro j u hj
      obtain ⟨b, off, ha, hlt, hc⟩ := HC.out j u hj
      cases ha
      rw [addr_add]
      exact (((below_thru (below_alloc w _) (Nat.le_refl _) (below_alloc _ _)).cell (p := ⟨b, off + j, none⟩) hlt)).trans hc
    go_wp2_with (at_builtin; refine wpList_append_own_at _ rfl _ _ 34 rfl (w.heap.size + 1) 37 i0 (.agg #[.int .i64 0, .string ⟨#[]⟩, .int .i64 0, .int .i64 0, .slice none 0 0, .int .i64 0, .slice none 0 0, .slice none 0 0, .slice none 0 0]) 9 144 Tryd.underlying34 HI.out HZ0.out HZ1.out HZ2.out rfl (by decide) _ _ _ rfl HMK.out  p es.length cap cs rfl HL.out HNW.out HV.out.ones (by unfold maxLen; omega) (by omega) (by simp) ?_; intro v1 w1 hown0 hg1 _ _; refine Hid.out ?_)
    refine Lib.hid ?_
    have hb1 : Below (w.heap.size + 1) (w.alloc (.cells #[.int .i64 kd, .string nm0, .int .i64 n0, .int .i64 fk, .slice fa fn fc, .int .i64 tk, .slice ta tn tc, .slice (some p) es.length cap, .slice a2 vs.length cap2] 37)) w1 := ((Below.refl _ (w.alloc (.cells #[.int .i64 kd, .string nm0, .int .i64 n0, .int .i64 fk, .slice fa fn fc, .int .i64 tk, .slice ta tn tc, .slice (some p) es.length cap, .slice a2 vs.length cap2] 37))).alloc (by simp) _).grown hg1 (by simp) (by intro k hk; cases hk; exact Nat.le_refl _)
    have hown : w1.ownsRow (w.heap.size + 1) 37 9 v1 es.length cs := by simpa using hown0
    clear hown0 hg1
    have HO := Lib.hid hown; clear hown
    have HB := Lib.hid hb1; clear hb1
    clear b7 b8
    have b8 := box_cell HB.out 8
    go_wp2_with fail
    go_loopw [3, 4] (fun v i wr => ∃ (k : Nat) (ds : List Value), k ≤ vs.length ∧ i = .int .i64 k ∧ wr.ownsRow (w.heap.size + 1) 37 9 v (es.length + k) (cs ++ ds) ∧ CoVals w d ds (vs.take k) ∧ Below (w.heap.size + 1) (w.alloc (.cells #[.int .i64 kd, .string nm0, .int .i64 n0, .int .i64 fk, .slice fa fn fc, .int .i64 tk, .slice ta tn tc, .slice (some p) es.length cap, .slice a2 vs.length cap2] 37)) wr) (fun _ i _ => vs.length - (intOf i).toNat)
    case atStart => exact ⟨0, [], by omega, rfl, by simpa using HO.out, by simp [CoVals], HB.out⟩
    case round =>
      obtain ⟨k, ds, hk, rfl, hown, hvs, hb⟩ := hrel
      clear b8
      have HO2 := Lib.hid hown; clear hown
      have HVS := Lib.hid hvs; clear hvs
      have HB2 := Lib.hid hb; clear hb
      have HBB := Lib.hid (box_below HB2.out)
      have b8 := box_cell HB2.out 8
      have hzw : (w.heap.size + 1) ≤ wr.heap.size := by have := HB2.out.size; simpa using this
      by_cases hlt : k < vs.length
      · have hlt2 : k < ns.length := by have := HLN.out; omega
        obtain ⟨b, off, x0, x1, x2, x3, x4, x5, x6, x7, x8, rfl, hbl, hnz, hcn, hc0, hc1, hc2, hc3, hc4, hc5, hc6, hc7, hc8, ht⟩ := HAE.out k hlt hlt2
        obtain ⟨yk, ynm, yn, yfk, yfa, yfn, yfc, ytk, yta, ytn, ytc, ysa, ysn, ysc, yea, yen, yec, rfl, rfl, rfl, rfl, rfl, rfl, rfl, rfl, rfl⟩ := co_cells ht
        have e0 : wr.cell? ⟨b, off + k * 10 + 1, none⟩ = some (.int .i64 yk) := by rw [HBB.out.cell (p := ⟨b, off + k * 10 + 1, none⟩) hbl]; exact hc0
        have e1 : wr.cell? ⟨b, off + k * 10 + 2, none⟩ = some (.string ynm) := by rw [HBB.out.cell (p := ⟨b, off + k * 10 + 2, none⟩) hbl]; exact hc1
        have e2 : wr.cell? ⟨b, off + k * 10 + 3, none⟩ = some (.int .i64 yn) := by rw [HBB.out.cell (p := ⟨b, off + k * 10 + 3, none⟩) hbl]; exact hc2
        have e3 : wr.cell? ⟨b, off + k * 10 + 4, none⟩ = some (.int .i64 yfk) := by rw [HBB.out.cell (p := ⟨b, off + k * 10 + 4, none⟩) hbl]; exact hc3
        have e4 : wr.cell? ⟨b, off + k * 10 + 5, none⟩ = some (.slice yfa yfn yfc) := by rw [HBB.out.cell (p := ⟨b, off + k * 10 + 5, none⟩) hbl]; exact hc4
        have e5 : wr.cell? ⟨b, off + k * 10 + 6, none⟩ = some (.int .i64 ytk) := by rw [HBB.out.cell (p := ⟨b, off + k * 10 + 6, none⟩) hbl]; exact hc5
        have e6 : wr.cell? ⟨b, off + k * 10 + 7, none⟩ = some (.slice yta ytn ytc) := by rw [HBB.out.cell (p := ⟨b, off + k * 10 + 7, none⟩) hbl]; exact hc6
        have e7 : wr.cell? ⟨b, off + k * 10 + 8, none⟩ = some (.slice ysa ysn ysc) := by rw [HBB.out.cell (p := ⟨b, off + k * 10 + 8, none⟩) hbl]; exact hc7
        have e8 : wr.cell? ⟨b, off + k * 10 + 9, none⟩ = some (.slice yea yen yec) := by rw [HBB.out.cell (p := ⟨b, off + k * 10 + 9, none⟩) hbl]; exact hc8
        have HTK := Lib.hid ht
        clear ht hcn hnz hc0 hc1 hc2 hc3 hc4 hc5 hc6 hc7 hc8
        go_wp2_with (at_builtin; go_must (refine wpList_append_own_at _ rfl _ _ 34 rfl (w.heap.size + 1) 37 i0 (.agg #[.int .i64 0, .string ⟨#[]⟩, .int .i64 0, .int .i64 0, .slice none 0 0, .int .i64 0, .slice none 0 0, .slice none 0 0, .slice none 0 0]) 9 144 Tryd.underlying34 HI.out HZ0.out HZ1.out HZ2.out rfl (by decide) _ (es.length + k) (cs ++ ds) rfl (HO2.out.alloc _) ⟨wr.heap.size, 0, none⟩ 1 1 [.int .i64 yk, .string ynm, .int .i64 yn, .int .i64 yfk, .slice yfa yfn yfc, .int .i64 ytk, .slice yta ytn ytc, .slice ysa ysn ysc, .slice yea yen yec] rfl rfl (World.news_of_block (cs := #[.int .i64 yk, .string ynm, .int .i64 yn, .int .i64 yfk, .slice yfa yfn yfc, .int .i64 ytk, .slice yta ytn ytc, .slice ysa ysn ysc, .slice yea yen yec]) (t := 37) (fr := (0, 0)) (heap_alloc_new wr _)) (by simp [Value.oneCell']) (by unfold maxLen; omega) (by omega) (by simp; omega) ?_); intro v2 w2 hown2 hg2 _ hblk2; refine Hid.out ?_)
        refine Lib.hid ?_
        have hb2 := (HB2.out.alloc hzw _).grown hg2 (by simp; omega) (fun k hk => (HO2.out.lt k hk).1)
        have hown3 : w2.ownsRow (w.heap.size + 1) 37 9 v2 (es.length + (k + 1)) (cs ++ (ds ++ [.int .i64 yk, .string ynm, .int .i64 yn, .int .i64 yfk, .slice yfa yfn yfc, .int .i64 ytk, .slice yta ytn ytc, .slice ysa ysn ysc, .slice yea yen yec])) := by rw [← List.append_assoc]; exact hown2
        have HO3 := Lib.hid hown3; clear hown3 hown2 hg2 hblk2
        have HB3 := Lib.hid hb2; clear hb2 b8 e0 e1 e2 e3 e4 e5 e6 e7 e8
        have b8 := box_cell HB3.out 8
        have HVN : Hid (CoVals w d (ds ++ [.int .i64 yk, .string ynm, .int .i64 yn, .int .i64 yfk, .slice yfa yfn yfc, .int .i64 ytk, .slice yta ytn ytc, .slice ysa ysn ysc, .slice yea yen yec]) (vs.take (k + 1))) := by rw [List.take_succ_eq_append_getElem hlt]; exact HVS.out.append ⟨HTK.out, trivial⟩
        go_wp2_with fail
        exact ⟨⟨k + 1, ds ++ [.int .i64 yk, .string ynm, .int .i64 yn, .int .i64 yfk, .slice yfa yfn yfc, .int .i64 ytk, .slice yta ytn ytc, .slice ysa ysn ysc, .slice yea yen yec], by omega, by go_num, HO3.out, HVN.out, HB3.out⟩, by simp [intOf]; omega⟩
      · obtain rfl : k = vs.length := by omega
        have hvv := HVS.out
        rw [List.take_length] at hvv
        have HCA := Lib.hid (CosAt.of_own HO2.out ((HV.out.append hvv).below HBB.out) (by simp))
        clear hvv HO2
        have HS2 := HSZ.out
        have HAL : Hid (∀ v, CosAt wr d v (es ++ vs) → Calls Tryd.prog 33 #[v] wr fun e w' => e = .returned (.int .i64 (allF (Co.fms (es ++ vs)))) ∧ Below wr.heap.size wr w') := fun v hv => specFmAll d IH _ _ _ hv (by rw [Co.bulks_append]; exact HS2) (by rw [Co.forms_append, HFO.out.1, HFO.out.2]; rfl)
        have HCA2 := HCA.out
        obtain ⟨ra, rc, rfl, _⟩ := HCA2
        have HCB := HCA.out
        rw [List.length_append] at HCB
        have HCB2 := Lib.hid HCB; clear HCB HCA
        go_wp2_with fail
        refine (HAL.out _ HCB2.out).mono ?_
        rintro e w' ⟨rfl, hb1⟩
        have HN := Lib.hid (below_thru HBB.out (Nat.le_refl _) hb1); clear hb1
        go_wp2_with fail
        go_ret
        exact ⟨by rw [Co.fms_append]; rfl, HN.out⟩
end Go.Proofs.YtnggkcgifjfnfaaDoor
