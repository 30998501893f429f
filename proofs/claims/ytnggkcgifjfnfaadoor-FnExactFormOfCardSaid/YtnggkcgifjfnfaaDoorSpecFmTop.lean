/-
  Proved: spec.l24Form and spec.FormOf give the form of a core expression; the memory that was there stays as it was.
-/
import Derived.Test.YtnggkcgifjfnfaaDoorSpecFmCast
import Derived.Deep.RegionHeld3
import Derived.Test.YtnggkcgifjfnfaaDoorFmOf
namespace Go.Proofs.YtnggkcgifjfnfaaDoor
open Go.RowKit

set_option maxRecDepth 100000 in
set_option maxHeartbeats 8000000 in
theorem specFm : ∀ (d : Nat) (v : Value) (t : Co) (w : World), CoAt w d v t → t.bulk ≤ 1048576 → t.form = true → Calls Tryd.prog 16 #[v] w fun e w' => e = .returned (.int .i64 t.fm) ∧ Below w.heap.size w w'
  | 0, _, _, _, h, _, _ => h.elim
  | d + 1, v, .node kd nm0 n0 fr ty es ns vs, w, h, hsz, hform => by
    have IH : Hid (∀ (v : Value) (t : Co) (w : World), CoAt w d v t → t.bulk ≤ 1048576 → t.form = true → Calls Tryd.prog 16 #[v] w fun e w' => e = .returned (.int .i64 t.fm) ∧ Below w.heap.size w w') := specFm d
    have HWH := Lib.hid h
    have HBK := Lib.hid hsz
    have HFS := Lib.hid (co_forms hform)
    have HAR := co_arity hform
    have HEN : Hid (kd ≠ 1 → kd ≠ 2 → ns.length = 0) := fun h1 h2 => co_env hform h1 h2
    have hkr := co_kind hform
    clear hform
    have HV := co_parts h
    obtain ⟨c3, c4, c5, c6, sl, el, rfl, hk0, hk1, hn0, hn1, hnm, hfr, hty, ⟨a, cap, rfl, hcap, hcap2, hat⟩, hln, a2, cap2, rfl, hcpe, hcpe2, hae⟩ := h
    obtain ⟨k, nm, n, fk, fa, fn, fc, tk, ta, tn, tc, sa, sn, sc, ea, en, ec, hv⟩ := HV
    injection hv with hv
    injection hv with hv
    simp at hv
    obtain ⟨rfl, rfl, rfl, rfl, rfl, rfl, rfl, HVR⟩ := hv
    clear HVR
    have HAT := Lib.hid hat; clear hat
    have HAE := Lib.hid hae; clear hae
    have HLN := Lib.hid hln; clear hln
    have hbk : (Co.node kd nm0 n0 fr ty es ns vs).bulk = nm0.size + (fr.size - 1) + (ty.size - 1) + Co.bulks es + (txs ns + Co.bulks vs) := rfl
    have HSZ : Hid (Co.bulks es + Co.bulks vs ≤ 1048576) := by show _ ≤ _; omega
    have HNM : Hid (nm0.size ≤ 1048576) := by show _ ≤ _; omega
    have HTXS : Hid (txs ns ≤ 1048576) := by show _ ≤ _; omega
    have HFZ : Hid (fr.size ≤ 1048577) := by show _ ≤ _; omega
    have HTZ : Hid (ty.size ≤ 1048577) := by show _ ≤ _; omega
    have hlen : es.length ≤ 1048576 := by have := Co.length_le es; omega
    have hlen2 : vs.length ≤ 1048576 := by have := Co.length_le vs; omega
    have HFR := Lib.hid hfr
    have HTY := Lib.hid hty
    clear hsz hbk hty hfr
    have HSA : Hid (Co.bulks es ≤ 1048576) := by show _ ≤ _; have := HSZ.out; omega
    clear HAE HFR HTY HFZ HTZ HNM HTXS HSZ
    rcases (by omega : kd = 1 ∨ kd = 2 ∨ kd = 3 ∨ kd = 4 ∨ kd = 5 ∨ kd = 6 ∨ kd = 7 ∨ kd = 8 ∨ kd = 9 ∨ kd = 10 ∨ kd = 11 ∨ kd = 12 ∨ kd = 13 ∨ kd = 14 ∨ kd = 15) with rfl | rfl | rfl | rfl | rfl | rfl | rfl | rfl | rfl | rfl | rfl | rfl | rfl | rfl | rfl
    · have HR : Hid ((Co.node 1 nm0 n0 fr ty es ns vs).fm = if allF (Co.fms es ++ Co.fms vs) = 0 then 0 else 2) := by show _ = _; rw [← opn_all]; simp [Co.fm, fmNode]
      clear HAR hkr HAT HEN HLN
      have B : Hid (Below (w.heap.size + 1) (w.alloc (.cells #[.int .i64 1, .string nm0, .int .i64 n0, .int .i64 fk, .slice fa fn fc, .int .i64 tk, .slice ta tn tc, .slice a es.length cap, .slice a2 vs.length cap2] 37)) (w.alloc (.cells #[.int .i64 1, .string nm0, .int .i64 n0, .int .i64 fk, .slice fa fn fc, .int .i64 tk, .slice ta tn tc, .slice a es.length cap, .slice a2 vs.length cap2] 37))) := Below.refl _ _
      go_enter Tryd.func16, Tryd.ntmps16
      go_wp2_with fail
      refine (specFmEnv d IH _ 1 nm0 n0 fr ty es ns vs _ (HWH.out.below (box_below B.out)) HBK.out HFS.out).mono ?_
      rintro e w1 ⟨rfl, hb⟩
      have B2 := Lib.hid (box_next B.out hb); clear hb B
      have B := B2; clear B2
      have hrg := allF_range (Co.fms es ++ Co.fms vs)
      obtain ⟨m, hm⟩ : ∃ m, m = allF (Co.fms es ++ Co.fms vs) := ⟨_, rfl⟩
      rw [← hm] at hrg HR
      rw [← hm]
      clear hm
      rcases hrg with rfl | rfl | rfl
      · go_wp2_with fail
        refine (specIf _ _).mono ?_
        rintro e w' ⟨rfl, rfl⟩
        go_wp2_with fail
        go_ret
        exact ⟨by rw [HR.out]; rfl, box_below B.out⟩
      · go_wp2_with fail
        refine (specIf _ _).mono ?_
        rintro e w' ⟨rfl, rfl⟩
        go_wp2_with fail
        go_ret
        exact ⟨by rw [HR.out]; rfl, box_below B.out⟩
      · go_wp2_with fail
        refine (specIf _ _).mono ?_
        rintro e w' ⟨rfl, rfl⟩
        go_wp2_with fail
        go_ret
        exact ⟨by rw [HR.out]; rfl, box_below B.out⟩
    · have HR : Hid ((Co.node 2 nm0 n0 fr ty es ns vs).fm = if allF (Co.fms es ++ Co.fms vs) = 0 then 0 else 2) := by show _ = _; rw [← opn_all]; simp [Co.fm, fmNode]
      clear HAR hkr HAT HEN HLN
      have B : Hid (Below (w.heap.size + 1) (w.alloc (.cells #[.int .i64 2, .string nm0, .int .i64 n0, .int .i64 fk, .slice fa fn fc, .int .i64 tk, .slice ta tn tc, .slice a es.length cap, .slice a2 vs.length cap2] 37)) (w.alloc (.cells #[.int .i64 2, .string nm0, .int .i64 n0, .int .i64 fk, .slice fa fn fc, .int .i64 tk, .slice ta tn tc, .slice a es.length cap, .slice a2 vs.length cap2] 37))) := Below.refl _ _
      go_enter Tryd.func16, Tryd.ntmps16
      go_wp2_with fail
      refine (specFmEnv d IH _ 2 nm0 n0 fr ty es ns vs _ (HWH.out.below (box_below B.out)) HBK.out HFS.out).mono ?_
      rintro e w1 ⟨rfl, hb⟩
      have B2 := Lib.hid (box_next B.out hb); clear hb B
      have B := B2; clear B2
      have hrg := allF_range (Co.fms es ++ Co.fms vs)
      obtain ⟨m, hm⟩ : ∃ m, m = allF (Co.fms es ++ Co.fms vs) := ⟨_, rfl⟩
      rw [← hm] at hrg HR
      rw [← hm]
      clear hm
      rcases hrg with rfl | rfl | rfl
      · go_wp2_with fail
        refine (specIf _ _).mono ?_
        rintro e w' ⟨rfl, rfl⟩
        go_wp2_with fail
        go_ret
        exact ⟨by rw [HR.out]; rfl, box_below B.out⟩
      · go_wp2_with fail
        refine (specIf _ _).mono ?_
        rintro e w' ⟨rfl, rfl⟩
        go_wp2_with fail
        go_ret
        exact ⟨by rw [HR.out]; rfl, box_below B.out⟩
      · go_wp2_with fail
        refine (specIf _ _).mono ?_
        rintro e w' ⟨rfl, rfl⟩
        go_wp2_with fail
        go_ret
        exact ⟨by rw [HR.out]; rfl, box_below B.out⟩
    · have HL : es.length = 0 := by have : coArity 3 = 0 := rfl; omega
      obtain rfl : es = [] := List.length_eq_zero_iff.1 HL
      clear HL HAR hkr HAT HEN HLN
      have B : Hid (Below (w.heap.size + 1) (w.alloc (.cells #[.int .i64 3, .string nm0, .int .i64 n0, .int .i64 fk, .slice fa fn fc, .int .i64 tk, .slice ta tn tc, .slice a ([] : List Co).length cap, .slice a2 vs.length cap2] 37)) (w.alloc (.cells #[.int .i64 3, .string nm0, .int .i64 n0, .int .i64 fk, .slice fa fn fc, .int .i64 tk, .slice ta tn tc, .slice a ([] : List Co).length cap, .slice a2 vs.length cap2] 37))) := Below.refl _ _
      go_enter Tryd.func16, Tryd.ntmps16
      go_wp2_with fail
      go_ret
      exact ⟨rfl, box_below B.out⟩
    · clear HAR hkr HAT HEN HLN
      have B : Hid (Below (w.heap.size + 1) (w.alloc (.cells #[.int .i64 4, .string nm0, .int .i64 n0, .int .i64 fk, .slice fa fn fc, .int .i64 tk, .slice ta tn tc, .slice a es.length cap, .slice a2 vs.length cap2] 37)) (w.alloc (.cells #[.int .i64 4, .string nm0, .int .i64 n0, .int .i64 fk, .slice fa fn fc, .int .i64 tk, .slice ta tn tc, .slice a es.length cap, .slice a2 vs.length cap2] 37))) := Below.refl _ _
      go_enter Tryd.func16, Tryd.ntmps16
      go_wp2_with fail
      go_ret
      exact ⟨rfl, box_below B.out⟩
    · have HL2 : es.length = 2 := by have : coArity 5 = 2 := rfl; omega
      obtain ⟨a0, b0, rfl⟩ := xlen_two HL2
      clear HL2 HAR
      clear hkr
      have HVE : Hid (Co.fms vs = []) := by
        have e1 := HEN.out (by decide) (by decide)
        have e2 := HLN.out
        have e3 : vs = [] := List.length_eq_zero_iff.1 (by omega)
        show _ = _
        rw [e3]; rfl
      have HCS : Hid (CosAt w d (.slice a 2 cap) [a0, b0]) := ⟨a, cap, rfl, hcap, hcap2, HAT.out⟩
      obtain ⟨b, off, x0, x1, x2, x3, x4, x5, x6, x7, x8, rfl, hbl, hc0, hc1, hc2, hc3, hc4, hc5, hc6, hc7, hc8, ht⟩ := HAT.out 0 (by simp)
      simp only [Nat.zero_mul, Nat.add_zero, List.getElem_cons_zero] at hc0 hc1 hc2 hc3 hc4 hc5 hc6 hc7 hc8 ht
      obtain ⟨ka, p1, p2, p3, p4, p5, p6, p7, p8, p9, p10, p11, p12, p13, p14, p15, p16, rfl, rfl, rfl, rfl, rfl, rfl, rfl, rfl, rfl⟩ := co_cells ht
      have HA0 := Lib.hid ht
      have HKA := Lib.hid (sco_kd ht)
      have E0 := Lib.hid hc0
      have E1 := Lib.hid hc1
      have E2 := Lib.hid hc2
      have E3 := Lib.hid hc3
      have E4 := Lib.hid hc4
      have E5 := Lib.hid hc5
      have E6 := Lib.hid hc6
      have E7 := Lib.hid hc7
      have E8 := Lib.hid hc8
      clear ht hc0 hc1 hc2 hc3 hc4 hc5 hc6 hc7 hc8
      have HFA : a0.form = true := by have := HFS.out.1; simp only [Co.forms, Bool.and_eq_true] at this; exact this.1
      have HBA : a0.bulk ≤ 1048576 := by have h1 := HSA.out; simp only [Co.bulks] at h1; omega
      have HR : Hid ((Co.node 5 nm0 n0 fr ty [a0, b0] ns vs).fm = opn (!hasF 0 (Co.fms [a0, b0]) && (!decide (a0.kd = 4) && !a0.btw 4))) := by show _ = _; simp [Co.fm, fmNode, Co.fms]
      rw [HKA.out] at HR
      clear HAT HEN HLN
      have B : Hid (Below (w.heap.size + 1) (w.alloc (.cells #[.int .i64 5, .string nm0, .int .i64 n0, .int .i64 fk, .slice fa fn fc, .int .i64 tk, .slice ta tn tc, .slice (some ⟨b, off, none⟩) 2 cap, .slice a2 vs.length cap2] 37)) ((w.alloc (.cells #[.int .i64 5, .string nm0, .int .i64 n0, .int .i64 fk, .slice fa fn fc, .int .i64 tk, .slice ta tn tc, .slice (some ⟨b, off, none⟩) 2 cap, .slice a2 vs.length cap2] 37)).alloc (.cells #[.int .i64 ka, .string p1, .int .i64 p2, .int .i64 p3, .slice p4 p5 p6, .int .i64 p7, .slice p8 p9 p10, .slice p11 p12 p13, .slice p14 p15 p16] 37))) := (Below.refl _ _).alloc (by simp) _
      have XF : Hid (BoxAt ((w.alloc (.cells #[.int .i64 5, .string nm0, .int .i64 n0, .int .i64 fk, .slice fa fn fc, .int .i64 tk, .slice ta tn tc, .slice (some ⟨b, off, none⟩) 2 cap, .slice a2 vs.length cap2] 37)).alloc (.cells #[.int .i64 ka, .string p1, .int .i64 p2, .int .i64 p3, .slice p4 p5 p6, .int .i64 p7, .slice p8 p9 p10, .slice p11 p12 p13, .slice p14 p15 p16] 37)) (w.heap.size + 1) #[.int .i64 ka, .string p1, .int .i64 p2, .int .i64 p3, .slice p4 p5 p6, .int .i64 p7, .slice p8 p9 p10, .slice p11 p12 p13, .slice p14 p15 p16]) := by
        have := BoxAt.new (w.alloc (.cells #[.int .i64 5, .string nm0, .int .i64 n0, .int .i64 fk, .slice fa fn fc, .int .i64 tk, .slice ta tn tc, .slice (some ⟨b, off, none⟩) 2 cap, .slice a2 vs.length cap2] 37)) #[.int .i64 ka, .string p1, .int .i64 p2, .int .i64 p3, .slice p4 p5 p6, .int .i64 p7, .slice p8 p9 p10, .slice p11 p12 p13, .slice p14 p15 p16] 37
        rw [show (w.alloc (.cells #[.int .i64 5, .string nm0, .int .i64 n0, .int .i64 fk, .slice fa fn fc, .int .i64 tk, .slice ta tn tc, .slice (some ⟨b, off, none⟩) 2 cap, .slice a2 vs.length cap2] 37)).heap.size = w.heap.size + 1 from by simp] at this
        exact this
      have y0 := ((below_alloc w (.cells #[.int .i64 5, .string nm0, .int .i64 n0, .int .i64 fk, .slice fa fn fc, .int .i64 tk, .slice ta tn tc, .slice (some ⟨b, off, none⟩) 2 cap, .slice a2 vs.length cap2] 37)).cell (p := ⟨b, off, none⟩) hbl).trans E0.out
      have y1 := ((below_alloc w (.cells #[.int .i64 5, .string nm0, .int .i64 n0, .int .i64 fk, .slice fa fn fc, .int .i64 tk, .slice ta tn tc, .slice (some ⟨b, off, none⟩) 2 cap, .slice a2 vs.length cap2] 37)).cell (p := ⟨b, off + 1, none⟩) hbl).trans E1.out
      have y2 := ((below_alloc w (.cells #[.int .i64 5, .string nm0, .int .i64 n0, .int .i64 fk, .slice fa fn fc, .int .i64 tk, .slice ta tn tc, .slice (some ⟨b, off, none⟩) 2 cap, .slice a2 vs.length cap2] 37)).cell (p := ⟨b, off + 2, none⟩) hbl).trans E2.out
      have y3 := ((below_alloc w (.cells #[.int .i64 5, .string nm0, .int .i64 n0, .int .i64 fk, .slice fa fn fc, .int .i64 tk, .slice ta tn tc, .slice (some ⟨b, off, none⟩) 2 cap, .slice a2 vs.length cap2] 37)).cell (p := ⟨b, off + 3, none⟩) hbl).trans E3.out
      have y4 := ((below_alloc w (.cells #[.int .i64 5, .string nm0, .int .i64 n0, .int .i64 fk, .slice fa fn fc, .int .i64 tk, .slice ta tn tc, .slice (some ⟨b, off, none⟩) 2 cap, .slice a2 vs.length cap2] 37)).cell (p := ⟨b, off + 4, none⟩) hbl).trans E4.out
      have y5 := ((below_alloc w (.cells #[.int .i64 5, .string nm0, .int .i64 n0, .int .i64 fk, .slice fa fn fc, .int .i64 tk, .slice ta tn tc, .slice (some ⟨b, off, none⟩) 2 cap, .slice a2 vs.length cap2] 37)).cell (p := ⟨b, off + 5, none⟩) hbl).trans E5.out
      have y6 := ((below_alloc w (.cells #[.int .i64 5, .string nm0, .int .i64 n0, .int .i64 fk, .slice fa fn fc, .int .i64 tk, .slice ta tn tc, .slice (some ⟨b, off, none⟩) 2 cap, .slice a2 vs.length cap2] 37)).cell (p := ⟨b, off + 6, none⟩) hbl).trans E6.out
      have y7 := ((below_alloc w (.cells #[.int .i64 5, .string nm0, .int .i64 n0, .int .i64 fk, .slice fa fn fc, .int .i64 tk, .slice ta tn tc, .slice (some ⟨b, off, none⟩) 2 cap, .slice a2 vs.length cap2] 37)).cell (p := ⟨b, off + 7, none⟩) hbl).trans E7.out
      have y8 := ((below_alloc w (.cells #[.int .i64 5, .string nm0, .int .i64 n0, .int .i64 fk, .slice fa fn fc, .int .i64 tk, .slice ta tn tc, .slice (some ⟨b, off, none⟩) 2 cap, .slice a2 vs.length cap2] 37)).cell (p := ⟨b, off + 8, none⟩) hbl).trans E8.out
      go_enter Tryd.func16, Tryd.ntmps16
      go_wp2_with fail
      clear y0 y1 y2 y3 y4 y5 y6 y7 y8
      refine (specFmAll d IH _ [a0, b0] _ (CosAt.below HCS.out (box_below B.out)) HSA.out HFS.out.1).mono ?_
      rintro e w1 ⟨rfl, hb⟩
      replace XF := Lib.hid (XF.out.below hb)
      have B2 := Lib.hid (box_next B.out hb); clear hb B
      have B := B2; clear B2
      have f0 := XF.out.2 0
      have f1 := XF.out.2 1
      have f2 := XF.out.2 2
      have f3 := XF.out.2 3
      have f4 := XF.out.2 4
      have f5 := XF.out.2 5
      have f6 := XF.out.2 6
      have f7 := XF.out.2 7
      have f8 := XF.out.2 8
      have HOA := Lib.hid (opn_all (Co.fms [a0, b0]))
      have hrg := allF_range (Co.fms [a0, b0])
      obtain ⟨m, hm⟩ : ∃ m, m = allF (Co.fms [a0, b0]) := ⟨_, rfl⟩
      have HQ : Hid (hasF 0 (Co.fms [a0, b0]) = decide (m = 0)) := by
        show _ = _
        rw [hm]; unfold allF
        cases hasF 0 (Co.fms [a0, b0]) <;> cases hasF 2 (Co.fms [a0, b0]) <;> simp
      rw [← hm] at hrg ⊢
      clear hm HOA
      rcases hrg with rfl | rfl | rfl
      · go_wp2_with fail
        refine (specIf _ _).mono ?_
        rintro e w' ⟨rfl, rfl⟩
        go_wp2_with fail
        go_ret
        exact ⟨by rw [HR.out, HQ.out]; simp [opn], box_below B.out⟩
      · by_cases qa : ka = 4
        · have qa1 : (ka == 4) = true := by simp [qa]
          have qa2 : (ka != 4) = false := by simp [qa]
          go_wp2_with fail
          refine (specIf _ _).mono ?_
          rintro e w' ⟨rfl, rfl⟩
          go_wp2_with fail
          go_ret
          exact ⟨by rw [HR.out, HQ.out]; simp [opn, qa], box_below B.out⟩
        · have qa1 : (ka == 4) = false := by simp [qa]
          have qa2 : (ka != 4) = true := by simp [qa]
          go_wp2_with fail
          refine (specBetween d _ a0 _ (HA0.out.below (box_below B.out)) HBA 4).mono ?_
          rintro e w2 ⟨rfl, hb⟩
          have B2 := Lib.hid (box_next B.out hb); clear hb B
          have B := B2; clear B2
          cases hb4 : a0.btw 4 with
          | false =>
            have HB4 := Lib.hid hb4; clear hb4
            go_wp2_with fail
            refine (specIf _ _).mono ?_
            rintro e w' ⟨rfl, rfl⟩
            go_wp2_with fail
            go_ret
            exact ⟨by rw [HR.out, HQ.out, HB4.out]; simp [opn, qa], box_below B.out⟩
          | true =>
            have HB4 := Lib.hid hb4; clear hb4
            go_wp2_with fail
            refine (specIf _ _).mono ?_
            rintro e w' ⟨rfl, rfl⟩
            go_wp2_with fail
            go_ret
            exact ⟨by rw [HR.out, HQ.out, HB4.out]; simp [opn, qa], box_below B.out⟩
      · by_cases qa : ka = 4
        · have qa1 : (ka == 4) = true := by simp [qa]
          have qa2 : (ka != 4) = false := by simp [qa]
          go_wp2_with fail
          refine (specIf _ _).mono ?_
          rintro e w' ⟨rfl, rfl⟩
          go_wp2_with fail
          go_ret
          exact ⟨by rw [HR.out, HQ.out]; simp [opn, qa], box_below B.out⟩
        · have qa1 : (ka == 4) = false := by simp [qa]
          have qa2 : (ka != 4) = true := by simp [qa]
          go_wp2_with fail
          refine (specBetween d _ a0 _ (HA0.out.below (box_below B.out)) HBA 4).mono ?_
          rintro e w2 ⟨rfl, hb⟩
          have B2 := Lib.hid (box_next B.out hb); clear hb B
          have B := B2; clear B2
          cases hb4 : a0.btw 4 with
          | false =>
            have HB4 := Lib.hid hb4; clear hb4
            go_wp2_with fail
            refine (specIf _ _).mono ?_
            rintro e w' ⟨rfl, rfl⟩
            go_wp2_with fail
            go_ret
            exact ⟨by rw [HR.out, HQ.out, HB4.out]; simp [opn, qa], box_below B.out⟩
          | true =>
            have HB4 := Lib.hid hb4; clear hb4
            go_wp2_with fail
            refine (specIf _ _).mono ?_
            rintro e w' ⟨rfl, rfl⟩
            go_wp2_with fail
            go_ret
            exact ⟨by rw [HR.out, HQ.out, HB4.out]; simp [opn, qa], box_below B.out⟩
    · clear HAR hkr HAT HEN HLN
      have B : Hid (Below (w.heap.size + 1) (w.alloc (.cells #[.int .i64 6, .string nm0, .int .i64 n0, .int .i64 fk, .slice fa fn fc, .int .i64 tk, .slice ta tn tc, .slice a es.length cap, .slice a2 vs.length cap2] 37)) (w.alloc (.cells #[.int .i64 6, .string nm0, .int .i64 n0, .int .i64 fk, .slice fa fn fc, .int .i64 tk, .slice ta tn tc, .slice a es.length cap, .slice a2 vs.length cap2] 37))) := Below.refl _ _
      go_enter Tryd.func16, Tryd.ntmps16
      go_wp2_with fail
      go_ret
      exact ⟨rfl, box_below B.out⟩
    · have HL2 : es.length = 2 := by have : coArity 7 = 2 := rfl; omega
      obtain ⟨a0, b0, rfl⟩ := xlen_two HL2
      clear HL2 HAR
      clear hkr
      have HVE : Hid (Co.fms vs = []) := by
        have e1 := HEN.out (by decide) (by decide)
        have e2 := HLN.out
        have e3 : vs = [] := List.length_eq_zero_iff.1 (by omega)
        show _ = _
        rw [e3]; rfl
      have HCS : Hid (CosAt w d (.slice a 2 cap) [a0, b0]) := ⟨a, cap, rfl, hcap, hcap2, HAT.out⟩
      obtain ⟨b, off, x0, x1, x2, x3, x4, x5, x6, x7, x8, rfl, hbl, hc0, hc1, hc2, hc3, hc4, hc5, hc6, hc7, hc8, ht⟩ := HAT.out 0 (by simp)
      simp only [Nat.zero_mul, Nat.add_zero, List.getElem_cons_zero] at hc0 hc1 hc2 hc3 hc4 hc5 hc6 hc7 hc8 ht
      obtain ⟨ka, p1, p2, p3, p4, p5, p6, p7, p8, p9, p10, p11, p12, p13, p14, p15, p16, rfl, rfl, rfl, rfl, rfl, rfl, rfl, rfl, rfl⟩ := co_cells ht
      have HA0 := Lib.hid ht
      have HKA := Lib.hid (sco_kd ht)
      have E0 := Lib.hid hc0
      have E1 := Lib.hid hc1
      have E2 := Lib.hid hc2
      have E3 := Lib.hid hc3
      have E4 := Lib.hid hc4
      have E5 := Lib.hid hc5
      have E6 := Lib.hid hc6
      have E7 := Lib.hid hc7
      have E8 := Lib.hid hc8
      clear ht hc0 hc1 hc2 hc3 hc4 hc5 hc6 hc7 hc8
      obtain ⟨b2, off2, y0, y1, y2, y3, y4, y5, y6, y7, y8, hab, hbl2, hc0, hc1, hc2, hc3, hc4, hc5, hc6, hc7, hc8, ht⟩ := HAT.out 1 (by simp)
      obtain ⟨rfl, rfl⟩ : b = b2 ∧ off = off2 := by simpa using hab
      simp only [Nat.one_mul, List.getElem_cons_succ, List.getElem_cons_zero] at hc0 hc1 hc2 hc3 hc4 hc5 hc6 hc7 hc8 ht
      obtain ⟨kb, _, _, _, _, _, _, _, _, _, _, _, _, _, _, _, _, rfl, _⟩ := co_cells ht
      have HKB := Lib.hid (sco_kd ht)
      have G0 := Lib.hid hc0
      clear ht hab hbl2 hc0 hc1 hc2 hc3 hc4 hc5 hc6 hc7 hc8
      have HR : Hid ((Co.node 7 nm0 n0 fr ty [a0, b0] ns vs).fm = if (decide (a0.kd = 6) && decide (b0.kd = 6)) then 0 else if allF (Co.fms [a0, b0]) = 0 then 0 else 2) := by
        show _ = _
        rw [← opn_all]
        cases hq : (decide (a0.kd = 6) && decide (b0.kd = 6)) <;> cases hq2 : hasF 0 (Co.fms [a0, b0]) <;> simp [Co.fm, fmNode, Co.fms, opn, hasF] at hq hq2 ⊢ <;> simp_all <;> (intro h1 h2; rcases hq2 with h | h <;> contradiction)
      rw [HKA.out, HKB.out] at HR
      have y0 := E0.out
      have y9 := G0.out
      clear HAT
      by_cases qa : ka = 6
      · have qa1 : (ka == 6) = true := by simp [qa]
        by_cases qb : kb = 6
        · have qb1 : (kb == 6) = true := by simp [qb]
          have B : Hid (Below (w.heap.size + 1) (w.alloc (.cells #[.int .i64 7, .string nm0, .int .i64 n0, .int .i64 fk, .slice fa fn fc, .int .i64 tk, .slice ta tn tc, .slice (some ⟨b, off, none⟩) 2 cap, .slice a2 vs.length cap2] 37)) (w.alloc (.cells #[.int .i64 7, .string nm0, .int .i64 n0, .int .i64 fk, .slice fa fn fc, .int .i64 tk, .slice ta tn tc, .slice (some ⟨b, off, none⟩) 2 cap, .slice a2 vs.length cap2] 37))) := Below.refl _ _
          have t0 := (box_below B.out).cell (p := ⟨b, off, none⟩) hbl |>.trans E0.out
          have t9 := (box_below B.out).cell (p := ⟨b, off + 9, none⟩) hbl |>.trans G0.out
          go_enter Tryd.func16, Tryd.ntmps16
          go_wp2_with fail
          refine (specFmAll d IH _ [a0, b0] _ (CosAt.below HCS.out (box_below B.out)) HSA.out HFS.out.1).mono ?_
          rintro e w1 ⟨rfl, hb⟩
          have B2 := Lib.hid (box_next B.out hb); clear hb B
          have B := B2; clear B2
          have hrg := allF_range (Co.fms [a0, b0])
          obtain ⟨m, hm⟩ : ∃ m, m = allF (Co.fms [a0, b0]) := ⟨_, rfl⟩
          rw [← hm] at hrg HR
          rw [← hm]
          clear hm
          rcases hrg with rfl | rfl | rfl
          · go_wp2_with fail
            refine (specIf _ _).mono ?_
            rintro e w' ⟨rfl, rfl⟩
            go_wp2_with fail
            go_ret
            exact ⟨by rw [HR.out]; simp [opn, qa, qb], box_below B.out⟩
          · go_wp2_with fail
            refine (specIf _ _).mono ?_
            rintro e w' ⟨rfl, rfl⟩
            go_wp2_with fail
            go_ret
            exact ⟨by rw [HR.out]; simp [opn, qa, qb], box_below B.out⟩
          · go_wp2_with fail
            refine (specIf _ _).mono ?_
            rintro e w' ⟨rfl, rfl⟩
            go_wp2_with fail
            go_ret
            exact ⟨by rw [HR.out]; simp [opn, qa, qb], box_below B.out⟩
        · have qb1 : (kb == 6) = false := by simp [qb]
          have B : Hid (Below (w.heap.size + 1) (w.alloc (.cells #[.int .i64 7, .string nm0, .int .i64 n0, .int .i64 fk, .slice fa fn fc, .int .i64 tk, .slice ta tn tc, .slice (some ⟨b, off, none⟩) 2 cap, .slice a2 vs.length cap2] 37)) (w.alloc (.cells #[.int .i64 7, .string nm0, .int .i64 n0, .int .i64 fk, .slice fa fn fc, .int .i64 tk, .slice ta tn tc, .slice (some ⟨b, off, none⟩) 2 cap, .slice a2 vs.length cap2] 37))) := Below.refl _ _
          have t0 := (box_below B.out).cell (p := ⟨b, off, none⟩) hbl |>.trans E0.out
          have t9 := (box_below B.out).cell (p := ⟨b, off + 9, none⟩) hbl |>.trans G0.out
          go_enter Tryd.func16, Tryd.ntmps16
          go_wp2_with fail
          refine (specFmAll d IH _ [a0, b0] _ (CosAt.below HCS.out (box_below B.out)) HSA.out HFS.out.1).mono ?_
          rintro e w1 ⟨rfl, hb⟩
          have B2 := Lib.hid (box_next B.out hb); clear hb B
          have B := B2; clear B2
          have hrg := allF_range (Co.fms [a0, b0])
          obtain ⟨m, hm⟩ : ∃ m, m = allF (Co.fms [a0, b0]) := ⟨_, rfl⟩
          rw [← hm] at hrg HR
          rw [← hm]
          clear hm
          rcases hrg with rfl | rfl | rfl
          · go_wp2_with fail
            refine (specIf _ _).mono ?_
            rintro e w' ⟨rfl, rfl⟩
            go_wp2_with fail
            go_ret
            exact ⟨by rw [HR.out]; simp [opn, qa, qb], box_below B.out⟩
          · go_wp2_with fail
            refine (specIf _ _).mono ?_
            rintro e w' ⟨rfl, rfl⟩
            go_wp2_with fail
            go_ret
            exact ⟨by rw [HR.out]; simp [opn, qa, qb], box_below B.out⟩
          · go_wp2_with fail
            refine (specIf _ _).mono ?_
            rintro e w' ⟨rfl, rfl⟩
            go_wp2_with fail
            go_ret
            exact ⟨by rw [HR.out]; simp [opn, qa, qb], box_below B.out⟩
      · have qa1 : (ka == 6) = false := by simp [qa]
        have B : Hid (Below (w.heap.size + 1) (w.alloc (.cells #[.int .i64 7, .string nm0, .int .i64 n0, .int .i64 fk, .slice fa fn fc, .int .i64 tk, .slice ta tn tc, .slice (some ⟨b, off, none⟩) 2 cap, .slice a2 vs.length cap2] 37)) (w.alloc (.cells #[.int .i64 7, .string nm0, .int .i64 n0, .int .i64 fk, .slice fa fn fc, .int .i64 tk, .slice ta tn tc, .slice (some ⟨b, off, none⟩) 2 cap, .slice a2 vs.length cap2] 37))) := Below.refl _ _
        have t0 := (box_below B.out).cell (p := ⟨b, off, none⟩) hbl |>.trans E0.out
        have t9 := (box_below B.out).cell (p := ⟨b, off + 9, none⟩) hbl |>.trans G0.out
        go_enter Tryd.func16, Tryd.ntmps16
        go_wp2_with fail
        refine (specFmAll d IH _ [a0, b0] _ (CosAt.below HCS.out (box_below B.out)) HSA.out HFS.out.1).mono ?_
        rintro e w1 ⟨rfl, hb⟩
        have B2 := Lib.hid (box_next B.out hb); clear hb B
        have B := B2; clear B2
        have hrg := allF_range (Co.fms [a0, b0])
        obtain ⟨m, hm⟩ : ∃ m, m = allF (Co.fms [a0, b0]) := ⟨_, rfl⟩
        rw [← hm] at hrg HR
        rw [← hm]
        clear hm
        rcases hrg with rfl | rfl | rfl
        · go_wp2_with fail
          refine (specIf _ _).mono ?_
          rintro e w' ⟨rfl, rfl⟩
          go_wp2_with fail
          go_ret
          exact ⟨by rw [HR.out]; simp [opn, qa], box_below B.out⟩
        · go_wp2_with fail
          refine (specIf _ _).mono ?_
          rintro e w' ⟨rfl, rfl⟩
          go_wp2_with fail
          go_ret
          exact ⟨by rw [HR.out]; simp [opn, qa], box_below B.out⟩
        · go_wp2_with fail
          refine (specIf _ _).mono ?_
          rintro e w' ⟨rfl, rfl⟩
          go_wp2_with fail
          go_ret
          exact ⟨by rw [HR.out]; simp [opn, qa], box_below B.out⟩
    · have HL2 : es.length = 2 := by have : coArity 8 = 2 := rfl; omega
      obtain ⟨a0, b0, rfl⟩ := xlen_two HL2
      clear HL2 HAR
      clear hkr
      have HVE : Hid (Co.fms vs = []) := by
        have e1 := HEN.out (by decide) (by decide)
        have e2 := HLN.out
        have e3 : vs = [] := List.length_eq_zero_iff.1 (by omega)
        show _ = _
        rw [e3]; rfl
      have HCS : Hid (CosAt w d (.slice a 2 cap) [a0, b0]) := ⟨a, cap, rfl, hcap, hcap2, HAT.out⟩
      obtain ⟨b, off, x0, x1, x2, x3, x4, x5, x6, x7, x8, rfl, hbl, hc0, hc1, hc2, hc3, hc4, hc5, hc6, hc7, hc8, ht⟩ := HAT.out 0 (by simp)
      simp only [Nat.zero_mul, Nat.add_zero, List.getElem_cons_zero] at hc0 hc1 hc2 hc3 hc4 hc5 hc6 hc7 hc8 ht
      obtain ⟨ka, p1, p2, p3, p4, p5, p6, p7, p8, p9, p10, p11, p12, p13, p14, p15, p16, rfl, rfl, rfl, rfl, rfl, rfl, rfl, rfl, rfl⟩ := co_cells ht
      have HA0 := Lib.hid ht
      have HKA := Lib.hid (sco_kd ht)
      have E0 := Lib.hid hc0
      have E1 := Lib.hid hc1
      have E2 := Lib.hid hc2
      have E3 := Lib.hid hc3
      have E4 := Lib.hid hc4
      have E5 := Lib.hid hc5
      have E6 := Lib.hid hc6
      have E7 := Lib.hid hc7
      have E8 := Lib.hid hc8
      clear ht hc0 hc1 hc2 hc3 hc4 hc5 hc6 hc7 hc8
      obtain ⟨b2, off2, y0, y1, y2, y3, y4, y5, y6, y7, y8, hab, hbl2, hc0, hc1, hc2, hc3, hc4, hc5, hc6, hc7, hc8, ht⟩ := HAT.out 1 (by simp)
      obtain ⟨rfl, rfl⟩ : b = b2 ∧ off = off2 := by simpa using hab
      simp only [Nat.one_mul, List.getElem_cons_succ, List.getElem_cons_zero] at hc0 hc1 hc2 hc3 hc4 hc5 hc6 hc7 hc8 ht
      obtain ⟨kb, _, _, _, _, _, _, _, _, _, _, _, _, _, _, _, _, rfl, _⟩ := co_cells ht
      have HKB := Lib.hid (sco_kd ht)
      have G0 := Lib.hid hc0
      clear ht hab hbl2 hc0 hc1 hc2 hc3 hc4 hc5 hc6 hc7 hc8
      have HR : Hid ((Co.node 8 nm0 n0 fr ty [a0, b0] ns vs).fm = if (decide (a0.kd = 6) && decide (b0.kd = 6)) then 0 else if allF (Co.fms [a0, b0]) = 0 then 0 else 2) := by
        show _ = _
        rw [← opn_all]
        cases hq : (decide (a0.kd = 6) && decide (b0.kd = 6)) <;> cases hq2 : hasF 0 (Co.fms [a0, b0]) <;> simp [Co.fm, fmNode, Co.fms, opn, hasF] at hq hq2 ⊢ <;> simp_all <;> (intro h1 h2; rcases hq2 with h | h <;> contradiction)
      rw [HKA.out, HKB.out] at HR
      have y0 := E0.out
      have y9 := G0.out
      clear HAT
      by_cases qa : ka = 6
      · have qa1 : (ka == 6) = true := by simp [qa]
        by_cases qb : kb = 6
        · have qb1 : (kb == 6) = true := by simp [qb]
          have B : Hid (Below (w.heap.size + 1) (w.alloc (.cells #[.int .i64 8, .string nm0, .int .i64 n0, .int .i64 fk, .slice fa fn fc, .int .i64 tk, .slice ta tn tc, .slice (some ⟨b, off, none⟩) 2 cap, .slice a2 vs.length cap2] 37)) (w.alloc (.cells #[.int .i64 8, .string nm0, .int .i64 n0, .int .i64 fk, .slice fa fn fc, .int .i64 tk, .slice ta tn tc, .slice (some ⟨b, off, none⟩) 2 cap, .slice a2 vs.length cap2] 37))) := Below.refl _ _
          have t0 := (box_below B.out).cell (p := ⟨b, off, none⟩) hbl |>.trans E0.out
          have t9 := (box_below B.out).cell (p := ⟨b, off + 9, none⟩) hbl |>.trans G0.out
          go_enter Tryd.func16, Tryd.ntmps16
          go_wp2_with fail
          refine (specFmAll d IH _ [a0, b0] _ (CosAt.below HCS.out (box_below B.out)) HSA.out HFS.out.1).mono ?_
          rintro e w1 ⟨rfl, hb⟩
          have B2 := Lib.hid (box_next B.out hb); clear hb B
          have B := B2; clear B2
          have hrg := allF_range (Co.fms [a0, b0])
          obtain ⟨m, hm⟩ : ∃ m, m = allF (Co.fms [a0, b0]) := ⟨_, rfl⟩
          rw [← hm] at hrg HR
          rw [← hm]
          clear hm
          rcases hrg with rfl | rfl | rfl
          · go_wp2_with fail
            refine (specIf _ _).mono ?_
            rintro e w' ⟨rfl, rfl⟩
            go_wp2_with fail
            go_ret
            exact ⟨by rw [HR.out]; simp [opn, qa, qb], box_below B.out⟩
          · go_wp2_with fail
            refine (specIf _ _).mono ?_
            rintro e w' ⟨rfl, rfl⟩
            go_wp2_with fail
            go_ret
            exact ⟨by rw [HR.out]; simp [opn, qa, qb], box_below B.out⟩
          · go_wp2_with fail
            refine (specIf _ _).mono ?_
            rintro e w' ⟨rfl, rfl⟩
            go_wp2_with fail
            go_ret
            exact ⟨by rw [HR.out]; simp [opn, qa, qb], box_below B.out⟩
        · have qb1 : (kb == 6) = false := by simp [qb]
          have B : Hid (Below (w.heap.size + 1) (w.alloc (.cells #[.int .i64 8, .string nm0, .int .i64 n0, .int .i64 fk, .slice fa fn fc, .int .i64 tk, .slice ta tn tc, .slice (some ⟨b, off, none⟩) 2 cap, .slice a2 vs.length cap2] 37)) (w.alloc (.cells #[.int .i64 8, .string nm0, .int .i64 n0, .int .i64 fk, .slice fa fn fc, .int .i64 tk, .slice ta tn tc, .slice (some ⟨b, off, none⟩) 2 cap, .slice a2 vs.length cap2] 37))) := Below.refl _ _
          have t0 := (box_below B.out).cell (p := ⟨b, off, none⟩) hbl |>.trans E0.out
          have t9 := (box_below B.out).cell (p := ⟨b, off + 9, none⟩) hbl |>.trans G0.out
          go_enter Tryd.func16, Tryd.ntmps16
          go_wp2_with fail
          refine (specFmAll d IH _ [a0, b0] _ (CosAt.below HCS.out (box_below B.out)) HSA.out HFS.out.1).mono ?_
          rintro e w1 ⟨rfl, hb⟩
          have B2 := Lib.hid (box_next B.out hb); clear hb B
          have B := B2; clear B2
          have hrg := allF_range (Co.fms [a0, b0])
          obtain ⟨m, hm⟩ : ∃ m, m = allF (Co.fms [a0, b0]) := ⟨_, rfl⟩
          rw [← hm] at hrg HR
          rw [← hm]
          clear hm
          rcases hrg with rfl | rfl | rfl
          · go_wp2_with fail
            refine (specIf _ _).mono ?_
            rintro e w' ⟨rfl, rfl⟩
            go_wp2_with fail
            go_ret
            exact ⟨by rw [HR.out]; simp [opn, qa, qb], box_below B.out⟩
          · go_wp2_with fail
            refine (specIf _ _).mono ?_
            rintro e w' ⟨rfl, rfl⟩
            go_wp2_with fail
            go_ret
            exact ⟨by rw [HR.out]; simp [opn, qa, qb], box_below B.out⟩
          · go_wp2_with fail
            refine (specIf _ _).mono ?_
            rintro e w' ⟨rfl, rfl⟩
            go_wp2_with fail
            go_ret
            exact ⟨by rw [HR.out]; simp [opn, qa, qb], box_below B.out⟩
      · have qa1 : (ka == 6) = false := by simp [qa]
        have B : Hid (Below (w.heap.size + 1) (w.alloc (.cells #[.int .i64 8, .string nm0, .int .i64 n0, .int .i64 fk, .slice fa fn fc, .int .i64 tk, .slice ta tn tc, .slice (some ⟨b, off, none⟩) 2 cap, .slice a2 vs.length cap2] 37)) (w.alloc (.cells #[.int .i64 8, .string nm0, .int .i64 n0, .int .i64 fk, .slice fa fn fc, .int .i64 tk, .slice ta tn tc, .slice (some ⟨b, off, none⟩) 2 cap, .slice a2 vs.length cap2] 37))) := Below.refl _ _
        have t0 := (box_below B.out).cell (p := ⟨b, off, none⟩) hbl |>.trans E0.out
        have t9 := (box_below B.out).cell (p := ⟨b, off + 9, none⟩) hbl |>.trans G0.out
        go_enter Tryd.func16, Tryd.ntmps16
        go_wp2_with fail
        refine (specFmAll d IH _ [a0, b0] _ (CosAt.below HCS.out (box_below B.out)) HSA.out HFS.out.1).mono ?_
        rintro e w1 ⟨rfl, hb⟩
        have B2 := Lib.hid (box_next B.out hb); clear hb B
        have B := B2; clear B2
        have hrg := allF_range (Co.fms [a0, b0])
        obtain ⟨m, hm⟩ : ∃ m, m = allF (Co.fms [a0, b0]) := ⟨_, rfl⟩
        rw [← hm] at hrg HR
        rw [← hm]
        clear hm
        rcases hrg with rfl | rfl | rfl
        · go_wp2_with fail
          refine (specIf _ _).mono ?_
          rintro e w' ⟨rfl, rfl⟩
          go_wp2_with fail
          go_ret
          exact ⟨by rw [HR.out]; simp [opn, qa], box_below B.out⟩
        · go_wp2_with fail
          refine (specIf _ _).mono ?_
          rintro e w' ⟨rfl, rfl⟩
          go_wp2_with fail
          go_ret
          exact ⟨by rw [HR.out]; simp [opn, qa], box_below B.out⟩
        · go_wp2_with fail
          refine (specIf _ _).mono ?_
          rintro e w' ⟨rfl, rfl⟩
          go_wp2_with fail
          go_ret
          exact ⟨by rw [HR.out]; simp [opn, qa], box_below B.out⟩
    · clear HAR hkr HAT HEN HLN
      have B : Hid (Below (w.heap.size + 1) (w.alloc (.cells #[.int .i64 9, .string nm0, .int .i64 n0, .int .i64 fk, .slice fa fn fc, .int .i64 tk, .slice ta tn tc, .slice a es.length cap, .slice a2 vs.length cap2] 37)) (w.alloc (.cells #[.int .i64 9, .string nm0, .int .i64 n0, .int .i64 fk, .slice fa fn fc, .int .i64 tk, .slice ta tn tc, .slice a es.length cap, .slice a2 vs.length cap2] 37))) := Below.refl _ _
      go_enter Tryd.func16, Tryd.ntmps16
      go_wp2_with fail
      go_ret
      exact ⟨rfl, box_below B.out⟩
    · have HL3 : es.length = 3 := by have : coArity 10 = 3 := rfl; omega
      obtain ⟨a0, b0, c0, rfl⟩ := xlen_three HL3
      clear HL3 HAR
      clear hkr
      obtain ⟨b, off, x0, x1, x2, x3, x4, x5, x6, x7, x8, rfl, hbl, hc0, hc1, hc2, hc3, hc4, hc5, hc6, hc7, hc8, ht⟩ := HAT.out 0 (by simp)
      simp only [Nat.zero_mul, Nat.add_zero, List.getElem_cons_zero] at hc0 hc1 hc2 hc3 hc4 hc5 hc6 hc7 hc8 ht
      obtain ⟨ka, p1, p2, p3, p4, p5, p6, p7, p8, p9, p10, p11, p12, p13, p14, p15, p16, rfl, rfl, rfl, rfl, rfl, rfl, rfl, rfl, rfl⟩ := co_cells ht
      have HA0 := Lib.hid ht
      have HKA := Lib.hid (sco_kd ht)
      have E0 := Lib.hid hc0
      have E1 := Lib.hid hc1
      have E2 := Lib.hid hc2
      have E3 := Lib.hid hc3
      have E4 := Lib.hid hc4
      have E5 := Lib.hid hc5
      have E6 := Lib.hid hc6
      have E7 := Lib.hid hc7
      have E8 := Lib.hid hc8
      clear ht hc0 hc1 hc2 hc3 hc4 hc5 hc6 hc7 hc8
      have HR : Hid ((Co.node 10 nm0 n0 fr ty [a0, b0, c0] ns vs).fm = opn (decide (a0.fm = 2))) := by show _ = _; simp [Co.fm, fmNode, Co.fms]
      have HFA : a0.form = true := by have := HFS.out.1; simp only [Co.forms, Bool.and_eq_true] at this; exact this.1
      have HBA : a0.bulk ≤ 1048576 := by have h1 := HSA.out; simp only [Co.bulks] at h1; omega
      clear HAT HEN HLN
      have B : Hid (Below (w.heap.size + 1) (w.alloc (.cells #[.int .i64 10, .string nm0, .int .i64 n0, .int .i64 fk, .slice fa fn fc, .int .i64 tk, .slice ta tn tc, .slice (some ⟨b, off, none⟩) 3 cap, .slice a2 vs.length cap2] 37)) (w.alloc (.cells #[.int .i64 10, .string nm0, .int .i64 n0, .int .i64 fk, .slice fa fn fc, .int .i64 tk, .slice ta tn tc, .slice (some ⟨b, off, none⟩) 3 cap, .slice a2 vs.length cap2] 37))) := Below.refl _ _
      have y0 := (box_below B.out).cell (p := ⟨b, off, none⟩) hbl |>.trans E0.out
      have y1 := (box_below B.out).cell (p := ⟨b, off + 1, none⟩) hbl |>.trans E1.out
      have y2 := (box_below B.out).cell (p := ⟨b, off + 2, none⟩) hbl |>.trans E2.out
      have y3 := (box_below B.out).cell (p := ⟨b, off + 3, none⟩) hbl |>.trans E3.out
      have y4 := (box_below B.out).cell (p := ⟨b, off + 4, none⟩) hbl |>.trans E4.out
      have y5 := (box_below B.out).cell (p := ⟨b, off + 5, none⟩) hbl |>.trans E5.out
      have y6 := (box_below B.out).cell (p := ⟨b, off + 6, none⟩) hbl |>.trans E6.out
      have y7 := (box_below B.out).cell (p := ⟨b, off + 7, none⟩) hbl |>.trans E7.out
      have y8 := (box_below B.out).cell (p := ⟨b, off + 8, none⟩) hbl |>.trans E8.out
      go_enter Tryd.func16, Tryd.ntmps16
      go_wp2_with fail
      refine (IH.out _ a0 _ (HA0.out.below (box_below B.out)) HBA HFA).mono ?_
      rintro e w1 ⟨rfl, hb⟩
      have B2 := Lib.hid (box_next B.out hb); clear hb B
      have B := B2; clear B2
      have hrg := Co.fm_range a0
      obtain ⟨x, hx⟩ : ∃ x, x = a0.fm := ⟨_, rfl⟩
      rw [← hx] at hrg HR
      rw [← hx]
      clear hx
      rcases hrg with rfl | rfl | rfl
      · go_wp2_with fail
        refine (specIf _ _).mono ?_
        rintro e w' ⟨rfl, rfl⟩
        go_wp2_with fail
        go_ret
        exact ⟨by rw [HR.out]; rfl, box_below B.out⟩
      · go_wp2_with fail
        refine (specIf _ _).mono ?_
        rintro e w' ⟨rfl, rfl⟩
        go_wp2_with fail
        go_ret
        exact ⟨by rw [HR.out]; rfl, box_below B.out⟩
      · go_wp2_with fail
        refine (specIf _ _).mono ?_
        rintro e w' ⟨rfl, rfl⟩
        go_wp2_with fail
        go_ret
        exact ⟨by rw [HR.out]; rfl, box_below B.out⟩
    · have HR : Hid ((Co.node 11 nm0 n0 fr ty es ns vs).fm = allF (Co.fms es)) := by show _ = _; simp [Co.fm, fmNode]
      have HCS : Hid (CosAt w d (.slice a es.length cap) es) := ⟨a, cap, rfl, hcap, hcap2, HAT.out⟩
      clear HAR hkr HEN HLN HAT
      have B : Hid (Below (w.heap.size + 1) (w.alloc (.cells #[.int .i64 11, .string nm0, .int .i64 n0, .int .i64 fk, .slice fa fn fc, .int .i64 tk, .slice ta tn tc, .slice a es.length cap, .slice a2 vs.length cap2] 37)) (w.alloc (.cells #[.int .i64 11, .string nm0, .int .i64 n0, .int .i64 fk, .slice fa fn fc, .int .i64 tk, .slice ta tn tc, .slice a es.length cap, .slice a2 vs.length cap2] 37))) := Below.refl _ _
      go_enter Tryd.func16, Tryd.ntmps16
      go_wp2_with fail
      refine (specFmAll d IH _ es _ (CosAt.below HCS.out (box_below B.out)) HSA.out HFS.out.1).mono ?_
      rintro e w1 ⟨rfl, hb⟩
      have B2 := Lib.hid (box_next B.out hb); clear hb B
      have B := B2; clear B2
      go_wp2_with fail
      go_ret
      exact ⟨by rw [HR.out]; rfl, box_below B.out⟩
    · have HL1 : es.length = 1 := by have : coArity 12 = 1 := rfl; omega
      obtain ⟨a0, rfl⟩ := xlen_one HL1
      clear HL1 HAR
      clear hkr
      have HCS : Hid (CosAt w d (.slice a 1 cap) [a0]) := ⟨a, cap, rfl, hcap, hcap2, HAT.out⟩
      obtain ⟨b, off, x0, x1, x2, x3, x4, x5, x6, x7, x8, rfl, hbl, hc0, hc1, hc2, hc3, hc4, hc5, hc6, hc7, hc8, ht⟩ := HAT.out 0 (by simp)
      simp only [Nat.zero_mul, Nat.add_zero, List.getElem_cons_zero] at hc0 hc1 hc2 hc3 hc4 hc5 hc6 hc7 hc8 ht
      obtain ⟨ka, p1, p2, p3, p4, p5, p6, p7, p8, p9, p10, p11, p12, p13, p14, p15, p16, rfl, rfl, rfl, rfl, rfl, rfl, rfl, rfl, rfl⟩ := co_cells ht
      have HA0 := Lib.hid ht
      have HKA := Lib.hid (sco_kd ht)
      have E0 := Lib.hid hc0
      have E1 := Lib.hid hc1
      have E2 := Lib.hid hc2
      have E3 := Lib.hid hc3
      have E4 := Lib.hid hc4
      have E5 := Lib.hid hc5
      have E6 := Lib.hid hc6
      have E7 := Lib.hid hc7
      have E8 := Lib.hid hc8
      clear ht hc0 hc1 hc2 hc3 hc4 hc5 hc6 hc7 hc8
      have HFA : a0.form = true := by have := HFS.out.1; simp only [Co.forms, Bool.and_eq_true] at this; exact this.1
      have HBA : a0.bulk ≤ 1048576 := by have h1 := HSA.out; simp only [Co.bulks] at h1; omega
      have HR : Hid ((Co.node 12 nm0 n0 fr ty [a0] ns vs).fm = opn (decide (a0.fm = 2) && (!decide (a0.kd = 11) && !a0.btw 5))) := by show _ = _; simp [Co.fm, fmNode, Co.fms]
      rw [HKA.out] at HR
      clear HAT HEN HLN
      have B : Hid (Below (w.heap.size + 1) (w.alloc (.cells #[.int .i64 12, .string nm0, .int .i64 n0, .int .i64 fk, .slice fa fn fc, .int .i64 tk, .slice ta tn tc, .slice (some ⟨b, off, none⟩) 1 cap, .slice a2 vs.length cap2] 37)) ((w.alloc (.cells #[.int .i64 12, .string nm0, .int .i64 n0, .int .i64 fk, .slice fa fn fc, .int .i64 tk, .slice ta tn tc, .slice (some ⟨b, off, none⟩) 1 cap, .slice a2 vs.length cap2] 37)).alloc (.cells #[.int .i64 ka, .string p1, .int .i64 p2, .int .i64 p3, .slice p4 p5 p6, .int .i64 p7, .slice p8 p9 p10, .slice p11 p12 p13, .slice p14 p15 p16] 37))) := (Below.refl _ _).alloc (by simp) _
      have XF : Hid (BoxAt ((w.alloc (.cells #[.int .i64 12, .string nm0, .int .i64 n0, .int .i64 fk, .slice fa fn fc, .int .i64 tk, .slice ta tn tc, .slice (some ⟨b, off, none⟩) 1 cap, .slice a2 vs.length cap2] 37)).alloc (.cells #[.int .i64 ka, .string p1, .int .i64 p2, .int .i64 p3, .slice p4 p5 p6, .int .i64 p7, .slice p8 p9 p10, .slice p11 p12 p13, .slice p14 p15 p16] 37)) (w.heap.size + 1) #[.int .i64 ka, .string p1, .int .i64 p2, .int .i64 p3, .slice p4 p5 p6, .int .i64 p7, .slice p8 p9 p10, .slice p11 p12 p13, .slice p14 p15 p16]) := by
        have := BoxAt.new (w.alloc (.cells #[.int .i64 12, .string nm0, .int .i64 n0, .int .i64 fk, .slice fa fn fc, .int .i64 tk, .slice ta tn tc, .slice (some ⟨b, off, none⟩) 1 cap, .slice a2 vs.length cap2] 37)) #[.int .i64 ka, .string p1, .int .i64 p2, .int .i64 p3, .slice p4 p5 p6, .int .i64 p7, .slice p8 p9 p10, .slice p11 p12 p13, .slice p14 p15 p16] 37
        rw [show (w.alloc (.cells #[.int .i64 12, .string nm0, .int .i64 n0, .int .i64 fk, .slice fa fn fc, .int .i64 tk, .slice ta tn tc, .slice (some ⟨b, off, none⟩) 1 cap, .slice a2 vs.length cap2] 37)).heap.size = w.heap.size + 1 from by simp] at this
        exact this
      have y0 := ((below_alloc w (.cells #[.int .i64 12, .string nm0, .int .i64 n0, .int .i64 fk, .slice fa fn fc, .int .i64 tk, .slice ta tn tc, .slice (some ⟨b, off, none⟩) 1 cap, .slice a2 vs.length cap2] 37)).cell (p := ⟨b, off, none⟩) hbl).trans E0.out
      have y1 := ((below_alloc w (.cells #[.int .i64 12, .string nm0, .int .i64 n0, .int .i64 fk, .slice fa fn fc, .int .i64 tk, .slice ta tn tc, .slice (some ⟨b, off, none⟩) 1 cap, .slice a2 vs.length cap2] 37)).cell (p := ⟨b, off + 1, none⟩) hbl).trans E1.out
      have y2 := ((below_alloc w (.cells #[.int .i64 12, .string nm0, .int .i64 n0, .int .i64 fk, .slice fa fn fc, .int .i64 tk, .slice ta tn tc, .slice (some ⟨b, off, none⟩) 1 cap, .slice a2 vs.length cap2] 37)).cell (p := ⟨b, off + 2, none⟩) hbl).trans E2.out
      have y3 := ((below_alloc w (.cells #[.int .i64 12, .string nm0, .int .i64 n0, .int .i64 fk, .slice fa fn fc, .int .i64 tk, .slice ta tn tc, .slice (some ⟨b, off, none⟩) 1 cap, .slice a2 vs.length cap2] 37)).cell (p := ⟨b, off + 3, none⟩) hbl).trans E3.out
      have y4 := ((below_alloc w (.cells #[.int .i64 12, .string nm0, .int .i64 n0, .int .i64 fk, .slice fa fn fc, .int .i64 tk, .slice ta tn tc, .slice (some ⟨b, off, none⟩) 1 cap, .slice a2 vs.length cap2] 37)).cell (p := ⟨b, off + 4, none⟩) hbl).trans E4.out
      have y5 := ((below_alloc w (.cells #[.int .i64 12, .string nm0, .int .i64 n0, .int .i64 fk, .slice fa fn fc, .int .i64 tk, .slice ta tn tc, .slice (some ⟨b, off, none⟩) 1 cap, .slice a2 vs.length cap2] 37)).cell (p := ⟨b, off + 5, none⟩) hbl).trans E5.out
      have y6 := ((below_alloc w (.cells #[.int .i64 12, .string nm0, .int .i64 n0, .int .i64 fk, .slice fa fn fc, .int .i64 tk, .slice ta tn tc, .slice (some ⟨b, off, none⟩) 1 cap, .slice a2 vs.length cap2] 37)).cell (p := ⟨b, off + 6, none⟩) hbl).trans E6.out
      have y7 := ((below_alloc w (.cells #[.int .i64 12, .string nm0, .int .i64 n0, .int .i64 fk, .slice fa fn fc, .int .i64 tk, .slice ta tn tc, .slice (some ⟨b, off, none⟩) 1 cap, .slice a2 vs.length cap2] 37)).cell (p := ⟨b, off + 7, none⟩) hbl).trans E7.out
      have y8 := ((below_alloc w (.cells #[.int .i64 12, .string nm0, .int .i64 n0, .int .i64 fk, .slice fa fn fc, .int .i64 tk, .slice ta tn tc, .slice (some ⟨b, off, none⟩) 1 cap, .slice a2 vs.length cap2] 37)).cell (p := ⟨b, off + 8, none⟩) hbl).trans E8.out
      go_enter Tryd.func16, Tryd.ntmps16
      go_wp2_with fail
      clear y0 y1 y2 y3 y4 y5 y6 y7 y8
      refine (IH.out _ a0 _ (HA0.out.below (box_below B.out)) HBA HFA).mono ?_
      rintro e w1 ⟨rfl, hb⟩
      replace XF := Lib.hid (XF.out.below hb)
      have B2 := Lib.hid (box_next B.out hb); clear hb B
      have B := B2; clear B2
      have f0 := XF.out.2 0
      have f1 := XF.out.2 1
      have f2 := XF.out.2 2
      have f3 := XF.out.2 3
      have f4 := XF.out.2 4
      have f5 := XF.out.2 5
      have f6 := XF.out.2 6
      have f7 := XF.out.2 7
      have f8 := XF.out.2 8
      have hrg := Co.fm_range a0
      obtain ⟨x, hx⟩ : ∃ x, x = a0.fm := ⟨_, rfl⟩
      rw [← hx] at hrg HR
      rw [← hx]
      clear hx
      rcases hrg with rfl | rfl | rfl
      · go_wp2_with fail
        refine (specIf _ _).mono ?_
        rintro e w' ⟨rfl, rfl⟩
        go_wp2_with fail
        go_ret
        exact ⟨by rw [HR.out]; rfl, box_below B.out⟩
      · go_wp2_with fail
        refine (specIf _ _).mono ?_
        rintro e w' ⟨rfl, rfl⟩
        go_wp2_with fail
        go_ret
        exact ⟨by rw [HR.out]; rfl, box_below B.out⟩
      · by_cases qa : ka = 11
        · have qa1 : (ka == 11) = true := by simp [qa]
          have qa2 : (ka != 11) = false := by simp [qa]
          go_wp2_with fail
          refine (specIf _ _).mono ?_
          rintro e w' ⟨rfl, rfl⟩
          go_wp2_with fail
          go_ret
          exact ⟨by rw [HR.out]; simp [opn, qa], box_below B.out⟩
        · have qa1 : (ka == 11) = false := by simp [qa]
          have qa2 : (ka != 11) = true := by simp [qa]
          go_wp2_with fail
          refine (specBetween d _ a0 _ (HA0.out.below (box_below B.out)) HBA 5).mono ?_
          rintro e w2 ⟨rfl, hb⟩
          have B2 := Lib.hid (box_next B.out hb); clear hb B
          have B := B2; clear B2
          cases hb4 : a0.btw 5 with
          | false =>
            have HB4 := Lib.hid hb4; clear hb4
            go_wp2_with fail
            refine (specIf _ _).mono ?_
            rintro e w' ⟨rfl, rfl⟩
            go_wp2_with fail
            go_ret
            exact ⟨by rw [HR.out, HB4.out]; simp [opn, qa], box_below B.out⟩
          | true =>
            have HB4 := Lib.hid hb4; clear hb4
            go_wp2_with fail
            refine (specIf _ _).mono ?_
            rintro e w' ⟨rfl, rfl⟩
            go_wp2_with fail
            go_ret
            exact ⟨by rw [HR.out, HB4.out]; simp [opn, qa], box_below B.out⟩
    · have HL1 : es.length = 1 := by have : coArity 13 = 1 := rfl; omega
      obtain ⟨a0, rfl⟩ := xlen_one HL1
      clear HL1 HAR
      clear hkr
      have HCS : Hid (CosAt w d (.slice a 1 cap) [a0]) := ⟨a, cap, rfl, hcap, hcap2, HAT.out⟩
      obtain ⟨b, off, x0, x1, x2, x3, x4, x5, x6, x7, x8, rfl, hbl, hc0, hc1, hc2, hc3, hc4, hc5, hc6, hc7, hc8, ht⟩ := HAT.out 0 (by simp)
      simp only [Nat.zero_mul, Nat.add_zero, List.getElem_cons_zero] at hc0 hc1 hc2 hc3 hc4 hc5 hc6 hc7 hc8 ht
      obtain ⟨ka, p1, p2, p3, p4, p5, p6, p7, p8, p9, p10, p11, p12, p13, p14, p15, p16, rfl, rfl, rfl, rfl, rfl, rfl, rfl, rfl, rfl⟩ := co_cells ht
      have HA0 := Lib.hid ht
      have HKA := Lib.hid (sco_kd ht)
      have E0 := Lib.hid hc0
      have E1 := Lib.hid hc1
      have E2 := Lib.hid hc2
      have E3 := Lib.hid hc3
      have E4 := Lib.hid hc4
      have E5 := Lib.hid hc5
      have E6 := Lib.hid hc6
      have E7 := Lib.hid hc7
      have E8 := Lib.hid hc8
      clear ht hc0 hc1 hc2 hc3 hc4 hc5 hc6 hc7 hc8
      have HFA : a0.form = true := by have := HFS.out.1; simp only [Co.forms, Bool.and_eq_true] at this; exact this.1
      have HBA : a0.bulk ≤ 1048576 := by have h1 := HSA.out; simp only [Co.bulks] at h1; omega
      have HR : Hid ((Co.node 13 nm0 n0 fr ty [a0] ns vs).fm = opn (decide (a0.fm = 2) && (!decide (a0.kd = 11) && !a0.btw 5))) := by show _ = _; simp [Co.fm, fmNode, Co.fms]
      rw [HKA.out] at HR
      clear HAT HEN HLN
      have B : Hid (Below (w.heap.size + 1) (w.alloc (.cells #[.int .i64 13, .string nm0, .int .i64 n0, .int .i64 fk, .slice fa fn fc, .int .i64 tk, .slice ta tn tc, .slice (some ⟨b, off, none⟩) 1 cap, .slice a2 vs.length cap2] 37)) ((w.alloc (.cells #[.int .i64 13, .string nm0, .int .i64 n0, .int .i64 fk, .slice fa fn fc, .int .i64 tk, .slice ta tn tc, .slice (some ⟨b, off, none⟩) 1 cap, .slice a2 vs.length cap2] 37)).alloc (.cells #[.int .i64 ka, .string p1, .int .i64 p2, .int .i64 p3, .slice p4 p5 p6, .int .i64 p7, .slice p8 p9 p10, .slice p11 p12 p13, .slice p14 p15 p16] 37))) := (Below.refl _ _).alloc (by simp) _
      have XF : Hid (BoxAt ((w.alloc (.cells #[.int .i64 13, .string nm0, .int .i64 n0, .int .i64 fk, .slice fa fn fc, .int .i64 tk, .slice ta tn tc, .slice (some ⟨b, off, none⟩) 1 cap, .slice a2 vs.length cap2] 37)).alloc (.cells #[.int .i64 ka, .string p1, .int .i64 p2, .int .i64 p3, .slice p4 p5 p6, .int .i64 p7, .slice p8 p9 p10, .slice p11 p12 p13, .slice p14 p15 p16] 37)) (w.heap.size + 1) #[.int .i64 ka, .string p1, .int .i64 p2, .int .i64 p3, .slice p4 p5 p6, .int .i64 p7, .slice p8 p9 p10, .slice p11 p12 p13, .slice p14 p15 p16]) := by
        have := BoxAt.new (w.alloc (.cells #[.int .i64 13, .string nm0, .int .i64 n0, .int .i64 fk, .slice fa fn fc, .int .i64 tk, .slice ta tn tc, .slice (some ⟨b, off, none⟩) 1 cap, .slice a2 vs.length cap2] 37)) #[.int .i64 ka, .string p1, .int .i64 p2, .int .i64 p3, .slice p4 p5 p6, .int .i64 p7, .slice p8 p9 p10, .slice p11 p12 p13, .slice p14 p15 p16] 37
        rw [show (w.alloc (.cells #[.int .i64 13, .string nm0, .int .i64 n0, .int .i64 fk, .slice fa fn fc, .int .i64 tk, .slice ta tn tc, .slice (some ⟨b, off, none⟩) 1 cap, .slice a2 vs.length cap2] 37)).heap.size = w.heap.size + 1 from by simp] at this
        exact this
      have y0 := ((below_alloc w (.cells #[.int .i64 13, .string nm0, .int .i64 n0, .int .i64 fk, .slice fa fn fc, .int .i64 tk, .slice ta tn tc, .slice (some ⟨b, off, none⟩) 1 cap, .slice a2 vs.length cap2] 37)).cell (p := ⟨b, off, none⟩) hbl).trans E0.out
      have y1 := ((below_alloc w (.cells #[.int .i64 13, .string nm0, .int .i64 n0, .int .i64 fk, .slice fa fn fc, .int .i64 tk, .slice ta tn tc, .slice (some ⟨b, off, none⟩) 1 cap, .slice a2 vs.length cap2] 37)).cell (p := ⟨b, off + 1, none⟩) hbl).trans E1.out
      have y2 := ((below_alloc w (.cells #[.int .i64 13, .string nm0, .int .i64 n0, .int .i64 fk, .slice fa fn fc, .int .i64 tk, .slice ta tn tc, .slice (some ⟨b, off, none⟩) 1 cap, .slice a2 vs.length cap2] 37)).cell (p := ⟨b, off + 2, none⟩) hbl).trans E2.out
      have y3 := ((below_alloc w (.cells #[.int .i64 13, .string nm0, .int .i64 n0, .int .i64 fk, .slice fa fn fc, .int .i64 tk, .slice ta tn tc, .slice (some ⟨b, off, none⟩) 1 cap, .slice a2 vs.length cap2] 37)).cell (p := ⟨b, off + 3, none⟩) hbl).trans E3.out
      have y4 := ((below_alloc w (.cells #[.int .i64 13, .string nm0, .int .i64 n0, .int .i64 fk, .slice fa fn fc, .int .i64 tk, .slice ta tn tc, .slice (some ⟨b, off, none⟩) 1 cap, .slice a2 vs.length cap2] 37)).cell (p := ⟨b, off + 4, none⟩) hbl).trans E4.out
      have y5 := ((below_alloc w (.cells #[.int .i64 13, .string nm0, .int .i64 n0, .int .i64 fk, .slice fa fn fc, .int .i64 tk, .slice ta tn tc, .slice (some ⟨b, off, none⟩) 1 cap, .slice a2 vs.length cap2] 37)).cell (p := ⟨b, off + 5, none⟩) hbl).trans E5.out
      have y6 := ((below_alloc w (.cells #[.int .i64 13, .string nm0, .int .i64 n0, .int .i64 fk, .slice fa fn fc, .int .i64 tk, .slice ta tn tc, .slice (some ⟨b, off, none⟩) 1 cap, .slice a2 vs.length cap2] 37)).cell (p := ⟨b, off + 6, none⟩) hbl).trans E6.out
      have y7 := ((below_alloc w (.cells #[.int .i64 13, .string nm0, .int .i64 n0, .int .i64 fk, .slice fa fn fc, .int .i64 tk, .slice ta tn tc, .slice (some ⟨b, off, none⟩) 1 cap, .slice a2 vs.length cap2] 37)).cell (p := ⟨b, off + 7, none⟩) hbl).trans E7.out
      have y8 := ((below_alloc w (.cells #[.int .i64 13, .string nm0, .int .i64 n0, .int .i64 fk, .slice fa fn fc, .int .i64 tk, .slice ta tn tc, .slice (some ⟨b, off, none⟩) 1 cap, .slice a2 vs.length cap2] 37)).cell (p := ⟨b, off + 8, none⟩) hbl).trans E8.out
      go_enter Tryd.func16, Tryd.ntmps16
      go_wp2_with fail
      clear y0 y1 y2 y3 y4 y5 y6 y7 y8
      refine (IH.out _ a0 _ (HA0.out.below (box_below B.out)) HBA HFA).mono ?_
      rintro e w1 ⟨rfl, hb⟩
      replace XF := Lib.hid (XF.out.below hb)
      have B2 := Lib.hid (box_next B.out hb); clear hb B
      have B := B2; clear B2
      have f0 := XF.out.2 0
      have f1 := XF.out.2 1
      have f2 := XF.out.2 2
      have f3 := XF.out.2 3
      have f4 := XF.out.2 4
      have f5 := XF.out.2 5
      have f6 := XF.out.2 6
      have f7 := XF.out.2 7
      have f8 := XF.out.2 8
      have hrg := Co.fm_range a0
      obtain ⟨x, hx⟩ : ∃ x, x = a0.fm := ⟨_, rfl⟩
      rw [← hx] at hrg HR
      rw [← hx]
      clear hx
      rcases hrg with rfl | rfl | rfl
      · go_wp2_with fail
        refine (specIf _ _).mono ?_
        rintro e w' ⟨rfl, rfl⟩
        go_wp2_with fail
        go_ret
        exact ⟨by rw [HR.out]; rfl, box_below B.out⟩
      · go_wp2_with fail
        refine (specIf _ _).mono ?_
        rintro e w' ⟨rfl, rfl⟩
        go_wp2_with fail
        go_ret
        exact ⟨by rw [HR.out]; rfl, box_below B.out⟩
      · by_cases qa : ka = 11
        · have qa1 : (ka == 11) = true := by simp [qa]
          have qa2 : (ka != 11) = false := by simp [qa]
          go_wp2_with fail
          refine (specIf _ _).mono ?_
          rintro e w' ⟨rfl, rfl⟩
          go_wp2_with fail
          go_ret
          exact ⟨by rw [HR.out]; simp [opn, qa], box_below B.out⟩
        · have qa1 : (ka == 11) = false := by simp [qa]
          have qa2 : (ka != 11) = true := by simp [qa]
          go_wp2_with fail
          refine (specBetween d _ a0 _ (HA0.out.below (box_below B.out)) HBA 5).mono ?_
          rintro e w2 ⟨rfl, hb⟩
          have B2 := Lib.hid (box_next B.out hb); clear hb B
          have B := B2; clear B2
          cases hb4 : a0.btw 5 with
          | false =>
            have HB4 := Lib.hid hb4; clear hb4
            go_wp2_with fail
            refine (specIf _ _).mono ?_
            rintro e w' ⟨rfl, rfl⟩
            go_wp2_with fail
            go_ret
            exact ⟨by rw [HR.out, HB4.out]; simp [opn, qa], box_below B.out⟩
          | true =>
            have HB4 := Lib.hid hb4; clear hb4
            go_wp2_with fail
            refine (specIf _ _).mono ?_
            rintro e w' ⟨rfl, rfl⟩
            go_wp2_with fail
            go_ret
            exact ⟨by rw [HR.out, HB4.out]; simp [opn, qa], box_below B.out⟩
    · have HL1 : es.length = 1 := by have : coArity 14 = 1 := rfl; omega
      obtain ⟨a0, rfl⟩ := xlen_one HL1
      clear HL1 HAR
      have HR : Hid ((Co.node 14 nm0 n0 fr ty [a0] ns vs).fm = castF fr ty a0.boxB a0.fm) := rfl
      have HCS : Hid (CosAt w d (.slice a 1 cap) [a0]) := ⟨a, cap, rfl, hcap, hcap2, HAT.out⟩
      have HA1 := Lib.hid (allF_one a0.fm_range)
      clear hkr HEN HLN HAT
      have B : Hid (Below (w.heap.size + 1) (w.alloc (.cells #[.int .i64 14, .string nm0, .int .i64 n0, .int .i64 fk, .slice fa fn fc, .int .i64 tk, .slice ta tn tc, .slice a 1 cap, .slice a2 vs.length cap2] 37)) (w.alloc (.cells #[.int .i64 14, .string nm0, .int .i64 n0, .int .i64 fk, .slice fa fn fc, .int .i64 tk, .slice ta tn tc, .slice a 1 cap, .slice a2 vs.length cap2] 37))) := Below.refl _ _
      go_enter Tryd.func16, Tryd.ntmps16
      go_wp2_with fail
      have XB := Lib.hid (co_box_of B.out)
      have hbd := below_drew (w.alloc (.cells #[.int .i64 14, .string nm0, .int .i64 n0, .int .i64 fk, .slice fa fn fc, .int .i64 tk, .slice ta tn tc, .slice a 1 cap, .slice a2 vs.length cap2] 37))
      replace XB := Lib.hid (XB.out.below hbd)
      have B2 := Lib.hid (box_next B.out hbd); clear hbd B
      have B := B2; clear B2
      go_region_held3 (fun w' => w'.cell? ⟨w.heap.size, 0, none⟩ = some (.int .i64 14) ∧ w'.cell? ⟨w.heap.size, 1, none⟩ = some (.string nm0) ∧ w'.cell? ⟨w.heap.size, 2, none⟩ = some (.int .i64 n0) ∧ w'.cell? ⟨w.heap.size, 3, none⟩ = some (.int .i64 fk) ∧ w'.cell? ⟨w.heap.size, 4, none⟩ = some (.slice fa fn fc) ∧ w'.cell? ⟨w.heap.size, 5, none⟩ = some (.int .i64 tk) ∧ w'.cell? ⟨w.heap.size, 6, none⟩ = some (.slice ta tn tc) ∧ w'.cell? ⟨w.heap.size, 7, none⟩ = some (.slice a 1 cap) ∧ w'.cell? ⟨w.heap.size, 8, none⟩ = some (.slice a2 vs.length cap2)) (exact ⟨XB.out.2 0, XB.out.2 1, XB.out.2 2, XB.out.2 3, XB.out.2 4, XB.out.2 5, XB.out.2 6, XB.out.2 7, XB.out.2 8⟩)
        (first
         | (go_at_call 33
            refine (specFmAll d IH _ [a0] _ (CosAt.below HCS.out (box_below B.out)) HSA.out HFS.out.1).mono ?_
            rintro e w5 ⟨rfl, hb⟩
            replace XB := Lib.hid (XB.out.below hb)
            replace B := Lib.hid (box_next B.out hb)
            clear hb)
         | (go_at_call 34
            refine (specFmCast d _ nm0 n0 fr ty a0 ns vs _ (HWH.out.below (box_below B.out)) HBK.out _).mono ?_
            rintro e w5 ⟨rfl, hb⟩
            replace XB := Lib.hid (XB.out.below hb)
            replace B := Lib.hid (box_next B.out hb)
            clear hb))
      go_wp2_with fail
      go_ret
      exact ⟨by rw [HR.out]; show Ending.returned (Value.int .i64 (castF fr ty a0.boxB (allF [a0.fm]))) = _; rw [HA1.out], box_below B.out⟩
    · have HR : Hid ((Co.node 15 nm0 n0 fr ty es ns vs).fm = if allF (Co.fms es ++ Co.fms vs) = 0 then 0 else 2) := by show _ = _; rw [← opn_all]; simp [Co.fm, fmNode]
      clear HAR hkr HAT HEN HLN
      have B : Hid (Below (w.heap.size + 1) (w.alloc (.cells #[.int .i64 15, .string nm0, .int .i64 n0, .int .i64 fk, .slice fa fn fc, .int .i64 tk, .slice ta tn tc, .slice a es.length cap, .slice a2 vs.length cap2] 37)) (w.alloc (.cells #[.int .i64 15, .string nm0, .int .i64 n0, .int .i64 fk, .slice fa fn fc, .int .i64 tk, .slice ta tn tc, .slice a es.length cap, .slice a2 vs.length cap2] 37))) := Below.refl _ _
      go_enter Tryd.func16, Tryd.ntmps16
      go_wp2_with fail
      refine (specFmEnv d IH _ 15 nm0 n0 fr ty es ns vs _ (HWH.out.below (box_below B.out)) HBK.out HFS.out).mono ?_
      rintro e w1 ⟨rfl, hb⟩
      have B2 := Lib.hid (box_next B.out hb); clear hb B
      have B := B2; clear B2
      have hrg := allF_range (Co.fms es ++ Co.fms vs)
      obtain ⟨m, hm⟩ : ∃ m, m = allF (Co.fms es ++ Co.fms vs) := ⟨_, rfl⟩
      rw [← hm] at hrg HR
      rw [← hm]
      clear hm
      rcases hrg with rfl | rfl | rfl
      · go_wp2_with fail
        refine (specIf _ _).mono ?_
        rintro e w' ⟨rfl, rfl⟩
        go_wp2_with fail
        go_ret
        exact ⟨by rw [HR.out]; rfl, box_below B.out⟩
      · go_wp2_with fail
        refine (specIf _ _).mono ?_
        rintro e w' ⟨rfl, rfl⟩
        go_wp2_with fail
        go_ret
        exact ⟨by rw [HR.out]; rfl, box_below B.out⟩
      · go_wp2_with fail
        refine (specIf _ _).mono ?_
        rintro e w' ⟨rfl, rfl⟩
        go_wp2_with fail
        go_ret
        exact ⟨by rw [HR.out]; rfl, box_below B.out⟩
set_option maxRecDepth 100000 in
set_option maxHeartbeats 2000000 in
theorem specFormOf (d : Nat) (v : Value) (t : Co) (w : World) (h : CoAt w d v t) (hsz : t.bulk ≤ 1048576) :
    Calls Tryd.prog 6 #[v] w fun e w' => e = .returned (.int .i64 (formOf t)) ∧ Below w.heap.size w w' := by
  have HT := Lib.hid h
  obtain ⟨yk, ynm, yn, yfk, yfa, yfn, yfc, ytk, yta, ytn, ytc, ya, ym, yc, za, zm, zc, rfl⟩ := co_parts h
  clear h
  have B0 : Hid (Below (w.heap.size + 1) (w.alloc (.cells #[.int .i64 yk, .string ynm, .int .i64 yn, .int .i64 yfk, .slice yfa yfn yfc, .int .i64 ytk, .slice yta ytn ytc, .slice ya ym yc, .slice za zm zc] 37)) (w.alloc (.cells #[.int .i64 yk, .string ynm, .int .i64 yn, .int .i64 yfk, .slice yfa yfn yfc, .int .i64 ytk, .slice yta ytn ytc, .slice ya ym yc, .slice za zm zc] 37))) := Below.refl _ _
  have HT0 := Lib.hid (HT.out.below (box_below B0.out))
  go_enter Tryd.func6, Tryd.ntmps6
  go_wp2_with fail
  refine (specIsCore d _ t _ HT0.out hsz).mono ?_
  rintro e w1 ⟨rfl, hb1⟩
  have B1 := Lib.hid (box_next B0.out hb1); clear hb1
  have a0_ := box_cell B1.out 0
  have a1_ := box_cell B1.out 1
  have a2_ := box_cell B1.out 2
  have a3_ := box_cell B1.out 3
  have a4_ := box_cell B1.out 4
  have a5_ := box_cell B1.out 5
  have a6_ := box_cell B1.out 6
  have a7_ := box_cell B1.out 7
  have a8_ := box_cell B1.out 8
  cases hv : t.valid with
  | false =>
    have HR : Hid (formOf t = 0) := formOf_none hv
    go_wp2_with fail
    go_ret
    exact ⟨by rw [HR.out]; rfl, box_below B1.out⟩
  | true =>
    have HR : Hid (formOf t = t.fm) := formOf_some hv
    have hf : t.form = true := by simp only [Co.valid, Bool.and_eq_true] at hv; exact hv.2
    go_wp2_with fail
    refine (specFm d _ t _ (HT.out.below (box_below B1.out)) hsz hf).mono ?_
    rintro e w3 ⟨rfl, hb3⟩
    have B3 := Lib.hid (box_next B1.out hb3); clear hb3
    go_wp2_with fail
    go_ret
    exact ⟨by rw [HR.out]; rfl, box_below B3.out⟩
end Go.Proofs.YtnggkcgifjfnfaaDoor
