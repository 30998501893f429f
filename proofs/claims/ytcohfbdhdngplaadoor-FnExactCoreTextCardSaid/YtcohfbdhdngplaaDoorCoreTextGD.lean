/-
  Proved: impl.coreText gives the text of a core expression of the right form; the memory that was there stays as it was.
-/
import Derived.Test.YtcohfbdhdngplaaDoorCoreTextGB
import Derived.Test.YtcohfbdhdngplaaDoorCoreTextGZ
import Derived.Test.YtcohfbdhdngplaaDoorSzCore
namespace Go.Proofs.YtcohfbdhdngplaaDoor
open Go.RowKit

theorem coBoolText (n : Int) (w : World) : Calls Tryd.prog 101 #[.int .i64 n] w fun e w' => e = .returned (.string (if n = 1 then ⟨#[35, 116]⟩ else ⟨#[35, 102]⟩)) ∧ w' = w := by
  by_cases h : n = 1
  · subst h
    go_enter Tryd.func101, Tryd.ntmps101
    go_wp2_with fail
    go_ret
    exact ⟨rfl, rfl⟩
  · have hb : (n == 1) = false := by simp [h]
    go_enter Tryd.func101, Tryd.ntmps101
    go_wp2_with fail
    go_ret
    exact ⟨rfl, rfl⟩
set_option maxRecDepth 100000 in
set_option maxHeartbeats 16000000 in
theorem implCoText : ∀ (d : Nat) (v : Value) (t : Co) (w : World), PtrCo w d v t → t.form = true → t.bulk ≤ 1048576 → Pow10At w →
    Calls Tryd.prog 64 #[v] w fun e w' => e = .returned (.string t.text) ∧ Below w.heap.size w w'
  | 0, _, _, _, h, _, _, _ => by
    obtain ⟨_, _, _, _, _, _, _, _, _, _, _, _, _, _, _, _, _, _, _, _, _, _, h⟩ := h
    exact h.elim
  | d + 1, v, .node kd nm n fr ty es ns vs, w, h, hform, hsz, hp => by
    have IH : Hid (∀ (v : Value) (t : Co) (w : World), PtrCo w d v t → t.form = true → t.bulk ≤ 1048576 → Pow10At w → Calls Tryd.prog 64 #[v] w fun e w' => e = .returned (.string t.text) ∧ Below w.heap.size w w') := implCoText d
    obtain ⟨i0, hi, hz0, hz1, hz2⟩ := info_parts info_str
    have HI := Lib.hid hi; clear hi
    have HZ0 := Lib.hid hz0; clear hz0
    have HZ1 := Lib.hid hz1; clear hz1
    have HZ2 := Lib.hid hz2; clear hz2
    obtain ⟨pb, po, k0, k1, k2, k3, k4, k5, k6, k7, k8, rfl, hpl, z0, z1, z2, z3, z4, z5, z6, z7, z8, h⟩ := h
    have HNU := Lib.hid (nums_of (d + 1) _ _ h)
    have HV := co_parts h
    obtain ⟨c3, c4, c5, c6, sl, el, hx, hk0, hk1, hn0, hn1, hnm, hfr, hty, ⟨a, cap, rfl, hcap, hcap2, hat⟩, hcb⟩ := h
    injection hx with hx
    injection hx with hx
    simp at hx
    obtain ⟨rfl, rfl, rfl, rfl, rfl, rfl, rfl, rfl, rfl⟩ := hx
    obtain ⟨k', nm', n', fk, fa, fn, fc, tk, ta, tn, tc, sa, sn, sc, ea, en, ec, hv⟩ := HV
    injection hv with hv
    injection hv with hv
    simp at hv
    obtain ⟨rfl, rfl, rfl, rfl, rfl, rfl, rfl, ⟨rfl, rfl, rfl⟩, rfl⟩ := hv
    have HAT := Lib.hid hat; clear hat
    have HCB := Lib.hid hcb; clear hcb
    have HFR := Lib.hid hfr; clear hfr
    have HTY := Lib.hid hty; clear hty
    have HPA := Lib.hid (co_num hform)
    have HKR := Lib.hid (co_kind hform)
    have HNN : Hid (-9223372036854775808 ≤ n ∧ n ≤ 9223372036854775807) := ⟨hn0, hn1⟩
    clear hform
    have HPW := Lib.hid hp; clear hp
    have K0 := Lib.hid z0
    have K1 := Lib.hid z1
    have K2 := Lib.hid z2
    have K3 := Lib.hid z3
    have K4 := Lib.hid z4
    have K5 := Lib.hid z5
    have K6 := Lib.hid z6
    have K7 := Lib.hid z7
    have K8 := Lib.hid z8
    clear z0 z1 z2 z3 z4 z5 z6 z7 z8
    have hbk : (Co.node kd nm n fr ty es ns vs).bulk = nm.size + (fr.size - 1) + (ty.size - 1) + Co.bulks es + (txs ns + Co.bulks vs) := rfl
    have HSZ : Hid (Co.bulks es + (txs ns + Co.bulks vs) + nm.size ≤ 1048576) := by show _ ≤ _; omega
    have HTZ : Hid (ty.size ≤ 1048577) := by show _ ≤ _; omega
    have HFZ : Hid (fr.size ≤ 1048577) := by show _ ≤ _; omega
    have hlen : es.length ≤ 1048576 := by have := Co.length_le es; omega
    have HTL : Hid ((Co.texts es).length = es.length) := Co.texts_length es
    have HTOT : Hid (total (Co.texts es) ≤ 83886080) := by show _ ≤ _; have h0 := HNU.out; simp only [Co.nums] at h0; have h1 := Co.texts_size es numB_size h0.2.2.1; omega
    have HEZ : Hid ((envSay ns (Co.texts vs)).size ≤ 90000000) := by show _ ≤ _; have h0 := HNU.out; simp only [Co.nums] at h0; have h1 := Co.texts_size vs numB_size h0.2.2.2; have h2 := envSay_size ns (Co.texts vs); omega
    have HENV : Hid (∀ W, Below w.heap.size w W → Calls Tryd.prog 98 #[.slice ea en ec] W fun e w' => e = .returned (.string (envSay ns (Co.texts vs))) ∧ Below W.heap.size W w') := fun W hW => implEnvText d IH _ ns vs W (CbsAt.below HCB.out hW) HPA.out.2.1 (by have := HSZ.out; omega) (HPW.out.below hW)
    clear hsz hbk hnm hn0 hn1 hk0 hk1 hcap hcap2
    have b7 := K7.out
    go_enter Tryd.func64, Tryd.ntmps64
    go_wp2_with (at_make; refine wpList_make_full _ rfl _ _ 122 rfl w.heap.size 9 i0 (.string ⟨#[]⟩) 1 Tryd.underlying122 HI.out HZ0.out HZ1.out .i64 .i64 _ _ es.length rfl rfl rfl rfl (by rw [HZ2.out]; omega) (by unfold maxLen; omega) (Nat.le_refl _) ?_; intro w0 hown0 hg0; refine Hid.out ?_)
    refine Lib.hid ?_
    have hb0 : Below w.heap.size w w0 := (Below.refl _ w).grown hg0 (Nat.le_refl _) (fun k hk => by cases hk)
    have hown1 : w0.ownsRow w.heap.size 9 1 (.slice (some ⟨w.heap.size, 0, none⟩) es.length es.length) es.length (((Co.texts es).take 0).map Value.string ++ List.replicate ((Co.texts es).length - 0) (Value.string ⟨#[]⟩)) := by
      have : (madeCells (Value.string ⟨#[]⟩).cells (es.length * 1)).toList = List.replicate es.length (Value.string ⟨#[]⟩) := by rw [Nat.mul_one]; exact toList_madeCells_one _ _
      rw [this] at hown0; rw [HTL.out]; simpa using hown0
    have HO := Lib.hid hown1; clear hown1 hown0 hg0
    have HB := Lib.hid hb0; clear hb0 b7
    have b7 := (HB.out.cell (p := ⟨pb, po + 7, none⟩) hpl).trans K7.out
    go_wp2_with fail
    go_loopw [16] (fun i wr => ∃ k : Nat, k ≤ es.length ∧ i = .int .i64 k ∧ wr.ownsRow w.heap.size 9 1 (.slice (some ⟨w.heap.size, 0, none⟩) es.length es.length) es.length (((Co.texts es).take k).map Value.string ++ List.replicate ((Co.texts es).length - k) (Value.string ⟨#[]⟩)) ∧ Below w.heap.size w wr) (fun i _ => es.length - (intOf i).toNat)
    case atStart => exact ⟨0, by omega, rfl, HO.out, HB.out⟩
    case round =>
      obtain ⟨k, hk, rfl, hown, hb⟩ := hrel
      clear b7
      have HO2 := Lib.hid hown; clear hown
      have HBB := Lib.hid hb; clear hb
      have b7 := (HBB.out.cell (p := ⟨pb, po + 7, none⟩) hpl).trans K7.out
      by_cases hlt : k < es.length
      · obtain ⟨b, off, x0, x1, x2, x3, x4, x5, x6, x7, x8, rfl, hbl, hc0, hc1, hc2, hc3, hc4, hc5, hc6, hc7, hc8, ht⟩ := HAT.out k hlt
        have hg := Co.bulk_get es k hlt
        have hzk : es[k].bulk ≤ 1048576 := by have := HSZ.out; omega
        have HFK := Lib.hid (Co.forms_get es k hlt HPA.out.1)
        have hlt2 : k < (Co.texts es).length := by rw [HTL.out]; exact hlt
        have HE : Hid ((Co.texts es)[k] = es[k].text) := Co.texts_get es k hlt hlt2
        have HP : Hid (PtrCo w d (.pointer (some ⟨b, off + k * 9, none⟩)) es[k]) := ⟨b, off + k * 9, _, _, _, _, _, _, _, _, _, rfl, hbl, hc0, hc1, hc2, hc3, hc4, hc5, hc6, hc7, hc8, ht⟩
        clear ht hc0 hc1 hc2 hc3 hc4 hc5 hc6 hc7 hc8 hg
        go_wp2_with fail
        refine (IH.out _ es[k] _ (HP.out.below HBB.out) HFK.out hzk (HPW.out.below HBB.out)).mono ?_
        rintro e w1 ⟨rfl, hb1⟩
        have HO4 := Lib.hid (own_below HO2.out hb1)
        have HB4 := Lib.hid (below_thru HBB.out (Nat.le_refl _) hb1)
        clear hb1 HO2
        have c1 : ∃ u, w1.cell? ⟨w.heap.size, k, none⟩ = some u := by
          rw [HO4.out.cellAt k (by omega)]
          exact ⟨_, List.getElem?_eq_getElem (by simp; omega)⟩
        obtain ⟨u, c1⟩ := c1
        have f1 := HO4.out.frozenAt k
        have hst := HO4.out.stored k (.string (Co.texts es)[k])
        rw [num_next (Co.texts es) k hlt2] at hst
        have HS := Lib.hid hst; clear hst
        rw [HE.out] at HS
        go_wp2_with fail
        exact ⟨⟨k + 1, by omega, by go_num, HS.out.1, HB4.out.setCell (Nat.le_refl _) _⟩, by simp [intOf]; omega⟩
      · obtain rfl : k = es.length := by omega
        have HL := HO2.out
        rw [← HTL.out, List.take_length, Nat.sub_self, List.replicate_zero, List.append_nil] at HL
        rw [HTL.out] at HL
        have HL2 : Hid (wr.ownsRow w.heap.size 9 1 (.slice (some ⟨w.heap.size, 0, none⟩) es.length es.length) (Co.texts es).length ((Co.texts es).map Value.string)) := by rw [HTL.out]; exact HL
        clear HL HO2
        have HST := Lib.hid (Strs.of_own HL2.out)
        have HAR := Lib.hid (ArgsAt.of_own HL2.out)
        have HTM : Hid (Co.text (.node kd nm n fr ty es ns vs) = coSay kd nm (numB n) fr.text ty.text n (Co.texts es) (envSay ns (Co.texts vs))) := by show _ = _; simp only [Co.text]
        have HAL := HPA.out.2.2.2.2
        have HNF := Lib.hid HPA.out.2.2.2.1
        have HTF := Lib.hid HPA.out.2.2.1
        have hkr := HKR.out
        rcases (by omega : kd = 1 ∨ kd = 2 ∨ kd = 3 ∨ kd = 4 ∨ kd = 5 ∨ kd = 6 ∨ kd = 7 ∨ kd = 8 ∨ kd = 9 ∨ kd = 10 ∨ kd = 11 ∨ kd = 12 ∨ kd = 13 ∨ kd = 14 ∨ kd = 15) with rfl | rfl | rfl | rfl | rfl | rfl | rfl | rfl | rfl | rfl | rfl | rfl | rfl | rfl | rfl
        · have hq : es.length = 0 := by have : coArity 1 = 0 := rfl; omega
          have HXL : Hid ((Co.texts es).length = 0) := by show _ = _; rw [HTL.out]; exact hq
          clear b7 HAL hkr
          have b0 := (HBB.out.cell (p := ⟨pb, po, none⟩) hpl).trans K0.out
          have b1 := (HBB.out.cell (p := ⟨pb, po + 1, none⟩) hpl).trans K1.out
          have b2 := (HBB.out.cell (p := ⟨pb, po + 2, none⟩) hpl).trans K2.out
          have b3 := (HBB.out.cell (p := ⟨pb, po + 3, none⟩) hpl).trans K3.out
          have b4 := (HBB.out.cell (p := ⟨pb, po + 4, none⟩) hpl).trans K4.out
          have b5 := (HBB.out.cell (p := ⟨pb, po + 5, none⟩) hpl).trans K5.out
          have b6 := (HBB.out.cell (p := ⟨pb, po + 6, none⟩) hpl).trans K6.out
          have b7 := (HBB.out.cell (p := ⟨pb, po + 7, none⟩) hpl).trans K7.out
          have b8 := (HBB.out.cell (p := ⟨pb, po + 8, none⟩) hpl).trans K8.out
          have hnz := numB_size n HNN.out.1 HNN.out.2
          have hns : nm.size ≤ 1048576 := by have := HSZ.out; omega
          have HBF := Lib.hid HBB.out
          have HT2 := HTM
          clear hq
          have CI : ∀ q : Grown wr.heap.size wr, Calls Tryd.prog 97 #[.int .i64 n] q.val fun e w' => e = .returned (.string (numB n)) ∧ Below q.val.heap.size q.val w' := fun q => implFormat n HNN.out.1 HNN.out.2 _ (HPW.out.below (below_thru HBB.out (Nat.le_refl _) q.old))
          have CE : ∀ q : Grown wr.heap.size wr, Calls Tryd.prog 98 #[.slice ea en ec] q.val fun e w' => e = .returned (.string (envSay ns (Co.texts vs))) ∧ Below q.val.heap.size q.val w' := fun q => HENV.out _ (below_thru HBB.out (Nat.le_refl _) q.old)
          have hez := HEZ.out
          generalize numB n = fs at CI HT2 hnz
          generalize envSay ns (Co.texts vs) = env at CE HT2 hez
          have m0 : ¬ (9223372036854775807 < 1 + fs.size) := by omega
          have m1 : ¬ (9223372036854775807 < 1 + fs.size + env.size) := by omega
          clear hnz hns hez
          go_wp2_with fail
          have g2 : ∀ q : Grown wr.heap.size wr, q.val.cell? ⟨pb, po + 2, none⟩ = _ := fun q => (q.old.cell (p := ⟨pb, po + 2, none⟩) (Nat.lt_of_lt_of_le hpl HBB.out.size)).trans b2
          have g8 : ∀ q : Grown wr.heap.size wr, q.val.cell? ⟨pb, po + 8, none⟩ = _ := fun q => (q.old.cell (p := ⟨pb, po + 8, none⟩) (Nat.lt_of_lt_of_le hpl HBB.out.size)).trans b8
          refine wp_region_grown wr.heap.size (by kernel_rfl) (by kernel_rfl) ?_
          repeat (go_big_quiet_step (first | (go_at_call 97; exact grown_of (Nat.le_refl _) (CI _)) | (go_at_call 98; exact grown_of (Nat.le_refl _) (CE _))))
          refine wpQuiet_nil ?_
          rintro _ ⟨⟨wq, hq⟩, rfl⟩
          go_wp2_with fail
          go_ret
          exact ⟨by rw [HT2.out]; rfl, below_thru HBF.out (Nat.le_refl _) hq⟩
        · have hq : es.length = 1 := by have : coArity 2 = 1 := rfl; omega
          have HXL : Hid ((Co.texts es).length = 1) := by show _ = _; rw [HTL.out]; exact hq
          clear b7 HAL hkr
          have b0 := (HBB.out.cell (p := ⟨pb, po, none⟩) hpl).trans K0.out
          have b1 := (HBB.out.cell (p := ⟨pb, po + 1, none⟩) hpl).trans K1.out
          have b2 := (HBB.out.cell (p := ⟨pb, po + 2, none⟩) hpl).trans K2.out
          have b3 := (HBB.out.cell (p := ⟨pb, po + 3, none⟩) hpl).trans K3.out
          have b4 := (HBB.out.cell (p := ⟨pb, po + 4, none⟩) hpl).trans K4.out
          have b5 := (HBB.out.cell (p := ⟨pb, po + 5, none⟩) hpl).trans K5.out
          have b6 := (HBB.out.cell (p := ⟨pb, po + 6, none⟩) hpl).trans K6.out
          have b7 := (HBB.out.cell (p := ⟨pb, po + 7, none⟩) hpl).trans K7.out
          have b8 := (HBB.out.cell (p := ⟨pb, po + 8, none⟩) hpl).trans K8.out
          have hnz := numB_size n HNN.out.1 HNN.out.2
          have hns : nm.size ≤ 1048576 := by have := HSZ.out; omega
          have HBF := Lib.hid HBB.out
          have HT2 := Lib.hid (coText_one 2 nm n fr ty es ns vs HXL.out)
          have htt := HTOT.out
          have hp0 : 0 < (Co.texts es).length := by rw [HXL.out]; omega
          have s0 := total_get (Co.texts es) 0 hp0
          have C0 := Lib.hid (show CellAt wr w.heap.size 0 (.string (Co.texts es)[0]) from ⟨HAR.out.1, HAR.out.2 0 hp0⟩)
          have hl0 : 0 < es.length := by omega
          generalize (Co.texts es)[0]'hp0 = x0 at HT2 s0 C0
          clear hq
          have CI : ∀ q : Grown wr.heap.size wr, Calls Tryd.prog 97 #[.int .i64 n] q.val fun e w' => e = .returned (.string (numB n)) ∧ Below q.val.heap.size q.val w' := fun q => implFormat n HNN.out.1 HNN.out.2 _ (HPW.out.below (below_thru HBB.out (Nat.le_refl _) q.old))
          have CE : ∀ q : Grown wr.heap.size wr, Calls Tryd.prog 98 #[.slice ea en ec] q.val fun e w' => e = .returned (.string (envSay ns (Co.texts vs))) ∧ Below q.val.heap.size q.val w' := fun q => HENV.out _ (below_thru HBB.out (Nat.le_refl _) q.old)
          have hez := HEZ.out
          generalize numB n = fs at CI HT2 hnz
          generalize envSay ns (Co.texts vs) = env at CE HT2 hez
          generalize fr.text = fx at HT2
          generalize ty.text = ts at HT2
          have m0 : ¬ (9223372036854775807 < 1 + fs.size) := by omega
          have m1 : ¬ (9223372036854775807 < 1 + fs.size + 1) := by omega
          have m2 : ¬ (9223372036854775807 < 1 + fs.size + 1 + x0.size) := by omega
          have m3 : ¬ (9223372036854775807 < 1 + fs.size + 1 + x0.size + 1) := by omega
          have m4 : ¬ (9223372036854775807 < 1 + fs.size + 1 + x0.size + 1 + env.size) := by omega
          clear hnz hns hez htt s0
          go_wp2_with fail
          have g2 : ∀ q : Grown wr.heap.size wr, q.val.cell? ⟨pb, po + 2, none⟩ = _ := fun q => (q.old.cell (p := ⟨pb, po + 2, none⟩) (Nat.lt_of_lt_of_le hpl HBB.out.size)).trans b2
          have g8 : ∀ q : Grown wr.heap.size wr, q.val.cell? ⟨pb, po + 8, none⟩ = _ := fun q => (q.old.cell (p := ⟨pb, po + 8, none⟩) (Nat.lt_of_lt_of_le hpl HBB.out.size)).trans b8
          have ga : ∀ q : Grown wr.heap.size wr, q.val.cell? ⟨w.heap.size, 0, none⟩ = some (.string x0) := fun q => (q.old.cell (p := ⟨w.heap.size, 0, none⟩) C0.out.1).trans C0.out.2
          refine wp_region_grown wr.heap.size (by kernel_rfl) (by kernel_rfl) ?_
          repeat (go_big_quiet_step (first | (go_at_call 97; exact grown_of (Nat.le_refl _) (CI _)) | (go_at_call 98; exact grown_of (Nat.le_refl _) (CE _))))
          refine wpQuiet_nil ?_
          rintro _ ⟨⟨wq, hq⟩, rfl⟩
          go_wp2_with fail
          go_ret
          exact ⟨by rw [HT2.out]; rfl, below_thru HBF.out (Nat.le_refl _) hq⟩
        · have hq : es.length = 0 := by have : coArity 3 = 0 := rfl; omega
          have HXL : Hid ((Co.texts es).length = 0) := by show _ = _; rw [HTL.out]; exact hq
          clear b7 HAL hkr
          have b0 := (HBB.out.cell (p := ⟨pb, po, none⟩) hpl).trans K0.out
          have b1 := (HBB.out.cell (p := ⟨pb, po + 1, none⟩) hpl).trans K1.out
          have b2 := (HBB.out.cell (p := ⟨pb, po + 2, none⟩) hpl).trans K2.out
          have b3 := (HBB.out.cell (p := ⟨pb, po + 3, none⟩) hpl).trans K3.out
          have b4 := (HBB.out.cell (p := ⟨pb, po + 4, none⟩) hpl).trans K4.out
          have b5 := (HBB.out.cell (p := ⟨pb, po + 5, none⟩) hpl).trans K5.out
          have b6 := (HBB.out.cell (p := ⟨pb, po + 6, none⟩) hpl).trans K6.out
          have b7 := (HBB.out.cell (p := ⟨pb, po + 7, none⟩) hpl).trans K7.out
          have b8 := (HBB.out.cell (p := ⟨pb, po + 8, none⟩) hpl).trans K8.out
          have hnz := numB_size n HNN.out.1 HNN.out.2
          have hns : nm.size ≤ 1048576 := by have := HSZ.out; omega
          have HBF := Lib.hid HBB.out
          clear hq
          go_wp2_with fail
          go_ret
          exact ⟨by rw [HTM.out]; rfl, HBF.out⟩
        · have hq : es.length = 1 := by have : coArity 4 = 1 := rfl; omega
          have HXL : Hid ((Co.texts es).length = 1) := by show _ = _; rw [HTL.out]; exact hq
          clear b7 HAL hkr
          have b0 := (HBB.out.cell (p := ⟨pb, po, none⟩) hpl).trans K0.out
          have b1 := (HBB.out.cell (p := ⟨pb, po + 1, none⟩) hpl).trans K1.out
          have b2 := (HBB.out.cell (p := ⟨pb, po + 2, none⟩) hpl).trans K2.out
          have b3 := (HBB.out.cell (p := ⟨pb, po + 3, none⟩) hpl).trans K3.out
          have b4 := (HBB.out.cell (p := ⟨pb, po + 4, none⟩) hpl).trans K4.out
          have b5 := (HBB.out.cell (p := ⟨pb, po + 5, none⟩) hpl).trans K5.out
          have b6 := (HBB.out.cell (p := ⟨pb, po + 6, none⟩) hpl).trans K6.out
          have b7 := (HBB.out.cell (p := ⟨pb, po + 7, none⟩) hpl).trans K7.out
          have b8 := (HBB.out.cell (p := ⟨pb, po + 8, none⟩) hpl).trans K8.out
          have hnz := numB_size n HNN.out.1 HNN.out.2
          have hns : nm.size ≤ 1048576 := by have := HSZ.out; omega
          have HBF := Lib.hid HBB.out
          have HT2 := Lib.hid (coText_one 4 nm n fr ty es ns vs HXL.out)
          have htt := HTOT.out
          have hp0 : 0 < (Co.texts es).length := by rw [HXL.out]; omega
          have s0 := total_get (Co.texts es) 0 hp0
          have C0 := Lib.hid (show CellAt wr w.heap.size 0 (.string (Co.texts es)[0]) from ⟨HAR.out.1, HAR.out.2 0 hp0⟩)
          have hl0 : 0 < es.length := by omega
          generalize (Co.texts es)[0]'hp0 = x0 at HT2 s0 C0
          clear hq
          have CT : ∀ q : Grown wr.heap.size wr, Calls Tryd.prog 99 #[.agg #[.int .i64 tk, .slice ta tn tc]] q.val fun e w' => e = .returned (.string ty.text) ∧ Below q.val.heap.size q.val w' := fun q => by have := implFormatType d _ ty q.val (HTY.out.below (below_thru HBB.out (Nat.le_refl _) q.old)) HTZ.out; rw [format_good (co_ty HTF.out (by omega))] at this; exact this
          have hts := ty.text_size
          have htz := HTZ.out
          generalize ty.text = ts at CT HT2 hts
          have m0 : ¬ (9223372036854775807 < 2 + nm.size) := by omega
          have m1 : ¬ (9223372036854775807 < 2 + nm.size + 1) := by omega
          have m2 : ¬ (9223372036854775807 < 2 + nm.size + 1 + ts.size) := by omega
          have m3 : ¬ (9223372036854775807 < 2 + nm.size + 1 + ts.size + 1) := by omega
          have m4 : ¬ (9223372036854775807 < 2 + nm.size + 1 + ts.size + 1 + x0.size) := by omega
          have m5 : ¬ (9223372036854775807 < 2 + nm.size + 1 + ts.size + 1 + x0.size + 1) := by omega
          clear hnz hns hts htz htt s0
          go_wp2_with fail
          have g1 : ∀ q : Grown wr.heap.size wr, q.val.cell? ⟨pb, po + 1, none⟩ = _ := fun q => (q.old.cell (p := ⟨pb, po + 1, none⟩) (Nat.lt_of_lt_of_le hpl HBB.out.size)).trans b1
          have g5 : ∀ q : Grown wr.heap.size wr, q.val.cell? ⟨pb, po + 5, none⟩ = _ := fun q => (q.old.cell (p := ⟨pb, po + 5, none⟩) (Nat.lt_of_lt_of_le hpl HBB.out.size)).trans b5
          have g6 : ∀ q : Grown wr.heap.size wr, q.val.cell? ⟨pb, po + 6, none⟩ = _ := fun q => (q.old.cell (p := ⟨pb, po + 6, none⟩) (Nat.lt_of_lt_of_le hpl HBB.out.size)).trans b6
          have ga : ∀ q : Grown wr.heap.size wr, q.val.cell? ⟨w.heap.size, 0, none⟩ = some (.string x0) := fun q => (q.old.cell (p := ⟨w.heap.size, 0, none⟩) C0.out.1).trans C0.out.2
          refine wp_region_grown wr.heap.size (by kernel_rfl) (by kernel_rfl) ?_
          repeat (go_big_quiet_step (first | (go_at_call 99; exact grown_of (Nat.le_refl _) (CT _))))
          refine wpQuiet_nil ?_
          rintro _ ⟨⟨wq, hq⟩, rfl⟩
          go_wp2_with fail
          go_ret
          exact ⟨by rw [HT2.out]; rfl, below_thru HBF.out (Nat.le_refl _) hq⟩
        · have hq : es.length = 2 := by have : coArity 5 = 2 := rfl; omega
          have HXL : Hid ((Co.texts es).length = 2) := by show _ = _; rw [HTL.out]; exact hq
          clear b7 HAL hkr
          have b0 := (HBB.out.cell (p := ⟨pb, po, none⟩) hpl).trans K0.out
          have b1 := (HBB.out.cell (p := ⟨pb, po + 1, none⟩) hpl).trans K1.out
          have b2 := (HBB.out.cell (p := ⟨pb, po + 2, none⟩) hpl).trans K2.out
          have b3 := (HBB.out.cell (p := ⟨pb, po + 3, none⟩) hpl).trans K3.out
          have b4 := (HBB.out.cell (p := ⟨pb, po + 4, none⟩) hpl).trans K4.out
          have b5 := (HBB.out.cell (p := ⟨pb, po + 5, none⟩) hpl).trans K5.out
          have b6 := (HBB.out.cell (p := ⟨pb, po + 6, none⟩) hpl).trans K6.out
          have b7 := (HBB.out.cell (p := ⟨pb, po + 7, none⟩) hpl).trans K7.out
          have b8 := (HBB.out.cell (p := ⟨pb, po + 8, none⟩) hpl).trans K8.out
          have hnz := numB_size n HNN.out.1 HNN.out.2
          have hns : nm.size ≤ 1048576 := by have := HSZ.out; omega
          have HBF := Lib.hid HBB.out
          have HT2 := Lib.hid (coText_two 5 nm n fr ty es ns vs HXL.out)
          have htt := HTOT.out
          have hp0 : 0 < (Co.texts es).length := by rw [HXL.out]; omega
          have s0 := total_get (Co.texts es) 0 hp0
          have hp1 : 1 < (Co.texts es).length := by rw [HXL.out]; omega
          have s1 := total_get (Co.texts es) 1 hp1
          have CJ : Calls Tryd.prog 100 #[.slice (some ⟨w.heap.size, 0, none⟩) es.length es.length, .string ⟨#[32]⟩] wr fun e w' => e = .returned (.string ((Co.texts es)[0]'hp0 ++ ⟨#[32]⟩ ++ (Co.texts es)[1]'hp1)) ∧ Below wr.heap.size wr w' := by
            have h := implJoin _ (Co.texts es) ⟨#[32]⟩ (by rw [HXL.out]; omega) (by omega) (by decide) wr HST.out
            unfold JoinEnd at h
            rw [join_two HXL.out] at h
            exact h
          have HCJ := Lib.hid CJ; clear CJ
          generalize (Co.texts es)[0]'hp0 = x0 at HT2 s0 HCJ
          generalize (Co.texts es)[1]'hp1 = x1 at HT2 s1 HCJ
          have HT3 : Hid ((Co.node 5 nm n fr ty es ns vs).text = ⟨#[40]⟩ ++ (x0 ++ ⟨#[32]⟩ ++ x1) ++ ⟨#[41]⟩) := by
            show _ = _
            rw [HT2.out]
            exact two_group
          have hjs : (x0 ++ ⟨#[32]⟩ ++ x1).size ≤ 260000000 := by simp only [ByteArray.size_append, sizes_one]; omega
          generalize x0 ++ ⟨#[32]⟩ ++ x1 = J at HT3 HCJ hjs
          have m0 : ¬ (9223372036854775807 < 1 + J.size) := by omega
          have m1 : ¬ (9223372036854775807 < 1 + J.size + 1) := by omega
          clear hnz hns htt hjs hq s0 hp0 s1 hp1
          go_wp2_with fail
          refine HCJ.out.mono ?_
          rintro e w5 ⟨rfl, hb⟩
          replace HBF := Lib.hid (below_thru HBF.out (Nat.le_refl _) hb)
          clear hb
          go_wp2_with fail
          go_ret
          exact ⟨by rw [HT3.out]; rfl, HBF.out⟩
        · have hq : es.length = 0 := by have : coArity 6 = 0 := rfl; omega
          have HXL : Hid ((Co.texts es).length = 0) := by show _ = _; rw [HTL.out]; exact hq
          clear b7 HAL hkr
          have b0 := (HBB.out.cell (p := ⟨pb, po, none⟩) hpl).trans K0.out
          have b1 := (HBB.out.cell (p := ⟨pb, po + 1, none⟩) hpl).trans K1.out
          have b2 := (HBB.out.cell (p := ⟨pb, po + 2, none⟩) hpl).trans K2.out
          have b3 := (HBB.out.cell (p := ⟨pb, po + 3, none⟩) hpl).trans K3.out
          have b4 := (HBB.out.cell (p := ⟨pb, po + 4, none⟩) hpl).trans K4.out
          have b5 := (HBB.out.cell (p := ⟨pb, po + 5, none⟩) hpl).trans K5.out
          have b6 := (HBB.out.cell (p := ⟨pb, po + 6, none⟩) hpl).trans K6.out
          have b7 := (HBB.out.cell (p := ⟨pb, po + 7, none⟩) hpl).trans K7.out
          have b8 := (HBB.out.cell (p := ⟨pb, po + 8, none⟩) hpl).trans K8.out
          have hnz := numB_size n HNN.out.1 HNN.out.2
          have hns : nm.size ≤ 1048576 := by have := HSZ.out; omega
          have HBF := Lib.hid HBB.out
          go_wp2_with fail
          refine (implFormat n HNN.out.1 HNN.out.2 _ (HPW.out.below HBB.out)).mono ?_
          rintro e w1 ⟨rfl, hb1⟩
          replace HBF := Lib.hid (below_thru HBF.out (Nat.le_refl _) hb1)
          clear hb1 hq
          go_wp2_with fail
          go_ret
          exact ⟨by rw [HTM.out]; rfl, HBF.out⟩
        · have hq : es.length = 2 := by have : coArity 7 = 2 := rfl; omega
          have HXL : Hid ((Co.texts es).length = 2) := by show _ = _; rw [HTL.out]; exact hq
          clear b7 HAL hkr
          have b0 := (HBB.out.cell (p := ⟨pb, po, none⟩) hpl).trans K0.out
          have b1 := (HBB.out.cell (p := ⟨pb, po + 1, none⟩) hpl).trans K1.out
          have b2 := (HBB.out.cell (p := ⟨pb, po + 2, none⟩) hpl).trans K2.out
          have b3 := (HBB.out.cell (p := ⟨pb, po + 3, none⟩) hpl).trans K3.out
          have b4 := (HBB.out.cell (p := ⟨pb, po + 4, none⟩) hpl).trans K4.out
          have b5 := (HBB.out.cell (p := ⟨pb, po + 5, none⟩) hpl).trans K5.out
          have b6 := (HBB.out.cell (p := ⟨pb, po + 6, none⟩) hpl).trans K6.out
          have b7 := (HBB.out.cell (p := ⟨pb, po + 7, none⟩) hpl).trans K7.out
          have b8 := (HBB.out.cell (p := ⟨pb, po + 8, none⟩) hpl).trans K8.out
          have hnz := numB_size n HNN.out.1 HNN.out.2
          have hns : nm.size ≤ 1048576 := by have := HSZ.out; omega
          have HBF := Lib.hid HBB.out
          have HT2 := Lib.hid (coText_two 7 nm n fr ty es ns vs HXL.out)
          have htt := HTOT.out
          have hp0 : 0 < (Co.texts es).length := by rw [HXL.out]; omega
          have s0 := total_get (Co.texts es) 0 hp0
          have hp1 : 1 < (Co.texts es).length := by rw [HXL.out]; omega
          have s1 := total_get (Co.texts es) 1 hp1
          have CJ : Calls Tryd.prog 100 #[.slice (some ⟨w.heap.size, 0, none⟩) es.length es.length, .string ⟨#[43]⟩] wr fun e w' => e = .returned (.string ((Co.texts es)[0]'hp0 ++ ⟨#[43]⟩ ++ (Co.texts es)[1]'hp1)) ∧ Below wr.heap.size wr w' := by
            have h := implJoin _ (Co.texts es) ⟨#[43]⟩ (by rw [HXL.out]; omega) (by omega) (by decide) wr HST.out
            unfold JoinEnd at h
            rw [join_two HXL.out] at h
            exact h
          have HCJ := Lib.hid CJ; clear CJ
          generalize (Co.texts es)[0]'hp0 = x0 at HT2 s0 HCJ
          generalize (Co.texts es)[1]'hp1 = x1 at HT2 s1 HCJ
          have HT3 : Hid ((Co.node 7 nm n fr ty es ns vs).text = ⟨#[40]⟩ ++ (x0 ++ ⟨#[43]⟩ ++ x1) ++ ⟨#[41]⟩) := by
            show _ = _
            rw [HT2.out]
            exact two_group
          have hjs : (x0 ++ ⟨#[43]⟩ ++ x1).size ≤ 260000000 := by simp only [ByteArray.size_append, sizes_one]; omega
          generalize x0 ++ ⟨#[43]⟩ ++ x1 = J at HT3 HCJ hjs
          have m0 : ¬ (9223372036854775807 < 1 + J.size) := by omega
          have m1 : ¬ (9223372036854775807 < 1 + J.size + 1) := by omega
          clear hnz hns htt hjs hq s0 hp0 s1 hp1
          go_wp2_with fail
          refine HCJ.out.mono ?_
          rintro e w5 ⟨rfl, hb⟩
          replace HBF := Lib.hid (below_thru HBF.out (Nat.le_refl _) hb)
          clear hb
          go_wp2_with fail
          go_ret
          exact ⟨by rw [HT3.out]; rfl, HBF.out⟩
        · have hq : es.length = 2 := by have : coArity 8 = 2 := rfl; omega
          have HXL : Hid ((Co.texts es).length = 2) := by show _ = _; rw [HTL.out]; exact hq
          clear b7 HAL hkr
          have b0 := (HBB.out.cell (p := ⟨pb, po, none⟩) hpl).trans K0.out
          have b1 := (HBB.out.cell (p := ⟨pb, po + 1, none⟩) hpl).trans K1.out
          have b2 := (HBB.out.cell (p := ⟨pb, po + 2, none⟩) hpl).trans K2.out
          have b3 := (HBB.out.cell (p := ⟨pb, po + 3, none⟩) hpl).trans K3.out
          have b4 := (HBB.out.cell (p := ⟨pb, po + 4, none⟩) hpl).trans K4.out
          have b5 := (HBB.out.cell (p := ⟨pb, po + 5, none⟩) hpl).trans K5.out
          have b6 := (HBB.out.cell (p := ⟨pb, po + 6, none⟩) hpl).trans K6.out
          have b7 := (HBB.out.cell (p := ⟨pb, po + 7, none⟩) hpl).trans K7.out
          have b8 := (HBB.out.cell (p := ⟨pb, po + 8, none⟩) hpl).trans K8.out
          have hnz := numB_size n HNN.out.1 HNN.out.2
          have hns : nm.size ≤ 1048576 := by have := HSZ.out; omega
          have HBF := Lib.hid HBB.out
          have HT2 := Lib.hid (coText_two 8 nm n fr ty es ns vs HXL.out)
          have htt := HTOT.out
          have hp0 : 0 < (Co.texts es).length := by rw [HXL.out]; omega
          have s0 := total_get (Co.texts es) 0 hp0
          have hp1 : 1 < (Co.texts es).length := by rw [HXL.out]; omega
          have s1 := total_get (Co.texts es) 1 hp1
          have CJ : Calls Tryd.prog 100 #[.slice (some ⟨w.heap.size, 0, none⟩) es.length es.length, .string ⟨#[60]⟩] wr fun e w' => e = .returned (.string ((Co.texts es)[0]'hp0 ++ ⟨#[60]⟩ ++ (Co.texts es)[1]'hp1)) ∧ Below wr.heap.size wr w' := by
            have h := implJoin _ (Co.texts es) ⟨#[60]⟩ (by rw [HXL.out]; omega) (by omega) (by decide) wr HST.out
            unfold JoinEnd at h
            rw [join_two HXL.out] at h
            exact h
          have HCJ := Lib.hid CJ; clear CJ
          generalize (Co.texts es)[0]'hp0 = x0 at HT2 s0 HCJ
          generalize (Co.texts es)[1]'hp1 = x1 at HT2 s1 HCJ
          have HT3 : Hid ((Co.node 8 nm n fr ty es ns vs).text = ⟨#[40]⟩ ++ (x0 ++ ⟨#[60]⟩ ++ x1) ++ ⟨#[41]⟩) := by
            show _ = _
            rw [HT2.out]
            exact two_group
          have hjs : (x0 ++ ⟨#[60]⟩ ++ x1).size ≤ 260000000 := by simp only [ByteArray.size_append, sizes_one]; omega
          generalize x0 ++ ⟨#[60]⟩ ++ x1 = J at HT3 HCJ hjs
          have m0 : ¬ (9223372036854775807 < 1 + J.size) := by omega
          have m1 : ¬ (9223372036854775807 < 1 + J.size + 1) := by omega
          clear hnz hns htt hjs hq s0 hp0 s1 hp1
          go_wp2_with fail
          refine HCJ.out.mono ?_
          rintro e w5 ⟨rfl, hb⟩
          replace HBF := Lib.hid (below_thru HBF.out (Nat.le_refl _) hb)
          clear hb
          go_wp2_with fail
          go_ret
          exact ⟨by rw [HT3.out]; rfl, HBF.out⟩
        · have hq : es.length = 0 := by have : coArity 9 = 0 := rfl; omega
          have HXL : Hid ((Co.texts es).length = 0) := by show _ = _; rw [HTL.out]; exact hq
          clear b7 HAL hkr
          have b0 := (HBB.out.cell (p := ⟨pb, po, none⟩) hpl).trans K0.out
          have b1 := (HBB.out.cell (p := ⟨pb, po + 1, none⟩) hpl).trans K1.out
          have b2 := (HBB.out.cell (p := ⟨pb, po + 2, none⟩) hpl).trans K2.out
          have b3 := (HBB.out.cell (p := ⟨pb, po + 3, none⟩) hpl).trans K3.out
          have b4 := (HBB.out.cell (p := ⟨pb, po + 4, none⟩) hpl).trans K4.out
          have b5 := (HBB.out.cell (p := ⟨pb, po + 5, none⟩) hpl).trans K5.out
          have b6 := (HBB.out.cell (p := ⟨pb, po + 6, none⟩) hpl).trans K6.out
          have b7 := (HBB.out.cell (p := ⟨pb, po + 7, none⟩) hpl).trans K7.out
          have b8 := (HBB.out.cell (p := ⟨pb, po + 8, none⟩) hpl).trans K8.out
          have hnz := numB_size n HNN.out.1 HNN.out.2
          have hns : nm.size ≤ 1048576 := by have := HSZ.out; omega
          have HBF := Lib.hid HBB.out
          clear hq
          rcases co_bool HNF.out with rfl | rfl
          · go_wp2_with fail
            refine (coBoolText _ _).mono ?_
            rintro e w1 ⟨rfl, hw1⟩
            subst hw1
            go_wp2_with fail
            go_ret
            exact ⟨by rw [HTM.out]; rfl, HBF.out⟩
          · go_wp2_with fail
            refine (coBoolText _ _).mono ?_
            rintro e w1 ⟨rfl, hw1⟩
            subst hw1
            go_wp2_with fail
            go_ret
            exact ⟨by rw [HTM.out]; rfl, HBF.out⟩
        · have hq : es.length = 3 := by have : coArity 10 = 3 := rfl; omega
          have HXL : Hid ((Co.texts es).length = 3) := by show _ = _; rw [HTL.out]; exact hq
          clear b7 HAL hkr
          have b0 := (HBB.out.cell (p := ⟨pb, po, none⟩) hpl).trans K0.out
          have b1 := (HBB.out.cell (p := ⟨pb, po + 1, none⟩) hpl).trans K1.out
          have b2 := (HBB.out.cell (p := ⟨pb, po + 2, none⟩) hpl).trans K2.out
          have b3 := (HBB.out.cell (p := ⟨pb, po + 3, none⟩) hpl).trans K3.out
          have b4 := (HBB.out.cell (p := ⟨pb, po + 4, none⟩) hpl).trans K4.out
          have b5 := (HBB.out.cell (p := ⟨pb, po + 5, none⟩) hpl).trans K5.out
          have b6 := (HBB.out.cell (p := ⟨pb, po + 6, none⟩) hpl).trans K6.out
          have b7 := (HBB.out.cell (p := ⟨pb, po + 7, none⟩) hpl).trans K7.out
          have b8 := (HBB.out.cell (p := ⟨pb, po + 8, none⟩) hpl).trans K8.out
          have hnz := numB_size n HNN.out.1 HNN.out.2
          have hns : nm.size ≤ 1048576 := by have := HSZ.out; omega
          have HBF := Lib.hid HBB.out
          have HT2 := Lib.hid (coText_three 10 nm n fr ty es ns vs HXL.out)
          have htt := HTOT.out
          have hp0 : 0 < (Co.texts es).length := by rw [HXL.out]; omega
          have s0 := total_get (Co.texts es) 0 hp0
          have hp1 : 1 < (Co.texts es).length := by rw [HXL.out]; omega
          have s1 := total_get (Co.texts es) 1 hp1
          have hp2 : 2 < (Co.texts es).length := by rw [HXL.out]; omega
          have s2 := total_get (Co.texts es) 2 hp2
          have CJ : Calls Tryd.prog 100 #[.slice (some ⟨w.heap.size, 0, none⟩) es.length es.length, .string ⟨#[32]⟩] wr fun e w' => e = .returned (.string ((Co.texts es)[0]'hp0 ++ ⟨#[32]⟩ ++ (Co.texts es)[1]'hp1 ++ ⟨#[32]⟩ ++ (Co.texts es)[2]'hp2)) ∧ Below wr.heap.size wr w' := by
            have h := implJoin _ (Co.texts es) ⟨#[32]⟩ (by rw [HXL.out]; omega) (by omega) (by decide) wr HST.out
            unfold JoinEnd at h
            rw [join_three HXL.out] at h
            exact h
          have HCJ := Lib.hid CJ; clear CJ
          generalize (Co.texts es)[0]'hp0 = x0 at HT2 s0 HCJ
          generalize (Co.texts es)[1]'hp1 = x1 at HT2 s1 HCJ
          generalize (Co.texts es)[2]'hp2 = x2 at HT2 s2 HCJ
          have HT3 : Hid ((Co.node 10 nm n fr ty es ns vs).text = ⟨#[40, 105, 102, 32]⟩ ++ (x0 ++ ⟨#[32]⟩ ++ x1 ++ ⟨#[32]⟩ ++ x2) ++ ⟨#[41]⟩) := by
            show _ = _
            rw [HT2.out]
            rfl
          have hjs : (x0 ++ ⟨#[32]⟩ ++ x1 ++ ⟨#[32]⟩ ++ x2).size ≤ 260000000 := by simp only [ByteArray.size_append, sizes_one]; omega
          generalize x0 ++ ⟨#[32]⟩ ++ x1 ++ ⟨#[32]⟩ ++ x2 = J at HT3 HCJ hjs
          have m0 : ¬ (9223372036854775807 < 4 + J.size) := by omega
          have m1 : ¬ (9223372036854775807 < 4 + J.size + 1) := by omega
          clear hnz hns htt hjs hq s0 hp0 s1 hp1 s2 hp2
          go_wp2_with fail
          refine HCJ.out.mono ?_
          rintro e w5 ⟨rfl, hb⟩
          replace HBF := Lib.hid (below_thru HBF.out (Nat.le_refl _) hb)
          clear hb
          go_wp2_with fail
          go_ret
          exact ⟨by rw [HT3.out]; rfl, HBF.out⟩
        · have hq : es.length = 2 := by have : coArity 11 = 2 := rfl; omega
          have HXL : Hid ((Co.texts es).length = 2) := by show _ = _; rw [HTL.out]; exact hq
          clear b7 HAL hkr
          have b0 := (HBB.out.cell (p := ⟨pb, po, none⟩) hpl).trans K0.out
          have b1 := (HBB.out.cell (p := ⟨pb, po + 1, none⟩) hpl).trans K1.out
          have b2 := (HBB.out.cell (p := ⟨pb, po + 2, none⟩) hpl).trans K2.out
          have b3 := (HBB.out.cell (p := ⟨pb, po + 3, none⟩) hpl).trans K3.out
          have b4 := (HBB.out.cell (p := ⟨pb, po + 4, none⟩) hpl).trans K4.out
          have b5 := (HBB.out.cell (p := ⟨pb, po + 5, none⟩) hpl).trans K5.out
          have b6 := (HBB.out.cell (p := ⟨pb, po + 6, none⟩) hpl).trans K6.out
          have b7 := (HBB.out.cell (p := ⟨pb, po + 7, none⟩) hpl).trans K7.out
          have b8 := (HBB.out.cell (p := ⟨pb, po + 8, none⟩) hpl).trans K8.out
          have hnz := numB_size n HNN.out.1 HNN.out.2
          have hns : nm.size ≤ 1048576 := by have := HSZ.out; omega
          have HBF := Lib.hid HBB.out
          have HT2 := Lib.hid (coText_two 11 nm n fr ty es ns vs HXL.out)
          have htt := HTOT.out
          have hp0 : 0 < (Co.texts es).length := by rw [HXL.out]; omega
          have s0 := total_get (Co.texts es) 0 hp0
          have hp1 : 1 < (Co.texts es).length := by rw [HXL.out]; omega
          have s1 := total_get (Co.texts es) 1 hp1
          have CJ : Calls Tryd.prog 100 #[.slice (some ⟨w.heap.size, 0, none⟩) es.length es.length, .string ⟨#[44]⟩] wr fun e w' => e = .returned (.string ((Co.texts es)[0]'hp0 ++ ⟨#[44]⟩ ++ (Co.texts es)[1]'hp1)) ∧ Below wr.heap.size wr w' := by
            have h := implJoin _ (Co.texts es) ⟨#[44]⟩ (by rw [HXL.out]; omega) (by omega) (by decide) wr HST.out
            unfold JoinEnd at h
            rw [join_two HXL.out] at h
            exact h
          have HCJ := Lib.hid CJ; clear CJ
          generalize (Co.texts es)[0]'hp0 = x0 at HT2 s0 HCJ
          generalize (Co.texts es)[1]'hp1 = x1 at HT2 s1 HCJ
          have HT3 : Hid ((Co.node 11 nm n fr ty es ns vs).text = ⟨#[40]⟩ ++ (x0 ++ ⟨#[44]⟩ ++ x1) ++ ⟨#[41]⟩) := by
            show _ = _
            rw [HT2.out]
            exact two_group
          have hjs : (x0 ++ ⟨#[44]⟩ ++ x1).size ≤ 260000000 := by simp only [ByteArray.size_append, sizes_one]; omega
          generalize x0 ++ ⟨#[44]⟩ ++ x1 = J at HT3 HCJ hjs
          have m0 : ¬ (9223372036854775807 < 1 + J.size) := by omega
          have m1 : ¬ (9223372036854775807 < 1 + J.size + 1) := by omega
          clear hnz hns htt hjs hq s0 hp0 s1 hp1
          go_wp2_with fail
          refine HCJ.out.mono ?_
          rintro e w5 ⟨rfl, hb⟩
          replace HBF := Lib.hid (below_thru HBF.out (Nat.le_refl _) hb)
          clear hb
          go_wp2_with fail
          go_ret
          exact ⟨by rw [HT3.out]; rfl, HBF.out⟩
        · have hq : es.length = 1 := by have : coArity 12 = 1 := rfl; omega
          have HXL : Hid ((Co.texts es).length = 1) := by show _ = _; rw [HTL.out]; exact hq
          clear b7 HAL hkr
          have b0 := (HBB.out.cell (p := ⟨pb, po, none⟩) hpl).trans K0.out
          have b1 := (HBB.out.cell (p := ⟨pb, po + 1, none⟩) hpl).trans K1.out
          have b2 := (HBB.out.cell (p := ⟨pb, po + 2, none⟩) hpl).trans K2.out
          have b3 := (HBB.out.cell (p := ⟨pb, po + 3, none⟩) hpl).trans K3.out
          have b4 := (HBB.out.cell (p := ⟨pb, po + 4, none⟩) hpl).trans K4.out
          have b5 := (HBB.out.cell (p := ⟨pb, po + 5, none⟩) hpl).trans K5.out
          have b6 := (HBB.out.cell (p := ⟨pb, po + 6, none⟩) hpl).trans K6.out
          have b7 := (HBB.out.cell (p := ⟨pb, po + 7, none⟩) hpl).trans K7.out
          have b8 := (HBB.out.cell (p := ⟨pb, po + 8, none⟩) hpl).trans K8.out
          have hnz := numB_size n HNN.out.1 HNN.out.2
          have hns : nm.size ≤ 1048576 := by have := HSZ.out; omega
          have HBF := Lib.hid HBB.out
          have HT2 := Lib.hid (coText_one 12 nm n fr ty es ns vs HXL.out)
          have htt := HTOT.out
          have hp0 : 0 < (Co.texts es).length := by rw [HXL.out]; omega
          have s0 := total_get (Co.texts es) 0 hp0
          have C0 := Lib.hid (show CellAt wr w.heap.size 0 (.string (Co.texts es)[0]) from ⟨HAR.out.1, HAR.out.2 0 hp0⟩)
          have hl0 : 0 < es.length := by omega
          generalize (Co.texts es)[0]'hp0 = x0 at HT2 s0 C0
          clear hq
          have c0 := C0.out.2
          have m0 : ¬ (9223372036854775807 < 5 + x0.size) := by omega
          have m1 : ¬ (9223372036854775807 < 5 + x0.size + 1) := by omega
          clear hnz hns htt s0
          go_wp2_with fail
          go_ret
          exact ⟨by rw [HT2.out]; rfl, HBF.out⟩
        · have hq : es.length = 1 := by have : coArity 13 = 1 := rfl; omega
          have HXL : Hid ((Co.texts es).length = 1) := by show _ = _; rw [HTL.out]; exact hq
          clear b7 HAL hkr
          have b0 := (HBB.out.cell (p := ⟨pb, po, none⟩) hpl).trans K0.out
          have b1 := (HBB.out.cell (p := ⟨pb, po + 1, none⟩) hpl).trans K1.out
          have b2 := (HBB.out.cell (p := ⟨pb, po + 2, none⟩) hpl).trans K2.out
          have b3 := (HBB.out.cell (p := ⟨pb, po + 3, none⟩) hpl).trans K3.out
          have b4 := (HBB.out.cell (p := ⟨pb, po + 4, none⟩) hpl).trans K4.out
          have b5 := (HBB.out.cell (p := ⟨pb, po + 5, none⟩) hpl).trans K5.out
          have b6 := (HBB.out.cell (p := ⟨pb, po + 6, none⟩) hpl).trans K6.out
          have b7 := (HBB.out.cell (p := ⟨pb, po + 7, none⟩) hpl).trans K7.out
          have b8 := (HBB.out.cell (p := ⟨pb, po + 8, none⟩) hpl).trans K8.out
          have hnz := numB_size n HNN.out.1 HNN.out.2
          have hns : nm.size ≤ 1048576 := by have := HSZ.out; omega
          have HBF := Lib.hid HBB.out
          have HT2 := Lib.hid (coText_one 13 nm n fr ty es ns vs HXL.out)
          have htt := HTOT.out
          have hp0 : 0 < (Co.texts es).length := by rw [HXL.out]; omega
          have s0 := total_get (Co.texts es) 0 hp0
          have C0 := Lib.hid (show CellAt wr w.heap.size 0 (.string (Co.texts es)[0]) from ⟨HAR.out.1, HAR.out.2 0 hp0⟩)
          have hl0 : 0 < es.length := by omega
          generalize (Co.texts es)[0]'hp0 = x0 at HT2 s0 C0
          clear hq
          have c0 := C0.out.2
          have m0 : ¬ (9223372036854775807 < 5 + x0.size) := by omega
          have m1 : ¬ (9223372036854775807 < 5 + x0.size + 1) := by omega
          clear hnz hns htt s0
          go_wp2_with fail
          go_ret
          exact ⟨by rw [HT2.out]; rfl, HBF.out⟩
        · have hq : es.length = 1 := by have : coArity 14 = 1 := rfl; omega
          have HXL : Hid ((Co.texts es).length = 1) := by show _ = _; rw [HTL.out]; exact hq
          clear b7 HAL hkr
          have b0 := (HBB.out.cell (p := ⟨pb, po, none⟩) hpl).trans K0.out
          have b1 := (HBB.out.cell (p := ⟨pb, po + 1, none⟩) hpl).trans K1.out
          have b2 := (HBB.out.cell (p := ⟨pb, po + 2, none⟩) hpl).trans K2.out
          have b3 := (HBB.out.cell (p := ⟨pb, po + 3, none⟩) hpl).trans K3.out
          have b4 := (HBB.out.cell (p := ⟨pb, po + 4, none⟩) hpl).trans K4.out
          have b5 := (HBB.out.cell (p := ⟨pb, po + 5, none⟩) hpl).trans K5.out
          have b6 := (HBB.out.cell (p := ⟨pb, po + 6, none⟩) hpl).trans K6.out
          have b7 := (HBB.out.cell (p := ⟨pb, po + 7, none⟩) hpl).trans K7.out
          have b8 := (HBB.out.cell (p := ⟨pb, po + 8, none⟩) hpl).trans K8.out
          have hnz := numB_size n HNN.out.1 HNN.out.2
          have hns : nm.size ≤ 1048576 := by have := HSZ.out; omega
          have HBF := Lib.hid HBB.out
          have HT2 := Lib.hid (coText_one 14 nm n fr ty es ns vs HXL.out)
          have htt := HTOT.out
          have hp0 : 0 < (Co.texts es).length := by rw [HXL.out]; omega
          have s0 := total_get (Co.texts es) 0 hp0
          have C0 := Lib.hid (show CellAt wr w.heap.size 0 (.string (Co.texts es)[0]) from ⟨HAR.out.1, HAR.out.2 0 hp0⟩)
          have hl0 : 0 < es.length := by omega
          generalize (Co.texts es)[0]'hp0 = x0 at HT2 s0 C0
          clear hq
          have CT : ∀ q : Grown wr.heap.size wr, Calls Tryd.prog 99 #[.agg #[.int .i64 tk, .slice ta tn tc]] q.val fun e w' => e = .returned (.string ty.text) ∧ Below q.val.heap.size q.val w' := fun q => by have := implFormatType d _ ty q.val (HTY.out.below (below_thru HBB.out (Nat.le_refl _) q.old)) HTZ.out; rw [format_good (co_ty HTF.out (by omega))] at this; exact this
          have hts := ty.text_size
          have htz := HTZ.out
          have CF : ∀ q : Grown wr.heap.size wr, Calls Tryd.prog 99 #[.agg #[.int .i64 fk, .slice fa fn fc]] q.val fun e w' => e = .returned (.string fr.text) ∧ Below q.val.heap.size q.val w' := fun q => by have := implFormatType d _ fr q.val (HFR.out.below (below_thru HBB.out (Nat.le_refl _) q.old)) HFZ.out; rw [format_good (co_fr HTF.out (by omega))] at this; exact this
          have hfs := fr.text_size
          have hfz := HFZ.out
          generalize ty.text = ts at CT HT2 hts
          generalize fr.text = fx at CF HT2 hfs
          have m0 : ¬ (9223372036854775807 < 1 + x0.size) := by omega
          have m1 : ¬ (9223372036854775807 < 1 + x0.size + 1) := by omega
          have m2 : ¬ (9223372036854775807 < 1 + x0.size + 1 + fx.size) := by omega
          have m3 : ¬ (9223372036854775807 < 1 + x0.size + 1 + fx.size + 2) := by omega
          have m4 : ¬ (9223372036854775807 < 1 + x0.size + 1 + fx.size + 2 + ts.size) := by omega
          have m5 : ¬ (9223372036854775807 < 1 + x0.size + 1 + fx.size + 2 + ts.size + 1) := by omega
          clear hnz hns hts htz hfs hfz htt s0
          go_wp2_with fail
          have g3 : ∀ q : Grown wr.heap.size wr, q.val.cell? ⟨pb, po + 3, none⟩ = _ := fun q => (q.old.cell (p := ⟨pb, po + 3, none⟩) (Nat.lt_of_lt_of_le hpl HBB.out.size)).trans b3
          have g4 : ∀ q : Grown wr.heap.size wr, q.val.cell? ⟨pb, po + 4, none⟩ = _ := fun q => (q.old.cell (p := ⟨pb, po + 4, none⟩) (Nat.lt_of_lt_of_le hpl HBB.out.size)).trans b4
          have g5 : ∀ q : Grown wr.heap.size wr, q.val.cell? ⟨pb, po + 5, none⟩ = _ := fun q => (q.old.cell (p := ⟨pb, po + 5, none⟩) (Nat.lt_of_lt_of_le hpl HBB.out.size)).trans b5
          have g6 : ∀ q : Grown wr.heap.size wr, q.val.cell? ⟨pb, po + 6, none⟩ = _ := fun q => (q.old.cell (p := ⟨pb, po + 6, none⟩) (Nat.lt_of_lt_of_le hpl HBB.out.size)).trans b6
          have ga : ∀ q : Grown wr.heap.size wr, q.val.cell? ⟨w.heap.size, 0, none⟩ = some (.string x0) := fun q => (q.old.cell (p := ⟨w.heap.size, 0, none⟩) C0.out.1).trans C0.out.2
          refine wp_region_grown wr.heap.size (by kernel_rfl) (by kernel_rfl) ?_
          repeat (go_big_quiet_step (first | (go_at_call 99; first | with_reducible exact grown_of (Nat.le_refl _) (CF _) | with_reducible exact grown_of (Nat.le_refl _) (CT _))))
          refine wpQuiet_nil ?_
          rintro _ ⟨⟨wq, hq⟩, rfl⟩
          go_wp2_with fail
          go_ret
          exact ⟨by rw [HT2.out]; rfl, below_thru HBF.out (Nat.le_refl _) hq⟩
        · have hq : es.length = 1 := by have : coArity 15 = 1 := rfl; omega
          have HXL : Hid ((Co.texts es).length = 1) := by show _ = _; rw [HTL.out]; exact hq
          clear b7 HAL hkr
          have b0 := (HBB.out.cell (p := ⟨pb, po, none⟩) hpl).trans K0.out
          have b1 := (HBB.out.cell (p := ⟨pb, po + 1, none⟩) hpl).trans K1.out
          have b2 := (HBB.out.cell (p := ⟨pb, po + 2, none⟩) hpl).trans K2.out
          have b3 := (HBB.out.cell (p := ⟨pb, po + 3, none⟩) hpl).trans K3.out
          have b4 := (HBB.out.cell (p := ⟨pb, po + 4, none⟩) hpl).trans K4.out
          have b5 := (HBB.out.cell (p := ⟨pb, po + 5, none⟩) hpl).trans K5.out
          have b6 := (HBB.out.cell (p := ⟨pb, po + 6, none⟩) hpl).trans K6.out
          have b7 := (HBB.out.cell (p := ⟨pb, po + 7, none⟩) hpl).trans K7.out
          have b8 := (HBB.out.cell (p := ⟨pb, po + 8, none⟩) hpl).trans K8.out
          have hnz := numB_size n HNN.out.1 HNN.out.2
          have hns : nm.size ≤ 1048576 := by have := HSZ.out; omega
          have HBF := Lib.hid HBB.out
          have HT2 := Lib.hid (coText_one 15 nm n fr ty es ns vs HXL.out)
          have htt := HTOT.out
          have hp0 : 0 < (Co.texts es).length := by rw [HXL.out]; omega
          have s0 := total_get (Co.texts es) 0 hp0
          have C0 := Lib.hid (show CellAt wr w.heap.size 0 (.string (Co.texts es)[0]) from ⟨HAR.out.1, HAR.out.2 0 hp0⟩)
          have hl0 : 0 < es.length := by omega
          generalize (Co.texts es)[0]'hp0 = x0 at HT2 s0 C0
          clear hq
          have CT : ∀ q : Grown wr.heap.size wr, Calls Tryd.prog 99 #[.agg #[.int .i64 tk, .slice ta tn tc]] q.val fun e w' => e = .returned (.string ty.text) ∧ Below q.val.heap.size q.val w' := fun q => by have := implFormatType d _ ty q.val (HTY.out.below (below_thru HBB.out (Nat.le_refl _) q.old)) HTZ.out; rw [format_good (co_ty HTF.out (by omega))] at this; exact this
          have hts := ty.text_size
          have htz := HTZ.out
          have CF : ∀ q : Grown wr.heap.size wr, Calls Tryd.prog 99 #[.agg #[.int .i64 fk, .slice fa fn fc]] q.val fun e w' => e = .returned (.string fr.text) ∧ Below q.val.heap.size q.val w' := fun q => by have := implFormatType d _ fr q.val (HFR.out.below (below_thru HBB.out (Nat.le_refl _) q.old)) HFZ.out; rw [format_good (co_fr HTF.out (by omega))] at this; exact this
          have hfs := fr.text_size
          have hfz := HFZ.out
          generalize ty.text = ts at CT HT2 hts
          generalize fr.text = fx at CF HT2 hfs
          have m0 : ¬ (9223372036854775807 < 1 + x0.size) := by omega
          have m1 : ¬ (9223372036854775807 < 1 + x0.size + 1) := by omega
          have m2 : ¬ (9223372036854775807 < 1 + x0.size + 1 + fx.size) := by omega
          have m3 : ¬ (9223372036854775807 < 1 + x0.size + 1 + fx.size + 1) := by omega
          have m4 : ¬ (9223372036854775807 < 1 + x0.size + 1 + fx.size + 1 + ts.size) := by omega
          have m5 : ¬ (9223372036854775807 < 1 + x0.size + 1 + fx.size + 1 + ts.size + 1) := by omega
          clear hnz hns hts htz hfs hfz htt s0
          go_wp2_with fail
          have g3 : ∀ q : Grown wr.heap.size wr, q.val.cell? ⟨pb, po + 3, none⟩ = _ := fun q => (q.old.cell (p := ⟨pb, po + 3, none⟩) (Nat.lt_of_lt_of_le hpl HBB.out.size)).trans b3
          have g4 : ∀ q : Grown wr.heap.size wr, q.val.cell? ⟨pb, po + 4, none⟩ = _ := fun q => (q.old.cell (p := ⟨pb, po + 4, none⟩) (Nat.lt_of_lt_of_le hpl HBB.out.size)).trans b4
          have g5 : ∀ q : Grown wr.heap.size wr, q.val.cell? ⟨pb, po + 5, none⟩ = _ := fun q => (q.old.cell (p := ⟨pb, po + 5, none⟩) (Nat.lt_of_lt_of_le hpl HBB.out.size)).trans b5
          have g6 : ∀ q : Grown wr.heap.size wr, q.val.cell? ⟨pb, po + 6, none⟩ = _ := fun q => (q.old.cell (p := ⟨pb, po + 6, none⟩) (Nat.lt_of_lt_of_le hpl HBB.out.size)).trans b6
          have ga : ∀ q : Grown wr.heap.size wr, q.val.cell? ⟨w.heap.size, 0, none⟩ = some (.string x0) := fun q => (q.old.cell (p := ⟨w.heap.size, 0, none⟩) C0.out.1).trans C0.out.2
          refine wp_region_grown wr.heap.size (by kernel_rfl) (by kernel_rfl) ?_
          repeat (go_big_quiet_step (first | (go_at_call 99; first | with_reducible exact grown_of (Nat.le_refl _) (CF _) | with_reducible exact grown_of (Nat.le_refl _) (CT _))))
          refine wpQuiet_nil ?_
          rintro _ ⟨⟨wq, hq⟩, rfl⟩
          go_wp2_with fail
          go_ret
          exact ⟨by rw [HT2.out]; rfl, below_thru HBF.out (Nat.le_refl _) hq⟩
end Go.Proofs.YtcohfbdhdngplaaDoor
