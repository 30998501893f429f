/-
  Proved: impl.typeAt's closure compound reads the rest of a type in brackets as rdC does; by it and parse every depth is read.
-/
import Derived.Test.YtgoohelkgaklgaaImplPenTy
namespace Go.Proofs.Ytgoohelkgaklgaa
open Go.RowKit

theorem sign_no {d : UInt8} {c : Int} (hc : c = (d.toNat : Int)) (h1 : ¬ c = 62) (h2 : ¬ c = 42) : signOf d = none := by
  have k : ∀ u : UInt8, d = u → c = (u.toNat : Int) := fun u e => by rw [hc, e]
  unfold signOf
  rw [if_neg (fun e => h1 (by have := k 62 e; simpa using this)), if_neg (fun e => h2 (by have := k 42 e; simpa using this))]
theorem char_of {d u : UInt8} {c : Int} (hc : c = (d.toNat : Int)) (h : c = (u.toNat : Int)) : d = u := UInt8.toNat_inj.1 (by omega)
set_option maxRecDepth 100000 in
set_option maxHeartbeats 8000000 in
theorem penComp (B n : Nat) (s : ByteArray) (hs : s.size ≤ 1048576) (IH : ParseSaid B n s) : CompSaid B n s := by
  intro p R x w hx hp hR h
  have HX := Lib.hid hx; clear hx
  have IHH := Lib.hid IH; clear IH
  have HB : Hid (B + 6 < w.heap.size) := Lib.hid h.top
  have XR : Hid (BoxAt (w.alloc (.cells #[.int .i64 0, .slice none 0 0] 26)) w.heap.size #[.int .i64 0, .slice none 0 0]) := BoxAt.new _ _ _
  have XF : Hid (FreeAt (w.alloc (.cells #[.int .i64 0, .slice none 0 0] 26)) w.heap.size) := FreeAt.new _ _ _
  have G : Hid (PenTo B w (w.alloc (.cells #[.int .i64 0, .slice none 0 0] 26))) := PenTo.of_below (below_alloc _ _) (by have := HB.out; omega)
  have HP := Lib.hid (h.below (below_alloc w (.cells #[.int .i64 0, .slice none 0 0] 26))); clear h
  have c5 := cell_of_row _ (B + 5) 0 _ _ _ HP.out.2.2.2.2.1
  have hz0 := XR.out.1
  go_enter Try.func39, Try.ntmps39
  go_wp2_with fail
  clear c5
  refine (IHH.out p R x _ HX.out hp hR HP.out).mono ?_
  rintro e w2 ⟨hg, hr⟩
  replace XR := Lib.hid (XR.out.beside hg.2 (Or.inr (by have := HB.out; omega)))
  replace XF := Lib.hid (XF.out.beside hg.2 (Or.inr (by have := HB.out; omega)))
  replace G := Lib.hid (G.out.trans hg)
  have hz2 := hg.2.1
  clear hg
  obtain ⟨o, ho⟩ : ∃ o, o = rdI n R (s.data.toList.drop p) := ⟨_, rfl⟩
  rw [← ho] at hr
  have HO := Lib.hid ho.symm; clear ho
  cases o with
  | none =>
    obtain ⟨q, R', rfl, hq, hP⟩ := hr
    replace HP := Lib.hid hP; clear hP
    have hb := below_alloc w2 (.cells #[.int .i64 0, .slice none 0 0] 26)
    replace XR := Lib.hid (XR.out.below hb)
    replace XF := Lib.hid (XF.out.below hb)
    replace G := Lib.hid (G.out.trans (PenTo.of_below hb (by have := HP.out.top; omega)))
    replace HP := Lib.hid (HP.out.below hb)
    clear hb
    have r0 := XR.out.2 0
    have r1 := XR.out.2 1
    have q0 := XF.out.2 0
    have q1 := XF.out.2 1
    go_wp2_with fail
    refine bodyPost_ret (v := .tuple #[.agg #[.int .i64 0, .slice none 0 0], .bool false]) (by simp [results, Try.results39, go_sem, r0, r1]) rfl ?_
    exact pen_no (rdC_first HO.out) ((G.out.far (j := 0) (Nat.le_refl _) (by have := HB.out; omega)).far (j := 1) (Nat.le_refl _) (by have := HB.out; omega)) hq ((HP.out.far (j := 0) (by have := HB.out; omega)).far (j := 1) (by have := HB.out; omega))
  | some tr =>
    obtain ⟨t, r, Q⟩ := tr
    obtain ⟨ak, aa, an, ac, q, fp, rfl, ht, hf, hrq, hq, hP⟩ := hr
    subst hrq
    replace HP := Lib.hid hP; clear hP
    have HT := Lib.hid ht; clear ht
    have HF := Lib.hid hf; clear hf
    obtain ⟨_, _, _, hRQ⟩ := rdI_sound _ _ _ _ _ _ HO.out
    have XA : Hid (BoxAt (w2.alloc (.cells #[.int .i64 ak, .slice aa an ac] 26)) w2.heap.size #[.int .i64 ak, .slice aa an ac]) := BoxAt.new _ _ _
    have hb := below_alloc w2 (.cells #[.int .i64 ak, .slice aa an ac] 26)
    replace XR := Lib.hid (XR.out.below hb)
    replace XF := Lib.hid (XF.out.below hb)
    replace HT := Lib.hid (HT.out.below hb)
    replace G := Lib.hid (G.out.trans (PenTo.of_below hb (by have := HP.out.top; omega)))
    replace HP := Lib.hid (HP.out.below hb)
    clear hb
    have c4 := cell_of_row _ (B + 4) 0 _ _ _ HP.out.2.2.2.1
    go_wp2_with fail
    clear c4
    refine (penNext B s q _ _ hs hq HP.out).mono ?_
    rintro e w3 ⟨c1, q1, rfl, hP, hg, hq1, hor⟩
    replace XR := Lib.hid (XR.out.beside hg.2 (Or.inr (by have := HB.out; omega)))
    replace XF := Lib.hid (XF.out.beside hg.2 (Or.inr (by have := HB.out; omega)))
    replace XA := Lib.hid (XA.out.beside hg.2 (Or.inr (by have := HB.out; omega)))
    replace HT := Lib.hid (own_pen HT.out HF.out hg (by have := HB.out; omega))
    replace G := Lib.hid (G.out.trans hg)
    replace HP := Lib.hid hP
    have hz3 := hg.2.1
    clear hP hg
    have HOR := Lib.hid hor; clear hor
    have c5 := cell_of_row _ (B + 5) 0 _ _ _ HP.out.2.2.2.2.1
    go_wp2_with fail
    clear c5
    have hz3a := XA.out.1
    refine (IHH.out q1 Q x _ HX.out hq1 (by omega) HP.out).mono ?_
    rintro e w4 ⟨hg, hr⟩
    replace XR := Lib.hid (XR.out.beside hg.2 (Or.inr (by have := HB.out; omega)))
    replace XF := Lib.hid (XF.out.beside hg.2 (Or.inr (by have := HB.out; omega)))
    replace XA := Lib.hid (XA.out.beside hg.2 (Or.inr (by have := HB.out; omega)))
    replace HT := Lib.hid (own_pen HT.out HF.out hg (by have := HB.out; omega))
    replace G := Lib.hid (G.out.trans hg)
    have hz4 := hg.2.1
    clear hg
    obtain ⟨o2, ho⟩ : ∃ o, o = rdI n Q (s.data.toList.drop q1) := ⟨_, rfl⟩
    rw [← ho] at hr
    have HO2 := Lib.hid ho.symm; clear ho
    cases o2 with
    | none =>
      obtain ⟨q2, R', rfl, hq2, hP⟩ := hr
      replace HP := Lib.hid hP; clear hP
      have hb := below_alloc w4 (.cells #[.int .i64 0, .slice none 0 0] 26)
      replace XR := Lib.hid (XR.out.below hb)
      replace XF := Lib.hid (XF.out.below hb)
      replace G := Lib.hid (G.out.trans (PenTo.of_below hb (by have := HP.out.top; omega)))
      replace HP := Lib.hid (HP.out.below hb)
      clear hb
      clear XA HT HF
      have r0 := XR.out.2 0
      have r1 := XR.out.2 1
      have q0 := XF.out.2 0
      have q1 := XF.out.2 1
      go_wp2_with fail
      refine bodyPost_ret (v := .tuple #[.agg #[.int .i64 0, .slice none 0 0], .bool false]) (by simp [results, Try.results39, go_sem, r0, r1]) rfl ?_
      exact pen_no (by rcases HOR.out with ⟨hlt, _, rfl⟩ | ⟨h0, _, _⟩; (exact rdC_second (d := s[q]) (by rw [← pen_at s q hlt]; exact HO.out) HO2.out); (exact rdC_cut (t := t) (by rw [← pen_end s q h0]; exact HO.out))) ((G.out.far (j := 0) (Nat.le_refl _) (by have := HB.out; omega)).far (j := 1) (Nat.le_refl _) (by have := HB.out; omega)) hq2 ((HP.out.far (j := 0) (by have := HB.out; omega)).far (j := 1) (by have := HB.out; omega))
    | some ur =>
      obtain ⟨u, r2, Q2⟩ := ur
      obtain ⟨bk, ba, bn, bc, q2, fp2, rfl, hu, hf2, hrq, hq2, hP⟩ := hr
      subst hrq
      replace HP := Lib.hid hP; clear hP
      have HU := Lib.hid hu; clear hu
      have HF2 := Lib.hid hf2; clear hf2
      obtain ⟨_, _, _, hRQ2⟩ := rdI_sound _ _ _ _ _ _ HO2.out
      obtain ⟨hlq, hcd, hqq⟩ : ∃ h : q < s.size, c1 = (s[q].toNat : Int) ∧ q1 = q + 1 := by
        rcases HOR.out with h | ⟨h0, _, h2⟩
        · exact h
        · have := HO2.out
          rw [h2, pen_end s q h0, rdI_nil] at this
          cases this
      have HD : Hid (rdI n R (s.data.toList.drop p) = some (t, s[q] :: s.data.toList.drop q1, Q)) := by show _ = _; rw [HO.out, hqq, pen_at s q hlq]
      have HCD := Lib.hid hcd
      clear hcd hqq HOR HO
      have XB : Hid (BoxAt (w4.alloc (.cells #[.int .i64 bk, .slice ba bn bc] 26)) w4.heap.size #[.int .i64 bk, .slice ba bn bc]) := BoxAt.new _ _ _
      have hb := below_alloc w4 (.cells #[.int .i64 bk, .slice ba bn bc] 26)
      replace XR := Lib.hid (XR.out.below hb)
      replace XF := Lib.hid (XF.out.below hb)
      replace XA := Lib.hid (XA.out.below hb)
      replace HT := Lib.hid (HT.out.below hb)
      replace HU := Lib.hid (HU.out.below hb)
      replace G := Lib.hid (G.out.trans (PenTo.of_below hb (by have := HP.out.top; omega)))
      replace HP := Lib.hid (HP.out.below hb)
      clear hb
      have c4 := cell_of_row _ (B + 4) 0 _ _ _ HP.out.2.2.2.1
      go_wp2_with fail
      clear c4
      refine (penNext B s q2 _ _ hs hq2 HP.out).mono ?_
      rintro e w5 ⟨c2, q3, rfl, hP, hg, hq3, hor⟩
      replace XR := Lib.hid (XR.out.beside hg.2 (Or.inr (by have := HB.out; omega)))
      replace XF := Lib.hid (XF.out.beside hg.2 (Or.inr (by have := HB.out; omega)))
      replace XA := Lib.hid (XA.out.beside hg.2 (Or.inr (by have := HB.out; omega)))
      replace XB := Lib.hid (XB.out.beside hg.2 (Or.inr (by have := HB.out; omega)))
      replace HT := Lib.hid (own_pen HT.out HF.out hg (by have := HB.out; omega))
      replace HU := Lib.hid (own_pen HU.out HF2.out hg (by have := HB.out; omega))
      replace G := Lib.hid (G.out.trans hg)
      replace HP := Lib.hid hP
      have hz5 := hg.2.1
      clear hP hg
      have HOR := Lib.hid hor; clear hor
      by_cases c41 : c2 = 41
      · have HC : Hid (∃ h : q2 < s.size, s[q2] = 41 ∧ q3 = q2 + 1) := pen_char HOR.out (by rw [c41]; decide) (by decide)
        clear HOR
        subst c41
        have HO3 : Hid (rdI n Q (s.data.toList.drop q1) = some (u, 41 :: s.data.toList.drop q3, Q2)) := by
          obtain ⟨h1, h2, h3⟩ := HC.out
          show _ = _
          rw [HO2.out, h3, pen_at s q2 h1, h2]
        clear HC HO2
        by_cases c62 : c1 = 62
        · have HSG : Hid (signOf s[q] = some 4) := by show _ = _; rw [char_of (u := 62) HCD.out (by rw [c62]; decide)]; rfl
          clear HCD
          subst c62
          have a0 := XA.out.2 0
          have a1 := XA.out.2 1
          have b0 := XB.out.2 0
          have b1 := XB.out.2 1
          go_wp2_with fail
          clear a0 a1 b0 b1
          refine (implArrowType n _ _ t u _ (by omega) (by omega) HT.out.at_ HU.out.at_).mono ?_
          rintro e w6 ⟨vz, fz, rfl, hz, hfz, hb⟩
          obtain ⟨zk, za, zn, zc, rfl⟩ := agg_parts hz.at_
          have HZ := Lib.hid hz; clear hz
          have HFZ := Lib.hid hfz; clear hfz
          have hzx := XR.out.1
          have hz6 := hb.size
          replace XR := Lib.hid (XR.out.below hb)
          replace XF := Lib.hid (XF.out.below hb)
          replace G := Lib.hid (G.out.trans (PenTo.of_below hb (by have := HP.out.top; omega)))
          replace HP := Lib.hid (HP.out.below hb)
          clear hb
          clear XA XB HT HU HF HF2
          have r0 := XR.out.2 0
          have r1 := XR.out.2 1
          have q0 := XF.out.2 0
          have q1 := XF.out.2 1
          go_wp2_with fail
          refine bodyPost_ret (v := .tuple #[.agg #[.int .i64 zk, .slice za zn zc], .bool true]) (by simp [results, Try.results39, go_sem, r0, r1]) rfl ?_
          refine ⟨((G.out.far (j := 0) (Nat.le_refl _) (by have := HB.out; omega)).far (j := 1) (Nat.le_refl _) (by have := HB.out; omega)), ?_⟩
          rw [rdC_node HD.out HO3.out HSG.out]
          exact ⟨zk, za, zn, zc, q3, fz, rfl, own_two_sets HZ.out HFZ.out (by omega), HFZ.out.mono (by omega) (by simp), rfl, hq3, ((HP.out.far (j := 0) (by have := HB.out; omega)).far (j := 1) (by have := HB.out; omega))⟩
        · have n62 : (c1 == 62) = false := by rw [beq_eq_false_iff_ne]; exact c62
          by_cases c42 : c1 = 42
          · have HSG : Hid (signOf s[q] = some 5) := by show _ = _; rw [char_of (u := 42) HCD.out (by rw [c42]; decide)]; rfl
            clear HCD
            subst c42
            have a0 := XA.out.2 0
            have a1 := XA.out.2 1
            have b0 := XB.out.2 0
            have b1 := XB.out.2 1
            go_wp2_with fail
            clear a0 a1 b0 b1
            refine (implPairType n _ _ t u _ (by omega) (by omega) HT.out.at_ HU.out.at_).mono ?_
            rintro e w6 ⟨vz, fz, rfl, hz, hfz, hb⟩
            obtain ⟨zk, za, zn, zc, rfl⟩ := agg_parts hz.at_
            have HZ := Lib.hid hz; clear hz
            have HFZ := Lib.hid hfz; clear hfz
            have hzx := XR.out.1
            have hz6 := hb.size
            replace XR := Lib.hid (XR.out.below hb)
            replace XF := Lib.hid (XF.out.below hb)
            replace G := Lib.hid (G.out.trans (PenTo.of_below hb (by have := HP.out.top; omega)))
            replace HP := Lib.hid (HP.out.below hb)
            clear hb
            clear XA XB HT HU HF HF2
            have r0 := XR.out.2 0
            have r1 := XR.out.2 1
            have q0 := XF.out.2 0
            have q1 := XF.out.2 1
            go_wp2_with fail
            refine bodyPost_ret (v := .tuple #[.agg #[.int .i64 zk, .slice za zn zc], .bool true]) (by simp [results, Try.results39, go_sem, r0, r1]) rfl ?_
            refine ⟨((G.out.far (j := 0) (Nat.le_refl _) (by have := HB.out; omega)).far (j := 1) (Nat.le_refl _) (by have := HB.out; omega)), ?_⟩
            rw [rdC_node HD.out HO3.out HSG.out]
            exact ⟨zk, za, zn, zc, q3, fz, rfl, own_two_sets HZ.out HFZ.out (by omega), HFZ.out.mono (by omega) (by simp), rfl, hq3, ((HP.out.far (j := 0) (by have := HB.out; omega)).far (j := 1) (by have := HB.out; omega))⟩
          · have n42 : (c1 == 42) = false := by rw [beq_eq_false_iff_ne]; exact c42
            clear XA XB HT HU HF HF2
            have r0 := XR.out.2 0
            have r1 := XR.out.2 1
            have q0 := XF.out.2 0
            have q1 := XF.out.2 1
            go_wp2_with fail
            refine bodyPost_ret (v := .tuple #[.agg #[.int .i64 0, .slice none 0 0], .bool false]) (by simp [results, Try.results39, go_sem, r0, r1]) rfl ?_
            exact pen_no (rdC_sign HD.out HO3.out (sign_no HCD.out c62 c42)) ((G.out.far (j := 0) (Nat.le_refl _) (by have := HB.out; omega)).far (j := 1) (Nat.le_refl _) (by have := HB.out; omega)) hq3 ((HP.out.far (j := 0) (by have := HB.out; omega)).far (j := 1) (by have := HB.out; omega))
      · have n41 : (c2 != 41) = true := by rw [bne_iff_ne]; exact c41
        clear XA XB HT HU HF HF2
        have r0 := XR.out.2 0
        have r1 := XR.out.2 1
        have q0 := XF.out.2 0
        have q1 := XF.out.2 1
        go_wp2_with fail
        refine bodyPost_ret (v := .tuple #[.agg #[.int .i64 0, .slice none 0 0], .bool false]) (by simp [results, Try.results39, go_sem, r0, r1]) rfl ?_
        exact pen_no (by by_cases hlt : q2 < s.size; (exact rdC_close HD.out (c := s[q2]) (by rw [← pen_at s q2 hlt]; exact HO2.out) (fun e => by rcases HOR.out with ⟨_, h1, _⟩ | ⟨h0, _, _⟩; (exact c41 (by rw [h1, e]; decide)); (exact h0 hlt))); (exact rdC_short HD.out (u := u) (by rw [← pen_end s q2 hlt]; exact HO2.out))) ((G.out.far (j := 0) (Nat.le_refl _) (by have := HB.out; omega)).far (j := 1) (Nat.le_refl _) (by have := HB.out; omega)) hq3 ((HP.out.far (j := 0) (by have := HB.out; omega)).far (j := 1) (by have := HB.out; omega))
theorem penAll (B : Nat) (s : ByteArray) (hs : s.size ≤ 1048576) : ∀ n, n ≤ 100 → ParseSaid B n s
  | 0, _ => penParse0 B s
  | n + 1, h => penParse B n s hs (by omega) (penComp B n s hs (penAll B s hs n (by omega)))
end Go.Proofs.Ytgoohelkgaklgaa
