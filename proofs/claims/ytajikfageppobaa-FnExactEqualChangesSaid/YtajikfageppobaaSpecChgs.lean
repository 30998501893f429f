/-
  Proved: spec.EqualChanges says whether two lists are equal; the memory that was there stays as it was.
-/
import Derived.Test.YtajikfageppobaaPeqChg
import Derived.Test.YtajikfageppobaaRecBase
import Derived.Test.YtajikfageppobaaHold
import Derived.Test.YtajikfageppobaaSpecExEqual
import Derived.Test.YtajikfageppobaaSpecInts
import Derived.BigQuiet
import Derived.Deep.QuietTactic
import Derived.Deep.RegionHeld3
namespace Go.Proofs.Ytajikfageppobaa
open Go.RowKit

set_option maxRecDepth 100000 in
set_option maxHeartbeats 8000000 in
theorem specChgs (d : Nat) (v1 v2 : Value) (cs bs : List Chg) (w : World) (h1 : ChgsAt w d v1 cs) (h2 : ChgsAt w d v2 bs) (hn1 : Chg.bulks cs ≤ 1048576) (hn2 : Chg.bulks bs ≤ 1048576) :
    Calls Try.prog 30 #[v1, v2] w fun e w' => e = .returned (.bool (Chg.beqs cs bs)) ∧ Below w.heap.size w w' := by
  obtain ⟨a1, cap1, rfl, hcap1, hm1, hat1⟩ := h1
  obtain ⟨a2, cap2, rfl, hcap2, hm2, hat2⟩ := h2
  have HA1 := Lib.hid hat1; clear hat1
  have HA2 := Lib.hid hat2; clear hat2
  by_cases hl : cs.length = bs.length
  case neg =>
    have HF := Lib.hid (Chg.beqs_len cs bs hl)
    have qb : ((cs.length : Int) != (bs.length : Int)) = true := by simp; omega
    go_enter Try.func30, Try.ntmps30
    go_wp2_with fail
    go_ret
    exact ⟨by rw [HF.out]; rfl, Below.refl _ _⟩
  case pos =>
    have qb0 : ((cs.length : Int) != (bs.length : Int)) = false := by simp; omega
    have HL := Lib.hid hl; clear hl
    go_enter Try.func30, Try.ntmps30
    go_wp2_with fail
    clear qb0
    go_loopw [5] (fun i wr => ∃ k : Nat, k ≤ cs.length ∧ i = .int .i64 k ∧ Chg.beqs (cs.take k) (bs.take k) = true ∧ Below w.heap.size w wr) (fun i _ => cs.length - (intOf i).toNat)
    case atStart => exact ⟨0, by omega, rfl, by simp [Chg.beqs], Below.refl _ _⟩
    case round =>
      obtain ⟨k, hk, rfl, hf, hb⟩ := hrel
      have HF := Lib.hid hf; clear hf
      have HB := Lib.hid hb; clear hb
      by_cases hlt : k < cs.length
      · have hlt2 : k < bs.length := by have := HL.out; omega
        obtain ⟨b1, off1, x0, x1, x2, x3, x4, x5, x6, rfl, hbl1, hc10, hc11, hc12, hc13, hc14, hc15, hc16, ht1⟩ := HA1.out k hlt
        obtain ⟨b2, off2, y0, y1, y2, y3, y4, y5, y6, rfl, hbl2, hc20, hc21, hc22, hc23, hc24, hc25, hc26, ht2⟩ := HA2.out k hlt2
        have hg1 : cs[k].bulk ≤ 1048576 := by have := Chg.bulk_get cs k hlt; omega
        have hg2 : bs[k].bulk ≤ 1048576 := by have := Chg.bulk_get bs k hlt2; omega
        have HTK := Lib.hid (Chg.beqs_take cs bs k hlt hlt2)
        have HBAD : Hid (cs[k].beq bs[k] = false → Chg.beqs cs bs = false) := fun h => Chg.beqs_bad hlt hlt2 HL.out h
        have K10 := Lib.hid hc10
        have K20 := Lib.hid hc20
        have K11 := Lib.hid hc11
        have K21 := Lib.hid hc21
        have K12 := Lib.hid hc12
        have K22 := Lib.hid hc22
        have K13 := Lib.hid hc13
        have K23 := Lib.hid hc23
        have K14 := Lib.hid hc14
        have K24 := Lib.hid hc24
        have K15 := Lib.hid hc15
        have K25 := Lib.hid hc25
        have K16 := Lib.hid hc16
        have K26 := Lib.hid hc26
        clear hc10 hc20 hc11 hc21 hc12 hc22 hc13 hc23 hc14 hc24 hc15 hc25 hc16 hc26
        have HR1 := Lib.hid ht1
        have HR2 := Lib.hid ht2
        clear ht1 ht2
        generalize cs[k] = c at HTK HBAD HR1 hg1
        generalize bs[k] = b at HTK HBAD HR2 hg2
        obtain ⟨s1, s2⟩ := c
        obtain ⟨t1, t2⟩ := b
        have HQ : Hid ((Chg.mk s1 s2).beq (Chg.mk t1 t2) = ((decide (s1 = t1)) && (Ex.beq s2 t2))) := rfl
        have hgb1 : (Chg.mk s1 s2).bulk = s1.length + s2.bulk := rfl
        have bo11 : s1.length ≤ 1048576 := by omega
        have bo12 : s2.bulk ≤ 1048576 := by omega
        have hgb2 : (Chg.mk t1 t2).bulk = t1.length + t2.bulk := rfl
        have bo21 : t1.length ≤ 1048576 := by omega
        have bo22 : t2.bulk ≤ 1048576 := by omega
        clear hg1 hg2 hgb1 hgb2
        obtain ⟨pba, pbn, pbc, pck, pcnm, pcm, pctk, pcta, pctn, pctc, pcsa, pcsn, pcsc, hv1, ph1, ph2⟩ := HR1.out
        obtain ⟨qba, qbn, qbc, qck, qcnm, qcm, qctk, qcta, qctn, qctc, qcsa, qcsn, qcsc, hv2, pk1, pk2⟩ := HR2.out
        injection hv1 with hv1
        injection hv1 with hv1
        simp only [List.cons.injEq, and_true] at hv1
        obtain ⟨rfl, rfl, rfl, rfl, rfl, rfl, rfl⟩ := hv1
        injection hv2 with hv2
        injection hv2 with hv2
        simp only [List.cons.injEq, and_true] at hv2
        obtain ⟨rfl, rfl, rfl, rfl, rfl, rfl, rfl⟩ := hv2
        dsimp only at ph1 ph2 pk1 pk2
        have HN := Lib.hid (HB.out.trans ((below_drew wr).mono HB.out.size))
        have H1 := Lib.hid (ph1.below HN.out)
        have H2 := Lib.hid (ph2.below HN.out)
        have J1 := Lib.hid (pk1.below HN.out)
        have J2 := Lib.hid (pk2.below HN.out)
        clear ph1 ph2 pk1 pk2 HR1 HR2
        go_wp2_with fail
        replace HB := HN
        clear HN
        cases q1 : decide (s1 = t1) with
        | false =>
          have HK := Lib.hid (HBAD.out (by rw [HQ.out, q1]; rfl))
          have Q1 := Lib.hid q1
          clear q1
          refine wp_region_held_drew (S := (fun w' => w'.cell? ⟨b1, off1 + k * 7, none⟩ = some (.slice pba pbn pbc) ∧ w'.cell? ⟨b1, off1 + k * 7 + 1, none⟩ = some (.int .i64 pck) ∧ w'.cell? ⟨b1, off1 + k * 7 + 2, none⟩ = some (.string pcnm) ∧ w'.cell? ⟨b1, off1 + k * 7 + 3, none⟩ = some (.int .i64 pcm) ∧ w'.cell? ⟨b1, off1 + k * 7 + 4, none⟩ = some (.int .i64 pctk) ∧ w'.cell? ⟨b1, off1 + k * 7 + 5, none⟩ = some (.slice pcta pctn pctc) ∧ w'.cell? ⟨b1, off1 + k * 7 + 6, none⟩ = some (.slice pcsa pcsn pcsc) ∧ w'.cell? ⟨b2, off2 + k * 7, none⟩ = some (.slice qba qbn qbc) ∧ w'.cell? ⟨b2, off2 + k * 7 + 1, none⟩ = some (.int .i64 qck) ∧ w'.cell? ⟨b2, off2 + k * 7 + 2, none⟩ = some (.string qcnm) ∧ w'.cell? ⟨b2, off2 + k * 7 + 3, none⟩ = some (.int .i64 qcm) ∧ w'.cell? ⟨b2, off2 + k * 7 + 4, none⟩ = some (.int .i64 qctk) ∧ w'.cell? ⟨b2, off2 + k * 7 + 5, none⟩ = some (.slice qcta qctn qctc) ∧ w'.cell? ⟨b2, off2 + k * 7 + 6, none⟩ = some (.slice qcsa qcsn qcsc))) (by kernel_rfl) (by exact ⟨(HB.out.cell (p := ⟨b1, off1 + k * 7, none⟩) hbl1).trans K10.out, (HB.out.cell (p := ⟨b1, off1 + k * 7 + 1, none⟩) hbl1).trans K11.out, (HB.out.cell (p := ⟨b1, off1 + k * 7 + 2, none⟩) hbl1).trans K12.out, (HB.out.cell (p := ⟨b1, off1 + k * 7 + 3, none⟩) hbl1).trans K13.out, (HB.out.cell (p := ⟨b1, off1 + k * 7 + 4, none⟩) hbl1).trans K14.out, (HB.out.cell (p := ⟨b1, off1 + k * 7 + 5, none⟩) hbl1).trans K15.out, (HB.out.cell (p := ⟨b1, off1 + k * 7 + 6, none⟩) hbl1).trans K16.out, (HB.out.cell (p := ⟨b2, off2 + k * 7, none⟩) hbl2).trans K20.out, (HB.out.cell (p := ⟨b2, off2 + k * 7 + 1, none⟩) hbl2).trans K21.out, (HB.out.cell (p := ⟨b2, off2 + k * 7 + 2, none⟩) hbl2).trans K22.out, (HB.out.cell (p := ⟨b2, off2 + k * 7 + 3, none⟩) hbl2).trans K23.out, (HB.out.cell (p := ⟨b2, off2 + k * 7 + 4, none⟩) hbl2).trans K24.out, (HB.out.cell (p := ⟨b2, off2 + k * 7 + 5, none⟩) hbl2).trans K25.out, (HB.out.cell (p := ⟨b2, off2 + k * 7 + 6, none⟩) hbl2).trans K26.out⟩) (fun hHeld => ?_)
          refine wpAnyH_take (i := 0) (v := ?v1_0) rfl (by kernel_rfl) (by kernel_rfl) (by kernel_rfl) (fun _ _ _ h => h) (Or.inl ⟨by rfl, ?hy1_0⟩) hHeld ?rest1_0
          case hy1_0 =>
            intro w hSw
            (try dsimp only at hSw)
            go_simp
            all_goals (first | done | with_reducible rfl)
          try simp only [Act.put]
          try simp only [List.setIfInBounds_toArray]
          try simp only [List.set_cons_succ]
          try simp only [List.set_cons_zero]
          refine wpAnyH_take (i := 1) (v := ?v2_1) rfl (by kernel_rfl) (by kernel_rfl) (by kernel_rfl) (fun _ _ _ h => h) (Or.inl ⟨by rfl, ?hy2_1⟩) hHeld ?rest2_1
          case hy2_1 =>
            intro w hSw
            (try dsimp only at hSw)
            go_simp
            all_goals (first | done | with_reducible rfl)
          try simp only [Act.put]
          try simp only [List.setIfInBounds_toArray]
          try simp only [List.set_cons_succ]
          try simp only [List.set_cons_zero]
          refine wpAnyH_take (i := 2) (v := ?v3_2) rfl (by kernel_rfl) (by kernel_rfl) (by kernel_rfl) (fun _ _ _ h => h) (Or.inl ⟨by rfl, ?hy3_2⟩) hHeld ?rest3_2
          case hy3_2 =>
            intro w hSw
            (try dsimp only at hSw)
            go_simp
            all_goals (first | done | with_reducible rfl)
          try simp only [Act.put]
          try simp only [List.setIfInBounds_toArray]
          try simp only [List.set_cons_succ]
          try simp only [List.set_cons_zero]
          refine wpAnyH_take (i := 3) (v := ?v4_3) rfl (by kernel_rfl) (by kernel_rfl) (by kernel_rfl) (fun _ _ _ h => h) (Or.inl ⟨by rfl, ?hy4_3⟩) hHeld ?rest4_3
          case hy4_3 =>
            intro w hSw
            (try dsimp only at hSw)
            go_simp
            all_goals (first | done | with_reducible rfl)
          try simp only [Act.put]
          try simp only [List.setIfInBounds_toArray]
          try simp only [List.set_cons_succ]
          try simp only [List.set_cons_zero]
          refine wpAnyH_take (i := 4) (v := ?v5_4) rfl (by kernel_rfl) (by kernel_rfl) (by kernel_rfl) (fun _ _ _ h => h) (Or.inl ⟨by rfl, ?hy5_4⟩) hHeld ?rest5_4
          case hy5_4 =>
            intro w hSw
            (try dsimp only at hSw)
            go_simp
            all_goals (first | done | with_reducible rfl)
          try simp only [Act.put]
          try simp only [List.setIfInBounds_toArray]
          try simp only [List.set_cons_succ]
          try simp only [List.set_cons_zero]
          refine wpAnyH_take (i := 5) (v := ?v6_5) rfl (by kernel_rfl) (by kernel_rfl) (by kernel_rfl) (fun _ _ _ h => h) (Or.inl ⟨by rfl, ?hy6_5⟩) hHeld ?rest6_5
          case hy6_5 =>
            intro w hSw
            (try dsimp only at hSw)
            go_simp
            all_goals (first | done | with_reducible rfl)
          try simp only [Act.put]
          try simp only [List.setIfInBounds_toArray]
          try simp only [List.set_cons_succ]
          try simp only [List.set_cons_zero]
          refine wpAnyH_take (i := 6) (v := ?v7_6) rfl (by kernel_rfl) (by kernel_rfl) (by kernel_rfl) (fun _ _ _ h => h) (Or.inl ⟨by rfl, ?hy7_6⟩) hHeld ?rest7_6
          case hy7_6 =>
            intro w hSw
            (try dsimp only at hSw)
            go_simp
            all_goals (first | done | with_reducible rfl)
          try simp only [Act.put]
          try simp only [List.setIfInBounds_toArray]
          try simp only [List.set_cons_succ]
          try simp only [List.set_cons_zero]
          refine wpAnyH_take (i := 7) (v := ?v8_7) rfl (by kernel_rfl) (by kernel_rfl) (by kernel_rfl) (fun _ _ _ h => h) (Or.inl ⟨by rfl, ?hy8_7⟩) hHeld ?rest8_7
          case hy8_7 =>
            intro w hSw
            (try dsimp only at hSw)
            go_simp
            all_goals (first | done | with_reducible rfl)
          try simp only [Act.put]
          try simp only [List.setIfInBounds_toArray]
          try simp only [List.set_cons_succ]
          try simp only [List.set_cons_zero]
          refine wpAnyH_take (i := 8) (v := ?v9_8) rfl (by kernel_rfl) (by kernel_rfl) (by kernel_rfl) (fun _ _ _ h => h) (Or.inl ⟨by rfl, ?hy9_8⟩) hHeld ?rest9_8
          case hy9_8 =>
            intro w hSw
            (try dsimp only at hSw)
            go_simp
            all_goals (first | done | with_reducible rfl)
          try simp only [Act.put]
          try simp only [List.setIfInBounds_toArray]
          try simp only [List.set_cons_succ]
          try simp only [List.set_cons_zero]
          refine wpAnyH_take (i := 9) (v := ?v10_9) rfl (by kernel_rfl) (by kernel_rfl) (by kernel_rfl) (fun _ _ _ h => h) (Or.inl ⟨by rfl, ?hy10_9⟩) hHeld ?rest10_9
          case hy10_9 =>
            intro w hSw
            (try dsimp only at hSw)
            go_simp
            all_goals (first | done | with_reducible rfl)
          try simp only [Act.put]
          try simp only [List.setIfInBounds_toArray]
          try simp only [List.set_cons_succ]
          try simp only [List.set_cons_zero]
          refine wpAnyH_ready (rs := [10]) (by kernel_rfl) (by simp) ?_
          refine AllReadyH.cons rfl (fun K hK => ?_) AllReadyH.nil
          go_simp
          go_at_call 60
          refine (specInts _ _ s1 t1 bo11 bo21 _ H1.out.1 J1.out.1).mono ?_
          rintro e wH1 ⟨he, hb⟩
          rw [Q1.out] at he
          subst he
          replace HB := Lib.hid (below_thru HB.out (Nat.le_refl _) hb)
          replace H2 := Lib.hid (H2.out.below hb)
          replace J2 := Lib.hid (J2.out.below hb)
          clear hb H1 J1
          clear hHeld
          try go_wp2_with fail
          refine hK.out _ _ (by exact ⟨(HB.out.cell (p := ⟨b1, off1 + k * 7, none⟩) hbl1).trans K10.out, (HB.out.cell (p := ⟨b1, off1 + k * 7 + 1, none⟩) hbl1).trans K11.out, (HB.out.cell (p := ⟨b1, off1 + k * 7 + 2, none⟩) hbl1).trans K12.out, (HB.out.cell (p := ⟨b1, off1 + k * 7 + 3, none⟩) hbl1).trans K13.out, (HB.out.cell (p := ⟨b1, off1 + k * 7 + 4, none⟩) hbl1).trans K14.out, (HB.out.cell (p := ⟨b1, off1 + k * 7 + 5, none⟩) hbl1).trans K15.out, (HB.out.cell (p := ⟨b1, off1 + k * 7 + 6, none⟩) hbl1).trans K16.out, (HB.out.cell (p := ⟨b2, off2 + k * 7, none⟩) hbl2).trans K20.out, (HB.out.cell (p := ⟨b2, off2 + k * 7 + 1, none⟩) hbl2).trans K21.out, (HB.out.cell (p := ⟨b2, off2 + k * 7 + 2, none⟩) hbl2).trans K22.out, (HB.out.cell (p := ⟨b2, off2 + k * 7 + 3, none⟩) hbl2).trans K23.out, (HB.out.cell (p := ⟨b2, off2 + k * 7 + 4, none⟩) hbl2).trans K24.out, (HB.out.cell (p := ⟨b2, off2 + k * 7 + 5, none⟩) hbl2).trans K25.out, (HB.out.cell (p := ⟨b2, off2 + k * 7 + 6, none⟩) hbl2).trans K26.out⟩) (fun hHeld => ?_)
          clear hK K
          try simp only [Act.put]
          try simp only [List.setIfInBounds_toArray]
          try simp only [List.set_cons_succ]
          try simp only [List.set_cons_zero]
          refine wpAnyH_take (i := 11) (v := ?v11_11) rfl (by kernel_rfl) (by kernel_rfl) (by kernel_rfl) (fun _ _ _ h => h) (Or.inl ⟨by rfl, ?hy11_11⟩) hHeld ?rest11_11
          case hy11_11 =>
            intro w hSw
            (try dsimp only at hSw)
            go_simp
            all_goals (first | done | with_reducible rfl)
          try simp only [Act.put]
          try simp only [List.setIfInBounds_toArray]
          try simp only [List.set_cons_succ]
          try simp only [List.set_cons_zero]
          refine wpAnyH_take (i := 12) (v := ?v12_12) rfl (by kernel_rfl) (by kernel_rfl) (by kernel_rfl) (fun _ _ _ h => h) (Or.inl ⟨by rfl, ?hy12_12⟩) hHeld ?rest12_12
          case hy12_12 =>
            intro w hSw
            (try dsimp only at hSw)
            go_simp
            all_goals (first | done | with_reducible rfl)
          try simp only [Act.put]
          try simp only [List.setIfInBounds_toArray]
          try simp only [List.set_cons_succ]
          try simp only [List.set_cons_zero]
          refine wpAnyH_take (i := 13) (v := undef) rfl (by kernel_rfl) (by kernel_rfl) (by kernel_rfl) (fun _ _ _ h => h) (Or.inr ⟨by kernel_rfl, rfl⟩) hHeld ?_
          try simp only [Act.put]
          try simp only [List.setIfInBounds_toArray]
          try simp only [List.set_cons_succ]
          try simp only [List.set_cons_zero]
          refine wpAnyH_take (i := 14) (v := undef) rfl (by kernel_rfl) (by kernel_rfl) (by kernel_rfl) (fun _ _ _ h => h) (Or.inr ⟨by kernel_rfl, rfl⟩) hHeld ?_
          try simp only [Act.put]
          try simp only [List.setIfInBounds_toArray]
          try simp only [List.set_cons_succ]
          try simp only [List.set_cons_zero]
          refine wpAnyH_take (i := 15) (v := undef) rfl (by kernel_rfl) (by kernel_rfl) (by kernel_rfl) (fun _ _ _ h => h) (Or.inr ⟨by kernel_rfl, rfl⟩) hHeld ?_
          try simp only [Act.put]
          try simp only [List.setIfInBounds_toArray]
          try simp only [List.set_cons_succ]
          try simp only [List.set_cons_zero]
          refine wpAnyH_take (i := 16) (v := undef) rfl (by kernel_rfl) (by kernel_rfl) (by kernel_rfl) (fun _ _ _ h => h) (Or.inr ⟨by kernel_rfl, rfl⟩) hHeld ?_
          try simp only [Act.put]
          try simp only [List.setIfInBounds_toArray]
          try simp only [List.set_cons_succ]
          try simp only [List.set_cons_zero]
          refine wpAnyH_take (i := 17) (v := undef) rfl (by kernel_rfl) (by kernel_rfl) (by kernel_rfl) (fun _ _ _ h => h) (Or.inr ⟨by kernel_rfl, rfl⟩) hHeld ?_
          try simp only [Act.put]
          try simp only [List.setIfInBounds_toArray]
          try simp only [List.set_cons_succ]
          try simp only [List.set_cons_zero]
          refine wpAnyH_take (i := 18) (v := undef) rfl (by kernel_rfl) (by kernel_rfl) (by kernel_rfl) (fun _ _ _ h => h) (Or.inr ⟨by kernel_rfl, rfl⟩) hHeld ?_
          try simp only [Act.put]
          try simp only [List.setIfInBounds_toArray]
          try simp only [List.set_cons_succ]
          try simp only [List.set_cons_zero]
          refine wpAnyH_take (i := 19) (v := undef) rfl (by kernel_rfl) (by kernel_rfl) (by kernel_rfl) (fun _ _ _ h => h) (Or.inr ⟨by kernel_rfl, rfl⟩) hHeld ?_
          try simp only [Act.put]
          try simp only [List.setIfInBounds_toArray]
          try simp only [List.set_cons_succ]
          try simp only [List.set_cons_zero]
          refine wpAnyH_take (i := 20) (v := undef) rfl (by kernel_rfl) (by kernel_rfl) (by kernel_rfl) (fun _ _ _ h => h) (Or.inr ⟨by kernel_rfl, rfl⟩) hHeld ?_
          try simp only [Act.put]
          try simp only [List.setIfInBounds_toArray]
          try simp only [List.set_cons_succ]
          try simp only [List.set_cons_zero]
          refine wpAnyH_take (i := 21) (v := undef) rfl (by kernel_rfl) (by kernel_rfl) (by kernel_rfl) (fun _ _ _ h => h) (Or.inr ⟨by kernel_rfl, rfl⟩) hHeld ?_
          try simp only [Act.put]
          try simp only [List.setIfInBounds_toArray]
          try simp only [List.set_cons_succ]
          try simp only [List.set_cons_zero]
          refine wpAnyH_take (i := 22) (v := undef) rfl (by kernel_rfl) (by kernel_rfl) (by kernel_rfl) (fun _ _ _ h => h) (Or.inr ⟨by kernel_rfl, rfl⟩) hHeld ?_
          try simp only [Act.put]
          try simp only [List.setIfInBounds_toArray]
          try simp only [List.set_cons_succ]
          try simp only [List.set_cons_zero]
          refine wpAnyH_take (i := 23) (v := undef) rfl (by kernel_rfl) (by kernel_rfl) (by kernel_rfl) (fun _ _ _ h => h) (Or.inr ⟨by kernel_rfl, rfl⟩) hHeld ?_
          try simp only [Act.put]
          try simp only [List.setIfInBounds_toArray]
          try simp only [List.set_cons_succ]
          try simp only [List.set_cons_zero]
          refine wpAnyH_take (i := 24) (v := undef) rfl (by kernel_rfl) (by kernel_rfl) (by kernel_rfl) (fun _ _ _ h => h) (Or.inr ⟨by kernel_rfl, rfl⟩) hHeld ?_
          try simp only [Act.put]
          try simp only [List.setIfInBounds_toArray]
          try simp only [List.set_cons_succ]
          try simp only [List.set_cons_zero]
          refine wpAnyH_take (i := 25) (v := ?v13_25) rfl (by kernel_rfl) (by kernel_rfl) (by kernel_rfl) (fun _ _ _ h => h) (Or.inl ⟨by rfl, ?hy13_25⟩) hHeld ?rest13_25
          case hy13_25 =>
            intro w hSw
            (try dsimp only at hSw)
            go_simp
            all_goals (first | done | with_reducible rfl)
          try simp only [Act.put]
          try simp only [List.setIfInBounds_toArray]
          try simp only [List.set_cons_succ]
          try simp only [List.set_cons_zero]
          refine wpAnyH_done (by kernel_rfl) ?_ _
          try simp only [List.getElem_toArray]
          try simp only [List.getElem_cons_succ]
          try simp only [List.getElem_cons_zero]
          try simp only [Act.put]
          try simp only [List.setIfInBounds_toArray]
          try simp only [List.set_cons_succ]
          try simp only [List.set_cons_zero]
          go_wp2_with fail
          go_ret
          exact ⟨by rw [HK.out]; rfl, HB.out⟩
        | true =>
          cases q2 : Ex.beq s2 t2 with
          | false =>
            have HK := Lib.hid (HBAD.out (by rw [HQ.out, q1, q2]; rfl))
            have Q1 := Lib.hid q1
            have Q2 := Lib.hid q2
            clear q1 q2
            refine wp_region_held_drew (S := (fun w' => w'.cell? ⟨b1, off1 + k * 7, none⟩ = some (.slice pba pbn pbc) ∧ w'.cell? ⟨b1, off1 + k * 7 + 1, none⟩ = some (.int .i64 pck) ∧ w'.cell? ⟨b1, off1 + k * 7 + 2, none⟩ = some (.string pcnm) ∧ w'.cell? ⟨b1, off1 + k * 7 + 3, none⟩ = some (.int .i64 pcm) ∧ w'.cell? ⟨b1, off1 + k * 7 + 4, none⟩ = some (.int .i64 pctk) ∧ w'.cell? ⟨b1, off1 + k * 7 + 5, none⟩ = some (.slice pcta pctn pctc) ∧ w'.cell? ⟨b1, off1 + k * 7 + 6, none⟩ = some (.slice pcsa pcsn pcsc) ∧ w'.cell? ⟨b2, off2 + k * 7, none⟩ = some (.slice qba qbn qbc) ∧ w'.cell? ⟨b2, off2 + k * 7 + 1, none⟩ = some (.int .i64 qck) ∧ w'.cell? ⟨b2, off2 + k * 7 + 2, none⟩ = some (.string qcnm) ∧ w'.cell? ⟨b2, off2 + k * 7 + 3, none⟩ = some (.int .i64 qcm) ∧ w'.cell? ⟨b2, off2 + k * 7 + 4, none⟩ = some (.int .i64 qctk) ∧ w'.cell? ⟨b2, off2 + k * 7 + 5, none⟩ = some (.slice qcta qctn qctc) ∧ w'.cell? ⟨b2, off2 + k * 7 + 6, none⟩ = some (.slice qcsa qcsn qcsc))) (by kernel_rfl) (by exact ⟨(HB.out.cell (p := ⟨b1, off1 + k * 7, none⟩) hbl1).trans K10.out, (HB.out.cell (p := ⟨b1, off1 + k * 7 + 1, none⟩) hbl1).trans K11.out, (HB.out.cell (p := ⟨b1, off1 + k * 7 + 2, none⟩) hbl1).trans K12.out, (HB.out.cell (p := ⟨b1, off1 + k * 7 + 3, none⟩) hbl1).trans K13.out, (HB.out.cell (p := ⟨b1, off1 + k * 7 + 4, none⟩) hbl1).trans K14.out, (HB.out.cell (p := ⟨b1, off1 + k * 7 + 5, none⟩) hbl1).trans K15.out, (HB.out.cell (p := ⟨b1, off1 + k * 7 + 6, none⟩) hbl1).trans K16.out, (HB.out.cell (p := ⟨b2, off2 + k * 7, none⟩) hbl2).trans K20.out, (HB.out.cell (p := ⟨b2, off2 + k * 7 + 1, none⟩) hbl2).trans K21.out, (HB.out.cell (p := ⟨b2, off2 + k * 7 + 2, none⟩) hbl2).trans K22.out, (HB.out.cell (p := ⟨b2, off2 + k * 7 + 3, none⟩) hbl2).trans K23.out, (HB.out.cell (p := ⟨b2, off2 + k * 7 + 4, none⟩) hbl2).trans K24.out, (HB.out.cell (p := ⟨b2, off2 + k * 7 + 5, none⟩) hbl2).trans K25.out, (HB.out.cell (p := ⟨b2, off2 + k * 7 + 6, none⟩) hbl2).trans K26.out⟩) (fun hHeld => ?_)
            refine wpAnyH_take (i := 0) (v := ?v14_0) rfl (by kernel_rfl) (by kernel_rfl) (by kernel_rfl) (fun _ _ _ h => h) (Or.inl ⟨by rfl, ?hy14_0⟩) hHeld ?rest14_0
            case hy14_0 =>
              intro w hSw
              (try dsimp only at hSw)
              go_simp
              all_goals (first | done | with_reducible rfl)
            try simp only [Act.put]
            try simp only [List.setIfInBounds_toArray]
            try simp only [List.set_cons_succ]
            try simp only [List.set_cons_zero]
            refine wpAnyH_take (i := 1) (v := ?v15_1) rfl (by kernel_rfl) (by kernel_rfl) (by kernel_rfl) (fun _ _ _ h => h) (Or.inl ⟨by rfl, ?hy15_1⟩) hHeld ?rest15_1
            case hy15_1 =>
              intro w hSw
              (try dsimp only at hSw)
              go_simp
              all_goals (first | done | with_reducible rfl)
            try simp only [Act.put]
            try simp only [List.setIfInBounds_toArray]
            try simp only [List.set_cons_succ]
            try simp only [List.set_cons_zero]
            refine wpAnyH_take (i := 2) (v := ?v16_2) rfl (by kernel_rfl) (by kernel_rfl) (by kernel_rfl) (fun _ _ _ h => h) (Or.inl ⟨by rfl, ?hy16_2⟩) hHeld ?rest16_2
            case hy16_2 =>
              intro w hSw
              (try dsimp only at hSw)
              go_simp
              all_goals (first | done | with_reducible rfl)
            try simp only [Act.put]
            try simp only [List.setIfInBounds_toArray]
            try simp only [List.set_cons_succ]
            try simp only [List.set_cons_zero]
            refine wpAnyH_take (i := 3) (v := ?v17_3) rfl (by kernel_rfl) (by kernel_rfl) (by kernel_rfl) (fun _ _ _ h => h) (Or.inl ⟨by rfl, ?hy17_3⟩) hHeld ?rest17_3
            case hy17_3 =>
              intro w hSw
              (try dsimp only at hSw)
              go_simp
              all_goals (first | done | with_reducible rfl)
            try simp only [Act.put]
            try simp only [List.setIfInBounds_toArray]
            try simp only [List.set_cons_succ]
            try simp only [List.set_cons_zero]
            refine wpAnyH_take (i := 4) (v := ?v18_4) rfl (by kernel_rfl) (by kernel_rfl) (by kernel_rfl) (fun _ _ _ h => h) (Or.inl ⟨by rfl, ?hy18_4⟩) hHeld ?rest18_4
            case hy18_4 =>
              intro w hSw
              (try dsimp only at hSw)
              go_simp
              all_goals (first | done | with_reducible rfl)
            try simp only [Act.put]
            try simp only [List.setIfInBounds_toArray]
            try simp only [List.set_cons_succ]
            try simp only [List.set_cons_zero]
            refine wpAnyH_take (i := 5) (v := ?v19_5) rfl (by kernel_rfl) (by kernel_rfl) (by kernel_rfl) (fun _ _ _ h => h) (Or.inl ⟨by rfl, ?hy19_5⟩) hHeld ?rest19_5
            case hy19_5 =>
              intro w hSw
              (try dsimp only at hSw)
              go_simp
              all_goals (first | done | with_reducible rfl)
            try simp only [Act.put]
            try simp only [List.setIfInBounds_toArray]
            try simp only [List.set_cons_succ]
            try simp only [List.set_cons_zero]
            refine wpAnyH_take (i := 6) (v := ?v20_6) rfl (by kernel_rfl) (by kernel_rfl) (by kernel_rfl) (fun _ _ _ h => h) (Or.inl ⟨by rfl, ?hy20_6⟩) hHeld ?rest20_6
            case hy20_6 =>
              intro w hSw
              (try dsimp only at hSw)
              go_simp
              all_goals (first | done | with_reducible rfl)
            try simp only [Act.put]
            try simp only [List.setIfInBounds_toArray]
            try simp only [List.set_cons_succ]
            try simp only [List.set_cons_zero]
            refine wpAnyH_take (i := 7) (v := ?v21_7) rfl (by kernel_rfl) (by kernel_rfl) (by kernel_rfl) (fun _ _ _ h => h) (Or.inl ⟨by rfl, ?hy21_7⟩) hHeld ?rest21_7
            case hy21_7 =>
              intro w hSw
              (try dsimp only at hSw)
              go_simp
              all_goals (first | done | with_reducible rfl)
            try simp only [Act.put]
            try simp only [List.setIfInBounds_toArray]
            try simp only [List.set_cons_succ]
            try simp only [List.set_cons_zero]
            refine wpAnyH_take (i := 8) (v := ?v22_8) rfl (by kernel_rfl) (by kernel_rfl) (by kernel_rfl) (fun _ _ _ h => h) (Or.inl ⟨by rfl, ?hy22_8⟩) hHeld ?rest22_8
            case hy22_8 =>
              intro w hSw
              (try dsimp only at hSw)
              go_simp
              all_goals (first | done | with_reducible rfl)
            try simp only [Act.put]
            try simp only [List.setIfInBounds_toArray]
            try simp only [List.set_cons_succ]
            try simp only [List.set_cons_zero]
            refine wpAnyH_take (i := 9) (v := ?v23_9) rfl (by kernel_rfl) (by kernel_rfl) (by kernel_rfl) (fun _ _ _ h => h) (Or.inl ⟨by rfl, ?hy23_9⟩) hHeld ?rest23_9
            case hy23_9 =>
              intro w hSw
              (try dsimp only at hSw)
              go_simp
              all_goals (first | done | with_reducible rfl)
            try simp only [Act.put]
            try simp only [List.setIfInBounds_toArray]
            try simp only [List.set_cons_succ]
            try simp only [List.set_cons_zero]
            refine wpAnyH_ready (rs := [10]) (by kernel_rfl) (by simp) ?_
            refine AllReadyH.cons rfl (fun K hK => ?_) AllReadyH.nil
            go_simp
            go_at_call 60
            refine (specInts _ _ s1 t1 bo11 bo21 _ H1.out.1 J1.out.1).mono ?_
            rintro e wH1 ⟨he, hb⟩
            rw [Q1.out] at he
            subst he
            replace HB := Lib.hid (below_thru HB.out (Nat.le_refl _) hb)
            replace H2 := Lib.hid (H2.out.below hb)
            replace J2 := Lib.hid (J2.out.below hb)
            clear hb H1 J1
            clear hHeld
            try go_wp2_with fail
            refine hK.out _ _ (by exact ⟨(HB.out.cell (p := ⟨b1, off1 + k * 7, none⟩) hbl1).trans K10.out, (HB.out.cell (p := ⟨b1, off1 + k * 7 + 1, none⟩) hbl1).trans K11.out, (HB.out.cell (p := ⟨b1, off1 + k * 7 + 2, none⟩) hbl1).trans K12.out, (HB.out.cell (p := ⟨b1, off1 + k * 7 + 3, none⟩) hbl1).trans K13.out, (HB.out.cell (p := ⟨b1, off1 + k * 7 + 4, none⟩) hbl1).trans K14.out, (HB.out.cell (p := ⟨b1, off1 + k * 7 + 5, none⟩) hbl1).trans K15.out, (HB.out.cell (p := ⟨b1, off1 + k * 7 + 6, none⟩) hbl1).trans K16.out, (HB.out.cell (p := ⟨b2, off2 + k * 7, none⟩) hbl2).trans K20.out, (HB.out.cell (p := ⟨b2, off2 + k * 7 + 1, none⟩) hbl2).trans K21.out, (HB.out.cell (p := ⟨b2, off2 + k * 7 + 2, none⟩) hbl2).trans K22.out, (HB.out.cell (p := ⟨b2, off2 + k * 7 + 3, none⟩) hbl2).trans K23.out, (HB.out.cell (p := ⟨b2, off2 + k * 7 + 4, none⟩) hbl2).trans K24.out, (HB.out.cell (p := ⟨b2, off2 + k * 7 + 5, none⟩) hbl2).trans K25.out, (HB.out.cell (p := ⟨b2, off2 + k * 7 + 6, none⟩) hbl2).trans K26.out⟩) (fun hHeld => ?_)
            clear hK K
            try simp only [Act.put]
            try simp only [List.setIfInBounds_toArray]
            try simp only [List.set_cons_succ]
            try simp only [List.set_cons_zero]
            refine wpAnyH_take (i := 11) (v := ?v24_11) rfl (by kernel_rfl) (by kernel_rfl) (by kernel_rfl) (fun _ _ _ h => h) (Or.inl ⟨by rfl, ?hy24_11⟩) hHeld ?rest24_11
            case hy24_11 =>
              intro w hSw
              (try dsimp only at hSw)
              go_simp
              all_goals (first | done | with_reducible rfl)
            try simp only [Act.put]
            try simp only [List.setIfInBounds_toArray]
            try simp only [List.set_cons_succ]
            try simp only [List.set_cons_zero]
            refine wpAnyH_take (i := 12) (v := ?v25_12) rfl (by kernel_rfl) (by kernel_rfl) (by kernel_rfl) (fun _ _ _ h => h) (Or.inl ⟨by rfl, ?hy25_12⟩) hHeld ?rest25_12
            case hy25_12 =>
              intro w hSw
              (try dsimp only at hSw)
              go_simp
              all_goals (first | done | with_reducible rfl)
            try simp only [Act.put]
            try simp only [List.setIfInBounds_toArray]
            try simp only [List.set_cons_succ]
            try simp only [List.set_cons_zero]
            refine wpAnyH_take (i := 13) (v := ?v26_13) rfl (by kernel_rfl) (by kernel_rfl) (by kernel_rfl) (fun _ _ _ h => h) (Or.inl ⟨by kernel_rfl, ?hy26_13⟩) hHeld ?rest26_13
            case hy26_13 =>
              intro w hSw
              (try dsimp only at hSw)
              go_simp
              all_goals (first | done | with_reducible rfl)
            try simp only [Act.put]
            try simp only [List.setIfInBounds_toArray]
            try simp only [List.set_cons_succ]
            try simp only [List.set_cons_zero]
            refine wpAnyH_take (i := 14) (v := ?v27_14) rfl (by kernel_rfl) (by kernel_rfl) (by kernel_rfl) (fun _ _ _ h => h) (Or.inl ⟨by kernel_rfl, ?hy27_14⟩) hHeld ?rest27_14
            case hy27_14 =>
              intro w hSw
              (try dsimp only at hSw)
              go_simp
              all_goals (first | done | with_reducible rfl)
            try simp only [Act.put]
            try simp only [List.setIfInBounds_toArray]
            try simp only [List.set_cons_succ]
            try simp only [List.set_cons_zero]
            refine wpAnyH_take (i := 15) (v := ?v28_15) rfl (by kernel_rfl) (by kernel_rfl) (by kernel_rfl) (fun _ _ _ h => h) (Or.inl ⟨by kernel_rfl, ?hy28_15⟩) hHeld ?rest28_15
            case hy28_15 =>
              intro w hSw
              (try dsimp only at hSw)
              go_simp
              all_goals (first | done | with_reducible rfl)
            try simp only [Act.put]
            try simp only [List.setIfInBounds_toArray]
            try simp only [List.set_cons_succ]
            try simp only [List.set_cons_zero]
            refine wpAnyH_take (i := 16) (v := ?v29_16) rfl (by kernel_rfl) (by kernel_rfl) (by kernel_rfl) (fun _ _ _ h => h) (Or.inl ⟨by kernel_rfl, ?hy29_16⟩) hHeld ?rest29_16
            case hy29_16 =>
              intro w hSw
              (try dsimp only at hSw)
              go_simp
              all_goals (first | done | with_reducible rfl)
            try simp only [Act.put]
            try simp only [List.setIfInBounds_toArray]
            try simp only [List.set_cons_succ]
            try simp only [List.set_cons_zero]
            refine wpAnyH_take (i := 17) (v := ?v30_17) rfl (by kernel_rfl) (by kernel_rfl) (by kernel_rfl) (fun _ _ _ h => h) (Or.inl ⟨by kernel_rfl, ?hy30_17⟩) hHeld ?rest30_17
            case hy30_17 =>
              intro w hSw
              (try dsimp only at hSw)
              go_simp
              all_goals (first | done | with_reducible rfl)
            try simp only [Act.put]
            try simp only [List.setIfInBounds_toArray]
            try simp only [List.set_cons_succ]
            try simp only [List.set_cons_zero]
            refine wpAnyH_take (i := 18) (v := ?v31_18) rfl (by kernel_rfl) (by kernel_rfl) (by kernel_rfl) (fun _ _ _ h => h) (Or.inl ⟨by kernel_rfl, ?hy31_18⟩) hHeld ?rest31_18
            case hy31_18 =>
              intro w hSw
              (try dsimp only at hSw)
              go_simp
              all_goals (first | done | with_reducible rfl)
            try simp only [Act.put]
            try simp only [List.setIfInBounds_toArray]
            try simp only [List.set_cons_succ]
            try simp only [List.set_cons_zero]
            refine wpAnyH_take (i := 19) (v := ?v32_19) rfl (by kernel_rfl) (by kernel_rfl) (by kernel_rfl) (fun _ _ _ h => h) (Or.inl ⟨by kernel_rfl, ?hy32_19⟩) hHeld ?rest32_19
            case hy32_19 =>
              intro w hSw
              (try dsimp only at hSw)
              go_simp
              all_goals (first | done | with_reducible rfl)
            try simp only [Act.put]
            try simp only [List.setIfInBounds_toArray]
            try simp only [List.set_cons_succ]
            try simp only [List.set_cons_zero]
            refine wpAnyH_take (i := 20) (v := ?v33_20) rfl (by kernel_rfl) (by kernel_rfl) (by kernel_rfl) (fun _ _ _ h => h) (Or.inl ⟨by kernel_rfl, ?hy33_20⟩) hHeld ?rest33_20
            case hy33_20 =>
              intro w hSw
              (try dsimp only at hSw)
              go_simp
              all_goals (first | done | with_reducible rfl)
            try simp only [Act.put]
            try simp only [List.setIfInBounds_toArray]
            try simp only [List.set_cons_succ]
            try simp only [List.set_cons_zero]
            refine wpAnyH_take (i := 21) (v := ?v34_21) rfl (by kernel_rfl) (by kernel_rfl) (by kernel_rfl) (fun _ _ _ h => h) (Or.inl ⟨by kernel_rfl, ?hy34_21⟩) hHeld ?rest34_21
            case hy34_21 =>
              intro w hSw
              (try dsimp only at hSw)
              go_simp
              all_goals (first | done | with_reducible rfl)
            try simp only [Act.put]
            try simp only [List.setIfInBounds_toArray]
            try simp only [List.set_cons_succ]
            try simp only [List.set_cons_zero]
            refine wpAnyH_take (i := 22) (v := ?v35_22) rfl (by kernel_rfl) (by kernel_rfl) (by kernel_rfl) (fun _ _ _ h => h) (Or.inl ⟨by kernel_rfl, ?hy35_22⟩) hHeld ?rest35_22
            case hy35_22 =>
              intro w hSw
              (try dsimp only at hSw)
              go_simp
              all_goals (first | done | with_reducible rfl)
            try simp only [Act.put]
            try simp only [List.setIfInBounds_toArray]
            try simp only [List.set_cons_succ]
            try simp only [List.set_cons_zero]
            refine wpAnyH_ready (rs := [23]) (by kernel_rfl) (by simp) ?_
            refine AllReadyH.cons rfl (fun K hK => ?_) AllReadyH.nil
            go_simp
            go_at_call 61
            refine (specExEqual d _ _ s2 t2 _ H2.out J2.out).mono ?_
            rintro e wH2 ⟨he, hb⟩
            rw [Q2.out] at he
            subst he
            replace HB := Lib.hid (below_thru HB.out (Nat.le_refl _) hb)
            clear hb H2 J2
            clear hHeld
            try go_wp2_with fail
            refine hK.out _ _ (by exact ⟨(HB.out.cell (p := ⟨b1, off1 + k * 7, none⟩) hbl1).trans K10.out, (HB.out.cell (p := ⟨b1, off1 + k * 7 + 1, none⟩) hbl1).trans K11.out, (HB.out.cell (p := ⟨b1, off1 + k * 7 + 2, none⟩) hbl1).trans K12.out, (HB.out.cell (p := ⟨b1, off1 + k * 7 + 3, none⟩) hbl1).trans K13.out, (HB.out.cell (p := ⟨b1, off1 + k * 7 + 4, none⟩) hbl1).trans K14.out, (HB.out.cell (p := ⟨b1, off1 + k * 7 + 5, none⟩) hbl1).trans K15.out, (HB.out.cell (p := ⟨b1, off1 + k * 7 + 6, none⟩) hbl1).trans K16.out, (HB.out.cell (p := ⟨b2, off2 + k * 7, none⟩) hbl2).trans K20.out, (HB.out.cell (p := ⟨b2, off2 + k * 7 + 1, none⟩) hbl2).trans K21.out, (HB.out.cell (p := ⟨b2, off2 + k * 7 + 2, none⟩) hbl2).trans K22.out, (HB.out.cell (p := ⟨b2, off2 + k * 7 + 3, none⟩) hbl2).trans K23.out, (HB.out.cell (p := ⟨b2, off2 + k * 7 + 4, none⟩) hbl2).trans K24.out, (HB.out.cell (p := ⟨b2, off2 + k * 7 + 5, none⟩) hbl2).trans K25.out, (HB.out.cell (p := ⟨b2, off2 + k * 7 + 6, none⟩) hbl2).trans K26.out⟩) (fun hHeld => ?_)
            clear hK K
            try simp only [Act.put]
            try simp only [List.setIfInBounds_toArray]
            try simp only [List.set_cons_succ]
            try simp only [List.set_cons_zero]
            refine wpAnyH_take (i := 24) (v := ?v36_24) rfl (by kernel_rfl) (by kernel_rfl) (by kernel_rfl) (fun _ _ _ h => h) (Or.inl ⟨by kernel_rfl, ?hy36_24⟩) hHeld ?rest36_24
            case hy36_24 =>
              intro w hSw
              (try dsimp only at hSw)
              go_simp
              all_goals (first | done | with_reducible rfl)
            try simp only [Act.put]
            try simp only [List.setIfInBounds_toArray]
            try simp only [List.set_cons_succ]
            try simp only [List.set_cons_zero]
            refine wpAnyH_take (i := 25) (v := ?v37_25) rfl (by kernel_rfl) (by kernel_rfl) (by kernel_rfl) (fun _ _ _ h => h) (Or.inl ⟨by rfl, ?hy37_25⟩) hHeld ?rest37_25
            case hy37_25 =>
              intro w hSw
              (try dsimp only at hSw)
              go_simp
              all_goals (first | done | with_reducible rfl)
            try simp only [Act.put]
            try simp only [List.setIfInBounds_toArray]
            try simp only [List.set_cons_succ]
            try simp only [List.set_cons_zero]
            refine wpAnyH_done (by kernel_rfl) ?_ _
            try simp only [List.getElem_toArray]
            try simp only [List.getElem_cons_succ]
            try simp only [List.getElem_cons_zero]
            try simp only [Act.put]
            try simp only [List.setIfInBounds_toArray]
            try simp only [List.set_cons_succ]
            try simp only [List.set_cons_zero]
            go_wp2_with fail
            go_ret
            exact ⟨by rw [HK.out]; rfl, HB.out⟩
          | true =>
            have HK : Hid (Chg.beqs (cs.take (k + 1)) (bs.take (k + 1)) = true) := by show _ = _; rw [HTK.out, HF.out, HQ.out, q1, q2]; rfl
            have Q1 := Lib.hid q1
            have Q2 := Lib.hid q2
            clear q1 q2
            refine wp_region_held_drew (S := (fun w' => w'.cell? ⟨b1, off1 + k * 7, none⟩ = some (.slice pba pbn pbc) ∧ w'.cell? ⟨b1, off1 + k * 7 + 1, none⟩ = some (.int .i64 pck) ∧ w'.cell? ⟨b1, off1 + k * 7 + 2, none⟩ = some (.string pcnm) ∧ w'.cell? ⟨b1, off1 + k * 7 + 3, none⟩ = some (.int .i64 pcm) ∧ w'.cell? ⟨b1, off1 + k * 7 + 4, none⟩ = some (.int .i64 pctk) ∧ w'.cell? ⟨b1, off1 + k * 7 + 5, none⟩ = some (.slice pcta pctn pctc) ∧ w'.cell? ⟨b1, off1 + k * 7 + 6, none⟩ = some (.slice pcsa pcsn pcsc) ∧ w'.cell? ⟨b2, off2 + k * 7, none⟩ = some (.slice qba qbn qbc) ∧ w'.cell? ⟨b2, off2 + k * 7 + 1, none⟩ = some (.int .i64 qck) ∧ w'.cell? ⟨b2, off2 + k * 7 + 2, none⟩ = some (.string qcnm) ∧ w'.cell? ⟨b2, off2 + k * 7 + 3, none⟩ = some (.int .i64 qcm) ∧ w'.cell? ⟨b2, off2 + k * 7 + 4, none⟩ = some (.int .i64 qctk) ∧ w'.cell? ⟨b2, off2 + k * 7 + 5, none⟩ = some (.slice qcta qctn qctc) ∧ w'.cell? ⟨b2, off2 + k * 7 + 6, none⟩ = some (.slice qcsa qcsn qcsc))) (by kernel_rfl) (by exact ⟨(HB.out.cell (p := ⟨b1, off1 + k * 7, none⟩) hbl1).trans K10.out, (HB.out.cell (p := ⟨b1, off1 + k * 7 + 1, none⟩) hbl1).trans K11.out, (HB.out.cell (p := ⟨b1, off1 + k * 7 + 2, none⟩) hbl1).trans K12.out, (HB.out.cell (p := ⟨b1, off1 + k * 7 + 3, none⟩) hbl1).trans K13.out, (HB.out.cell (p := ⟨b1, off1 + k * 7 + 4, none⟩) hbl1).trans K14.out, (HB.out.cell (p := ⟨b1, off1 + k * 7 + 5, none⟩) hbl1).trans K15.out, (HB.out.cell (p := ⟨b1, off1 + k * 7 + 6, none⟩) hbl1).trans K16.out, (HB.out.cell (p := ⟨b2, off2 + k * 7, none⟩) hbl2).trans K20.out, (HB.out.cell (p := ⟨b2, off2 + k * 7 + 1, none⟩) hbl2).trans K21.out, (HB.out.cell (p := ⟨b2, off2 + k * 7 + 2, none⟩) hbl2).trans K22.out, (HB.out.cell (p := ⟨b2, off2 + k * 7 + 3, none⟩) hbl2).trans K23.out, (HB.out.cell (p := ⟨b2, off2 + k * 7 + 4, none⟩) hbl2).trans K24.out, (HB.out.cell (p := ⟨b2, off2 + k * 7 + 5, none⟩) hbl2).trans K25.out, (HB.out.cell (p := ⟨b2, off2 + k * 7 + 6, none⟩) hbl2).trans K26.out⟩) (fun hHeld => ?_)
            refine wpAnyH_take (i := 0) (v := ?v38_0) rfl (by kernel_rfl) (by kernel_rfl) (by kernel_rfl) (fun _ _ _ h => h) (Or.inl ⟨by rfl, ?hy38_0⟩) hHeld ?rest38_0
            case hy38_0 =>
              intro w hSw
              (try dsimp only at hSw)
              go_simp
              all_goals (first | done | with_reducible rfl)
            try simp only [Act.put]
            try simp only [List.setIfInBounds_toArray]
            try simp only [List.set_cons_succ]
            try simp only [List.set_cons_zero]
            refine wpAnyH_take (i := 1) (v := ?v39_1) rfl (by kernel_rfl) (by kernel_rfl) (by kernel_rfl) (fun _ _ _ h => h) (Or.inl ⟨by rfl, ?hy39_1⟩) hHeld ?rest39_1
            case hy39_1 =>
              intro w hSw
              (try dsimp only at hSw)
              go_simp
              all_goals (first | done | with_reducible rfl)
            try simp only [Act.put]
            try simp only [List.setIfInBounds_toArray]
            try simp only [List.set_cons_succ]
            try simp only [List.set_cons_zero]
            refine wpAnyH_take (i := 2) (v := ?v40_2) rfl (by kernel_rfl) (by kernel_rfl) (by kernel_rfl) (fun _ _ _ h => h) (Or.inl ⟨by rfl, ?hy40_2⟩) hHeld ?rest40_2
            case hy40_2 =>
              intro w hSw
              (try dsimp only at hSw)
              go_simp
              all_goals (first | done | with_reducible rfl)
            try simp only [Act.put]
            try simp only [List.setIfInBounds_toArray]
            try simp only [List.set_cons_succ]
            try simp only [List.set_cons_zero]
            refine wpAnyH_take (i := 3) (v := ?v41_3) rfl (by kernel_rfl) (by kernel_rfl) (by kernel_rfl) (fun _ _ _ h => h) (Or.inl ⟨by rfl, ?hy41_3⟩) hHeld ?rest41_3
            case hy41_3 =>
              intro w hSw
              (try dsimp only at hSw)
              go_simp
              all_goals (first | done | with_reducible rfl)
            try simp only [Act.put]
            try simp only [List.setIfInBounds_toArray]
            try simp only [List.set_cons_succ]
            try simp only [List.set_cons_zero]
            refine wpAnyH_take (i := 4) (v := ?v42_4) rfl (by kernel_rfl) (by kernel_rfl) (by kernel_rfl) (fun _ _ _ h => h) (Or.inl ⟨by rfl, ?hy42_4⟩) hHeld ?rest42_4
            case hy42_4 =>
              intro w hSw
              (try dsimp only at hSw)
              go_simp
              all_goals (first | done | with_reducible rfl)
            try simp only [Act.put]
            try simp only [List.setIfInBounds_toArray]
            try simp only [List.set_cons_succ]
            try simp only [List.set_cons_zero]
            refine wpAnyH_take (i := 5) (v := ?v43_5) rfl (by kernel_rfl) (by kernel_rfl) (by kernel_rfl) (fun _ _ _ h => h) (Or.inl ⟨by rfl, ?hy43_5⟩) hHeld ?rest43_5
            case hy43_5 =>
              intro w hSw
              (try dsimp only at hSw)
              go_simp
              all_goals (first | done | with_reducible rfl)
            try simp only [Act.put]
            try simp only [List.setIfInBounds_toArray]
            try simp only [List.set_cons_succ]
            try simp only [List.set_cons_zero]
            refine wpAnyH_take (i := 6) (v := ?v44_6) rfl (by kernel_rfl) (by kernel_rfl) (by kernel_rfl) (fun _ _ _ h => h) (Or.inl ⟨by rfl, ?hy44_6⟩) hHeld ?rest44_6
            case hy44_6 =>
              intro w hSw
              (try dsimp only at hSw)
              go_simp
              all_goals (first | done | with_reducible rfl)
            try simp only [Act.put]
            try simp only [List.setIfInBounds_toArray]
            try simp only [List.set_cons_succ]
            try simp only [List.set_cons_zero]
            refine wpAnyH_take (i := 7) (v := ?v45_7) rfl (by kernel_rfl) (by kernel_rfl) (by kernel_rfl) (fun _ _ _ h => h) (Or.inl ⟨by rfl, ?hy45_7⟩) hHeld ?rest45_7
            case hy45_7 =>
              intro w hSw
              (try dsimp only at hSw)
              go_simp
              all_goals (first | done | with_reducible rfl)
            try simp only [Act.put]
            try simp only [List.setIfInBounds_toArray]
            try simp only [List.set_cons_succ]
            try simp only [List.set_cons_zero]
            refine wpAnyH_take (i := 8) (v := ?v46_8) rfl (by kernel_rfl) (by kernel_rfl) (by kernel_rfl) (fun _ _ _ h => h) (Or.inl ⟨by rfl, ?hy46_8⟩) hHeld ?rest46_8
            case hy46_8 =>
              intro w hSw
              (try dsimp only at hSw)
              go_simp
              all_goals (first | done | with_reducible rfl)
            try simp only [Act.put]
            try simp only [List.setIfInBounds_toArray]
            try simp only [List.set_cons_succ]
            try simp only [List.set_cons_zero]
            refine wpAnyH_take (i := 9) (v := ?v47_9) rfl (by kernel_rfl) (by kernel_rfl) (by kernel_rfl) (fun _ _ _ h => h) (Or.inl ⟨by rfl, ?hy47_9⟩) hHeld ?rest47_9
            case hy47_9 =>
              intro w hSw
              (try dsimp only at hSw)
              go_simp
              all_goals (first | done | with_reducible rfl)
            try simp only [Act.put]
            try simp only [List.setIfInBounds_toArray]
            try simp only [List.set_cons_succ]
            try simp only [List.set_cons_zero]
            refine wpAnyH_ready (rs := [10]) (by kernel_rfl) (by simp) ?_
            refine AllReadyH.cons rfl (fun K hK => ?_) AllReadyH.nil
            go_simp
            go_at_call 60
            refine (specInts _ _ s1 t1 bo11 bo21 _ H1.out.1 J1.out.1).mono ?_
            rintro e wH1 ⟨he, hb⟩
            rw [Q1.out] at he
            subst he
            replace HB := Lib.hid (below_thru HB.out (Nat.le_refl _) hb)
            replace H2 := Lib.hid (H2.out.below hb)
            replace J2 := Lib.hid (J2.out.below hb)
            clear hb H1 J1
            clear hHeld
            try go_wp2_with fail
            refine hK.out _ _ (by exact ⟨(HB.out.cell (p := ⟨b1, off1 + k * 7, none⟩) hbl1).trans K10.out, (HB.out.cell (p := ⟨b1, off1 + k * 7 + 1, none⟩) hbl1).trans K11.out, (HB.out.cell (p := ⟨b1, off1 + k * 7 + 2, none⟩) hbl1).trans K12.out, (HB.out.cell (p := ⟨b1, off1 + k * 7 + 3, none⟩) hbl1).trans K13.out, (HB.out.cell (p := ⟨b1, off1 + k * 7 + 4, none⟩) hbl1).trans K14.out, (HB.out.cell (p := ⟨b1, off1 + k * 7 + 5, none⟩) hbl1).trans K15.out, (HB.out.cell (p := ⟨b1, off1 + k * 7 + 6, none⟩) hbl1).trans K16.out, (HB.out.cell (p := ⟨b2, off2 + k * 7, none⟩) hbl2).trans K20.out, (HB.out.cell (p := ⟨b2, off2 + k * 7 + 1, none⟩) hbl2).trans K21.out, (HB.out.cell (p := ⟨b2, off2 + k * 7 + 2, none⟩) hbl2).trans K22.out, (HB.out.cell (p := ⟨b2, off2 + k * 7 + 3, none⟩) hbl2).trans K23.out, (HB.out.cell (p := ⟨b2, off2 + k * 7 + 4, none⟩) hbl2).trans K24.out, (HB.out.cell (p := ⟨b2, off2 + k * 7 + 5, none⟩) hbl2).trans K25.out, (HB.out.cell (p := ⟨b2, off2 + k * 7 + 6, none⟩) hbl2).trans K26.out⟩) (fun hHeld => ?_)
            clear hK K
            try simp only [Act.put]
            try simp only [List.setIfInBounds_toArray]
            try simp only [List.set_cons_succ]
            try simp only [List.set_cons_zero]
            refine wpAnyH_take (i := 11) (v := ?v48_11) rfl (by kernel_rfl) (by kernel_rfl) (by kernel_rfl) (fun _ _ _ h => h) (Or.inl ⟨by rfl, ?hy48_11⟩) hHeld ?rest48_11
            case hy48_11 =>
              intro w hSw
              (try dsimp only at hSw)
              go_simp
              all_goals (first | done | with_reducible rfl)
            try simp only [Act.put]
            try simp only [List.setIfInBounds_toArray]
            try simp only [List.set_cons_succ]
            try simp only [List.set_cons_zero]
            refine wpAnyH_take (i := 12) (v := ?v49_12) rfl (by kernel_rfl) (by kernel_rfl) (by kernel_rfl) (fun _ _ _ h => h) (Or.inl ⟨by rfl, ?hy49_12⟩) hHeld ?rest49_12
            case hy49_12 =>
              intro w hSw
              (try dsimp only at hSw)
              go_simp
              all_goals (first | done | with_reducible rfl)
            try simp only [Act.put]
            try simp only [List.setIfInBounds_toArray]
            try simp only [List.set_cons_succ]
            try simp only [List.set_cons_zero]
            refine wpAnyH_take (i := 13) (v := ?v50_13) rfl (by kernel_rfl) (by kernel_rfl) (by kernel_rfl) (fun _ _ _ h => h) (Or.inl ⟨by kernel_rfl, ?hy50_13⟩) hHeld ?rest50_13
            case hy50_13 =>
              intro w hSw
              (try dsimp only at hSw)
              go_simp
              all_goals (first | done | with_reducible rfl)
            try simp only [Act.put]
            try simp only [List.setIfInBounds_toArray]
            try simp only [List.set_cons_succ]
            try simp only [List.set_cons_zero]
            refine wpAnyH_take (i := 14) (v := ?v51_14) rfl (by kernel_rfl) (by kernel_rfl) (by kernel_rfl) (fun _ _ _ h => h) (Or.inl ⟨by kernel_rfl, ?hy51_14⟩) hHeld ?rest51_14
            case hy51_14 =>
              intro w hSw
              (try dsimp only at hSw)
              go_simp
              all_goals (first | done | with_reducible rfl)
            try simp only [Act.put]
            try simp only [List.setIfInBounds_toArray]
            try simp only [List.set_cons_succ]
            try simp only [List.set_cons_zero]
            refine wpAnyH_take (i := 15) (v := ?v52_15) rfl (by kernel_rfl) (by kernel_rfl) (by kernel_rfl) (fun _ _ _ h => h) (Or.inl ⟨by kernel_rfl, ?hy52_15⟩) hHeld ?rest52_15
            case hy52_15 =>
              intro w hSw
              (try dsimp only at hSw)
              go_simp
              all_goals (first | done | with_reducible rfl)
            try simp only [Act.put]
            try simp only [List.setIfInBounds_toArray]
            try simp only [List.set_cons_succ]
            try simp only [List.set_cons_zero]
            refine wpAnyH_take (i := 16) (v := ?v53_16) rfl (by kernel_rfl) (by kernel_rfl) (by kernel_rfl) (fun _ _ _ h => h) (Or.inl ⟨by kernel_rfl, ?hy53_16⟩) hHeld ?rest53_16
            case hy53_16 =>
              intro w hSw
              (try dsimp only at hSw)
              go_simp
              all_goals (first | done | with_reducible rfl)
            try simp only [Act.put]
            try simp only [List.setIfInBounds_toArray]
            try simp only [List.set_cons_succ]
            try simp only [List.set_cons_zero]
            refine wpAnyH_take (i := 17) (v := ?v54_17) rfl (by kernel_rfl) (by kernel_rfl) (by kernel_rfl) (fun _ _ _ h => h) (Or.inl ⟨by kernel_rfl, ?hy54_17⟩) hHeld ?rest54_17
            case hy54_17 =>
              intro w hSw
              (try dsimp only at hSw)
              go_simp
              all_goals (first | done | with_reducible rfl)
            try simp only [Act.put]
            try simp only [List.setIfInBounds_toArray]
            try simp only [List.set_cons_succ]
            try simp only [List.set_cons_zero]
            refine wpAnyH_take (i := 18) (v := ?v55_18) rfl (by kernel_rfl) (by kernel_rfl) (by kernel_rfl) (fun _ _ _ h => h) (Or.inl ⟨by kernel_rfl, ?hy55_18⟩) hHeld ?rest55_18
            case hy55_18 =>
              intro w hSw
              (try dsimp only at hSw)
              go_simp
              all_goals (first | done | with_reducible rfl)
            try simp only [Act.put]
            try simp only [List.setIfInBounds_toArray]
            try simp only [List.set_cons_succ]
            try simp only [List.set_cons_zero]
            refine wpAnyH_take (i := 19) (v := ?v56_19) rfl (by kernel_rfl) (by kernel_rfl) (by kernel_rfl) (fun _ _ _ h => h) (Or.inl ⟨by kernel_rfl, ?hy56_19⟩) hHeld ?rest56_19
            case hy56_19 =>
              intro w hSw
              (try dsimp only at hSw)
              go_simp
              all_goals (first | done | with_reducible rfl)
            try simp only [Act.put]
            try simp only [List.setIfInBounds_toArray]
            try simp only [List.set_cons_succ]
            try simp only [List.set_cons_zero]
            refine wpAnyH_take (i := 20) (v := ?v57_20) rfl (by kernel_rfl) (by kernel_rfl) (by kernel_rfl) (fun _ _ _ h => h) (Or.inl ⟨by kernel_rfl, ?hy57_20⟩) hHeld ?rest57_20
            case hy57_20 =>
              intro w hSw
              (try dsimp only at hSw)
              go_simp
              all_goals (first | done | with_reducible rfl)
            try simp only [Act.put]
            try simp only [List.setIfInBounds_toArray]
            try simp only [List.set_cons_succ]
            try simp only [List.set_cons_zero]
            refine wpAnyH_take (i := 21) (v := ?v58_21) rfl (by kernel_rfl) (by kernel_rfl) (by kernel_rfl) (fun _ _ _ h => h) (Or.inl ⟨by kernel_rfl, ?hy58_21⟩) hHeld ?rest58_21
            case hy58_21 =>
              intro w hSw
              (try dsimp only at hSw)
              go_simp
              all_goals (first | done | with_reducible rfl)
            try simp only [Act.put]
            try simp only [List.setIfInBounds_toArray]
            try simp only [List.set_cons_succ]
            try simp only [List.set_cons_zero]
            refine wpAnyH_take (i := 22) (v := ?v59_22) rfl (by kernel_rfl) (by kernel_rfl) (by kernel_rfl) (fun _ _ _ h => h) (Or.inl ⟨by kernel_rfl, ?hy59_22⟩) hHeld ?rest59_22
            case hy59_22 =>
              intro w hSw
              (try dsimp only at hSw)
              go_simp
              all_goals (first | done | with_reducible rfl)
            try simp only [Act.put]
            try simp only [List.setIfInBounds_toArray]
            try simp only [List.set_cons_succ]
            try simp only [List.set_cons_zero]
            refine wpAnyH_ready (rs := [23]) (by kernel_rfl) (by simp) ?_
            refine AllReadyH.cons rfl (fun K hK => ?_) AllReadyH.nil
            go_simp
            go_at_call 61
            refine (specExEqual d _ _ s2 t2 _ H2.out J2.out).mono ?_
            rintro e wH2 ⟨he, hb⟩
            rw [Q2.out] at he
            subst he
            replace HB := Lib.hid (below_thru HB.out (Nat.le_refl _) hb)
            clear hb H2 J2
            clear hHeld
            try go_wp2_with fail
            refine hK.out _ _ (by exact ⟨(HB.out.cell (p := ⟨b1, off1 + k * 7, none⟩) hbl1).trans K10.out, (HB.out.cell (p := ⟨b1, off1 + k * 7 + 1, none⟩) hbl1).trans K11.out, (HB.out.cell (p := ⟨b1, off1 + k * 7 + 2, none⟩) hbl1).trans K12.out, (HB.out.cell (p := ⟨b1, off1 + k * 7 + 3, none⟩) hbl1).trans K13.out, (HB.out.cell (p := ⟨b1, off1 + k * 7 + 4, none⟩) hbl1).trans K14.out, (HB.out.cell (p := ⟨b1, off1 + k * 7 + 5, none⟩) hbl1).trans K15.out, (HB.out.cell (p := ⟨b1, off1 + k * 7 + 6, none⟩) hbl1).trans K16.out, (HB.out.cell (p := ⟨b2, off2 + k * 7, none⟩) hbl2).trans K20.out, (HB.out.cell (p := ⟨b2, off2 + k * 7 + 1, none⟩) hbl2).trans K21.out, (HB.out.cell (p := ⟨b2, off2 + k * 7 + 2, none⟩) hbl2).trans K22.out, (HB.out.cell (p := ⟨b2, off2 + k * 7 + 3, none⟩) hbl2).trans K23.out, (HB.out.cell (p := ⟨b2, off2 + k * 7 + 4, none⟩) hbl2).trans K24.out, (HB.out.cell (p := ⟨b2, off2 + k * 7 + 5, none⟩) hbl2).trans K25.out, (HB.out.cell (p := ⟨b2, off2 + k * 7 + 6, none⟩) hbl2).trans K26.out⟩) (fun hHeld => ?_)
            clear hK K
            try simp only [Act.put]
            try simp only [List.setIfInBounds_toArray]
            try simp only [List.set_cons_succ]
            try simp only [List.set_cons_zero]
            refine wpAnyH_take (i := 24) (v := ?v60_24) rfl (by kernel_rfl) (by kernel_rfl) (by kernel_rfl) (fun _ _ _ h => h) (Or.inl ⟨by kernel_rfl, ?hy60_24⟩) hHeld ?rest60_24
            case hy60_24 =>
              intro w hSw
              (try dsimp only at hSw)
              go_simp
              all_goals (first | done | with_reducible rfl)
            try simp only [Act.put]
            try simp only [List.setIfInBounds_toArray]
            try simp only [List.set_cons_succ]
            try simp only [List.set_cons_zero]
            refine wpAnyH_take (i := 25) (v := ?v61_25) rfl (by kernel_rfl) (by kernel_rfl) (by kernel_rfl) (fun _ _ _ h => h) (Or.inl ⟨by rfl, ?hy61_25⟩) hHeld ?rest61_25
            case hy61_25 =>
              intro w hSw
              (try dsimp only at hSw)
              go_simp
              all_goals (first | done | with_reducible rfl)
            try simp only [Act.put]
            try simp only [List.setIfInBounds_toArray]
            try simp only [List.set_cons_succ]
            try simp only [List.set_cons_zero]
            refine wpAnyH_done (by kernel_rfl) ?_ _
            try simp only [List.getElem_toArray]
            try simp only [List.getElem_cons_succ]
            try simp only [List.getElem_cons_zero]
            try simp only [Act.put]
            try simp only [List.setIfInBounds_toArray]
            try simp only [List.set_cons_succ]
            try simp only [List.set_cons_zero]
            go_wp2_with fail
            exact ⟨⟨k + 1, by omega, by go_num, HK.out, HB.out⟩, by simp [intOf]; omega⟩
      · obtain rfl : k = cs.length := by omega
        have HK : Hid (Chg.beqs cs bs = true) := by
          have := HF.out
          rw [List.take_length, HL.out, List.take_length] at this; exact this
        go_wp2_with fail
        go_ret
        exact ⟨by rw [HK.out]; rfl, HB.out⟩
end Go.Proofs.Ytajikfageppobaa
