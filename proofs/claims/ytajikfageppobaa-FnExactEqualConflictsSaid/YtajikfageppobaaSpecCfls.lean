/-
  Proved: spec.EqualConflicts says whether two lists are equal; the memory that was there stays as it was.
-/
import Derived.Test.YtajikfageppobaaPeqCfl
import Derived.Test.YtajikfageppobaaRecBase
import Derived.Test.YtajikfageppobaaHold
import Derived.Test.YtajikfageppobaaSpecInts
import Derived.BigQuiet
import Derived.Deep.QuietTactic
import Derived.Deep.RegionHeld3
namespace Go.Proofs.Ytajikfageppobaa
open Go.RowKit

set_option maxRecDepth 100000 in
set_option maxHeartbeats 8000000 in
theorem specCfls (d : Nat) (v1 v2 : Value) (cs bs : List Cfl) (w : World) (h1 : CflsAt w d v1 cs) (h2 : CflsAt w d v2 bs) (hn1 : Cfl.bulks cs ≤ 1048576) (hn2 : Cfl.bulks bs ≤ 1048576) :
    Calls Try.prog 35 #[v1, v2] w fun e w' => e = .returned (.bool (Cfl.beqs cs bs)) ∧ Below w.heap.size w w' := by
  obtain ⟨a1, cap1, rfl, hcap1, hm1, hat1⟩ := h1
  obtain ⟨a2, cap2, rfl, hcap2, hm2, hat2⟩ := h2
  have HA1 := Lib.hid hat1; clear hat1
  have HA2 := Lib.hid hat2; clear hat2
  by_cases hl : cs.length = bs.length
  case neg =>
    have HF := Lib.hid (Cfl.beqs_len cs bs hl)
    have qb : ((cs.length : Int) != (bs.length : Int)) = true := by simp; omega
    go_enter Try.func35, Try.ntmps35
    go_wp2_with fail
    go_ret
    exact ⟨by rw [HF.out]; rfl, Below.refl _ _⟩
  case pos =>
    have qb0 : ((cs.length : Int) != (bs.length : Int)) = false := by simp; omega
    have HL := Lib.hid hl; clear hl
    go_enter Try.func35, Try.ntmps35
    go_wp2_with fail
    clear qb0
    go_loopw [5] (fun i wr => ∃ k : Nat, k ≤ cs.length ∧ i = .int .i64 k ∧ Cfl.beqs (cs.take k) (bs.take k) = true ∧ Below w.heap.size w wr) (fun i _ => cs.length - (intOf i).toNat)
    case atStart => exact ⟨0, by omega, rfl, by simp [Cfl.beqs], Below.refl _ _⟩
    case round =>
      obtain ⟨k, hk, rfl, hf, hb⟩ := hrel
      have HF := Lib.hid hf; clear hf
      have HB := Lib.hid hb; clear hb
      by_cases hlt : k < cs.length
      · have hlt2 : k < bs.length := by have := HL.out; omega
        obtain ⟨b1, off1, x0, x1, rfl, hbl1, hc10, hc11, ht1⟩ := HA1.out k hlt
        obtain ⟨b2, off2, y0, y1, rfl, hbl2, hc20, hc21, ht2⟩ := HA2.out k hlt2
        have hg1 : cs[k].bulk ≤ 1048576 := by have := Cfl.bulk_get cs k hlt; omega
        have hg2 : bs[k].bulk ≤ 1048576 := by have := Cfl.bulk_get bs k hlt2; omega
        have HTK := Lib.hid (Cfl.beqs_take cs bs k hlt hlt2)
        have HBAD : Hid (cs[k].beq bs[k] = false → Cfl.beqs cs bs = false) := fun h => Cfl.beqs_bad hlt hlt2 HL.out h
        have K10 := Lib.hid hc10
        have K20 := Lib.hid hc20
        have K11 := Lib.hid hc11
        have K21 := Lib.hid hc21
        clear hc10 hc20 hc11 hc21
        have HR1 := Lib.hid ht1
        have HR2 := Lib.hid ht2
        clear ht1 ht2
        generalize cs[k] = c at HTK HBAD HR1 hg1
        generalize bs[k] = b at HTK HBAD HR2 hg2
        obtain ⟨s1, s2⟩ := c
        obtain ⟨t1, t2⟩ := b
        have HQ : Hid ((Cfl.mk s1 s2).beq (Cfl.mk t1 t2) = ((decide (s1 = t1)) && (decide (s2 = t2)))) := rfl
        have hgb1 : (Cfl.mk s1 s2).bulk = s1.length + s2.length := rfl
        have bo11 : s1.length ≤ 1048576 := by omega
        have bo12 : s2.length ≤ 1048576 := by omega
        have hgb2 : (Cfl.mk t1 t2).bulk = t1.length + t2.length := rfl
        have bo21 : t1.length ≤ 1048576 := by omega
        have bo22 : t2.length ≤ 1048576 := by omega
        clear hg1 hg2 hgb1 hgb2
        obtain ⟨pba, pbn, pbc, pca, pcn, pcc, hv1, ph1, ph2⟩ := HR1.out
        obtain ⟨qba, qbn, qbc, qca, qcn, qcc, hv2, pk1, pk2⟩ := HR2.out
        injection hv1 with hv1
        injection hv1 with hv1
        simp only [List.cons.injEq, and_true] at hv1
        obtain ⟨rfl, rfl⟩ := hv1
        injection hv2 with hv2
        injection hv2 with hv2
        simp only [List.cons.injEq, and_true] at hv2
        obtain ⟨rfl, rfl⟩ := hv2
        dsimp only at ph1 ph2 pk1 pk2
        have HN := Lib.hid (HB.out.trans ((below_drew wr).mono HB.out.size))
        have H1 := Lib.hid (ph1.below HN.out)
        have H2 := Lib.hid (ph2.below HN.out)
        have J1 := Lib.hid (pk1.below HN.out)
        have J2 := Lib.hid (pk2.below HN.out)
        clear ph1 ph2 pk1 pk2 HR1 HR2
        go_wp2_with fail
        replace HB := HN
        clear HN
        cases q1 : decide (s1 = t1) with
        | false =>
          have HK := Lib.hid (HBAD.out (by rw [HQ.out, q1]; rfl))
          have Q1 := Lib.hid q1
          clear q1
          refine wp_region_held_drew (S := (fun w' => w'.cell? ⟨b1, off1 + k * 2, none⟩ = some (.slice pba pbn pbc) ∧ w'.cell? ⟨b1, off1 + k * 2 + 1, none⟩ = some (.slice pca pcn pcc) ∧ w'.cell? ⟨b2, off2 + k * 2, none⟩ = some (.slice qba qbn qbc) ∧ w'.cell? ⟨b2, off2 + k * 2 + 1, none⟩ = some (.slice qca qcn qcc))) (by kernel_rfl) (by exact ⟨(HB.out.cell (p := ⟨b1, off1 + k * 2, none⟩) hbl1).trans K10.out, (HB.out.cell (p := ⟨b1, off1 + k * 2 + 1, none⟩) hbl1).trans K11.out, (HB.out.cell (p := ⟨b2, off2 + k * 2, none⟩) hbl2).trans K20.out, (HB.out.cell (p := ⟨b2, off2 + k * 2 + 1, none⟩) hbl2).trans K21.out⟩) (fun hHeld => ?_)
          refine wpAnyH_take (i := 0) (v := ?v62_0) rfl (by kernel_rfl) (by kernel_rfl) (by kernel_rfl) (fun _ _ _ h => h) (Or.inl ⟨by rfl, ?hy62_0⟩) hHeld ?rest62_0
          case hy62_0 =>
            intro w hSw
            (try dsimp only at hSw)
            go_simp
            all_goals (first | done | with_reducible rfl)
          try simp only [Act.put]
          try simp only [List.setIfInBounds_toArray]
          try simp only [List.set_cons_succ]
          try simp only [List.set_cons_zero]
          refine wpAnyH_take (i := 1) (v := ?v63_1) rfl (by kernel_rfl) (by kernel_rfl) (by kernel_rfl) (fun _ _ _ h => h) (Or.inl ⟨by rfl, ?hy63_1⟩) hHeld ?rest63_1
          case hy63_1 =>
            intro w hSw
            (try dsimp only at hSw)
            go_simp
            all_goals (first | done | with_reducible rfl)
          try simp only [Act.put]
          try simp only [List.setIfInBounds_toArray]
          try simp only [List.set_cons_succ]
          try simp only [List.set_cons_zero]
          refine wpAnyH_take (i := 2) (v := ?v64_2) rfl (by kernel_rfl) (by kernel_rfl) (by kernel_rfl) (fun _ _ _ h => h) (Or.inl ⟨by rfl, ?hy64_2⟩) hHeld ?rest64_2
          case hy64_2 =>
            intro w hSw
            (try dsimp only at hSw)
            go_simp
            all_goals (first | done | with_reducible rfl)
          try simp only [Act.put]
          try simp only [List.setIfInBounds_toArray]
          try simp only [List.set_cons_succ]
          try simp only [List.set_cons_zero]
          refine wpAnyH_take (i := 3) (v := ?v65_3) rfl (by kernel_rfl) (by kernel_rfl) (by kernel_rfl) (fun _ _ _ h => h) (Or.inl ⟨by rfl, ?hy65_3⟩) hHeld ?rest65_3
          case hy65_3 =>
            intro w hSw
            (try dsimp only at hSw)
            go_simp
            all_goals (first | done | with_reducible rfl)
          try simp only [Act.put]
          try simp only [List.setIfInBounds_toArray]
          try simp only [List.set_cons_succ]
          try simp only [List.set_cons_zero]
          refine wpAnyH_take (i := 4) (v := ?v66_4) rfl (by kernel_rfl) (by kernel_rfl) (by kernel_rfl) (fun _ _ _ h => h) (Or.inl ⟨by rfl, ?hy66_4⟩) hHeld ?rest66_4
          case hy66_4 =>
            intro w hSw
            (try dsimp only at hSw)
            go_simp
            all_goals (first | done | with_reducible rfl)
          try simp only [Act.put]
          try simp only [List.setIfInBounds_toArray]
          try simp only [List.set_cons_succ]
          try simp only [List.set_cons_zero]
          refine wpAnyH_take (i := 5) (v := ?v67_5) rfl (by kernel_rfl) (by kernel_rfl) (by kernel_rfl) (fun _ _ _ h => h) (Or.inl ⟨by rfl, ?hy67_5⟩) hHeld ?rest67_5
          case hy67_5 =>
            intro w hSw
            (try dsimp only at hSw)
            go_simp
            all_goals (first | done | with_reducible rfl)
          try simp only [Act.put]
          try simp only [List.setIfInBounds_toArray]
          try simp only [List.set_cons_succ]
          try simp only [List.set_cons_zero]
          refine wpAnyH_take (i := 6) (v := ?v68_6) rfl (by kernel_rfl) (by kernel_rfl) (by kernel_rfl) (fun _ _ _ h => h) (Or.inl ⟨by rfl, ?hy68_6⟩) hHeld ?rest68_6
          case hy68_6 =>
            intro w hSw
            (try dsimp only at hSw)
            go_simp
            all_goals (first | done | with_reducible rfl)
          try simp only [Act.put]
          try simp only [List.setIfInBounds_toArray]
          try simp only [List.set_cons_succ]
          try simp only [List.set_cons_zero]
          refine wpAnyH_take (i := 7) (v := ?v69_7) rfl (by kernel_rfl) (by kernel_rfl) (by kernel_rfl) (fun _ _ _ h => h) (Or.inl ⟨by rfl, ?hy69_7⟩) hHeld ?rest69_7
          case hy69_7 =>
            intro w hSw
            (try dsimp only at hSw)
            go_simp
            all_goals (first | done | with_reducible rfl)
          try simp only [Act.put]
          try simp only [List.setIfInBounds_toArray]
          try simp only [List.set_cons_succ]
          try simp only [List.set_cons_zero]
          refine wpAnyH_take (i := 8) (v := ?v70_8) rfl (by kernel_rfl) (by kernel_rfl) (by kernel_rfl) (fun _ _ _ h => h) (Or.inl ⟨by rfl, ?hy70_8⟩) hHeld ?rest70_8
          case hy70_8 =>
            intro w hSw
            (try dsimp only at hSw)
            go_simp
            all_goals (first | done | with_reducible rfl)
          try simp only [Act.put]
          try simp only [List.setIfInBounds_toArray]
          try simp only [List.set_cons_succ]
          try simp only [List.set_cons_zero]
          refine wpAnyH_take (i := 9) (v := ?v71_9) rfl (by kernel_rfl) (by kernel_rfl) (by kernel_rfl) (fun _ _ _ h => h) (Or.inl ⟨by rfl, ?hy71_9⟩) hHeld ?rest71_9
          case hy71_9 =>
            intro w hSw
            (try dsimp only at hSw)
            go_simp
            all_goals (first | done | with_reducible rfl)
          try simp only [Act.put]
          try simp only [List.setIfInBounds_toArray]
          try simp only [List.set_cons_succ]
          try simp only [List.set_cons_zero]
          refine wpAnyH_ready (rs := [10]) (by kernel_rfl) (by simp) ?_
          refine AllReadyH.cons rfl (fun K hK => ?_) AllReadyH.nil
          go_simp
          go_at_call 60
          refine (specInts _ _ s1 t1 bo11 bo21 _ H1.out.1 J1.out.1).mono ?_
          rintro e wH1 ⟨he, hb⟩
          rw [Q1.out] at he
          subst he
          replace HB := Lib.hid (below_thru HB.out (Nat.le_refl _) hb)
          replace H2 := Lib.hid (H2.out.below hb)
          replace J2 := Lib.hid (J2.out.below hb)
          clear hb H1 J1
          clear hHeld
          try go_wp2_with fail
          refine hK.out _ _ (by exact ⟨(HB.out.cell (p := ⟨b1, off1 + k * 2, none⟩) hbl1).trans K10.out, (HB.out.cell (p := ⟨b1, off1 + k * 2 + 1, none⟩) hbl1).trans K11.out, (HB.out.cell (p := ⟨b2, off2 + k * 2, none⟩) hbl2).trans K20.out, (HB.out.cell (p := ⟨b2, off2 + k * 2 + 1, none⟩) hbl2).trans K21.out⟩) (fun hHeld => ?_)
          clear hK K
          try simp only [Act.put]
          try simp only [List.setIfInBounds_toArray]
          try simp only [List.set_cons_succ]
          try simp only [List.set_cons_zero]
          refine wpAnyH_take (i := 11) (v := ?v72_11) rfl (by kernel_rfl) (by kernel_rfl) (by kernel_rfl) (fun _ _ _ h => h) (Or.inl ⟨by rfl, ?hy72_11⟩) hHeld ?rest72_11
          case hy72_11 =>
            intro w hSw
            (try dsimp only at hSw)
            go_simp
            all_goals (first | done | with_reducible rfl)
          try simp only [Act.put]
          try simp only [List.setIfInBounds_toArray]
          try simp only [List.set_cons_succ]
          try simp only [List.set_cons_zero]
          refine wpAnyH_take (i := 12) (v := ?v73_12) rfl (by kernel_rfl) (by kernel_rfl) (by kernel_rfl) (fun _ _ _ h => h) (Or.inl ⟨by rfl, ?hy73_12⟩) hHeld ?rest73_12
          case hy73_12 =>
            intro w hSw
            (try dsimp only at hSw)
            go_simp
            all_goals (first | done | with_reducible rfl)
          try simp only [Act.put]
          try simp only [List.setIfInBounds_toArray]
          try simp only [List.set_cons_succ]
          try simp only [List.set_cons_zero]
          refine wpAnyH_take (i := 13) (v := undef) rfl (by kernel_rfl) (by kernel_rfl) (by kernel_rfl) (fun _ _ _ h => h) (Or.inr ⟨by kernel_rfl, rfl⟩) hHeld ?_
          try simp only [Act.put]
          try simp only [List.setIfInBounds_toArray]
          try simp only [List.set_cons_succ]
          try simp only [List.set_cons_zero]
          refine wpAnyH_take (i := 14) (v := undef) rfl (by kernel_rfl) (by kernel_rfl) (by kernel_rfl) (fun _ _ _ h => h) (Or.inr ⟨by kernel_rfl, rfl⟩) hHeld ?_
          try simp only [Act.put]
          try simp only [List.setIfInBounds_toArray]
          try simp only [List.set_cons_succ]
          try simp only [List.set_cons_zero]
          refine wpAnyH_take (i := 15) (v := undef) rfl (by kernel_rfl) (by kernel_rfl) (by kernel_rfl) (fun _ _ _ h => h) (Or.inr ⟨by kernel_rfl, rfl⟩) hHeld ?_
          try simp only [Act.put]
          try simp only [List.setIfInBounds_toArray]
          try simp only [List.set_cons_succ]
          try simp only [List.set_cons_zero]
          refine wpAnyH_take (i := 16) (v := undef) rfl (by kernel_rfl) (by kernel_rfl) (by kernel_rfl) (fun _ _ _ h => h) (Or.inr ⟨by kernel_rfl, rfl⟩) hHeld ?_
          try simp only [Act.put]
          try simp only [List.setIfInBounds_toArray]
          try simp only [List.set_cons_succ]
          try simp only [List.set_cons_zero]
          refine wpAnyH_take (i := 17) (v := undef) rfl (by kernel_rfl) (by kernel_rfl) (by kernel_rfl) (fun _ _ _ h => h) (Or.inr ⟨by kernel_rfl, rfl⟩) hHeld ?_
          try simp only [Act.put]
          try simp only [List.setIfInBounds_toArray]
          try simp only [List.set_cons_succ]
          try simp only [List.set_cons_zero]
          refine wpAnyH_take (i := 18) (v := undef) rfl (by kernel_rfl) (by kernel_rfl) (by kernel_rfl) (fun _ _ _ h => h) (Or.inr ⟨by kernel_rfl, rfl⟩) hHeld ?_
          try simp only [Act.put]
          try simp only [List.setIfInBounds_toArray]
          try simp only [List.set_cons_succ]
          try simp only [List.set_cons_zero]
          refine wpAnyH_take (i := 19) (v := undef) rfl (by kernel_rfl) (by kernel_rfl) (by kernel_rfl) (fun _ _ _ h => h) (Or.inr ⟨by kernel_rfl, rfl⟩) hHeld ?_
          try simp only [Act.put]
          try simp only [List.setIfInBounds_toArray]
          try simp only [List.set_cons_succ]
          try simp only [List.set_cons_zero]
          refine wpAnyH_take (i := 20) (v := undef) rfl (by kernel_rfl) (by kernel_rfl) (by kernel_rfl) (fun _ _ _ h => h) (Or.inr ⟨by kernel_rfl, rfl⟩) hHeld ?_
          try simp only [Act.put]
          try simp only [List.setIfInBounds_toArray]
          try simp only [List.set_cons_succ]
          try simp only [List.set_cons_zero]
          refine wpAnyH_take (i := 21) (v := undef) rfl (by kernel_rfl) (by kernel_rfl) (by kernel_rfl) (fun _ _ _ h => h) (Or.inr ⟨by kernel_rfl, rfl⟩) hHeld ?_
          try simp only [Act.put]
          try simp only [List.setIfInBounds_toArray]
          try simp only [List.set_cons_succ]
          try simp only [List.set_cons_zero]
          refine wpAnyH_take (i := 22) (v := undef) rfl (by kernel_rfl) (by kernel_rfl) (by kernel_rfl) (fun _ _ _ h => h) (Or.inr ⟨by kernel_rfl, rfl⟩) hHeld ?_
          try simp only [Act.put]
          try simp only [List.setIfInBounds_toArray]
          try simp only [List.set_cons_succ]
          try simp only [List.set_cons_zero]
          refine wpAnyH_take (i := 23) (v := undef) rfl (by kernel_rfl) (by kernel_rfl) (by kernel_rfl) (fun _ _ _ h => h) (Or.inr ⟨by kernel_rfl, rfl⟩) hHeld ?_
          try simp only [Act.put]
          try simp only [List.setIfInBounds_toArray]
          try simp only [List.set_cons_succ]
          try simp only [List.set_cons_zero]
          refine wpAnyH_take (i := 24) (v := undef) rfl (by kernel_rfl) (by kernel_rfl) (by kernel_rfl) (fun _ _ _ h => h) (Or.inr ⟨by kernel_rfl, rfl⟩) hHeld ?_
          try simp only [Act.put]
          try simp only [List.setIfInBounds_toArray]
          try simp only [List.set_cons_succ]
          try simp only [List.set_cons_zero]
          refine wpAnyH_take (i := 25) (v := ?v74_25) rfl (by kernel_rfl) (by kernel_rfl) (by kernel_rfl) (fun _ _ _ h => h) (Or.inl ⟨by rfl, ?hy74_25⟩) hHeld ?rest74_25
          case hy74_25 =>
            intro w hSw
            (try dsimp only at hSw)
            go_simp
            all_goals (first | done | with_reducible rfl)
          try simp only [Act.put]
          try simp only [List.setIfInBounds_toArray]
          try simp only [List.set_cons_succ]
          try simp only [List.set_cons_zero]
          refine wpAnyH_done (by kernel_rfl) ?_ _
          try simp only [List.getElem_toArray]
          try simp only [List.getElem_cons_succ]
          try simp only [List.getElem_cons_zero]
          try simp only [Act.put]
          try simp only [List.setIfInBounds_toArray]
          try simp only [List.set_cons_succ]
          try simp only [List.set_cons_zero]
          go_wp2_with fail
          go_ret
          exact ⟨by rw [HK.out]; rfl, HB.out⟩
        | true =>
          cases q2 : decide (s2 = t2) with
          | false =>
            have HK := Lib.hid (HBAD.out (by rw [HQ.out, q1, q2]; rfl))
            have Q1 := Lib.hid q1
            have Q2 := Lib.hid q2
            clear q1 q2
            refine wp_region_held_drew (S := (fun w' => w'.cell? ⟨b1, off1 + k * 2, none⟩ = some (.slice pba pbn pbc) ∧ w'.cell? ⟨b1, off1 + k * 2 + 1, none⟩ = some (.slice pca pcn pcc) ∧ w'.cell? ⟨b2, off2 + k * 2, none⟩ = some (.slice qba qbn qbc) ∧ w'.cell? ⟨b2, off2 + k * 2 + 1, none⟩ = some (.slice qca qcn qcc))) (by kernel_rfl) (by exact ⟨(HB.out.cell (p := ⟨b1, off1 + k * 2, none⟩) hbl1).trans K10.out, (HB.out.cell (p := ⟨b1, off1 + k * 2 + 1, none⟩) hbl1).trans K11.out, (HB.out.cell (p := ⟨b2, off2 + k * 2, none⟩) hbl2).trans K20.out, (HB.out.cell (p := ⟨b2, off2 + k * 2 + 1, none⟩) hbl2).trans K21.out⟩) (fun hHeld => ?_)
            refine wpAnyH_take (i := 0) (v := ?v75_0) rfl (by kernel_rfl) (by kernel_rfl) (by kernel_rfl) (fun _ _ _ h => h) (Or.inl ⟨by rfl, ?hy75_0⟩) hHeld ?rest75_0
            case hy75_0 =>
              intro w hSw
              (try dsimp only at hSw)
              go_simp
              all_goals (first | done | with_reducible rfl)
            try simp only [Act.put]
            try simp only [List.setIfInBounds_toArray]
            try simp only [List.set_cons_succ]
            try simp only [List.set_cons_zero]
            refine wpAnyH_take (i := 1) (v := ?v76_1) rfl (by kernel_rfl) (by kernel_rfl) (by kernel_rfl) (fun _ _ _ h => h) (Or.inl ⟨by rfl, ?hy76_1⟩) hHeld ?rest76_1
            case hy76_1 =>
              intro w hSw
              (try dsimp only at hSw)
              go_simp
              all_goals (first | done | with_reducible rfl)
            try simp only [Act.put]
            try simp only [List.setIfInBounds_toArray]
            try simp only [List.set_cons_succ]
            try simp only [List.set_cons_zero]
            refine wpAnyH_take (i := 2) (v := ?v77_2) rfl (by kernel_rfl) (by kernel_rfl) (by kernel_rfl) (fun _ _ _ h => h) (Or.inl ⟨by rfl, ?hy77_2⟩) hHeld ?rest77_2
            case hy77_2 =>
              intro w hSw
              (try dsimp only at hSw)
              go_simp
              all_goals (first | done | with_reducible rfl)
            try simp only [Act.put]
            try simp only [List.setIfInBounds_toArray]
            try simp only [List.set_cons_succ]
            try simp only [List.set_cons_zero]
            refine wpAnyH_take (i := 3) (v := ?v78_3) rfl (by kernel_rfl) (by kernel_rfl) (by kernel_rfl) (fun _ _ _ h => h) (Or.inl ⟨by rfl, ?hy78_3⟩) hHeld ?rest78_3
            case hy78_3 =>
              intro w hSw
              (try dsimp only at hSw)
              go_simp
              all_goals (first | done | with_reducible rfl)
            try simp only [Act.put]
            try simp only [List.setIfInBounds_toArray]
            try simp only [List.set_cons_succ]
            try simp only [List.set_cons_zero]
            refine wpAnyH_take (i := 4) (v := ?v79_4) rfl (by kernel_rfl) (by kernel_rfl) (by kernel_rfl) (fun _ _ _ h => h) (Or.inl ⟨by rfl, ?hy79_4⟩) hHeld ?rest79_4
            case hy79_4 =>
              intro w hSw
              (try dsimp only at hSw)
              go_simp
              all_goals (first | done | with_reducible rfl)
            try simp only [Act.put]
            try simp only [List.setIfInBounds_toArray]
            try simp only [List.set_cons_succ]
            try simp only [List.set_cons_zero]
            refine wpAnyH_take (i := 5) (v := ?v80_5) rfl (by kernel_rfl) (by kernel_rfl) (by kernel_rfl) (fun _ _ _ h => h) (Or.inl ⟨by rfl, ?hy80_5⟩) hHeld ?rest80_5
            case hy80_5 =>
              intro w hSw
              (try dsimp only at hSw)
              go_simp
              all_goals (first | done | with_reducible rfl)
            try simp only [Act.put]
            try simp only [List.setIfInBounds_toArray]
            try simp only [List.set_cons_succ]
            try simp only [List.set_cons_zero]
            refine wpAnyH_take (i := 6) (v := ?v81_6) rfl (by kernel_rfl) (by kernel_rfl) (by kernel_rfl) (fun _ _ _ h => h) (Or.inl ⟨by rfl, ?hy81_6⟩) hHeld ?rest81_6
            case hy81_6 =>
              intro w hSw
              (try dsimp only at hSw)
              go_simp
              all_goals (first | done | with_reducible rfl)
            try simp only [Act.put]
            try simp only [List.setIfInBounds_toArray]
            try simp only [List.set_cons_succ]
            try simp only [List.set_cons_zero]
            refine wpAnyH_take (i := 7) (v := ?v82_7) rfl (by kernel_rfl) (by kernel_rfl) (by kernel_rfl) (fun _ _ _ h => h) (Or.inl ⟨by rfl, ?hy82_7⟩) hHeld ?rest82_7
            case hy82_7 =>
              intro w hSw
              (try dsimp only at hSw)
              go_simp
              all_goals (first | done | with_reducible rfl)
            try simp only [Act.put]
            try simp only [List.setIfInBounds_toArray]
            try simp only [List.set_cons_succ]
            try simp only [List.set_cons_zero]
            refine wpAnyH_take (i := 8) (v := ?v83_8) rfl (by kernel_rfl) (by kernel_rfl) (by kernel_rfl) (fun _ _ _ h => h) (Or.inl ⟨by rfl, ?hy83_8⟩) hHeld ?rest83_8
            case hy83_8 =>
              intro w hSw
              (try dsimp only at hSw)
              go_simp
              all_goals (first | done | with_reducible rfl)
            try simp only [Act.put]
            try simp only [List.setIfInBounds_toArray]
            try simp only [List.set_cons_succ]
            try simp only [List.set_cons_zero]
            refine wpAnyH_take (i := 9) (v := ?v84_9) rfl (by kernel_rfl) (by kernel_rfl) (by kernel_rfl) (fun _ _ _ h => h) (Or.inl ⟨by rfl, ?hy84_9⟩) hHeld ?rest84_9
            case hy84_9 =>
              intro w hSw
              (try dsimp only at hSw)
              go_simp
              all_goals (first | done | with_reducible rfl)
            try simp only [Act.put]
            try simp only [List.setIfInBounds_toArray]
            try simp only [List.set_cons_succ]
            try simp only [List.set_cons_zero]
            refine wpAnyH_ready (rs := [10]) (by kernel_rfl) (by simp) ?_
            refine AllReadyH.cons rfl (fun K hK => ?_) AllReadyH.nil
            go_simp
            go_at_call 60
            refine (specInts _ _ s1 t1 bo11 bo21 _ H1.out.1 J1.out.1).mono ?_
            rintro e wH1 ⟨he, hb⟩
            rw [Q1.out] at he
            subst he
            replace HB := Lib.hid (below_thru HB.out (Nat.le_refl _) hb)
            replace H2 := Lib.hid (H2.out.below hb)
            replace J2 := Lib.hid (J2.out.below hb)
            clear hb H1 J1
            clear hHeld
            try go_wp2_with fail
            refine hK.out _ _ (by exact ⟨(HB.out.cell (p := ⟨b1, off1 + k * 2, none⟩) hbl1).trans K10.out, (HB.out.cell (p := ⟨b1, off1 + k * 2 + 1, none⟩) hbl1).trans K11.out, (HB.out.cell (p := ⟨b2, off2 + k * 2, none⟩) hbl2).trans K20.out, (HB.out.cell (p := ⟨b2, off2 + k * 2 + 1, none⟩) hbl2).trans K21.out⟩) (fun hHeld => ?_)
            clear hK K
            try simp only [Act.put]
            try simp only [List.setIfInBounds_toArray]
            try simp only [List.set_cons_succ]
            try simp only [List.set_cons_zero]
            refine wpAnyH_take (i := 11) (v := ?v85_11) rfl (by kernel_rfl) (by kernel_rfl) (by kernel_rfl) (fun _ _ _ h => h) (Or.inl ⟨by rfl, ?hy85_11⟩) hHeld ?rest85_11
            case hy85_11 =>
              intro w hSw
              (try dsimp only at hSw)
              go_simp
              all_goals (first | done | with_reducible rfl)
            try simp only [Act.put]
            try simp only [List.setIfInBounds_toArray]
            try simp only [List.set_cons_succ]
            try simp only [List.set_cons_zero]
            refine wpAnyH_take (i := 12) (v := ?v86_12) rfl (by kernel_rfl) (by kernel_rfl) (by kernel_rfl) (fun _ _ _ h => h) (Or.inl ⟨by rfl, ?hy86_12⟩) hHeld ?rest86_12
            case hy86_12 =>
              intro w hSw
              (try dsimp only at hSw)
              go_simp
              all_goals (first | done | with_reducible rfl)
            try simp only [Act.put]
            try simp only [List.setIfInBounds_toArray]
            try simp only [List.set_cons_succ]
            try simp only [List.set_cons_zero]
            refine wpAnyH_take (i := 13) (v := ?v87_13) rfl (by kernel_rfl) (by kernel_rfl) (by kernel_rfl) (fun _ _ _ h => h) (Or.inl ⟨by kernel_rfl, ?hy87_13⟩) hHeld ?rest87_13
            case hy87_13 =>
              intro w hSw
              (try dsimp only at hSw)
              go_simp
              all_goals (first | done | with_reducible rfl)
            try simp only [Act.put]
            try simp only [List.setIfInBounds_toArray]
            try simp only [List.set_cons_succ]
            try simp only [List.set_cons_zero]
            refine wpAnyH_take (i := 14) (v := ?v88_14) rfl (by kernel_rfl) (by kernel_rfl) (by kernel_rfl) (fun _ _ _ h => h) (Or.inl ⟨by kernel_rfl, ?hy88_14⟩) hHeld ?rest88_14
            case hy88_14 =>
              intro w hSw
              (try dsimp only at hSw)
              go_simp
              all_goals (first | done | with_reducible rfl)
            try simp only [Act.put]
            try simp only [List.setIfInBounds_toArray]
            try simp only [List.set_cons_succ]
            try simp only [List.set_cons_zero]
            refine wpAnyH_take (i := 15) (v := ?v89_15) rfl (by kernel_rfl) (by kernel_rfl) (by kernel_rfl) (fun _ _ _ h => h) (Or.inl ⟨by kernel_rfl, ?hy89_15⟩) hHeld ?rest89_15
            case hy89_15 =>
              intro w hSw
              (try dsimp only at hSw)
              go_simp
              all_goals (first | done | with_reducible rfl)
            try simp only [Act.put]
            try simp only [List.setIfInBounds_toArray]
            try simp only [List.set_cons_succ]
            try simp only [List.set_cons_zero]
            refine wpAnyH_take (i := 16) (v := ?v90_16) rfl (by kernel_rfl) (by kernel_rfl) (by kernel_rfl) (fun _ _ _ h => h) (Or.inl ⟨by kernel_rfl, ?hy90_16⟩) hHeld ?rest90_16
            case hy90_16 =>
              intro w hSw
              (try dsimp only at hSw)
              go_simp
              all_goals (first | done | with_reducible rfl)
            try simp only [Act.put]
            try simp only [List.setIfInBounds_toArray]
            try simp only [List.set_cons_succ]
            try simp only [List.set_cons_zero]
            refine wpAnyH_take (i := 17) (v := ?v91_17) rfl (by kernel_rfl) (by kernel_rfl) (by kernel_rfl) (fun _ _ _ h => h) (Or.inl ⟨by kernel_rfl, ?hy91_17⟩) hHeld ?rest91_17
            case hy91_17 =>
              intro w hSw
              (try dsimp only at hSw)
              go_simp
              all_goals (first | done | with_reducible rfl)
            try simp only [Act.put]
            try simp only [List.setIfInBounds_toArray]
            try simp only [List.set_cons_succ]
            try simp only [List.set_cons_zero]
            refine wpAnyH_take (i := 18) (v := ?v92_18) rfl (by kernel_rfl) (by kernel_rfl) (by kernel_rfl) (fun _ _ _ h => h) (Or.inl ⟨by kernel_rfl, ?hy92_18⟩) hHeld ?rest92_18
            case hy92_18 =>
              intro w hSw
              (try dsimp only at hSw)
              go_simp
              all_goals (first | done | with_reducible rfl)
            try simp only [Act.put]
            try simp only [List.setIfInBounds_toArray]
            try simp only [List.set_cons_succ]
            try simp only [List.set_cons_zero]
            refine wpAnyH_take (i := 19) (v := ?v93_19) rfl (by kernel_rfl) (by kernel_rfl) (by kernel_rfl) (fun _ _ _ h => h) (Or.inl ⟨by kernel_rfl, ?hy93_19⟩) hHeld ?rest93_19
            case hy93_19 =>
              intro w hSw
              (try dsimp only at hSw)
              go_simp
              all_goals (first | done | with_reducible rfl)
            try simp only [Act.put]
            try simp only [List.setIfInBounds_toArray]
            try simp only [List.set_cons_succ]
            try simp only [List.set_cons_zero]
            refine wpAnyH_take (i := 20) (v := ?v94_20) rfl (by kernel_rfl) (by kernel_rfl) (by kernel_rfl) (fun _ _ _ h => h) (Or.inl ⟨by kernel_rfl, ?hy94_20⟩) hHeld ?rest94_20
            case hy94_20 =>
              intro w hSw
              (try dsimp only at hSw)
              go_simp
              all_goals (first | done | with_reducible rfl)
            try simp only [Act.put]
            try simp only [List.setIfInBounds_toArray]
            try simp only [List.set_cons_succ]
            try simp only [List.set_cons_zero]
            refine wpAnyH_take (i := 21) (v := ?v95_21) rfl (by kernel_rfl) (by kernel_rfl) (by kernel_rfl) (fun _ _ _ h => h) (Or.inl ⟨by kernel_rfl, ?hy95_21⟩) hHeld ?rest95_21
            case hy95_21 =>
              intro w hSw
              (try dsimp only at hSw)
              go_simp
              all_goals (first | done | with_reducible rfl)
            try simp only [Act.put]
            try simp only [List.setIfInBounds_toArray]
            try simp only [List.set_cons_succ]
            try simp only [List.set_cons_zero]
            refine wpAnyH_take (i := 22) (v := ?v96_22) rfl (by kernel_rfl) (by kernel_rfl) (by kernel_rfl) (fun _ _ _ h => h) (Or.inl ⟨by kernel_rfl, ?hy96_22⟩) hHeld ?rest96_22
            case hy96_22 =>
              intro w hSw
              (try dsimp only at hSw)
              go_simp
              all_goals (first | done | with_reducible rfl)
            try simp only [Act.put]
            try simp only [List.setIfInBounds_toArray]
            try simp only [List.set_cons_succ]
            try simp only [List.set_cons_zero]
            refine wpAnyH_ready (rs := [23]) (by kernel_rfl) (by simp) ?_
            refine AllReadyH.cons rfl (fun K hK => ?_) AllReadyH.nil
            go_simp
            go_at_call 60
            refine (specInts _ _ s2 t2 bo12 bo22 _ H2.out.1 J2.out.1).mono ?_
            rintro e wH2 ⟨he, hb⟩
            rw [Q2.out] at he
            subst he
            replace HB := Lib.hid (below_thru HB.out (Nat.le_refl _) hb)
            clear hb H2 J2
            clear hHeld
            try go_wp2_with fail
            refine hK.out _ _ (by exact ⟨(HB.out.cell (p := ⟨b1, off1 + k * 2, none⟩) hbl1).trans K10.out, (HB.out.cell (p := ⟨b1, off1 + k * 2 + 1, none⟩) hbl1).trans K11.out, (HB.out.cell (p := ⟨b2, off2 + k * 2, none⟩) hbl2).trans K20.out, (HB.out.cell (p := ⟨b2, off2 + k * 2 + 1, none⟩) hbl2).trans K21.out⟩) (fun hHeld => ?_)
            clear hK K
            try simp only [Act.put]
            try simp only [List.setIfInBounds_toArray]
            try simp only [List.set_cons_succ]
            try simp only [List.set_cons_zero]
            refine wpAnyH_take (i := 24) (v := ?v97_24) rfl (by kernel_rfl) (by kernel_rfl) (by kernel_rfl) (fun _ _ _ h => h) (Or.inl ⟨by kernel_rfl, ?hy97_24⟩) hHeld ?rest97_24
            case hy97_24 =>
              intro w hSw
              (try dsimp only at hSw)
              go_simp
              all_goals (first | done | with_reducible rfl)
            try simp only [Act.put]
            try simp only [List.setIfInBounds_toArray]
            try simp only [List.set_cons_succ]
            try simp only [List.set_cons_zero]
            refine wpAnyH_take (i := 25) (v := ?v98_25) rfl (by kernel_rfl) (by kernel_rfl) (by kernel_rfl) (fun _ _ _ h => h) (Or.inl ⟨by rfl, ?hy98_25⟩) hHeld ?rest98_25
            case hy98_25 =>
              intro w hSw
              (try dsimp only at hSw)
              go_simp
              all_goals (first | done | with_reducible rfl)
            try simp only [Act.put]
            try simp only [List.setIfInBounds_toArray]
            try simp only [List.set_cons_succ]
            try simp only [List.set_cons_zero]
            refine wpAnyH_done (by kernel_rfl) ?_ _
            try simp only [List.getElem_toArray]
            try simp only [List.getElem_cons_succ]
            try simp only [List.getElem_cons_zero]
            try simp only [Act.put]
            try simp only [List.setIfInBounds_toArray]
            try simp only [List.set_cons_succ]
            try simp only [List.set_cons_zero]
            go_wp2_with fail
            go_ret
            exact ⟨by rw [HK.out]; rfl, HB.out⟩
          | true =>
            have HK : Hid (Cfl.beqs (cs.take (k + 1)) (bs.take (k + 1)) = true) := by show _ = _; rw [HTK.out, HF.out, HQ.out, q1, q2]; rfl
            have Q1 := Lib.hid q1
            have Q2 := Lib.hid q2
            clear q1 q2
            refine wp_region_held_drew (S := (fun w' => w'.cell? ⟨b1, off1 + k * 2, none⟩ = some (.slice pba pbn pbc) ∧ w'.cell? ⟨b1, off1 + k * 2 + 1, none⟩ = some (.slice pca pcn pcc) ∧ w'.cell? ⟨b2, off2 + k * 2, none⟩ = some (.slice qba qbn qbc) ∧ w'.cell? ⟨b2, off2 + k * 2 + 1, none⟩ = some (.slice qca qcn qcc))) (by kernel_rfl) (by exact ⟨(HB.out.cell (p := ⟨b1, off1 + k * 2, none⟩) hbl1).trans K10.out, (HB.out.cell (p := ⟨b1, off1 + k * 2 + 1, none⟩) hbl1).trans K11.out, (HB.out.cell (p := ⟨b2, off2 + k * 2, none⟩) hbl2).trans K20.out, (HB.out.cell (p := ⟨b2, off2 + k * 2 + 1, none⟩) hbl2).trans K21.out⟩) (fun hHeld => ?_)
            refine wpAnyH_take (i := 0) (v := ?v99_0) rfl (by kernel_rfl) (by kernel_rfl) (by kernel_rfl) (fun _ _ _ h => h) (Or.inl ⟨by rfl, ?hy99_0⟩) hHeld ?rest99_0
            case hy99_0 =>
              intro w hSw
              (try dsimp only at hSw)
              go_simp
              all_goals (first | done | with_reducible rfl)
            try simp only [Act.put]
            try simp only [List.setIfInBounds_toArray]
            try simp only [List.set_cons_succ]
            try simp only [List.set_cons_zero]
            refine wpAnyH_take (i := 1) (v := ?v100_1) rfl (by kernel_rfl) (by kernel_rfl) (by kernel_rfl) (fun _ _ _ h => h) (Or.inl ⟨by rfl, ?hy100_1⟩) hHeld ?rest100_1
            case hy100_1 =>
              intro w hSw
              (try dsimp only at hSw)
              go_simp
              all_goals (first | done | with_reducible rfl)
            try simp only [Act.put]
            try simp only [List.setIfInBounds_toArray]
            try simp only [List.set_cons_succ]
            try simp only [List.set_cons_zero]
            refine wpAnyH_take (i := 2) (v := ?v101_2) rfl (by kernel_rfl) (by kernel_rfl) (by kernel_rfl) (fun _ _ _ h => h) (Or.inl ⟨by rfl, ?hy101_2⟩) hHeld ?rest101_2
            case hy101_2 =>
              intro w hSw
              (try dsimp only at hSw)
              go_simp
              all_goals (first | done | with_reducible rfl)
            try simp only [Act.put]
            try simp only [List.setIfInBounds_toArray]
            try simp only [List.set_cons_succ]
            try simp only [List.set_cons_zero]
            refine wpAnyH_take (i := 3) (v := ?v102_3) rfl (by kernel_rfl) (by kernel_rfl) (by kernel_rfl) (fun _ _ _ h => h) (Or.inl ⟨by rfl, ?hy102_3⟩) hHeld ?rest102_3
            case hy102_3 =>
              intro w hSw
              (try dsimp only at hSw)
              go_simp
              all_goals (first | done | with_reducible rfl)
            try simp only [Act.put]
            try simp only [List.setIfInBounds_toArray]
            try simp only [List.set_cons_succ]
            try simp only [List.set_cons_zero]
            refine wpAnyH_take (i := 4) (v := ?v103_4) rfl (by kernel_rfl) (by kernel_rfl) (by kernel_rfl) (fun _ _ _ h => h) (Or.inl ⟨by rfl, ?hy103_4⟩) hHeld ?rest103_4
            case hy103_4 =>
              intro w hSw
              (try dsimp only at hSw)
              go_simp
              all_goals (first | done | with_reducible rfl)
            try simp only [Act.put]
            try simp only [List.setIfInBounds_toArray]
            try simp only [List.set_cons_succ]
            try simp only [List.set_cons_zero]
            refine wpAnyH_take (i := 5) (v := ?v104_5) rfl (by kernel_rfl) (by kernel_rfl) (by kernel_rfl) (fun _ _ _ h => h) (Or.inl ⟨by rfl, ?hy104_5⟩) hHeld ?rest104_5
            case hy104_5 =>
              intro w hSw
              (try dsimp only at hSw)
              go_simp
              all_goals (first | done | with_reducible rfl)
            try simp only [Act.put]
            try simp only [List.setIfInBounds_toArray]
            try simp only [List.set_cons_succ]
            try simp only [List.set_cons_zero]
            refine wpAnyH_take (i := 6) (v := ?v105_6) rfl (by kernel_rfl) (by kernel_rfl) (by kernel_rfl) (fun _ _ _ h => h) (Or.inl ⟨by rfl, ?hy105_6⟩) hHeld ?rest105_6
            case hy105_6 =>
              intro w hSw
              (try dsimp only at hSw)
              go_simp
              all_goals (first | done | with_reducible rfl)
            try simp only [Act.put]
            try simp only [List.setIfInBounds_toArray]
            try simp only [List.set_cons_succ]
            try simp only [List.set_cons_zero]
            refine wpAnyH_take (i := 7) (v := ?v106_7) rfl (by kernel_rfl) (by kernel_rfl) (by kernel_rfl) (fun _ _ _ h => h) (Or.inl ⟨by rfl, ?hy106_7⟩) hHeld ?rest106_7
            case hy106_7 =>
              intro w hSw
              (try dsimp only at hSw)
              go_simp
              all_goals (first | done | with_reducible rfl)
            try simp only [Act.put]
            try simp only [List.setIfInBounds_toArray]
            try simp only [List.set_cons_succ]
            try simp only [List.set_cons_zero]
            refine wpAnyH_take (i := 8) (v := ?v107_8) rfl (by kernel_rfl) (by kernel_rfl) (by kernel_rfl) (fun _ _ _ h => h) (Or.inl ⟨by rfl, ?hy107_8⟩) hHeld ?rest107_8
            case hy107_8 =>
              intro w hSw
              (try dsimp only at hSw)
              go_simp
              all_goals (first | done | with_reducible rfl)
            try simp only [Act.put]
            try simp only [List.setIfInBounds_toArray]
            try simp only [List.set_cons_succ]
            try simp only [List.set_cons_zero]
            refine wpAnyH_take (i := 9) (v := ?v108_9) rfl (by kernel_rfl) (by kernel_rfl) (by kernel_rfl) (fun _ _ _ h => h) (Or.inl ⟨by rfl, ?hy108_9⟩) hHeld ?rest108_9
            case hy108_9 =>
              intro w hSw
              (try dsimp only at hSw)
              go_simp
              all_goals (first | done | with_reducible rfl)
            try simp only [Act.put]
            try simp only [List.setIfInBounds_toArray]
            try simp only [List.set_cons_succ]
            try simp only [List.set_cons_zero]
            refine wpAnyH_ready (rs := [10]) (by kernel_rfl) (by simp) ?_
            refine AllReadyH.cons rfl (fun K hK => ?_) AllReadyH.nil
            go_simp
            go_at_call 60
            refine (specInts _ _ s1 t1 bo11 bo21 _ H1.out.1 J1.out.1).mono ?_
            rintro e wH1 ⟨he, hb⟩
            rw [Q1.out] at he
            subst he
            replace HB := Lib.hid (below_thru HB.out (Nat.le_refl _) hb)
            replace H2 := Lib.hid (H2.out.below hb)
            replace J2 := Lib.hid (J2.out.below hb)
            clear hb H1 J1
            clear hHeld
            try go_wp2_with fail
            refine hK.out _ _ (by exact ⟨(HB.out.cell (p := ⟨b1, off1 + k * 2, none⟩) hbl1).trans K10.out, (HB.out.cell (p := ⟨b1, off1 + k * 2 + 1, none⟩) hbl1).trans K11.out, (HB.out.cell (p := ⟨b2, off2 + k * 2, none⟩) hbl2).trans K20.out, (HB.out.cell (p := ⟨b2, off2 + k * 2 + 1, none⟩) hbl2).trans K21.out⟩) (fun hHeld => ?_)
            clear hK K
            try simp only [Act.put]
            try simp only [List.setIfInBounds_toArray]
            try simp only [List.set_cons_succ]
            try simp only [List.set_cons_zero]
            refine wpAnyH_take (i := 11) (v := ?v109_11) rfl (by kernel_rfl) (by kernel_rfl) (by kernel_rfl) (fun _ _ _ h => h) (Or.inl ⟨by rfl, ?hy109_11⟩) hHeld ?rest109_11
            case hy109_11 =>
              intro w hSw
              (try dsimp only at hSw)
              go_simp
              all_goals (first | done | with_reducible rfl)
            try simp only [Act.put]
            try simp only [List.setIfInBounds_toArray]
            try simp only [List.set_cons_succ]
            try simp only [List.set_cons_zero]
            refine wpAnyH_take (i := 12) (v := ?v110_12) rfl (by kernel_rfl) (by kernel_rfl) (by kernel_rfl) (fun _ _ _ h => h) (Or.inl ⟨by rfl, ?hy110_12⟩) hHeld ?rest110_12
            case hy110_12 =>
              intro w hSw
              (try dsimp only at hSw)
              go_simp
              all_goals (first | done | with_reducible rfl)
            try simp only [Act.put]
            try simp only [List.setIfInBounds_toArray]
            try simp only [List.set_cons_succ]
            try simp only [List.set_cons_zero]
            refine wpAnyH_take (i := 13) (v := ?v111_13) rfl (by kernel_rfl) (by kernel_rfl) (by kernel_rfl) (fun _ _ _ h => h) (Or.inl ⟨by kernel_rfl, ?hy111_13⟩) hHeld ?rest111_13
            case hy111_13 =>
              intro w hSw
              (try dsimp only at hSw)
              go_simp
              all_goals (first | done | with_reducible rfl)
            try simp only [Act.put]
            try simp only [List.setIfInBounds_toArray]
            try simp only [List.set_cons_succ]
            try simp only [List.set_cons_zero]
            refine wpAnyH_take (i := 14) (v := ?v112_14) rfl (by kernel_rfl) (by kernel_rfl) (by kernel_rfl) (fun _ _ _ h => h) (Or.inl ⟨by kernel_rfl, ?hy112_14⟩) hHeld ?rest112_14
            case hy112_14 =>
              intro w hSw
              (try dsimp only at hSw)
              go_simp
              all_goals (first | done | with_reducible rfl)
            try simp only [Act.put]
            try simp only [List.setIfInBounds_toArray]
            try simp only [List.set_cons_succ]
            try simp only [List.set_cons_zero]
            refine wpAnyH_take (i := 15) (v := ?v113_15) rfl (by kernel_rfl) (by kernel_rfl) (by kernel_rfl) (fun _ _ _ h => h) (Or.inl ⟨by kernel_rfl, ?hy113_15⟩) hHeld ?rest113_15
            case hy113_15 =>
              intro w hSw
              (try dsimp only at hSw)
              go_simp
              all_goals (first | done | with_reducible rfl)
            try simp only [Act.put]
            try simp only [List.setIfInBounds_toArray]
            try simp only [List.set_cons_succ]
            try simp only [List.set_cons_zero]
            refine wpAnyH_take (i := 16) (v := ?v114_16) rfl (by kernel_rfl) (by kernel_rfl) (by kernel_rfl) (fun _ _ _ h => h) (Or.inl ⟨by kernel_rfl, ?hy114_16⟩) hHeld ?rest114_16
            case hy114_16 =>
              intro w hSw
              (try dsimp only at hSw)
              go_simp
              all_goals (first | done | with_reducible rfl)
            try simp only [Act.put]
            try simp only [List.setIfInBounds_toArray]
            try simp only [List.set_cons_succ]
            try simp only [List.set_cons_zero]
            refine wpAnyH_take (i := 17) (v := ?v115_17) rfl (by kernel_rfl) (by kernel_rfl) (by kernel_rfl) (fun _ _ _ h => h) (Or.inl ⟨by kernel_rfl, ?hy115_17⟩) hHeld ?rest115_17
            case hy115_17 =>
              intro w hSw
              (try dsimp only at hSw)
              go_simp
              all_goals (first | done | with_reducible rfl)
            try simp only [Act.put]
            try simp only [List.setIfInBounds_toArray]
            try simp only [List.set_cons_succ]
            try simp only [List.set_cons_zero]
            refine wpAnyH_take (i := 18) (v := ?v116_18) rfl (by kernel_rfl) (by kernel_rfl) (by kernel_rfl) (fun _ _ _ h => h) (Or.inl ⟨by kernel_rfl, ?hy116_18⟩) hHeld ?rest116_18
            case hy116_18 =>
              intro w hSw
              (try dsimp only at hSw)
              go_simp
              all_goals (first | done | with_reducible rfl)
            try simp only [Act.put]
            try simp only [List.setIfInBounds_toArray]
            try simp only [List.set_cons_succ]
            try simp only [List.set_cons_zero]
            refine wpAnyH_take (i := 19) (v := ?v117_19) rfl (by kernel_rfl) (by kernel_rfl) (by kernel_rfl) (fun _ _ _ h => h) (Or.inl ⟨by kernel_rfl, ?hy117_19⟩) hHeld ?rest117_19
            case hy117_19 =>
              intro w hSw
              (try dsimp only at hSw)
              go_simp
              all_goals (first | done | with_reducible rfl)
            try simp only [Act.put]
            try simp only [List.setIfInBounds_toArray]
            try simp only [List.set_cons_succ]
            try simp only [List.set_cons_zero]
            refine wpAnyH_take (i := 20) (v := ?v118_20) rfl (by kernel_rfl) (by kernel_rfl) (by kernel_rfl) (fun _ _ _ h => h) (Or.inl ⟨by kernel_rfl, ?hy118_20⟩) hHeld ?rest118_20
            case hy118_20 =>
              intro w hSw
              (try dsimp only at hSw)
              go_simp
              all_goals (first | done | with_reducible rfl)
            try simp only [Act.put]
            try simp only [List.setIfInBounds_toArray]
            try simp only [List.set_cons_succ]
            try simp only [List.set_cons_zero]
            refine wpAnyH_take (i := 21) (v := ?v119_21) rfl (by kernel_rfl) (by kernel_rfl) (by kernel_rfl) (fun _ _ _ h => h) (Or.inl ⟨by kernel_rfl, ?hy119_21⟩) hHeld ?rest119_21
            case hy119_21 =>
              intro w hSw
              (try dsimp only at hSw)
              go_simp
              all_goals (first | done | with_reducible rfl)
            try simp only [Act.put]
            try simp only [List.setIfInBounds_toArray]
            try simp only [List.set_cons_succ]
            try simp only [List.set_cons_zero]
            refine wpAnyH_take (i := 22) (v := ?v120_22) rfl (by kernel_rfl) (by kernel_rfl) (by kernel_rfl) (fun _ _ _ h => h) (Or.inl ⟨by kernel_rfl, ?hy120_22⟩) hHeld ?rest120_22
            case hy120_22 =>
              intro w hSw
              (try dsimp only at hSw)
              go_simp
              all_goals (first | done | with_reducible rfl)
            try simp only [Act.put]
            try simp only [List.setIfInBounds_toArray]
            try simp only [List.set_cons_succ]
            try simp only [List.set_cons_zero]
            refine wpAnyH_ready (rs := [23]) (by kernel_rfl) (by simp) ?_
            refine AllReadyH.cons rfl (fun K hK => ?_) AllReadyH.nil
            go_simp
            go_at_call 60
            refine (specInts _ _ s2 t2 bo12 bo22 _ H2.out.1 J2.out.1).mono ?_
            rintro e wH2 ⟨he, hb⟩
            rw [Q2.out] at he
            subst he
            replace HB := Lib.hid (below_thru HB.out (Nat.le_refl _) hb)
            clear hb H2 J2
            clear hHeld
            try go_wp2_with fail
            refine hK.out _ _ (by exact ⟨(HB.out.cell (p := ⟨b1, off1 + k * 2, none⟩) hbl1).trans K10.out, (HB.out.cell (p := ⟨b1, off1 + k * 2 + 1, none⟩) hbl1).trans K11.out, (HB.out.cell (p := ⟨b2, off2 + k * 2, none⟩) hbl2).trans K20.out, (HB.out.cell (p := ⟨b2, off2 + k * 2 + 1, none⟩) hbl2).trans K21.out⟩) (fun hHeld => ?_)
            clear hK K
            try simp only [Act.put]
            try simp only [List.setIfInBounds_toArray]
            try simp only [List.set_cons_succ]
            try simp only [List.set_cons_zero]
            refine wpAnyH_take (i := 24) (v := ?v121_24) rfl (by kernel_rfl) (by kernel_rfl) (by kernel_rfl) (fun _ _ _ h => h) (Or.inl ⟨by kernel_rfl, ?hy121_24⟩) hHeld ?rest121_24
            case hy121_24 =>
              intro w hSw
              (try dsimp only at hSw)
              go_simp
              all_goals (first | done | with_reducible rfl)
            try simp only [Act.put]
            try simp only [List.setIfInBounds_toArray]
            try simp only [List.set_cons_succ]
            try simp only [List.set_cons_zero]
            refine wpAnyH_take (i := 25) (v := ?v122_25) rfl (by kernel_rfl) (by kernel_rfl) (by kernel_rfl) (fun _ _ _ h => h) (Or.inl ⟨by rfl, ?hy122_25⟩) hHeld ?rest122_25
            case hy122_25 =>
              intro w hSw
              (try dsimp only at hSw)
              go_simp
              all_goals (first | done | with_reducible rfl)
            try simp only [Act.put]
            try simp only [List.setIfInBounds_toArray]
            try simp only [List.set_cons_succ]
            try simp only [List.set_cons_zero]
            refine wpAnyH_done (by kernel_rfl) ?_ _
            try simp only [List.getElem_toArray]
            try simp only [List.getElem_cons_succ]
            try simp only [List.getElem_cons_zero]
            try simp only [Act.put]
            try simp only [List.setIfInBounds_toArray]
            try simp only [List.set_cons_succ]
            try simp only [List.set_cons_zero]
            go_wp2_with fail
            exact ⟨⟨k + 1, by omega, by go_num, HK.out, HB.out⟩, by simp [intOf]; omega⟩
      · obtain rfl : k = cs.length := by omega
        have HK : Hid (Cfl.beqs cs bs = true) := by
          have := HF.out
          rw [List.take_length, HL.out, List.take_length] at this; exact this
        go_wp2_with fail
        go_ret
        exact ⟨by rw [HK.out]; rfl, HB.out⟩
end Go.Proofs.Ytajikfageppobaa
