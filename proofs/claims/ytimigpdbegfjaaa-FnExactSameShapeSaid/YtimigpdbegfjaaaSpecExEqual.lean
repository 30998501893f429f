/-
  Proved: spec.EqualExpr compares two expressions; the memory that was there stays as it was.
-/
import Derived.Test.YtimigpdbegfjaaaExEq
import Derived.Test.YtimigpdbegfjaaaSpecEqual
import Derived.StillTailTactics
namespace Go.Proofs.Ytimigpdbegfjaaa
open Go.RowKit

set_option maxRecDepth 100000 in
set_option maxHeartbeats 4000000 in
theorem specExEqual : ∀ (d : Nat) (v1 v2 : Value) (t1 t2 : Ex) (w : World), ExAt w d v1 t1 → ExAt w d v2 t2 →
    Calls Try.prog 64 #[v1, v2] w fun e w' => e = .returned (.bool (t1.beq t2)) ∧ Below w.heap.size w w'
  | 0, _, _, _, _, _, h, _ => h.elim
  | d + 1, v1, v2, .node k1 nm1 n1 ty1 cs, .node k2 nm2 n2 ty2 bs, w, h1, h2 => by
    have IH : Hid (∀ (v1 v2 : Value) (t1 t2 : Ex) (w : World), ExAt w d v1 t1 → ExAt w d v2 t2 → Calls Try.prog 64 #[v1, v2] w fun e w' => e = .returned (.bool (t1.beq t2)) ∧ Below w.heap.size w w') := specExEqual d
    have HV1 := ex_parts h1
    obtain ⟨c13, c14, sl1, rfl, hk10, hk11, hn10, hn11, hm1, hty1, sa1, sc1, rfl, hcap1, hcp1, hat1⟩ := h1
    obtain ⟨k', nm', n', tk1, ta1, tn1, tc1, sa', sn', sc', hv⟩ := HV1
    injection hv with hv
    injection hv with hv
    simp at hv
    obtain ⟨rfl, rfl, rfl, rfl, rfl, rfl, rfl, rfl⟩ := hv
    have HV2 := ex_parts h2
    obtain ⟨c23, c24, sl2, rfl, hk20, hk21, hn20, hn21, hm2, hty2, sa2, sc2, rfl, hcap2, hcp2, hat2⟩ := h2
    obtain ⟨k', nm', n', tk2, ta2, tn2, tc2, sa', sn', sc', hv⟩ := HV2
    injection hv with hv
    injection hv with hv
    simp at hv
    obtain ⟨rfl, rfl, rfl, rfl, rfl, rfl, rfl, rfl⟩ := hv
    have e2 : Below w.heap.size w ((w.alloc (.cells #[.int .i64 k1, .string nm1, .int .i64 n1, .int .i64 tk1, .slice ta1 tn1 tc1, .slice sa1 cs.length sc1] 37)).alloc (.cells #[.int .i64 k2, .string nm2, .int .i64 n2, .int .i64 tk2, .slice ta2 tn2 tc2, .slice sa2 bs.length sc2] 37)) := ((Below.refl _ _).alloc (Nat.le_refl _) _).alloc (by simp) _
    have HY1 := Lib.hid (hty1.below e2)
    have HY2 := Lib.hid (hty2.below e2)
    have HE := Lib.hid e2
    have HA1 := Lib.hid hat1
    have HA2 := Lib.hid hat2
    clear e2 hty1 hty2 hat1 hat2
    by_cases q1 : k1 = k2
    case neg =>
      have HR : Hid ((Ex.node k1 nm1 n1 ty1 cs).beq (Ex.node k2 nm2 n2 ty2 bs) = false) := by show _ = _; simp [Ex.beq, q1]
      go_enter Try.func64, Try.ntmps64
      go_wp2_with fail
      go_ret
      exact ⟨by rw [HR.out]; rfl, HE.out⟩
    subst q1
    by_cases q2 : nm1 = nm2
    case neg =>
      have q2b : (nm1.toList == nm2.toList) = false := text_ne q2
      have HR : Hid ((Ex.node k1 nm1 n1 ty1 cs).beq (Ex.node k1 nm2 n2 ty2 bs) = false) := by show _ = _; simp [Ex.beq, q2]
      go_enter Try.func64, Try.ntmps64
      go_wp2_with fail
      go_ret
      exact ⟨by rw [HR.out]; rfl, HE.out⟩
    subst q2
    by_cases q3 : n1 = n2
    case neg =>
      have HR : Hid ((Ex.node k1 nm1 n1 ty1 cs).beq (Ex.node k1 nm1 n2 ty2 bs) = false) := by show _ = _; simp [Ex.beq, q3]
      go_enter Try.func64, Try.ntmps64
      go_wp2_with fail
      go_ret
      exact ⟨by rw [HR.out]; rfl, HE.out⟩
    subst q3
    go_enter Try.func64, Try.ntmps64
    go_wp2_with fail
    refine (specEqual d _ _ ty1 ty2 _ HY1.out HY2.out).mono ?_
    rintro e w1 ⟨rfl, hb⟩
    have HB9 := Lib.hid (two_on (Below.refl _ _) hb); clear hb
    have p5 := two_first HB9.out 5
    have r5 := two_next HB9.out 5
    cases hq : ty1.beq ty2 with
    | false =>
      have HR : Hid ((Ex.node k1 nm1 n1 ty1 cs).beq (Ex.node k1 nm1 n1 ty2 bs) = false) := by show _ = _; simp [Ex.beq, hq]
      go_wp2_with fail
      go_ret
      exact ⟨by rw [HR.out]; rfl, two_below HB9.out⟩
    | true =>
      by_cases q5 : cs.length = bs.length
      · have HFIN : Hid ((Ex.node k1 nm1 n1 ty1 cs).beq (Ex.node k1 nm1 n1 ty2 bs) = Ex.beqs cs bs) := by show _ = _; simp [Ex.beq, hq, q5]
        replace q5 := Lib.hid q5
        rw [← q5.out] at r5 HB9 ⊢
        go_wp2_with fail
        go_loopw [5] (fun i wr => ∃ k : Nat, k ≤ cs.length ∧ i = .int .i64 k ∧ Ex.beqs (cs.take k) (bs.take k) = true ∧ Below (w.heap.size + 2) ((w.alloc (.cells #[.int .i64 k1, .string nm1, .int .i64 n1, .int .i64 tk1, .slice ta1 tn1 tc1, .slice sa1 cs.length sc1] 37)).alloc (.cells #[.int .i64 k1, .string nm1, .int .i64 n1, .int .i64 tk2, .slice ta2 tn2 tc2, .slice sa2 cs.length sc2] 37)) wr) (fun i _ => cs.length - (intOf i).toNat)
        case atStart => exact ⟨0, by omega, rfl, by simp [Ex.beqs], HB9.out⟩
        case round =>
          obtain ⟨k, hk, rfl, hf, hb⟩ := hrel
          have HF := Lib.hid hf; clear hf
          have z51 := two_first hb 5
          have z52 := two_next hb 5
          have HB := Lib.hid (two_below hb)
          have HBX := Lib.hid hb; clear hb
          by_cases hlt : k < cs.length
          · have hlt2 : k < bs.length := by have := q5.out; omega
            obtain ⟨b1, off1, x0, x1, x2, x3, x4, x5, rfl, hbl1, hc10, hc11, hc12, hc13, hc14, hc15, ht1⟩ := HA1.out k hlt
            obtain ⟨b2, off2, y0, y1, y2, y3, y4, y5, rfl, hbl2, hc20, hc21, hc22, hc23, hc24, hc25, ht2⟩ := HA2.out k hlt2
            have c10 : wr.cell? ⟨b1, off1 + k * 6, none⟩ = some x0 := by rw [HB.out.cell (p := ⟨b1, off1 + k * 6, none⟩) hbl1]; exact hc10
            have c20 : wr.cell? ⟨b2, off2 + k * 6, none⟩ = some y0 := by rw [HB.out.cell (p := ⟨b2, off2 + k * 6, none⟩) hbl2]; exact hc20
            have c11 : wr.cell? ⟨b1, off1 + k * 6 + 1, none⟩ = some x1 := by rw [HB.out.cell (p := ⟨b1, off1 + k * 6 + 1, none⟩) hbl1]; exact hc11
            have c21 : wr.cell? ⟨b2, off2 + k * 6 + 1, none⟩ = some y1 := by rw [HB.out.cell (p := ⟨b2, off2 + k * 6 + 1, none⟩) hbl2]; exact hc21
            have c12 : wr.cell? ⟨b1, off1 + k * 6 + 2, none⟩ = some x2 := by rw [HB.out.cell (p := ⟨b1, off1 + k * 6 + 2, none⟩) hbl1]; exact hc12
            have c22 : wr.cell? ⟨b2, off2 + k * 6 + 2, none⟩ = some y2 := by rw [HB.out.cell (p := ⟨b2, off2 + k * 6 + 2, none⟩) hbl2]; exact hc22
            have c13 : wr.cell? ⟨b1, off1 + k * 6 + 3, none⟩ = some x3 := by rw [HB.out.cell (p := ⟨b1, off1 + k * 6 + 3, none⟩) hbl1]; exact hc13
            have c23 : wr.cell? ⟨b2, off2 + k * 6 + 3, none⟩ = some y3 := by rw [HB.out.cell (p := ⟨b2, off2 + k * 6 + 3, none⟩) hbl2]; exact hc23
            have c14 : wr.cell? ⟨b1, off1 + k * 6 + 4, none⟩ = some x4 := by rw [HB.out.cell (p := ⟨b1, off1 + k * 6 + 4, none⟩) hbl1]; exact hc14
            have c24 : wr.cell? ⟨b2, off2 + k * 6 + 4, none⟩ = some y4 := by rw [HB.out.cell (p := ⟨b2, off2 + k * 6 + 4, none⟩) hbl2]; exact hc24
            have c15 : wr.cell? ⟨b1, off1 + k * 6 + 5, none⟩ = some x5 := by rw [HB.out.cell (p := ⟨b1, off1 + k * 6 + 5, none⟩) hbl1]; exact hc15
            have c25 : wr.cell? ⟨b2, off2 + k * 6 + 5, none⟩ = some y5 := by rw [HB.out.cell (p := ⟨b2, off2 + k * 6 + 5, none⟩) hbl2]; exact hc25
            have HT1 := Lib.hid (ht1.below HB.out.drew)
            have HT2 := Lib.hid (ht2.below HB.out.drew)
            clear ht1 ht2 hc10 hc11 hc12 hc13 hc14 hc15 hc20 hc21 hc22 hc23 hc24 hc25
            go_wp2_with fail
            go_still_tail 10, (by kernel_rfl)
            change wpList _ _ _ _ _ wr.drew
            go_wp2_with fail
            refine (IH.out _ _ _ _ wr.drew HT1.out HT2.out).mono ?_
            rintro e w' ⟨rfl, hb1⟩
            have HN := Lib.hid (two_on HBX.out.drew hb1); clear hb1
            have HTK := Lib.hid (Ex.beqs_take cs bs k hlt hlt2)
            cases hfk : cs[k].beq bs[k] with
            | true =>
              have HFK := Lib.hid hfk; clear hfk
              go_wp2_with fail
              exact ⟨⟨k + 1, by omega, by go_num, by rw [HTK.out, HF.out, HFK.out]; rfl, HN.out⟩, by simp [intOf]; omega⟩
            | false =>
              have HFK := Lib.hid hfk; clear hfk
              go_wp2_with fail
              go_ret
              have e : Ex.beqs cs bs = false := Ex.beqs_false cs bs (k + 1) (by rw [HTK.out, HF.out, HFK.out]; rfl) q5.out
              exact ⟨by rw [HFIN.out, e]; rfl, two_below HN.out⟩
          · obtain rfl : k = cs.length := by omega
            have e : Hid (Ex.beqs cs bs = true) := by
              have := HF.out
              rw [List.take_length, q5.out, List.take_length] at this; exact this
            go_wp2_with fail
            go_ret
            exact ⟨by rw [HFIN.out, e.out]; rfl, HB.out⟩
      · have q5b : ((cs.length : Int) == (bs.length : Int)) = false := by simpa using (fun e => q5 (by omega))
        have HR : Hid ((Ex.node k1 nm1 n1 ty1 cs).beq (Ex.node k1 nm1 n1 ty2 bs) = false) := by show _ = _; simp [Ex.beq, q5]
        have q5c : ¬ ((cs.length : Int) = (bs.length : Int)) := by omega
        clear q5
        go_wp2_with fail
        go_ret
        exact ⟨by rw [HR.out]; rfl, two_below HB9.out⟩
end Go.Proofs.Ytimigpdbegfjaaa
