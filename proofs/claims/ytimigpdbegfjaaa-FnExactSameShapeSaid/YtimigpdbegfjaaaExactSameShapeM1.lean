/-
  Proved: the law FnExactSameShape: for every two expressions, impl.SameShape returns the same as the reference and changes no argument. Nothing is asked of the input.
-/
import Derived.Test.YtimigpdbegfjaaaExEq
import Derived.Test.YtimigpdbegfjaaaImplEqual
import Derived.StillTailTactics
import Derived.Test.YtimigpdbegfjaaaImplRenumber
import Derived.Test.YtimigpdbegfjaaaTwo
import Derived.Deep.RegionHeld3
import Derived.Test.YtimigpdbegfjaaaToExpr
import Derived.Test.YtimigpdbegfjaaaHold
import Derived.Test.YtimigpdbegfjaaaSzExpr
import Derived.Test.YtimigpdbegfjaaaEqExpr
import Derived.Test.YtimigpdbegfjaaaSpecShape
import Derived.Test.YtimigpdbegfjaaaRows
import Derived.Test.YtimigpdbegfjaaaLaw
import Derived.Deep.DeepHandedRow
import Derived.Lib.LaidTab
import Derived.LaidMore
import Derived.Test.YtimigpdbegfjaaaExprArg
/-
  Proved: impl.equalRoots compares the roots of two expressions; the memory that was there stays as it was.
-/
namespace Go.Proofs.Ytimigpdbegfjaaa
open Go.RowKit

set_option maxRecDepth 100000 in
set_option maxHeartbeats 2000000 in
theorem implRoots (d : Nat) (v1 v2 : Value) (t1 t2 : Ex) (w : World) (h1 : ExAt w d v1 t1) (h2 : ExAt w d v2 t2) :
    Calls Try.prog 108 #[v1, v2] w fun e w' => e = .returned (.bool (t1.roots t2)) ∧ Below w.heap.size w w' := by
  cases d with
  | zero => exact h1.elim
  | succ d =>
  cases t1 with
  | node k1 nm1 n1 ty1 cs =>
  cases t2 with
  | node k2 nm2 n2 ty2 bs =>
    have HV1 := ex_parts h1
    obtain ⟨c13, c14, sl1, rfl, hk10, hk11, hn10, hn11, hm1, hty1, sa1, sc1, rfl, hcap1, hcp1, hat1⟩ := h1
    obtain ⟨k', nm', n', tk1, ta1, tn1, tc1, sa', sn', sc', hv⟩ := HV1
    injection hv with hv
    injection hv with hv
    simp at hv
    obtain ⟨rfl, rfl, rfl, rfl, rfl, rfl, rfl, rfl⟩ := hv
    have HV2 := ex_parts h2
    obtain ⟨c23, c24, sl2, rfl, hk20, hk21, hn20, hn21, hm2, hty2, sa2, sc2, rfl, hcap2, hcp2, hat2⟩ := h2
    obtain ⟨k', nm', n', tk2, ta2, tn2, tc2, sa', sn', sc', hv⟩ := HV2
    injection hv with hv
    injection hv with hv
    simp at hv
    obtain ⟨rfl, rfl, rfl, rfl, rfl, rfl, rfl, rfl⟩ := hv
    have e2 : Below w.heap.size w ((w.alloc (.cells #[.int .i64 k1, .string nm1, .int .i64 n1, .int .i64 tk1, .slice ta1 tn1 tc1, .slice sa1 cs.length sc1] 37)).alloc (.cells #[.int .i64 k2, .string nm2, .int .i64 n2, .int .i64 tk2, .slice ta2 tn2 tc2, .slice sa2 bs.length sc2] 37)) := ((Below.refl _ _).alloc (Nat.le_refl _) _).alloc (by simp) _
    have HY1 := Lib.hid (hty1.below e2)
    have HY2 := Lib.hid (hty2.below e2)
    have HE := Lib.hid e2
    have HA1 := Lib.hid hat1
    have HA2 := Lib.hid hat2
    clear e2 hty1 hty2 hat1 hat2
    by_cases q1 : k1 = k2
    case neg =>
      have HR : Hid ((Ex.node k1 nm1 n1 ty1 cs).roots (Ex.node k2 nm2 n2 ty2 bs) = false) := by show _ = _; simp [Ex.roots, q1]
      go_enter Try.func108, Try.ntmps108
      go_wp2_with fail
      go_ret
      exact ⟨by rw [HR.out]; rfl, HE.out⟩
    subst q1
    by_cases q2 : nm1 = nm2
    case neg =>
      have q2b : (nm1.toList == nm2.toList) = false := text_ne q2
      have HR : Hid ((Ex.node k1 nm1 n1 ty1 cs).roots (Ex.node k1 nm2 n2 ty2 bs) = false) := by show _ = _; simp [Ex.roots, q2]
      go_enter Try.func108, Try.ntmps108
      go_wp2_with fail
      go_ret
      exact ⟨by rw [HR.out]; rfl, HE.out⟩
    subst q2
    by_cases q3 : n1 = n2
    case neg =>
      have HR : Hid ((Ex.node k1 nm1 n1 ty1 cs).roots (Ex.node k1 nm1 n2 ty2 bs) = false) := by show _ = _; simp [Ex.roots, q3]
      go_enter Try.func108, Try.ntmps108
      go_wp2_with fail
      go_ret
      exact ⟨by rw [HR.out]; rfl, HE.out⟩
    subst q3
    go_enter Try.func108, Try.ntmps108
    go_wp2_with fail
    refine (implEqual d _ _ ty1 ty2 _ HY1.out HY2.out).mono ?_
    rintro e w1 ⟨rfl, hb⟩
    have HB := Lib.hid (two_on (Below.refl _ _) hb); clear hb
    have p5 := two_first HB.out 5
    have r5 := two_next HB.out 5
    cases hq : ty1.beq ty2 with
    | false =>
      have HR : Hid ((Ex.node k1 nm1 n1 ty1 cs).roots (Ex.node k1 nm1 n1 ty2 bs) = false) := by show _ = _; simp [Ex.roots, hq]
      go_wp2_with fail
      go_ret
      exact ⟨by rw [HR.out]; rfl, two_below HB.out⟩
    | true =>
      by_cases q5 : cs.length = bs.length
      · have q5b : ((cs.length : Int) == (bs.length : Int)) = true := by simp [q5]
        have HR : Hid ((Ex.node k1 nm1 n1 ty1 cs).roots (Ex.node k1 nm1 n1 ty2 bs) = true) := by show _ = _; simp [Ex.roots, hq, q5]
        clear q5
        go_wp2_with fail
        go_ret
        exact ⟨by rw [HR.out]; rfl, two_below HB.out⟩
      · have q5b : ((cs.length : Int) == (bs.length : Int)) = false := by simpa using (fun e => q5 (by omega))
        have HR : Hid ((Ex.node k1 nm1 n1 ty1 cs).roots (Ex.node k1 nm1 n1 ty2 bs) = false) := by show _ = _; simp [Ex.roots, q5]
        clear q5
        go_wp2_with fail
        go_ret
        exact ⟨by rw [HR.out]; rfl, two_below HB.out⟩
end Go.Proofs.Ytimigpdbegfjaaa
/-
  Proved: impl.EqualExpr compares two expressions; the memory that was there stays as it was.
-/
namespace Go.Proofs.Ytimigpdbegfjaaa
open Go.RowKit

set_option maxRecDepth 100000 in
set_option maxHeartbeats 4000000 in
theorem implExEqual : ∀ (d : Nat) (v1 v2 : Value) (t1 t2 : Ex) (w : World), ExAt w d v1 t1 → ExAt w d v2 t2 →
    Calls Try.prog 65 #[v1, v2] w fun e w' => e = .returned (.bool (t1.beq t2)) ∧ Below w.heap.size w w'
  | 0, _, _, _, _, _, h, _ => h.elim
  | d + 1, v1, v2, .node k1 nm1 n1 ty1 cs, .node k2 nm2 n2 ty2 bs, w, h1, h2 => by
    have IH : Hid (∀ (v1 v2 : Value) (t1 t2 : Ex) (w : World), ExAt w d v1 t1 → ExAt w d v2 t2 → Calls Try.prog 65 #[v1, v2] w fun e w' => e = .returned (.bool (t1.beq t2)) ∧ Below w.heap.size w w') := implExEqual d
    have HX1 := Lib.hid h1
    have HX2 := Lib.hid h2
    have HV1 := ex_parts h1
    obtain ⟨c13, c14, sl1, rfl, hk10, hk11, hn10, hn11, hm1, hty1, sa1, sc1, rfl, hcap1, hcp1, hat1⟩ := h1
    obtain ⟨k', nm', n', tk1, ta1, tn1, tc1, sa', sn', sc', hv⟩ := HV1
    injection hv with hv
    injection hv with hv
    simp at hv
    obtain ⟨rfl, rfl, rfl, rfl, rfl, rfl, rfl, rfl⟩ := hv
    have HV2 := ex_parts h2
    obtain ⟨c23, c24, sl2, rfl, hk20, hk21, hn20, hn21, hm2, hty2, sa2, sc2, rfl, hcap2, hcp2, hat2⟩ := h2
    obtain ⟨k', nm', n', tk2, ta2, tn2, tc2, sa', sn', sc', hv⟩ := HV2
    injection hv with hv
    injection hv with hv
    simp at hv
    obtain ⟨rfl, rfl, rfl, rfl, rfl, rfl, rfl, rfl⟩ := hv
    have e2 : Below w.heap.size w ((w.alloc (.cells #[.int .i64 k1, .string nm1, .int .i64 n1, .int .i64 tk1, .slice ta1 tn1 tc1, .slice sa1 cs.length sc1] 37)).alloc (.cells #[.int .i64 k2, .string nm2, .int .i64 n2, .int .i64 tk2, .slice ta2 tn2 tc2, .slice sa2 bs.length sc2] 37)) := ((Below.refl _ _).alloc (Nat.le_refl _) _).alloc (by simp) _
    have HY1 := Lib.hid (hty1.below e2)
    have HY2 := Lib.hid (hty2.below e2)
    have HE := Lib.hid e2
    have HA1 := Lib.hid hat1
    have HA2 := Lib.hid hat2
    clear e2 hty1 hty2 hat1 hat2
    have HE1 := Lib.hid (HX1.out.below HE.out)
    have HE2 := Lib.hid (HX2.out.below HE.out)
    clear HX1 HX2 HY1 HY2
    go_enter Try.func65, Try.ntmps65
    go_wp2_with fail
    refine (implRoots (d + 1) _ _ (.node k1 nm1 n1 ty1 cs) (.node k2 nm2 n2 ty2 bs) _ HE1.out HE2.out).mono ?_
    rintro e w1 ⟨rfl, hb⟩
    have HB9 := Lib.hid (two_on (Below.refl _ _) hb); clear hb
    have p5 := two_first HB9.out 5
    have r5 := two_next HB9.out 5
    cases hq : (Ex.node k1 nm1 n1 ty1 cs).roots (Ex.node k2 nm2 n2 ty2 bs) with
    | false =>
      have HR : Hid ((Ex.node k1 nm1 n1 ty1 cs).beq (Ex.node k2 nm2 n2 ty2 bs) = false) := by
        show _ = _
        simp only [Ex.roots] at hq
        simp only [Ex.beq, hq, Bool.false_and]
      go_wp2_with fail
      go_ret
      exact ⟨by rw [HR.out]; rfl, two_below HB9.out⟩
    | true =>
      have HFIN : Hid ((Ex.node k1 nm1 n1 ty1 cs).beq (Ex.node k2 nm2 n2 ty2 bs) = Ex.beqs cs bs) := by
        show _ = _
        simp only [Ex.roots] at hq
        simp only [Ex.beq, hq, Bool.true_and]
      have q5 : Hid (cs.length = bs.length) := by
        simp only [Ex.roots, Bool.and_eq_true, decide_eq_true_eq] at hq
        exact hq.2.2.2.2
      go_wp2_with fail
      go_loopw [13] (fun i wr => ∃ k : Nat, k ≤ cs.length ∧ i = .int .i64 k ∧ Ex.beqs (cs.take k) (bs.take k) = true ∧ Below (w.heap.size + 2) ((w.alloc (.cells #[.int .i64 k1, .string nm1, .int .i64 n1, .int .i64 tk1, .slice ta1 tn1 tc1, .slice sa1 cs.length sc1] 37)).alloc (.cells #[.int .i64 k2, .string nm2, .int .i64 n2, .int .i64 tk2, .slice ta2 tn2 tc2, .slice sa2 bs.length sc2] 37)) wr) (fun i _ => cs.length - (intOf i).toNat)
      case atStart => exact ⟨0, by omega, rfl, by simp [Ex.beqs], HB9.out⟩
      case round =>
          obtain ⟨k, hk, rfl, hf, hb⟩ := hrel
          have HF := Lib.hid hf; clear hf
          have z51 := two_first hb 5
          have z52 := two_next hb 5
          have HB := Lib.hid (two_below hb)
          have HBX := Lib.hid hb; clear hb
          by_cases hlt : k < cs.length
          · have hlt2 : k < bs.length := by have := q5.out; omega
            obtain ⟨b1, off1, x0, x1, x2, x3, x4, x5, rfl, hbl1, hc10, hc11, hc12, hc13, hc14, hc15, ht1⟩ := HA1.out k hlt
            obtain ⟨b2, off2, y0, y1, y2, y3, y4, y5, rfl, hbl2, hc20, hc21, hc22, hc23, hc24, hc25, ht2⟩ := HA2.out k hlt2
            have c10 : wr.cell? ⟨b1, off1 + k * 6, none⟩ = some x0 := by rw [HB.out.cell (p := ⟨b1, off1 + k * 6, none⟩) hbl1]; exact hc10
            have c20 : wr.cell? ⟨b2, off2 + k * 6, none⟩ = some y0 := by rw [HB.out.cell (p := ⟨b2, off2 + k * 6, none⟩) hbl2]; exact hc20
            have c11 : wr.cell? ⟨b1, off1 + k * 6 + 1, none⟩ = some x1 := by rw [HB.out.cell (p := ⟨b1, off1 + k * 6 + 1, none⟩) hbl1]; exact hc11
            have c21 : wr.cell? ⟨b2, off2 + k * 6 + 1, none⟩ = some y1 := by rw [HB.out.cell (p := ⟨b2, off2 + k * 6 + 1, none⟩) hbl2]; exact hc21
            have c12 : wr.cell? ⟨b1, off1 + k * 6 + 2, none⟩ = some x2 := by rw [HB.out.cell (p := ⟨b1, off1 + k * 6 + 2, none⟩) hbl1]; exact hc12
            have c22 : wr.cell? ⟨b2, off2 + k * 6 + 2, none⟩ = some y2 := by rw [HB.out.cell (p := ⟨b2, off2 + k * 6 + 2, none⟩) hbl2]; exact hc22
            have c13 : wr.cell? ⟨b1, off1 + k * 6 + 3, none⟩ = some x3 := by rw [HB.out.cell (p := ⟨b1, off1 + k * 6 + 3, none⟩) hbl1]; exact hc13
            have c23 : wr.cell? ⟨b2, off2 + k * 6 + 3, none⟩ = some y3 := by rw [HB.out.cell (p := ⟨b2, off2 + k * 6 + 3, none⟩) hbl2]; exact hc23
            have c14 : wr.cell? ⟨b1, off1 + k * 6 + 4, none⟩ = some x4 := by rw [HB.out.cell (p := ⟨b1, off1 + k * 6 + 4, none⟩) hbl1]; exact hc14
            have c24 : wr.cell? ⟨b2, off2 + k * 6 + 4, none⟩ = some y4 := by rw [HB.out.cell (p := ⟨b2, off2 + k * 6 + 4, none⟩) hbl2]; exact hc24
            have c15 : wr.cell? ⟨b1, off1 + k * 6 + 5, none⟩ = some x5 := by rw [HB.out.cell (p := ⟨b1, off1 + k * 6 + 5, none⟩) hbl1]; exact hc15
            have c25 : wr.cell? ⟨b2, off2 + k * 6 + 5, none⟩ = some y5 := by rw [HB.out.cell (p := ⟨b2, off2 + k * 6 + 5, none⟩) hbl2]; exact hc25
            have HT1 := Lib.hid (ht1.below HB.out.drew)
            have HT2 := Lib.hid (ht2.below HB.out.drew)
            clear ht1 ht2 hc10 hc11 hc12 hc13 hc14 hc15 hc20 hc21 hc22 hc23 hc24 hc25
            go_wp2_with fail
            go_still_tail 10, (by kernel_rfl)
            change wpList _ _ _ _ _ wr.drew
            go_wp2_with fail
            refine (IH.out _ _ _ _ wr.drew HT1.out HT2.out).mono ?_
            rintro e w' ⟨rfl, hb1⟩
            have HN := Lib.hid (two_on HBX.out.drew hb1); clear hb1
            have HTK := Lib.hid (Ex.beqs_take cs bs k hlt hlt2)
            cases hfk : cs[k].beq bs[k] with
            | true =>
              have HFK := Lib.hid hfk; clear hfk
              go_wp2_with fail
              exact ⟨⟨k + 1, by omega, by go_num, by rw [HTK.out, HF.out, HFK.out]; rfl, HN.out⟩, by simp [intOf]; omega⟩
            | false =>
              have HFK := Lib.hid hfk; clear hfk
              go_wp2_with fail
              go_ret
              have e : Ex.beqs cs bs = false := Ex.beqs_false cs bs (k + 1) (by rw [HTK.out, HF.out, HFK.out]; rfl) q5.out
              exact ⟨by rw [HFIN.out, e]; rfl, two_below HN.out⟩
          · obtain rfl : k = cs.length := by omega
            have e : Hid (Ex.beqs cs bs = true) := by
              have := HF.out
              rw [List.take_length, q5.out, List.take_length] at this; exact this
            go_wp2_with fail
            go_ret
            exact ⟨by rw [HFIN.out, e.out]; rfl, HB.out⟩
end Go.Proofs.Ytimigpdbegfjaaa
/-
  Proved: impl.SameShape says whether two expressions are equal but for the numbers of their holes and marks; the memory that was there stays as it was.
-/
namespace Go.Proofs.Ytimigpdbegfjaaa
open Go.RowKit

set_option maxRecDepth 100000 in
set_option maxHeartbeats 2000000 in
theorem implShape (d : Nat) (v1 v2 : Value) (t1 t2 : Ex) (w : World) (hn1 : t1.bulk ≤ 1048576) (hn2 : t2.bulk ≤ 1048576) (h1 : ExAt w d v1 t1) (h2 : ExAt w d v2 t2) :
    Calls Try.prog 22 #[v1, v2] w fun e w' => e = .returned (.bool ((t1.ren 1).beq (t2.ren 1))) ∧ Below w.heap.size w w' := by
  obtain ⟨ak, am, an, atk, ata, atn, atc, asa, asn, asc, rfl⟩ := ex_parts h1
  obtain ⟨bk, bm, bn, btk, bta, btn, btc, bsa, bsn, bsc, rfl⟩ := ex_parts h2
  have B : Hid (Below w.heap.size w ((w.alloc (.cells #[.int .i64 ak, .string am, .int .i64 an, .int .i64 atk, .slice ata atn atc, .slice asa asn asc] 37)).alloc (.cells #[.int .i64 bk, .string bm, .int .i64 bn, .int .i64 btk, .slice bta btn btc, .slice bsa bsn bsc] 37))) := ((Below.refl _ _).alloc (Nat.le_refl _) _).alloc (by simp) _
  have XA : Hid (BoxAt ((w.alloc (.cells #[.int .i64 ak, .string am, .int .i64 an, .int .i64 atk, .slice ata atn atc, .slice asa asn asc] 37)).alloc (.cells #[.int .i64 bk, .string bm, .int .i64 bn, .int .i64 btk, .slice bta btn btc, .slice bsa bsn bsc] 37)) w.heap.size #[.int .i64 ak, .string am, .int .i64 an, .int .i64 atk, .slice ata atn atc, .slice asa asn asc]) := (BoxAt.new _ _ _).below (below_alloc _ _)
  have XB : Hid (BoxAt ((w.alloc (.cells #[.int .i64 ak, .string am, .int .i64 an, .int .i64 atk, .slice ata atn atc, .slice asa asn asc] 37)).alloc (.cells #[.int .i64 bk, .string bm, .int .i64 bn, .int .i64 btk, .slice bta btn btc, .slice bsa bsn bsc] 37)) (w.heap.size + 1) #[.int .i64 bk, .string bm, .int .i64 bn, .int .i64 btk, .slice bta btn btc, .slice bsa bsn bsc]) := box_at (BoxAt.new _ _ _) (by simp)
  have HA := Lib.hid (h1.below B.out)
  have HB := Lib.hid (h2.below B.out)
  clear h1 h2
  go_enter Try.func22, Try.ntmps22
  go_wp2_with fail
  have hb := below_drew ((w.alloc (.cells #[.int .i64 ak, .string am, .int .i64 an, .int .i64 atk, .slice ata atn atc, .slice asa asn asc] 37)).alloc (.cells #[.int .i64 bk, .string bm, .int .i64 bn, .int .i64 btk, .slice bta btn btc, .slice bsa bsn bsc] 37))
  replace B := Lib.hid (below_thru B.out (Nat.le_refl _) hb)
  replace XA := Lib.hid (XA.out.below hb)
  replace XB := Lib.hid (XB.out.below hb)
  replace HA := Lib.hid (HA.out.below hb)
  replace HB := Lib.hid (HB.out.below hb)
  clear hb
  go_region_held3 (fun w' => w'.cell? ⟨w.heap.size, 0, none⟩ = some (.int .i64 ak) ∧ w'.cell? ⟨w.heap.size, 1, none⟩ = some (.string am) ∧ w'.cell? ⟨w.heap.size, 2, none⟩ = some (.int .i64 an) ∧ w'.cell? ⟨w.heap.size, 3, none⟩ = some (.int .i64 atk) ∧ w'.cell? ⟨w.heap.size, 4, none⟩ = some (.slice ata atn atc) ∧ w'.cell? ⟨w.heap.size, 5, none⟩ = some (.slice asa asn asc) ∧ w'.cell? ⟨w.heap.size + 1, 0, none⟩ = some (.int .i64 bk) ∧ w'.cell? ⟨w.heap.size + 1, 1, none⟩ = some (.string bm) ∧ w'.cell? ⟨w.heap.size + 1, 2, none⟩ = some (.int .i64 bn) ∧ w'.cell? ⟨w.heap.size + 1, 3, none⟩ = some (.int .i64 btk) ∧ w'.cell? ⟨w.heap.size + 1, 4, none⟩ = some (.slice bta btn btc) ∧ w'.cell? ⟨w.heap.size + 1, 5, none⟩ = some (.slice bsa bsn bsc)) (exact ⟨XA.out.2 0, XA.out.2 1, XA.out.2 2, XA.out.2 3, XA.out.2 4, XA.out.2 5, XB.out.2 0, XB.out.2 1, XB.out.2 2, XB.out.2 3, XB.out.2 4, XB.out.2 5⟩)
    (first
     | (go_at_call_of 32 (Value.agg #[Value.int IntKind.i64 ak, Value.string am, Value.int IntKind.i64 an, Value.int IntKind.i64 atk, Value.slice ata atn atc, Value.slice asa asn asc])
        refine (implRenumber d _ t1 _ hn1 HA.out).mono ?_
        rintro e w1 ⟨o1, fp, rfl, ht, hf, hb⟩
        replace B := Lib.hid (below_thru B.out (Nat.le_refl _) hb)
        replace XA := Lib.hid (XA.out.below hb)
        replace XB := Lib.hid (XB.out.below hb)
        replace HA := Lib.hid (HA.out.below hb)
        replace HB := Lib.hid (HB.out.below hb)
        try replace HO2 := Lib.hid (HO2.out.below hb)
        have HO1 := Lib.hid ht.at_
        clear ht hf hb)
     | (go_at_call_of 32 (Value.agg #[Value.int IntKind.i64 bk, Value.string bm, Value.int IntKind.i64 bn, Value.int IntKind.i64 btk, Value.slice bta btn btc, Value.slice bsa bsn bsc])
        refine (implRenumber d _ t2 _ hn2 HB.out).mono ?_
        rintro e w2 ⟨o2, fp, rfl, ht, hf, hb⟩
        replace B := Lib.hid (below_thru B.out (Nat.le_refl _) hb)
        replace XA := Lib.hid (XA.out.below hb)
        replace XB := Lib.hid (XB.out.below hb)
        replace HA := Lib.hid (HA.out.below hb)
        replace HB := Lib.hid (HB.out.below hb)
        try replace HO1 := Lib.hid (HO1.out.below hb)
        have HO2 := Lib.hid ht.at_
        clear ht hf hb)
     | (go_at_call 65
        refine (implExEqual d _ _ (t1.ren 1) (t2.ren 1) _ HO1.out HO2.out).mono ?_
        rintro e w3 ⟨rfl, hb⟩
        replace B := Lib.hid (below_thru B.out (Nat.le_refl _) hb)
        replace XA := Lib.hid (XA.out.below hb)
        replace XB := Lib.hid (XB.out.below hb)
        clear hb))
  all_goals go_wp2_with fail
  all_goals go_ret
  all_goals exact ⟨rfl, B.out⟩
end Go.Proofs.Ytimigpdbegfjaaa
/-
  Proved: the law FnExactSameShape answers true for every two expressions, and leaves the memory that was there as it was.
-/
namespace Go.Proofs.Ytimigpdbegfjaaa
open Go.RowKit

set_option maxRecDepth 100000 in
set_option maxHeartbeats 1000000 in
theorem sameShapeWalk (d : Nat) (v1 : Value) (t1 : Ex) (v2 : Value) (t2 : Ex) (w : World) (h1 : ExAt w d v1 t1) (h2 : ExAt w d v2 t2) :
    Calls Try.prog 4 #[v1, v2] w fun e w' => e = .returned (.bool true) ∧ Below w.heap.size w w' := by
  obtain ⟨a1k, a1m, a1n, a1tk, a1ta, a1tn, a1tc, a1sa, a1sn, a1sc, rfl⟩ := ex_parts h1
  obtain ⟨a2k, a2m, a2n, a2tk, a2ta, a2tn, a2tc, a2sa, a2sn, a2sc, rfl⟩ := ex_parts h2
  have B : Hid (Below w.heap.size w ((w.alloc (.cells #[.int .i64 a1k, .string a1m, .int .i64 a1n, .int .i64 a1tk, .slice a1ta a1tn a1tc, .slice a1sa a1sn a1sc] 27)).alloc (.cells #[.int .i64 a2k, .string a2m, .int .i64 a2n, .int .i64 a2tk, .slice a2ta a2tn a2tc, .slice a2sa a2sn a2sc] 27))) := ((Below.refl _ _).alloc (Nat.le_refl _) _).alloc (by simp) _
  have HA1 := Lib.hid (h1.below B.out)
  have HA2 := Lib.hid (h2.below B.out)
  have XA1 : Hid (BoxAt ((w.alloc (.cells #[.int .i64 a1k, .string a1m, .int .i64 a1n, .int .i64 a1tk, .slice a1ta a1tn a1tc, .slice a1sa a1sn a1sc] 27)).alloc (.cells #[.int .i64 a2k, .string a2m, .int .i64 a2n, .int .i64 a2tk, .slice a2ta a2tn a2tc, .slice a2sa a2sn a2sc] 27)) (w.heap.size) #[.int .i64 a1k, .string a1m, .int .i64 a1n, .int .i64 a1tk, .slice a1ta a1tn a1tc, .slice a1sa a1sn a1sc]) := (BoxAt.new _ _ _).below (below_alloc _ _)
  have XA2 : Hid (BoxAt ((w.alloc (.cells #[.int .i64 a1k, .string a1m, .int .i64 a1n, .int .i64 a1tk, .slice a1ta a1tn a1tc, .slice a1sa a1sn a1sc] 27)).alloc (.cells #[.int .i64 a2k, .string a2m, .int .i64 a2n, .int .i64 a2tk, .slice a2ta a2tn a2tc, .slice a2sa a2sn a2sc] 27)) (w.heap.size + 1) #[.int .i64 a2k, .string a2m, .int .i64 a2n, .int .i64 a2tk, .slice a2ta a2tn a2tc, .slice a2sa a2sn a2sc]) := by
    have := BoxAt.new (w.alloc (.cells #[.int .i64 a1k, .string a1m, .int .i64 a1n, .int .i64 a1tk, .slice a1ta a1tn a1tc, .slice a1sa a1sn a1sc] 27)) #[.int .i64 a2k, .string a2m, .int .i64 a2n, .int .i64 a2tk, .slice a2ta a2tn a2tc, .slice a2sa a2sn a2sc] 27
    rw [show (w.alloc (.cells #[.int .i64 a1k, .string a1m, .int .i64 a1n, .int .i64 a1tk, .slice a1ta a1tn a1tc, .slice a1sa a1sn a1sc] 27)).heap.size = w.heap.size + 1 from by simp] at this
    exact this
  clear h1 h2
  go_enter Try.func4, Try.ntmps4
  go_wp2_with fail
  refine (szEx_all d _ t1 1048576 _ (by omega) (by omega) HA1.out).mono ?_
  rintro e w1 ⟨r1, rfl, hb, hr1⟩
  replace B := Lib.hid (below_thru B.out (Nat.le_refl _) hb)
  replace HA1 := Lib.hid (HA1.out.below hb)
  replace HA2 := Lib.hid (HA2.out.below hb)
  replace XA1 := Lib.hid (XA1.out.below hb)
  replace XA2 := Lib.hid (XA2.out.below hb)
  clear hb
  rcases hr1 with ⟨hr1, hs1⟩ | ⟨hr1, hs1⟩
  · go_wp2_with fail
    go_ret
    exact ⟨rfl, B.out⟩
  have hq1 : r1 ≤ 1048576 := by omega
  have hn1 : t1.bulk ≤ 1048576 := by omega
  have cXA1_0 := XA1.out.2 0
  have cXA1_1 := XA1.out.2 1
  have cXA1_2 := XA1.out.2 2
  have cXA1_3 := XA1.out.2 3
  have cXA1_4 := XA1.out.2 4
  have cXA1_5 := XA1.out.2 5
  have cXA2_0 := XA2.out.2 0
  have cXA2_1 := XA2.out.2 1
  have cXA2_2 := XA2.out.2 2
  have cXA2_3 := XA2.out.2 3
  have cXA2_4 := XA2.out.2 4
  have cXA2_5 := XA2.out.2 5
  go_wp2_with fail
  clear cXA1_0 cXA1_1 cXA1_2 cXA1_3 cXA1_4 cXA1_5 cXA2_0 cXA2_1 cXA2_2 cXA2_3 cXA2_4 cXA2_5
  refine (szEx_all d _ t2 r1 _ hr1 hq1 HA2.out).mono ?_
  rintro e w2 ⟨r2, rfl, hb, hr2⟩
  replace B := Lib.hid (below_thru B.out (Nat.le_refl _) hb)
  replace HA1 := Lib.hid (HA1.out.below hb)
  replace HA2 := Lib.hid (HA2.out.below hb)
  replace XA1 := Lib.hid (XA1.out.below hb)
  replace XA2 := Lib.hid (XA2.out.below hb)
  clear hb
  rcases hr2 with ⟨hr2, hs2⟩ | ⟨hr2, hs2⟩
  · go_wp2_with fail
    go_ret
    exact ⟨rfl, B.out⟩
  have hq2 : r2 ≤ 1048576 := by omega
  have hn2 : t2.bulk ≤ 1048576 := by omega
  clear hs1 hs2
  have cXA1_0 := XA1.out.2 0
  have cXA1_1 := XA1.out.2 1
  have cXA1_2 := XA1.out.2 2
  have cXA1_3 := XA1.out.2 3
  have cXA1_4 := XA1.out.2 4
  have cXA1_5 := XA1.out.2 5
  have cXA2_0 := XA2.out.2 0
  have cXA2_1 := XA2.out.2 1
  have cXA2_2 := XA2.out.2 2
  have cXA2_3 := XA2.out.2 3
  have cXA2_4 := XA2.out.2 4
  have cXA2_5 := XA2.out.2 5
  go_wp2_with fail
  clear cXA1_0 cXA1_1 cXA1_2 cXA1_3 cXA1_4 cXA1_5 cXA2_0 cXA2_1 cXA2_2 cXA2_3 cXA2_4 cXA2_5
  have hb := below_drew w2
  replace B := Lib.hid (below_thru B.out (Nat.le_refl _) hb)
  replace HA1 := Lib.hid (HA1.out.below hb)
  replace HA2 := Lib.hid (HA2.out.below hb)
  replace XA1 := Lib.hid (XA1.out.below hb)
  replace XA2 := Lib.hid (XA2.out.below hb)
  clear hb
  go_region_held3 (fun w' => w'.cell? ⟨w.heap.size, 0, none⟩ = some (.int .i64 a1k) ∧ w'.cell? ⟨w.heap.size, 1, none⟩ = some (.string a1m) ∧ w'.cell? ⟨w.heap.size, 2, none⟩ = some (.int .i64 a1n) ∧ w'.cell? ⟨w.heap.size, 3, none⟩ = some (.int .i64 a1tk) ∧ w'.cell? ⟨w.heap.size, 4, none⟩ = some (.slice a1ta a1tn a1tc) ∧ w'.cell? ⟨w.heap.size, 5, none⟩ = some (.slice a1sa a1sn a1sc) ∧ w'.cell? ⟨w.heap.size + 1, 0, none⟩ = some (.int .i64 a2k) ∧ w'.cell? ⟨w.heap.size + 1, 1, none⟩ = some (.string a2m) ∧ w'.cell? ⟨w.heap.size + 1, 2, none⟩ = some (.int .i64 a2n) ∧ w'.cell? ⟨w.heap.size + 1, 3, none⟩ = some (.int .i64 a2tk) ∧ w'.cell? ⟨w.heap.size + 1, 4, none⟩ = some (.slice a2ta a2tn a2tc) ∧ w'.cell? ⟨w.heap.size + 1, 5, none⟩ = some (.slice a2sa a2sn a2sc)) (exact ⟨XA1.out.2 0, XA1.out.2 1, XA1.out.2 2, XA1.out.2 3, XA1.out.2 4, XA1.out.2 5, XA2.out.2 0, XA2.out.2 1, XA2.out.2 2, XA2.out.2 3, XA2.out.2 4, XA2.out.2 5⟩)
    (first
     | (go_at_call_of 14 (Value.agg #[Value.int IntKind.i64 a1k, Value.string a1m, Value.int IntKind.i64 a1n, Value.int IntKind.i64 a1tk, Value.slice a1ta a1tn a1tc, Value.slice a1sa a1sn a1sc])
        refine ((toEx_all d).1 _ t1 _ hn1 HA1.out).mono ?_
        rintro e w3 ⟨s1, fp, rfl, ht, hf, hb⟩
        replace B := Lib.hid (below_thru B.out (Nat.le_refl _) hb)
        replace HA1 := Lib.hid (HA1.out.below hb)
        replace HA2 := Lib.hid (HA2.out.below hb)
        replace XA1 := Lib.hid (XA1.out.below hb)
        replace XA2 := Lib.hid (XA2.out.below hb)
        clear hb
        have Hs1 := Lib.hid ht.at_
        clear ht hf)
     | (go_at_call_of 14 (Value.agg #[Value.int IntKind.i64 a2k, Value.string a2m, Value.int IntKind.i64 a2n, Value.int IntKind.i64 a2tk, Value.slice a2ta a2tn a2tc, Value.slice a2sa a2sn a2sc])
        refine ((toEx_all d).1 _ t2 _ hn2 HA2.out).mono ?_
        rintro e w4 ⟨s2, fp, rfl, ht, hf, hb⟩
        replace B := Lib.hid (below_thru B.out (Nat.le_refl _) hb)
        replace HA1 := Lib.hid (HA1.out.below hb)
        replace HA2 := Lib.hid (HA2.out.below hb)
        replace XA1 := Lib.hid (XA1.out.below hb)
        replace XA2 := Lib.hid (XA2.out.below hb)
        replace Hs1 := Lib.hid (Hs1.out.below hb)
        clear hb
        have Hs2 := Lib.hid ht.at_
        clear ht hf)
     | (go_at_call 21
        refine (specShape d s1 s2 t1 t2 _ hn1 hn2 Hs1.out Hs2.out).mono ?_
        rintro e w5 ⟨rfl, hb⟩
        replace B := Lib.hid (below_thru B.out (Nat.le_refl _) hb)
        replace HA1 := Lib.hid (HA1.out.below hb)
        replace HA2 := Lib.hid (HA2.out.below hb)
        replace XA1 := Lib.hid (XA1.out.below hb)
        replace XA2 := Lib.hid (XA2.out.below hb)
        clear hb
        clear Hs1 Hs2))
  have cXA1_0 := XA1.out.2 0
  have cXA1_1 := XA1.out.2 1
  have cXA1_2 := XA1.out.2 2
  have cXA1_3 := XA1.out.2 3
  have cXA1_4 := XA1.out.2 4
  have cXA1_5 := XA1.out.2 5
  have cXA2_0 := XA2.out.2 0
  have cXA2_1 := XA2.out.2 1
  have cXA2_2 := XA2.out.2 2
  have cXA2_3 := XA2.out.2 3
  have cXA2_4 := XA2.out.2 4
  have cXA2_5 := XA2.out.2 5
  go_wp2_with fail
  clear cXA1_0 cXA1_1 cXA1_2 cXA1_3 cXA1_4 cXA1_5 cXA2_0 cXA2_1 cXA2_2 cXA2_3 cXA2_4 cXA2_5
  refine ((toEx_all d).1 _ t1 _ hn1 HA1.out).mono ?_
  rintro e w6 ⟨x1, fp, rfl, ht, hf, hb⟩
  replace B := Lib.hid (below_thru B.out (Nat.le_refl _) hb)
  replace HA1 := Lib.hid (HA1.out.below hb)
  replace HA2 := Lib.hid (HA2.out.below hb)
  replace XA1 := Lib.hid (XA1.out.below hb)
  replace XA2 := Lib.hid (XA2.out.below hb)
  clear hb
  obtain ⟨x1k, x1m, x1n, x1tk, x1ta, x1tn, x1tc, x1sa, x1sn, x1sc, rfl⟩ := ex_parts ht.at_
  have HX1 := Lib.hid ht.at_
  clear ht hf
  have XX1 : Hid (BoxAt (w6.alloc (.cells #[.int .i64 x1k, .string x1m, .int .i64 x1n, .int .i64 x1tk, .slice x1ta x1tn x1tc, .slice x1sa x1sn x1sc] 37)) w6.heap.size #[.int .i64 x1k, .string x1m, .int .i64 x1n, .int .i64 x1tk, .slice x1ta x1tn x1tc, .slice x1sa x1sn x1sc]) := BoxAt.new _ _ _
  have hb := below_alloc w6 (.cells #[.int .i64 x1k, .string x1m, .int .i64 x1n, .int .i64 x1tk, .slice x1ta x1tn x1tc, .slice x1sa x1sn x1sc] 37)
  replace B := Lib.hid (below_thru B.out (Nat.le_refl _) hb)
  replace HA1 := Lib.hid (HA1.out.below hb)
  replace HA2 := Lib.hid (HA2.out.below hb)
  replace XA1 := Lib.hid (XA1.out.below hb)
  replace XA2 := Lib.hid (XA2.out.below hb)
  replace HX1 := Lib.hid (HX1.out.below hb)
  clear hb
  have cXA1_0 := XA1.out.2 0
  have cXA1_1 := XA1.out.2 1
  have cXA1_2 := XA1.out.2 2
  have cXA1_3 := XA1.out.2 3
  have cXA1_4 := XA1.out.2 4
  have cXA1_5 := XA1.out.2 5
  have cXA2_0 := XA2.out.2 0
  have cXA2_1 := XA2.out.2 1
  have cXA2_2 := XA2.out.2 2
  have cXA2_3 := XA2.out.2 3
  have cXA2_4 := XA2.out.2 4
  have cXA2_5 := XA2.out.2 5
  have cXX1_0 := XX1.out.2 0
  have cXX1_1 := XX1.out.2 1
  have cXX1_2 := XX1.out.2 2
  have cXX1_3 := XX1.out.2 3
  have cXX1_4 := XX1.out.2 4
  have cXX1_5 := XX1.out.2 5
  go_wp2_with fail
  clear cXA1_0 cXA1_1 cXA1_2 cXA1_3 cXA1_4 cXA1_5 cXA2_0 cXA2_1 cXA2_2 cXA2_3 cXA2_4 cXA2_5 cXX1_0 cXX1_1 cXX1_2 cXX1_3 cXX1_4 cXX1_5
  refine ((toEx_all d).1 _ t2 _ hn2 HA2.out).mono ?_
  rintro e w7 ⟨x2, fp, rfl, ht, hf, hb⟩
  replace B := Lib.hid (below_thru B.out (Nat.le_refl _) hb)
  replace HA1 := Lib.hid (HA1.out.below hb)
  replace HA2 := Lib.hid (HA2.out.below hb)
  replace XA1 := Lib.hid (XA1.out.below hb)
  replace XA2 := Lib.hid (XA2.out.below hb)
  replace HX1 := Lib.hid (HX1.out.below hb)
  replace XX1 := Lib.hid (XX1.out.below hb)
  clear hb
  obtain ⟨x2k, x2m, x2n, x2tk, x2ta, x2tn, x2tc, x2sa, x2sn, x2sc, rfl⟩ := ex_parts ht.at_
  have HX2 := Lib.hid ht.at_
  clear ht hf
  have XX2 : Hid (BoxAt (w7.alloc (.cells #[.int .i64 x2k, .string x2m, .int .i64 x2n, .int .i64 x2tk, .slice x2ta x2tn x2tc, .slice x2sa x2sn x2sc] 37)) w7.heap.size #[.int .i64 x2k, .string x2m, .int .i64 x2n, .int .i64 x2tk, .slice x2ta x2tn x2tc, .slice x2sa x2sn x2sc]) := BoxAt.new _ _ _
  have hb := below_alloc w7 (.cells #[.int .i64 x2k, .string x2m, .int .i64 x2n, .int .i64 x2tk, .slice x2ta x2tn x2tc, .slice x2sa x2sn x2sc] 37)
  replace B := Lib.hid (below_thru B.out (Nat.le_refl _) hb)
  replace HA1 := Lib.hid (HA1.out.below hb)
  replace HA2 := Lib.hid (HA2.out.below hb)
  replace XA1 := Lib.hid (XA1.out.below hb)
  replace XA2 := Lib.hid (XA2.out.below hb)
  replace HX1 := Lib.hid (HX1.out.below hb)
  replace XX1 := Lib.hid (XX1.out.below hb)
  replace HX2 := Lib.hid (HX2.out.below hb)
  clear hb
  have cXA1_0 := XA1.out.2 0
  have cXA1_1 := XA1.out.2 1
  have cXA1_2 := XA1.out.2 2
  have cXA1_3 := XA1.out.2 3
  have cXA1_4 := XA1.out.2 4
  have cXA1_5 := XA1.out.2 5
  have cXA2_0 := XA2.out.2 0
  have cXA2_1 := XA2.out.2 1
  have cXA2_2 := XA2.out.2 2
  have cXA2_3 := XA2.out.2 3
  have cXA2_4 := XA2.out.2 4
  have cXA2_5 := XA2.out.2 5
  have cXX1_0 := XX1.out.2 0
  have cXX1_1 := XX1.out.2 1
  have cXX1_2 := XX1.out.2 2
  have cXX1_3 := XX1.out.2 3
  have cXX1_4 := XX1.out.2 4
  have cXX1_5 := XX1.out.2 5
  have cXX2_0 := XX2.out.2 0
  have cXX2_1 := XX2.out.2 1
  have cXX2_2 := XX2.out.2 2
  have cXX2_3 := XX2.out.2 3
  have cXX2_4 := XX2.out.2 4
  have cXX2_5 := XX2.out.2 5
  go_wp2_with fail
  clear cXA1_0 cXA1_1 cXA1_2 cXA1_3 cXA1_4 cXA1_5 cXA2_0 cXA2_1 cXA2_2 cXA2_3 cXA2_4 cXA2_5 cXX1_0 cXX1_1 cXX1_2 cXX1_3 cXX1_4 cXX1_5 cXX2_0 cXX2_1 cXX2_2 cXX2_3 cXX2_4 cXX2_5
  refine (implShape d _ _ t1 t2 _ hn1 hn2 HX1.out HX2.out).mono ?_
  rintro e w8 ⟨rfl, hb⟩
  replace B := Lib.hid (below_thru B.out (Nat.le_refl _) hb)
  replace HA1 := Lib.hid (HA1.out.below hb)
  replace HA2 := Lib.hid (HA2.out.below hb)
  replace XA1 := Lib.hid (XA1.out.below hb)
  replace XA2 := Lib.hid (XA2.out.below hb)
  replace HX1 := Lib.hid (HX1.out.below hb)
  replace XX1 := Lib.hid (XX1.out.below hb)
  replace HX2 := Lib.hid (HX2.out.below hb)
  replace XX2 := Lib.hid (XX2.out.below hb)
  clear hb
  have cXA1_0 := XA1.out.2 0
  have cXA1_1 := XA1.out.2 1
  have cXA1_2 := XA1.out.2 2
  have cXA1_3 := XA1.out.2 3
  have cXA1_4 := XA1.out.2 4
  have cXA1_5 := XA1.out.2 5
  have cXA2_0 := XA2.out.2 0
  have cXA2_1 := XA2.out.2 1
  have cXA2_2 := XA2.out.2 2
  have cXA2_3 := XA2.out.2 3
  have cXA2_4 := XA2.out.2 4
  have cXA2_5 := XA2.out.2 5
  have cXX1_0 := XX1.out.2 0
  have cXX1_1 := XX1.out.2 1
  have cXX1_2 := XX1.out.2 2
  have cXX1_3 := XX1.out.2 3
  have cXX1_4 := XX1.out.2 4
  have cXX1_5 := XX1.out.2 5
  have cXX2_0 := XX2.out.2 0
  have cXX2_1 := XX2.out.2 1
  have cXX2_2 := XX2.out.2 2
  have cXX2_3 := XX2.out.2 3
  have cXX2_4 := XX2.out.2 4
  have cXX2_5 := XX2.out.2 5
  go_wp2_with fail
  clear cXA1_0 cXA1_1 cXA1_2 cXA1_3 cXA1_4 cXA1_5 cXA2_0 cXA2_1 cXA2_2 cXA2_3 cXA2_4 cXA2_5 cXX1_0 cXX1_1 cXX1_2 cXX1_3 cXX1_4 cXX1_5 cXX2_0 cXX2_1 cXX2_2 cXX2_3 cXX2_4 cXX2_5
  have hb := below_drew w8
  replace B := Lib.hid (below_thru B.out (Nat.le_refl _) hb)
  replace HA1 := Lib.hid (HA1.out.below hb)
  replace HA2 := Lib.hid (HA2.out.below hb)
  replace XA1 := Lib.hid (XA1.out.below hb)
  replace XA2 := Lib.hid (XA2.out.below hb)
  replace HX1 := Lib.hid (HX1.out.below hb)
  replace XX1 := Lib.hid (XX1.out.below hb)
  replace HX2 := Lib.hid (HX2.out.below hb)
  replace XX2 := Lib.hid (XX2.out.below hb)
  clear hb
  go_region_held3 (fun w' => w'.cell? ⟨w.heap.size, 0, none⟩ = some (.int .i64 a1k) ∧ w'.cell? ⟨w.heap.size, 1, none⟩ = some (.string a1m) ∧ w'.cell? ⟨w.heap.size, 2, none⟩ = some (.int .i64 a1n) ∧ w'.cell? ⟨w.heap.size, 3, none⟩ = some (.int .i64 a1tk) ∧ w'.cell? ⟨w.heap.size, 4, none⟩ = some (.slice a1ta a1tn a1tc) ∧ w'.cell? ⟨w.heap.size, 5, none⟩ = some (.slice a1sa a1sn a1sc) ∧ w'.cell? ⟨w.heap.size + 1, 0, none⟩ = some (.int .i64 a2k) ∧ w'.cell? ⟨w.heap.size + 1, 1, none⟩ = some (.string a2m) ∧ w'.cell? ⟨w.heap.size + 1, 2, none⟩ = some (.int .i64 a2n) ∧ w'.cell? ⟨w.heap.size + 1, 3, none⟩ = some (.int .i64 a2tk) ∧ w'.cell? ⟨w.heap.size + 1, 4, none⟩ = some (.slice a2ta a2tn a2tc) ∧ w'.cell? ⟨w.heap.size + 1, 5, none⟩ = some (.slice a2sa a2sn a2sc) ∧ w'.cell? ⟨w6.heap.size, 0, none⟩ = some (.int .i64 x1k) ∧ w'.cell? ⟨w6.heap.size, 1, none⟩ = some (.string x1m) ∧ w'.cell? ⟨w6.heap.size, 2, none⟩ = some (.int .i64 x1n) ∧ w'.cell? ⟨w6.heap.size, 3, none⟩ = some (.int .i64 x1tk) ∧ w'.cell? ⟨w6.heap.size, 4, none⟩ = some (.slice x1ta x1tn x1tc) ∧ w'.cell? ⟨w6.heap.size, 5, none⟩ = some (.slice x1sa x1sn x1sc) ∧ w'.cell? ⟨w7.heap.size, 0, none⟩ = some (.int .i64 x2k) ∧ w'.cell? ⟨w7.heap.size, 1, none⟩ = some (.string x2m) ∧ w'.cell? ⟨w7.heap.size, 2, none⟩ = some (.int .i64 x2n) ∧ w'.cell? ⟨w7.heap.size, 3, none⟩ = some (.int .i64 x2tk) ∧ w'.cell? ⟨w7.heap.size, 4, none⟩ = some (.slice x2ta x2tn x2tc) ∧ w'.cell? ⟨w7.heap.size, 5, none⟩ = some (.slice x2sa x2sn x2sc)) (exact ⟨XA1.out.2 0, XA1.out.2 1, XA1.out.2 2, XA1.out.2 3, XA1.out.2 4, XA1.out.2 5, XA2.out.2 0, XA2.out.2 1, XA2.out.2 2, XA2.out.2 3, XA2.out.2 4, XA2.out.2 5, XX1.out.2 0, XX1.out.2 1, XX1.out.2 2, XX1.out.2 3, XX1.out.2 4, XX1.out.2 5, XX2.out.2 0, XX2.out.2 1, XX2.out.2 2, XX2.out.2 3, XX2.out.2 4, XX2.out.2 5⟩)
    (first
     | (go_at_call_of 14 (Value.agg #[Value.int IntKind.i64 a1k, Value.string a1m, Value.int IntKind.i64 a1n, Value.int IntKind.i64 a1tk, Value.slice a1ta a1tn a1tc, Value.slice a1sa a1sn a1sc])
        refine ((toEx_all d).1 _ t1 _ hn1 HA1.out).mono ?_
        rintro e w9 ⟨y1, fp, rfl, ht, hf, hb⟩
        replace B := Lib.hid (below_thru B.out (Nat.le_refl _) hb)
        replace HA1 := Lib.hid (HA1.out.below hb)
        replace HA2 := Lib.hid (HA2.out.below hb)
        replace XA1 := Lib.hid (XA1.out.below hb)
        replace XA2 := Lib.hid (XA2.out.below hb)
        replace HX1 := Lib.hid (HX1.out.below hb)
        replace XX1 := Lib.hid (XX1.out.below hb)
        replace HX2 := Lib.hid (HX2.out.below hb)
        replace XX2 := Lib.hid (XX2.out.below hb)
        clear hb
        have Hy1 := Lib.hid ht.at_
        clear ht hf)
     | (go_at_call 17
        refine (eqEx_all d _ y1 t1 _ HX1.out Hy1.out).mono ?_
        rintro e w10 ⟨rfl, hb⟩
        replace B := Lib.hid (below_thru B.out (Nat.le_refl _) hb)
        replace HA1 := Lib.hid (HA1.out.below hb)
        replace HA2 := Lib.hid (HA2.out.below hb)
        replace XA1 := Lib.hid (XA1.out.below hb)
        replace XA2 := Lib.hid (XA2.out.below hb)
        replace HX1 := Lib.hid (HX1.out.below hb)
        replace XX1 := Lib.hid (XX1.out.below hb)
        replace HX2 := Lib.hid (HX2.out.below hb)
        replace XX2 := Lib.hid (XX2.out.below hb)
        clear hb
        clear Hy1))
  have cXA1_0 := XA1.out.2 0
  have cXA1_1 := XA1.out.2 1
  have cXA1_2 := XA1.out.2 2
  have cXA1_3 := XA1.out.2 3
  have cXA1_4 := XA1.out.2 4
  have cXA1_5 := XA1.out.2 5
  have cXA2_0 := XA2.out.2 0
  have cXA2_1 := XA2.out.2 1
  have cXA2_2 := XA2.out.2 2
  have cXA2_3 := XA2.out.2 3
  have cXA2_4 := XA2.out.2 4
  have cXA2_5 := XA2.out.2 5
  have cXX1_0 := XX1.out.2 0
  have cXX1_1 := XX1.out.2 1
  have cXX1_2 := XX1.out.2 2
  have cXX1_3 := XX1.out.2 3
  have cXX1_4 := XX1.out.2 4
  have cXX1_5 := XX1.out.2 5
  have cXX2_0 := XX2.out.2 0
  have cXX2_1 := XX2.out.2 1
  have cXX2_2 := XX2.out.2 2
  have cXX2_3 := XX2.out.2 3
  have cXX2_4 := XX2.out.2 4
  have cXX2_5 := XX2.out.2 5
  go_wp2_with fail
  clear cXA1_0 cXA1_1 cXA1_2 cXA1_3 cXA1_4 cXA1_5 cXA2_0 cXA2_1 cXA2_2 cXA2_3 cXA2_4 cXA2_5 cXX1_0 cXX1_1 cXX1_2 cXX1_3 cXX1_4 cXX1_5 cXX2_0 cXX2_1 cXX2_2 cXX2_3 cXX2_4 cXX2_5
  have hb := below_drew w10
  replace B := Lib.hid (below_thru B.out (Nat.le_refl _) hb)
  replace HA1 := Lib.hid (HA1.out.below hb)
  replace HA2 := Lib.hid (HA2.out.below hb)
  replace XA1 := Lib.hid (XA1.out.below hb)
  replace XA2 := Lib.hid (XA2.out.below hb)
  replace HX1 := Lib.hid (HX1.out.below hb)
  replace XX1 := Lib.hid (XX1.out.below hb)
  replace HX2 := Lib.hid (HX2.out.below hb)
  replace XX2 := Lib.hid (XX2.out.below hb)
  clear hb
  go_region_held3 (fun w' => w'.cell? ⟨w.heap.size, 0, none⟩ = some (.int .i64 a1k) ∧ w'.cell? ⟨w.heap.size, 1, none⟩ = some (.string a1m) ∧ w'.cell? ⟨w.heap.size, 2, none⟩ = some (.int .i64 a1n) ∧ w'.cell? ⟨w.heap.size, 3, none⟩ = some (.int .i64 a1tk) ∧ w'.cell? ⟨w.heap.size, 4, none⟩ = some (.slice a1ta a1tn a1tc) ∧ w'.cell? ⟨w.heap.size, 5, none⟩ = some (.slice a1sa a1sn a1sc) ∧ w'.cell? ⟨w.heap.size + 1, 0, none⟩ = some (.int .i64 a2k) ∧ w'.cell? ⟨w.heap.size + 1, 1, none⟩ = some (.string a2m) ∧ w'.cell? ⟨w.heap.size + 1, 2, none⟩ = some (.int .i64 a2n) ∧ w'.cell? ⟨w.heap.size + 1, 3, none⟩ = some (.int .i64 a2tk) ∧ w'.cell? ⟨w.heap.size + 1, 4, none⟩ = some (.slice a2ta a2tn a2tc) ∧ w'.cell? ⟨w.heap.size + 1, 5, none⟩ = some (.slice a2sa a2sn a2sc) ∧ w'.cell? ⟨w6.heap.size, 0, none⟩ = some (.int .i64 x1k) ∧ w'.cell? ⟨w6.heap.size, 1, none⟩ = some (.string x1m) ∧ w'.cell? ⟨w6.heap.size, 2, none⟩ = some (.int .i64 x1n) ∧ w'.cell? ⟨w6.heap.size, 3, none⟩ = some (.int .i64 x1tk) ∧ w'.cell? ⟨w6.heap.size, 4, none⟩ = some (.slice x1ta x1tn x1tc) ∧ w'.cell? ⟨w6.heap.size, 5, none⟩ = some (.slice x1sa x1sn x1sc) ∧ w'.cell? ⟨w7.heap.size, 0, none⟩ = some (.int .i64 x2k) ∧ w'.cell? ⟨w7.heap.size, 1, none⟩ = some (.string x2m) ∧ w'.cell? ⟨w7.heap.size, 2, none⟩ = some (.int .i64 x2n) ∧ w'.cell? ⟨w7.heap.size, 3, none⟩ = some (.int .i64 x2tk) ∧ w'.cell? ⟨w7.heap.size, 4, none⟩ = some (.slice x2ta x2tn x2tc) ∧ w'.cell? ⟨w7.heap.size, 5, none⟩ = some (.slice x2sa x2sn x2sc)) (exact ⟨XA1.out.2 0, XA1.out.2 1, XA1.out.2 2, XA1.out.2 3, XA1.out.2 4, XA1.out.2 5, XA2.out.2 0, XA2.out.2 1, XA2.out.2 2, XA2.out.2 3, XA2.out.2 4, XA2.out.2 5, XX1.out.2 0, XX1.out.2 1, XX1.out.2 2, XX1.out.2 3, XX1.out.2 4, XX1.out.2 5, XX2.out.2 0, XX2.out.2 1, XX2.out.2 2, XX2.out.2 3, XX2.out.2 4, XX2.out.2 5⟩)
    (first
     | (go_at_call_of 14 (Value.agg #[Value.int IntKind.i64 a2k, Value.string a2m, Value.int IntKind.i64 a2n, Value.int IntKind.i64 a2tk, Value.slice a2ta a2tn a2tc, Value.slice a2sa a2sn a2sc])
        refine ((toEx_all d).1 _ t2 _ hn2 HA2.out).mono ?_
        rintro e w11 ⟨y2, fp, rfl, ht, hf, hb⟩
        replace B := Lib.hid (below_thru B.out (Nat.le_refl _) hb)
        replace HA1 := Lib.hid (HA1.out.below hb)
        replace HA2 := Lib.hid (HA2.out.below hb)
        replace XA1 := Lib.hid (XA1.out.below hb)
        replace XA2 := Lib.hid (XA2.out.below hb)
        replace HX1 := Lib.hid (HX1.out.below hb)
        replace XX1 := Lib.hid (XX1.out.below hb)
        replace HX2 := Lib.hid (HX2.out.below hb)
        replace XX2 := Lib.hid (XX2.out.below hb)
        clear hb
        have Hy2 := Lib.hid ht.at_
        clear ht hf)
     | (go_at_call 17
        refine (eqEx_all d _ y2 t2 _ HX2.out Hy2.out).mono ?_
        rintro e w12 ⟨rfl, hb⟩
        replace B := Lib.hid (below_thru B.out (Nat.le_refl _) hb)
        replace HA1 := Lib.hid (HA1.out.below hb)
        replace HA2 := Lib.hid (HA2.out.below hb)
        replace XA1 := Lib.hid (XA1.out.below hb)
        replace XA2 := Lib.hid (XA2.out.below hb)
        replace HX1 := Lib.hid (HX1.out.below hb)
        replace XX1 := Lib.hid (XX1.out.below hb)
        replace HX2 := Lib.hid (HX2.out.below hb)
        replace XX2 := Lib.hid (XX2.out.below hb)
        clear hb
        clear Hy2))
  have cXA1_0 := XA1.out.2 0
  have cXA1_1 := XA1.out.2 1
  have cXA1_2 := XA1.out.2 2
  have cXA1_3 := XA1.out.2 3
  have cXA1_4 := XA1.out.2 4
  have cXA1_5 := XA1.out.2 5
  have cXA2_0 := XA2.out.2 0
  have cXA2_1 := XA2.out.2 1
  have cXA2_2 := XA2.out.2 2
  have cXA2_3 := XA2.out.2 3
  have cXA2_4 := XA2.out.2 4
  have cXA2_5 := XA2.out.2 5
  have cXX1_0 := XX1.out.2 0
  have cXX1_1 := XX1.out.2 1
  have cXX1_2 := XX1.out.2 2
  have cXX1_3 := XX1.out.2 3
  have cXX1_4 := XX1.out.2 4
  have cXX1_5 := XX1.out.2 5
  have cXX2_0 := XX2.out.2 0
  have cXX2_1 := XX2.out.2 1
  have cXX2_2 := XX2.out.2 2
  have cXX2_3 := XX2.out.2 3
  have cXX2_4 := XX2.out.2 4
  have cXX2_5 := XX2.out.2 5
  go_wp2_with fail
  go_ret
  exact ⟨rfl, B.out⟩
end Go.Proofs.Ytimigpdbegfjaaa
namespace Go.Proofs.Ytimigpdbegfjaaa.ExactSameShape
open Go.ChangeShapes Go.WideShapes Go.ChangeAt Go.RowKit Go.WideMaps Go.WideElems
open Go.ChangeMaps (setBlock shut_map_nil open_string shut_string keptBut_setBlock frozen?_setBlock heap_setBlock_same)
set_option maxRecDepth 100000 in
theorem contract (H : Type) (enc : TypeId × Value → H) (W : World) (base : Nat) (args : Array Value) (ds gs : List (DataW H)) (before : List MemPlace)
    (hval : ∀ (j : Nat) t v, Try.f4.params[j]? = some t → args[j]? = some v → Value.okWide Try.prog W .any base t v)
    (hW : DataW.Whole enc Try.prog Try.f4.params.toList Rows.fnExactSameShapeSpec.vars false W args.toList ds gs before) 
    (_hsz : (DataW.weightsEach Try.prog (Try.f4.params.toList ++ (OpenSpec.ofChange Rows.fnExactSameShapeSpec).bare.plain.varTypes Try.prog) (ds ++ gs)).all (· ≤ reachBytes) = true) (_hsh : W.ShapedOpen Try.prog) :
    Calls Try.prog 4 args W fun e W' => ∃ v, e = .returned v ∧ Rows.fnExactSameShapeSpec.post enc Try.prog Try.f4 false true false false W args v W' := by
  have hW' := hW
  obtain ⟨p, q, hA0, hV, rfl, hfz, hnd⟩ := hW
  have hA : DataW.TrodAll enc Try.prog W 0 (fun _ => true) true Try.f4.params.toList args.toList ds p := hA0
  rw [Try.params4] at hA hval
  obtain ⟨v0, vs0, d0, ds0, p0, q0, hargs, rfl, rfl, h0, r0⟩ := trodAll_cons hA
  obtain ⟨v1, vs1, d1, ds1, p1, q1, rfl, rfl, rfl, h1, r1⟩ := trodAll_cons r0
  obtain ⟨rfl, rfl, rfl⟩ := trodAll_nil r1
  obtain rfl : args = #[v0, v1] := by cases args; simp_all
  obtain ⟨rfl, rfl⟩ := trodVars_none hV
  obtain ⟨e0, t0, ht0⟩ := ex_of_arg (hval 0 27 v0 rfl rfl) h0
  obtain ⟨e1, t1, ht1⟩ := ex_of_arg (hval 1 27 v1 rfl rfl) h1
  refine Calls.mono (sameShapeWalk (max e0 e1) v0 t0 v1 t1 W (ht0.mono (Nat.le_max_left _ _)) (ht1.mono (Nat.le_max_right _ _))) fun e W' ⟨he, hg⟩ => ?_
  subst he
  exact ⟨_, rfl, Law.law_post hW' rfl (by kernel_rfl) Try.underlying4 (by kernel_rfl) (by kernel_rfl) (fun _ => rfl) hg⟩
set_option maxRecDepth 100000 in
theorem laid_met (os : Os) : laidMet Try.prog Rows.fnExactSameShapeRow.laid (((World.holding Try.prog os ⟨#[], #[], []⟩)).forCall (fun _ _ => 0) ⟨#[], #[.agg #[.int .i64 0, .string ⟨#[]⟩, .int .i64 0, .int .i64 0, .slice none 0 0, .slice none 0 0], .agg #[.int .i64 0, .string ⟨#[]⟩, .int .i64 0, .int .i64 0, .slice none 0 0, .slice none 0 0]], []⟩).memory :=
  laidMet_of_run' 8 (by kernel_rfl) (by kernel_rfl)
theorem reads (os : Os) {H : Type} (enc : TypeId × Value → H) : ∃ places, DataW.whole enc Try.prog (((World.holding Try.prog os ⟨#[], #[], []⟩)).forCall (fun _ _ => 0) ⟨#[], #[.agg #[.int .i64 0, .string ⟨#[]⟩, .int .i64 0, .int .i64 0, .slice none 0 0, .slice none 0 0], .agg #[.int .i64 0, .string ⟨#[]⟩, .int .i64 0, .int .i64 0, .slice none 0 0, .slice none 0 0]], []⟩).memory Try.f4.params.toList Rows.fnExactSameShapeSpec.vars false (#[.agg #[.int .i64 0, .string ⟨#[]⟩, .int .i64 0, .int .i64 0, .slice none 0 0, .slice none 0 0], .agg #[.int .i64 0, .string ⟨#[]⟩, .int .i64 0, .int .i64 0, .slice none 0 0, .slice none 0 0]] : Array Value).toList 8 = some ([.agg [.lit (.int .i64 0), .lit (.string []), .lit (.int .i64 0), .agg [.lit (.int .i64 0), .nil], .nil], .agg [.lit (.int .i64 0), .lit (.string []), .lit (.int .i64 0), .agg [.lit (.int .i64 0), .nil], .nil]], [], places) :=
  ⟨[], by kernel_rfl⟩
set_option maxRecDepth 100000 in
theorem lifted (os : Os) (started : os.Started) (H : Type) (enc : TypeId × Value → H) (F : Stop.Interp) :
    ReturnsInHanded {} Try.checked os 4 .any ((OpenSpec.ofChange Rows.fnExactSameShapeSpec).preRow enc Try.prog Try.f4 Rows.fnExactSameShapeRow.domain false Rows.fnExactSameShapeRow.laid) (((OpenSpec.ofChange Rows.fnExactSameShapeSpec).at F).post enc Try.prog Try.f4 false true false false) := by
  obtain ⟨places, hx⟩ := reads os enc
  refine returnsInHanded_of_row (C := Try.checked) (s := OpenSpec.ofChange Rows.fnExactSameShapeSpec) (by kernel_rfl) started (by kernel_rfl) Try.func4
    (witness_row_atRef (enc := enc) (C := Try.checked) false (World.holding Try.prog os ⟨#[], #[], []⟩) #[.agg #[.int .i64 0, .string ⟨#[]⟩, .int .i64 0, .int .i64 0, .slice none 0 0, .slice none 0 0], .agg #[.int .i64 0, .string ⟨#[]⟩, .int .i64 0, .int .i64 0, .slice none 0 0, .slice none 0 0]] rfl (by kernel_rfl) (by kernel_rfl) (by kernel_rfl)
      (OpenSpec.preRow_of_cond 8 hx (by kernel_rfl) (fun k hk => by cases hk) (by kernel_rfl) (laid_met os))) ?_
  intro W base args ds gs before hval hW _ _ hsz _ hsh _
  exact contract H enc W base args ds gs before hval hW hsz hsh
theorem said : Rows.FnExactSameShapeSaid :=
  OpenClaim.holds_of_cond 4 Try.f4 rfl rfl rfl rfl rfl rfl rfl ⟨rfl, rfl, rfl, rfl, rfl⟩ rfl rfl rfl rfl rfl (by kernel_rfl) Try.func4 (by kernel_rfl)
    (of_decide_eq_true (by kernel_rfl)) (by unfold Func.isWrapper; first | (rw [if_pos (by decide +kernel)]; kernel_rfl) | (rw [if_neg (by decide +kernel)]; exact ⟨rfl, rfl⟩))
    (fun os started H enc _ F => by rw [OpenClaim.pre_eq_preRow]; exact lifted os started H enc F)
end Go.Proofs.Ytimigpdbegfjaaa.ExactSameShape
