/-
  Proved: the law FnExactEqualHistory: for every two histories, impl.EqualHistory returns the same as the reference and changes no argument. Nothing is asked of the input.
-/
import Derived.Test.YtddfeecnimdikaaExEq
import Derived.Test.YtddfeecnimdikaaImplEqual
import Derived.StillTailTactics
import Derived.Test.YtddfeecnimdikaaLeads
import Derived.Test.YtddfeecnimdikaaInts
import Derived.BigQuiet
import Derived.Deep.QuietTactic
import Derived.Test.YtddfeecnimdikaaPeqEdt
import Derived.Test.YtddfeecnimdikaaRecBase
import Derived.Test.YtddfeecnimdikaaHold
import Derived.Test.YtddfeecnimdikaaPeqHis
import Derived.Test.YtddfeecnimdikaaToHis
import Derived.Test.YtddfeecnimdikaaSzHis
import Derived.Test.YtddfeecnimdikaaEqHis
import Derived.Test.YtddfeecnimdikaaSpecHis
import Derived.Deep.RegionHeld3
import Derived.Test.YtddfeecnimdikaaRows
import Derived.Test.YtddfeecnimdikaaLaw
import Derived.Deep.DeepHandedRow
import Derived.Lib.LaidTab
import Derived.LaidMore
import Derived.Test.YtddfeecnimdikaaArgHis
/-
  Proved: impl.equalRoots compares the roots of two expressions; the memory that was there stays as it was.
-/
namespace Go.Proofs.Ytddfeecnimdikaa
open Go.RowKit

set_option maxRecDepth 100000 in
set_option maxHeartbeats 2000000 in
theorem implRoots (d : Nat) (v1 v2 : Value) (t1 t2 : Ex) (w : World) (h1 : ExAt w d v1 t1) (h2 : ExAt w d v2 t2) :
    Calls Try.prog 70 #[v1, v2] w fun e w' => e = .returned (.bool (t1.roots t2)) ∧ Below w.heap.size w w' := by
  cases d with
  | zero => exact h1.elim
  | succ d =>
  cases t1 with
  | node k1 nm1 n1 ty1 cs =>
  cases t2 with
  | node k2 nm2 n2 ty2 bs =>
    have HV1 := ex_parts h1
    obtain ⟨c13, c14, sl1, rfl, hk10, hk11, hn10, hn11, hm1, hty1, sa1, sc1, rfl, hcap1, hcp1, hat1⟩ := h1
    obtain ⟨k', nm', n', tk1, ta1, tn1, tc1, sa', sn', sc', hv⟩ := HV1
    injection hv with hv
    injection hv with hv
    simp at hv
    obtain ⟨rfl, rfl, rfl, rfl, rfl, rfl, rfl, rfl⟩ := hv
    have HV2 := ex_parts h2
    obtain ⟨c23, c24, sl2, rfl, hk20, hk21, hn20, hn21, hm2, hty2, sa2, sc2, rfl, hcap2, hcp2, hat2⟩ := h2
    obtain ⟨k', nm', n', tk2, ta2, tn2, tc2, sa', sn', sc', hv⟩ := HV2
    injection hv with hv
    injection hv with hv
    simp at hv
    obtain ⟨rfl, rfl, rfl, rfl, rfl, rfl, rfl, rfl⟩ := hv
    have e2 : Below w.heap.size w ((w.alloc (.cells #[.int .i64 k1, .string nm1, .int .i64 n1, .int .i64 tk1, .slice ta1 tn1 tc1, .slice sa1 cs.length sc1] 42)).alloc (.cells #[.int .i64 k2, .string nm2, .int .i64 n2, .int .i64 tk2, .slice ta2 tn2 tc2, .slice sa2 bs.length sc2] 42)) := ((Below.refl _ _).alloc (Nat.le_refl _) _).alloc (by simp) _
    have HY1 := Lib.hid (hty1.below e2)
    have HY2 := Lib.hid (hty2.below e2)
    have HE := Lib.hid e2
    have HA1 := Lib.hid hat1
    have HA2 := Lib.hid hat2
    clear e2 hty1 hty2 hat1 hat2
    by_cases q1 : k1 = k2
    case neg =>
      have HR : Hid ((Ex.node k1 nm1 n1 ty1 cs).roots (Ex.node k2 nm2 n2 ty2 bs) = false) := by show _ = _; simp [Ex.roots, q1]
      go_enter Try.func70, Try.ntmps70
      go_wp2_with fail
      go_ret
      exact ⟨by rw [HR.out]; rfl, HE.out⟩
    subst q1
    by_cases q2 : nm1 = nm2
    case neg =>
      have q2b : (nm1.toList == nm2.toList) = false := text_ne q2
      have HR : Hid ((Ex.node k1 nm1 n1 ty1 cs).roots (Ex.node k1 nm2 n2 ty2 bs) = false) := by show _ = _; simp [Ex.roots, q2]
      go_enter Try.func70, Try.ntmps70
      go_wp2_with fail
      go_ret
      exact ⟨by rw [HR.out]; rfl, HE.out⟩
    subst q2
    by_cases q3 : n1 = n2
    case neg =>
      have HR : Hid ((Ex.node k1 nm1 n1 ty1 cs).roots (Ex.node k1 nm1 n2 ty2 bs) = false) := by show _ = _; simp [Ex.roots, q3]
      go_enter Try.func70, Try.ntmps70
      go_wp2_with fail
      go_ret
      exact ⟨by rw [HR.out]; rfl, HE.out⟩
    subst q3
    go_enter Try.func70, Try.ntmps70
    go_wp2_with fail
    refine (implEqual d _ _ ty1 ty2 _ HY1.out HY2.out).mono ?_
    rintro e w1 ⟨rfl, hb⟩
    have HB := Lib.hid (two_on (Below.refl _ _) hb); clear hb
    have p5 := two_first HB.out 5
    have r5 := two_next HB.out 5
    cases hq : ty1.beq ty2 with
    | false =>
      have HR : Hid ((Ex.node k1 nm1 n1 ty1 cs).roots (Ex.node k1 nm1 n1 ty2 bs) = false) := by show _ = _; simp [Ex.roots, hq]
      go_wp2_with fail
      go_ret
      exact ⟨by rw [HR.out]; rfl, two_below HB.out⟩
    | true =>
      by_cases q5 : cs.length = bs.length
      · have q5b : ((cs.length : Int) == (bs.length : Int)) = true := by simp [q5]
        have HR : Hid ((Ex.node k1 nm1 n1 ty1 cs).roots (Ex.node k1 nm1 n1 ty2 bs) = true) := by show _ = _; simp [Ex.roots, hq, q5]
        clear q5
        go_wp2_with fail
        go_ret
        exact ⟨by rw [HR.out]; rfl, two_below HB.out⟩
      · have q5b : ((cs.length : Int) == (bs.length : Int)) = false := by simpa using (fun e => q5 (by omega))
        have HR : Hid ((Ex.node k1 nm1 n1 ty1 cs).roots (Ex.node k1 nm1 n1 ty2 bs) = false) := by show _ = _; simp [Ex.roots, q5]
        clear q5
        go_wp2_with fail
        go_ret
        exact ⟨by rw [HR.out]; rfl, two_below HB.out⟩
end Go.Proofs.Ytddfeecnimdikaa
/-
  Proved: impl.EqualExpr compares two expressions; the memory that was there stays as it was.
-/
namespace Go.Proofs.Ytddfeecnimdikaa
open Go.RowKit

set_option maxRecDepth 100000 in
set_option maxHeartbeats 4000000 in
theorem implExEqual : ∀ (d : Nat) (v1 v2 : Value) (t1 t2 : Ex) (w : World), ExAt w d v1 t1 → ExAt w d v2 t2 →
    Calls Try.prog 43 #[v1, v2] w fun e w' => e = .returned (.bool (t1.beq t2)) ∧ Below w.heap.size w w'
  | 0, _, _, _, _, _, h, _ => h.elim
  | d + 1, v1, v2, .node k1 nm1 n1 ty1 cs, .node k2 nm2 n2 ty2 bs, w, h1, h2 => by
    have IH : Hid (∀ (v1 v2 : Value) (t1 t2 : Ex) (w : World), ExAt w d v1 t1 → ExAt w d v2 t2 → Calls Try.prog 43 #[v1, v2] w fun e w' => e = .returned (.bool (t1.beq t2)) ∧ Below w.heap.size w w') := implExEqual d
    have HX1 := Lib.hid h1
    have HX2 := Lib.hid h2
    have HV1 := ex_parts h1
    obtain ⟨c13, c14, sl1, rfl, hk10, hk11, hn10, hn11, hm1, hty1, sa1, sc1, rfl, hcap1, hcp1, hat1⟩ := h1
    obtain ⟨k', nm', n', tk1, ta1, tn1, tc1, sa', sn', sc', hv⟩ := HV1
    injection hv with hv
    injection hv with hv
    simp at hv
    obtain ⟨rfl, rfl, rfl, rfl, rfl, rfl, rfl, rfl⟩ := hv
    have HV2 := ex_parts h2
    obtain ⟨c23, c24, sl2, rfl, hk20, hk21, hn20, hn21, hm2, hty2, sa2, sc2, rfl, hcap2, hcp2, hat2⟩ := h2
    obtain ⟨k', nm', n', tk2, ta2, tn2, tc2, sa', sn', sc', hv⟩ := HV2
    injection hv with hv
    injection hv with hv
    simp at hv
    obtain ⟨rfl, rfl, rfl, rfl, rfl, rfl, rfl, rfl⟩ := hv
    have e2 : Below w.heap.size w ((w.alloc (.cells #[.int .i64 k1, .string nm1, .int .i64 n1, .int .i64 tk1, .slice ta1 tn1 tc1, .slice sa1 cs.length sc1] 42)).alloc (.cells #[.int .i64 k2, .string nm2, .int .i64 n2, .int .i64 tk2, .slice ta2 tn2 tc2, .slice sa2 bs.length sc2] 42)) := ((Below.refl _ _).alloc (Nat.le_refl _) _).alloc (by simp) _
    have HY1 := Lib.hid (hty1.below e2)
    have HY2 := Lib.hid (hty2.below e2)
    have HE := Lib.hid e2
    have HA1 := Lib.hid hat1
    have HA2 := Lib.hid hat2
    clear e2 hty1 hty2 hat1 hat2
    have HE1 := Lib.hid (HX1.out.below HE.out)
    have HE2 := Lib.hid (HX2.out.below HE.out)
    clear HX1 HX2 HY1 HY2
    go_enter Try.func43, Try.ntmps43
    go_wp2_with fail
    refine (implRoots (d + 1) _ _ (.node k1 nm1 n1 ty1 cs) (.node k2 nm2 n2 ty2 bs) _ HE1.out HE2.out).mono ?_
    rintro e w1 ⟨rfl, hb⟩
    have HB9 := Lib.hid (two_on (Below.refl _ _) hb); clear hb
    have p5 := two_first HB9.out 5
    have r5 := two_next HB9.out 5
    cases hq : (Ex.node k1 nm1 n1 ty1 cs).roots (Ex.node k2 nm2 n2 ty2 bs) with
    | false =>
      have HR : Hid ((Ex.node k1 nm1 n1 ty1 cs).beq (Ex.node k2 nm2 n2 ty2 bs) = false) := by
        show _ = _
        simp only [Ex.roots] at hq
        simp only [Ex.beq, hq, Bool.false_and]
      go_wp2_with fail
      go_ret
      exact ⟨by rw [HR.out]; rfl, two_below HB9.out⟩
    | true =>
      have HFIN : Hid ((Ex.node k1 nm1 n1 ty1 cs).beq (Ex.node k2 nm2 n2 ty2 bs) = Ex.beqs cs bs) := by
        show _ = _
        simp only [Ex.roots] at hq
        simp only [Ex.beq, hq, Bool.true_and]
      have q5 : Hid (cs.length = bs.length) := by
        simp only [Ex.roots, Bool.and_eq_true, decide_eq_true_eq] at hq
        exact hq.2.2.2.2
      go_wp2_with fail
      go_loopw [13] (fun i wr => ∃ k : Nat, k ≤ cs.length ∧ i = .int .i64 k ∧ Ex.beqs (cs.take k) (bs.take k) = true ∧ Below (w.heap.size + 2) ((w.alloc (.cells #[.int .i64 k1, .string nm1, .int .i64 n1, .int .i64 tk1, .slice ta1 tn1 tc1, .slice sa1 cs.length sc1] 42)).alloc (.cells #[.int .i64 k2, .string nm2, .int .i64 n2, .int .i64 tk2, .slice ta2 tn2 tc2, .slice sa2 bs.length sc2] 42)) wr) (fun i _ => cs.length - (intOf i).toNat)
      case atStart => exact ⟨0, by omega, rfl, by simp [Ex.beqs], HB9.out⟩
      case round =>
          obtain ⟨k, hk, rfl, hf, hb⟩ := hrel
          have HF := Lib.hid hf; clear hf
          have z51 := two_first hb 5
          have z52 := two_next hb 5
          have HB := Lib.hid (two_below hb)
          have HBX := Lib.hid hb; clear hb
          by_cases hlt : k < cs.length
          · have hlt2 : k < bs.length := by have := q5.out; omega
            obtain ⟨b1, off1, x0, x1, x2, x3, x4, x5, rfl, hbl1, hc10, hc11, hc12, hc13, hc14, hc15, ht1⟩ := HA1.out k hlt
            obtain ⟨b2, off2, y0, y1, y2, y3, y4, y5, rfl, hbl2, hc20, hc21, hc22, hc23, hc24, hc25, ht2⟩ := HA2.out k hlt2
            have c10 : wr.cell? ⟨b1, off1 + k * 6, none⟩ = some x0 := by rw [HB.out.cell (p := ⟨b1, off1 + k * 6, none⟩) hbl1]; exact hc10
            have c20 : wr.cell? ⟨b2, off2 + k * 6, none⟩ = some y0 := by rw [HB.out.cell (p := ⟨b2, off2 + k * 6, none⟩) hbl2]; exact hc20
            have c11 : wr.cell? ⟨b1, off1 + k * 6 + 1, none⟩ = some x1 := by rw [HB.out.cell (p := ⟨b1, off1 + k * 6 + 1, none⟩) hbl1]; exact hc11
            have c21 : wr.cell? ⟨b2, off2 + k * 6 + 1, none⟩ = some y1 := by rw [HB.out.cell (p := ⟨b2, off2 + k * 6 + 1, none⟩) hbl2]; exact hc21
            have c12 : wr.cell? ⟨b1, off1 + k * 6 + 2, none⟩ = some x2 := by rw [HB.out.cell (p := ⟨b1, off1 + k * 6 + 2, none⟩) hbl1]; exact hc12
            have c22 : wr.cell? ⟨b2, off2 + k * 6 + 2, none⟩ = some y2 := by rw [HB.out.cell (p := ⟨b2, off2 + k * 6 + 2, none⟩) hbl2]; exact hc22
            have c13 : wr.cell? ⟨b1, off1 + k * 6 + 3, none⟩ = some x3 := by rw [HB.out.cell (p := ⟨b1, off1 + k * 6 + 3, none⟩) hbl1]; exact hc13
            have c23 : wr.cell? ⟨b2, off2 + k * 6 + 3, none⟩ = some y3 := by rw [HB.out.cell (p := ⟨b2, off2 + k * 6 + 3, none⟩) hbl2]; exact hc23
            have c14 : wr.cell? ⟨b1, off1 + k * 6 + 4, none⟩ = some x4 := by rw [HB.out.cell (p := ⟨b1, off1 + k * 6 + 4, none⟩) hbl1]; exact hc14
            have c24 : wr.cell? ⟨b2, off2 + k * 6 + 4, none⟩ = some y4 := by rw [HB.out.cell (p := ⟨b2, off2 + k * 6 + 4, none⟩) hbl2]; exact hc24
            have c15 : wr.cell? ⟨b1, off1 + k * 6 + 5, none⟩ = some x5 := by rw [HB.out.cell (p := ⟨b1, off1 + k * 6 + 5, none⟩) hbl1]; exact hc15
            have c25 : wr.cell? ⟨b2, off2 + k * 6 + 5, none⟩ = some y5 := by rw [HB.out.cell (p := ⟨b2, off2 + k * 6 + 5, none⟩) hbl2]; exact hc25
            have HT1 := Lib.hid (ht1.below HB.out.drew)
            have HT2 := Lib.hid (ht2.below HB.out.drew)
            clear ht1 ht2 hc10 hc11 hc12 hc13 hc14 hc15 hc20 hc21 hc22 hc23 hc24 hc25
            go_wp2_with fail
            go_still_tail 10, (by kernel_rfl)
            change wpList _ _ _ _ _ wr.drew
            go_wp2_with fail
            refine (IH.out _ _ _ _ wr.drew HT1.out HT2.out).mono ?_
            rintro e w' ⟨rfl, hb1⟩
            have HN := Lib.hid (two_on HBX.out.drew hb1); clear hb1
            have HTK := Lib.hid (Ex.beqs_take cs bs k hlt hlt2)
            cases hfk : cs[k].beq bs[k] with
            | true =>
              have HFK := Lib.hid hfk; clear hfk
              go_wp2_with fail
              exact ⟨⟨k + 1, by omega, by go_num, by rw [HTK.out, HF.out, HFK.out]; rfl, HN.out⟩, by simp [intOf]; omega⟩
            | false =>
              have HFK := Lib.hid hfk; clear hfk
              go_wp2_with fail
              go_ret
              have e : Ex.beqs cs bs = false := Ex.beqs_false cs bs (k + 1) (by rw [HTK.out, HF.out, HFK.out]; rfl) q5.out
              exact ⟨by rw [HFIN.out, e]; rfl, two_below HN.out⟩
          · obtain rfl : k = cs.length := by omega
            have e : Hid (Ex.beqs cs bs = true) := by
              have := HF.out
              rw [List.take_length, q5.out, List.take_length] at this; exact this
            go_wp2_with fail
            go_ret
            exact ⟨by rw [HFIN.out, e.out]; rfl, HB.out⟩
end Go.Proofs.Ytddfeecnimdikaa
/-
  Proved: the library says whether two slices of numbers are equal; it leaves the memory that was there as it was.
-/
namespace Go.Proofs.Ytddfeecnimdikaa
open Go.RowKit

set_option maxRecDepth 100000 in
set_option maxHeartbeats 1000000 in
/-- The library's comparison of two slices of numbers. -/
theorem libEqualInts (v1 v2 : Value) (ps os : List Int) (hn : ps.length ≤ 1048576) (hm : os.length ≤ 1048576) (w : World) (h1 : Ints w v1 ps) (h2 : Ints w v2 os) :
    Calls Try.prog 62 #[v1, v2] w fun e w' => e = .returned (.bool (decide (ps = os))) ∧ Below w.heap.size w w' := by
  obtain ⟨a1, cap1, rfl, hcap1, hat1⟩ := h1
  obtain ⟨a2, cap2, rfl, hcap2, hat2⟩ := h2
  have HC1 := Lib.hid hat1; clear hat1
  have HC2 := Lib.hid hat2; clear hat2
  by_cases hl : ps.length = os.length
  case neg =>
    have HF : Hid (decide (ps = os) = false) := by show _ = _; rw [decide_eq_false_iff_not]; intro e; exact hl (congrArg List.length e)
    go_enter Try.func62, Try.ntmps62
    have qb : ((ps.length : Int) != (os.length : Int)) = true := by simp; omega
    go_wp2_with fail
    go_ret
    exact ⟨by rw [HF.out]; rfl, Below.refl _ _⟩
  have qb0 : ((ps.length : Int) != (os.length : Int)) = false := by simp; omega
  go_enter Try.func62, Try.ntmps62
  go_wp2_with fail
  go_loopw [13] (fun i wr => ∃ k : Nat, k ≤ os.length ∧ i = .int .i64 k ∧ (∀ j (h1 : j < os.length) (h2 : j < ps.length), j < k → os[j] = ps[j]) ∧ Below w.heap.size w wr) (fun i _ => os.length - (intOf i).toNat)
  case atStart => exact ⟨0, by omega, rfl, fun j h1 h2 h => by omega, Below.refl _ _⟩
  case round =>
    obtain ⟨k, hk, rfl, hs, hb⟩ := hrel
    have HSM := Lib.hid hs; clear hs
    by_cases hlt : k < os.length
    · obtain ⟨b1, off1, rfl, hbl1, hcell1⟩ := HC1.out k (by omega)
      obtain ⟨b2, off2, rfl, hbl2, hcell2⟩ := HC2.out k hlt
      have c1 : wr.cell? ⟨b1, off1 + k, none⟩ = some (.int .i64 (ps[k]'(by omega))) := by rw [hb.cell (p := ⟨b1, off1 + k, none⟩) hbl1]; exact hcell1
      have c2 : wr.cell? ⟨b2, off2 + k, none⟩ = some (.int .i64 os[k]) := by rw [hb.cell (p := ⟨b2, off2 + k, none⟩) hbl2]; exact hcell2
      have HB2 := Lib.hid hb; clear hb hcell1 hcell2
      by_cases q : ps[k]'(by omega) = os[k]
      · have HN : Hid (∀ j (h1 : j < os.length) (h2 : j < ps.length), j < k + 1 → os[j] = ps[j]) := fun j h1 h2 h => by
          by_cases e : j = k
          · subst e; exact q.symm
          · exact HSM.out j h1 h2 (by omega)
        have qb : (ps[k]'(by omega) != os[k]) = false := by simp [q]
        clear q
        go_wp2_with fail
        go_quiet (fail)
        go_wp2_with fail
        exact ⟨⟨k + 1, by omega, by go_num, HN.out, below_drewN HB2.out nq⟩, by simp [intOf]; omega⟩
      · have qb : (ps[k]'(by omega) != os[k]) = true := by simp [q]
        have HF : Hid (decide (ps = os) = false) := by show _ = _; rw [decide_eq_false_iff_not]; rintro rfl; exact q rfl
        clear q
        go_wp2_with fail
        go_quiet (fail)
        go_wp2_with fail
        go_ret
        exact ⟨by rw [HF.out]; rfl, below_drewN HB2.out nq⟩
    · have HF : Hid (decide (ps = os) = true) := by
        show _ = _
        rw [decide_eq_true_eq]
        exact List.ext_getElem hl fun j h1 h2 => (HSM.out j h2 h1 (by omega)).symm
      go_wp2_with fail
      go_ret
      exact ⟨by rw [HF.out]; rfl, hb⟩
end Go.Proofs.Ytddfeecnimdikaa
/-
  Proved: impl.EqualEdit says whether two values are equal; it leaves the memory that was there as it was.
-/
namespace Go.Proofs.Ytddfeecnimdikaa
open Go.RowKit

set_option maxRecDepth 100000 in
set_option maxHeartbeats 4000000 in
theorem implEdt (d : Nat) (v1 v2 : Value) (t1 t2 : Edt) (w : World) (h1 : EdtAt w d v1 t1) (h2 : EdtAt w d v2 t2) (hn1 : t1.bulk ≤ 1048576) (hn2 : t2.bulk ≤ 1048576) :
    Calls Try.prog 34 #[v1, v2] w fun e w' => e = .returned (.bool (t1.beq t2)) ∧ Below w.heap.size w w' := by
  cases t1 with
  | mk x1 x2 =>
  cases t2 with
  | mk y1 y2 =>
    obtain ⟨pbk, pbnm, pbm, pbtk, pbta, pbtn, pbtc, pbsa, pbsn, pbsc, pca, pcn, pcc, rfl, ph1, ph2⟩ := h1
    obtain ⟨ubk, ubnm, ubm, ubtk, ubta, ubtn, ubtc, ubsa, ubsn, ubsc, uca, ucn, ucc, rfl, pk1, pk2⟩ := h2
    dsimp only at ph1 ph2 pk1 pk2 ⊢
    have hb1 : (Edt.mk x1 x2).bulk = x1.bulk + x2.length := rfl
    have b11 : x1.bulk ≤ 1048576 := by omega
    have b12 : x2.length ≤ 1048576 := by omega
    have hb2 : (Edt.mk y1 y2).bulk = y1.bulk + y2.length := rfl
    have b21 : y1.bulk ≤ 1048576 := by omega
    have b22 : y2.length ≤ 1048576 := by omega
    have hq : Hid ((Edt.mk x1 x2).beq (Edt.mk y1 y2) = ((Ex.beq x1 y1) && (decide (x2 = y2)))) := rfl
    clear hn1 hn2 hb1 hb2
    have e3 : Below w.heap.size w ((w.alloc (.cells #[.int .i64 pbk, .string pbnm, .int .i64 pbm, .int .i64 pbtk, .slice pbta pbtn pbtc, .slice pbsa pbsn pbsc, .slice pca pcn pcc] 44)).alloc (.cells #[.int .i64 ubk, .string ubnm, .int .i64 ubm, .int .i64 ubtk, .slice ubta ubtn ubtc, .slice ubsa ubsn ubsc, .slice uca ucn ucc] 44)) := ((Below.refl _ _).alloc (Nat.le_refl _) _).alloc (by simp) _
    have H1 := Lib.hid (ph1.below e3)
    have J1 := Lib.hid (pk1.below e3)
    have H2 := Lib.hid (ph2.below e3)
    have J2 := Lib.hid (pk2.below e3)
    clear e3 ph1 pk1 ph2 pk2
    go_enter Try.func34, Try.ntmps34
    go_wp2_with fail
    refine (implExEqual d _ _ x1 y1 _ H1.out J1.out).mono ?_
    rintro e' w1 ⟨rfl, hb⟩
    have HB := Lib.hid (two_on (Below.refl _ _) hb)
    replace H2 := Lib.hid (H2.out.below hb)
    replace J2 := Lib.hid (J2.out.below hb)
    clear hb H1 J1
    cases hv : Ex.beq x1 y1 with
    | false =>
      have HK : Hid ((Edt.mk x1 x2).beq (Edt.mk y1 y2) = false) := by show _ = _; rw [hq.out, hv]; simp
      clear hv
      go_wp2_with fail
      go_ret
      exact ⟨by rw [HK.out]; rfl, two_below HB.out⟩
    | true =>
      rw [hv] at hq
      clear hv
      have c6 := two_first HB.out 6
      have u6 := two_next HB.out 6
      go_wp2_with fail
      clear c6 u6
      refine (libEqualInts _ _ x2 y2 b12 b22 _ H2.out.1 J2.out.1).mono ?_
      rintro e' w2 ⟨rfl, hb⟩
      replace HB := Lib.hid (two_on HB.out hb)
      clear hb H2 J2
      have HK : Hid ((Edt.mk x1 x2).beq (Edt.mk y1 y2) = decide (x2 = y2)) := by show _ = _; rw [hq.out]; simp
      go_wp2_with fail
      go_ret
      exact ⟨by rw [HK.out]; rfl, two_below HB.out⟩
end Go.Proofs.Ytddfeecnimdikaa
/-
  Proved: the library's EqualFunc says whether two lists of values of the kind Edit are equal; the memory that was there stays as it was.
-/
namespace Go.Proofs.Ytddfeecnimdikaa
open Go.RowKit

set_option maxRecDepth 100000 in
set_option maxHeartbeats 4000000 in
theorem libEdts (d : Nat) (v1 v2 : Value) (cs bs : List Edt) (w : World) (h1 : EdtsAt w d v1 cs) (h2 : EdtsAt w d v2 bs) (hn1 : Edt.bulks cs ≤ 1048576) (hn2 : Edt.bulks bs ≤ 1048576) :
    Calls Try.prog 33 #[v1, v2, .func (.func 34) #[] #[]] w fun e w' => e = .returned (.bool (Edt.beqs cs bs)) ∧ Below w.heap.size w w' := by
  obtain ⟨a1, cap1, rfl, hcap1, hm1, hat1⟩ := h1
  obtain ⟨a2, cap2, rfl, hcap2, hm2, hat2⟩ := h2
  have HA1 := Lib.hid hat1; clear hat1
  have HA2 := Lib.hid hat2; clear hat2
  by_cases hl : cs.length = bs.length
  case neg =>
    have HF := Lib.hid (Edt.beqs_len cs bs hl)
    have qb : ((cs.length : Int) != (bs.length : Int)) = true := by simp; omega
    go_enter Try.func33, Try.ntmps33
    go_wp2_with fail
    go_ret
    exact ⟨by rw [HF.out]; rfl, Below.refl _ _⟩
  case pos =>
    have qb0 : ((cs.length : Int) != (bs.length : Int)) = false := by simp; omega
    have HL := Lib.hid hl; clear hl
    go_enter Try.func33, Try.ntmps33
    go_wp2_with fail
    clear qb0
    go_loopw [17] (fun i wr => ∃ k : Nat, k ≤ cs.length ∧ i = .int .i64 k ∧ Edt.beqs (cs.take k) (bs.take k) = true ∧ Below w.heap.size w wr) (fun i _ => cs.length - (intOf i).toNat)
    case atStart => exact ⟨0, by omega, rfl, by simp [Edt.beqs], Below.refl _ _⟩
    case round =>
      obtain ⟨k, hk, rfl, hf, hb⟩ := hrel
      have HF := Lib.hid hf; clear hf
      have HB := Lib.hid hb; clear hb
      by_cases hlt : k < cs.length
      · have hlt2 : k < bs.length := by have := HL.out; omega
        obtain ⟨b1, off1, x0, x1, x2, x3, x4, x5, x6, rfl, hbl1, hc10, hc11, hc12, hc13, hc14, hc15, hc16, ht1⟩ := HA1.out k hlt
        obtain ⟨b2, off2, y0, y1, y2, y3, y4, y5, y6, rfl, hbl2, hc20, hc21, hc22, hc23, hc24, hc25, hc26, ht2⟩ := HA2.out k hlt2
        obtain ⟨pbk, pbnm, pbm, pbtk, pbta, pbtn, pbtc, pbsa, pbsn, pbsc, pca, pcn, pcc, hv1⟩ := edt_parts ht1
        obtain ⟨qbk, qbnm, qbm, qbtk, qbta, qbtn, qbtc, qbsa, qbsn, qbsc, qca, qcn, qcc, hv2⟩ := edt_parts ht2
        injection hv1 with hv1
        injection hv1 with hv1
        simp only [List.cons.injEq, and_true] at hv1
        obtain ⟨rfl, rfl, rfl, rfl, rfl, rfl, rfl⟩ := hv1
        injection hv2 with hv2
        injection hv2 with hv2
        simp only [List.cons.injEq, and_true] at hv2
        obtain ⟨rfl, rfl, rfl, rfl, rfl, rfl, rfl⟩ := hv2
        have hg1 : cs[k].bulk ≤ 1048576 := by have := Edt.bulk_get cs k hlt; omega
        have hg2 : bs[k].bulk ≤ 1048576 := by have := Edt.bulk_get bs k hlt2; omega
        have HTK := Lib.hid (Edt.beqs_take cs bs k hlt hlt2)
        have HBAD : Hid (cs[k].beq bs[k] = false → Edt.beqs cs bs = false) := fun h => Edt.beqs_bad hlt hlt2 HL.out h
        have HR1 := Lib.hid ht1
        have HR2 := Lib.hid ht2
        have K10 := Lib.hid hc10
        have K20 := Lib.hid hc20
        have K11 := Lib.hid hc11
        have K21 := Lib.hid hc21
        have K12 := Lib.hid hc12
        have K22 := Lib.hid hc22
        have K13 := Lib.hid hc13
        have K23 := Lib.hid hc23
        have K14 := Lib.hid hc14
        have K24 := Lib.hid hc24
        have K15 := Lib.hid hc15
        have K25 := Lib.hid hc25
        have K16 := Lib.hid hc16
        have K26 := Lib.hid hc26
        clear ht1 ht2 hc10 hc20 hc11 hc21 hc12 hc22 hc13 hc23 hc14 hc24 hc15 hc25 hc16 hc26
        generalize cs[k] = c at HTK HBAD HR1 hg1
        generalize bs[k] = b at HTK HBAD HR2 hg2
        have c10 : wr.cell? ⟨b1, off1 + k * 7, none⟩ = some (.int .i64 pbk) := (HB.out.cell (p := ⟨b1, off1 + k * 7, none⟩) hbl1).trans K10.out
        have c20 : wr.cell? ⟨b2, off2 + k * 7, none⟩ = some (.int .i64 qbk) := (HB.out.cell (p := ⟨b2, off2 + k * 7, none⟩) hbl2).trans K20.out
        have m20 : (wr.alloc (.cells #[.int .i64 pbk, .string pbnm, .int .i64 pbm, .int .i64 pbtk, .slice pbta pbtn pbtc, .slice pbsa pbsn pbsc, .slice pca pcn pcc] 44)).cell? ⟨b2, off2 + k * 7, none⟩ = some (.int .i64 qbk) := ((below_alloc wr _).cell (p := ⟨b2, off2 + k * 7, none⟩) (Nat.lt_of_lt_of_le hbl2 HB.out.size)).trans c20
        have c11 : wr.cell? ⟨b1, off1 + k * 7 + 1, none⟩ = some (.string pbnm) := (HB.out.cell (p := ⟨b1, off1 + k * 7 + 1, none⟩) hbl1).trans K11.out
        have c21 : wr.cell? ⟨b2, off2 + k * 7 + 1, none⟩ = some (.string qbnm) := (HB.out.cell (p := ⟨b2, off2 + k * 7 + 1, none⟩) hbl2).trans K21.out
        have m21 : (wr.alloc (.cells #[.int .i64 pbk, .string pbnm, .int .i64 pbm, .int .i64 pbtk, .slice pbta pbtn pbtc, .slice pbsa pbsn pbsc, .slice pca pcn pcc] 44)).cell? ⟨b2, off2 + k * 7 + 1, none⟩ = some (.string qbnm) := ((below_alloc wr _).cell (p := ⟨b2, off2 + k * 7 + 1, none⟩) (Nat.lt_of_lt_of_le hbl2 HB.out.size)).trans c21
        have c12 : wr.cell? ⟨b1, off1 + k * 7 + 2, none⟩ = some (.int .i64 pbm) := (HB.out.cell (p := ⟨b1, off1 + k * 7 + 2, none⟩) hbl1).trans K12.out
        have c22 : wr.cell? ⟨b2, off2 + k * 7 + 2, none⟩ = some (.int .i64 qbm) := (HB.out.cell (p := ⟨b2, off2 + k * 7 + 2, none⟩) hbl2).trans K22.out
        have m22 : (wr.alloc (.cells #[.int .i64 pbk, .string pbnm, .int .i64 pbm, .int .i64 pbtk, .slice pbta pbtn pbtc, .slice pbsa pbsn pbsc, .slice pca pcn pcc] 44)).cell? ⟨b2, off2 + k * 7 + 2, none⟩ = some (.int .i64 qbm) := ((below_alloc wr _).cell (p := ⟨b2, off2 + k * 7 + 2, none⟩) (Nat.lt_of_lt_of_le hbl2 HB.out.size)).trans c22
        have c13 : wr.cell? ⟨b1, off1 + k * 7 + 3, none⟩ = some (.int .i64 pbtk) := (HB.out.cell (p := ⟨b1, off1 + k * 7 + 3, none⟩) hbl1).trans K13.out
        have c23 : wr.cell? ⟨b2, off2 + k * 7 + 3, none⟩ = some (.int .i64 qbtk) := (HB.out.cell (p := ⟨b2, off2 + k * 7 + 3, none⟩) hbl2).trans K23.out
        have m23 : (wr.alloc (.cells #[.int .i64 pbk, .string pbnm, .int .i64 pbm, .int .i64 pbtk, .slice pbta pbtn pbtc, .slice pbsa pbsn pbsc, .slice pca pcn pcc] 44)).cell? ⟨b2, off2 + k * 7 + 3, none⟩ = some (.int .i64 qbtk) := ((below_alloc wr _).cell (p := ⟨b2, off2 + k * 7 + 3, none⟩) (Nat.lt_of_lt_of_le hbl2 HB.out.size)).trans c23
        have c14 : wr.cell? ⟨b1, off1 + k * 7 + 4, none⟩ = some (.slice pbta pbtn pbtc) := (HB.out.cell (p := ⟨b1, off1 + k * 7 + 4, none⟩) hbl1).trans K14.out
        have c24 : wr.cell? ⟨b2, off2 + k * 7 + 4, none⟩ = some (.slice qbta qbtn qbtc) := (HB.out.cell (p := ⟨b2, off2 + k * 7 + 4, none⟩) hbl2).trans K24.out
        have m24 : (wr.alloc (.cells #[.int .i64 pbk, .string pbnm, .int .i64 pbm, .int .i64 pbtk, .slice pbta pbtn pbtc, .slice pbsa pbsn pbsc, .slice pca pcn pcc] 44)).cell? ⟨b2, off2 + k * 7 + 4, none⟩ = some (.slice qbta qbtn qbtc) := ((below_alloc wr _).cell (p := ⟨b2, off2 + k * 7 + 4, none⟩) (Nat.lt_of_lt_of_le hbl2 HB.out.size)).trans c24
        have c15 : wr.cell? ⟨b1, off1 + k * 7 + 5, none⟩ = some (.slice pbsa pbsn pbsc) := (HB.out.cell (p := ⟨b1, off1 + k * 7 + 5, none⟩) hbl1).trans K15.out
        have c25 : wr.cell? ⟨b2, off2 + k * 7 + 5, none⟩ = some (.slice qbsa qbsn qbsc) := (HB.out.cell (p := ⟨b2, off2 + k * 7 + 5, none⟩) hbl2).trans K25.out
        have m25 : (wr.alloc (.cells #[.int .i64 pbk, .string pbnm, .int .i64 pbm, .int .i64 pbtk, .slice pbta pbtn pbtc, .slice pbsa pbsn pbsc, .slice pca pcn pcc] 44)).cell? ⟨b2, off2 + k * 7 + 5, none⟩ = some (.slice qbsa qbsn qbsc) := ((below_alloc wr _).cell (p := ⟨b2, off2 + k * 7 + 5, none⟩) (Nat.lt_of_lt_of_le hbl2 HB.out.size)).trans c25
        have c16 : wr.cell? ⟨b1, off1 + k * 7 + 6, none⟩ = some (.slice pca pcn pcc) := (HB.out.cell (p := ⟨b1, off1 + k * 7 + 6, none⟩) hbl1).trans K16.out
        have c26 : wr.cell? ⟨b2, off2 + k * 7 + 6, none⟩ = some (.slice qca qcn qcc) := (HB.out.cell (p := ⟨b2, off2 + k * 7 + 6, none⟩) hbl2).trans K26.out
        have m26 : (wr.alloc (.cells #[.int .i64 pbk, .string pbnm, .int .i64 pbm, .int .i64 pbtk, .slice pbta pbtn pbtc, .slice pbsa pbsn pbsc, .slice pca pcn pcc] 44)).cell? ⟨b2, off2 + k * 7 + 6, none⟩ = some (.slice qca qcn qcc) := ((below_alloc wr _).cell (p := ⟨b2, off2 + k * 7 + 6, none⟩) (Nat.lt_of_lt_of_le hbl2 HB.out.size)).trans c26
        have hb2 : Below wr.heap.size wr ((wr.alloc (.cells #[.int .i64 pbk, .string pbnm, .int .i64 pbm, .int .i64 pbtk, .slice pbta pbtn pbtc, .slice pbsa pbsn pbsc, .slice pca pcn pcc] 44)).alloc (.cells #[.int .i64 qbk, .string qbnm, .int .i64 qbm, .int .i64 qbtk, .slice qbta qbtn qbtc, .slice qbsa qbsn qbsc, .slice qca qcn qcc] 44)) := ((Below.refl _ _).alloc (Nat.le_refl _) _).alloc (by simp) _
        have HB2 := Lib.hid (HB.out.trans (hb2.mono HB.out.size))
        replace HR1 := Lib.hid (HR1.out.below HB2.out)
        replace HR2 := Lib.hid (HR2.out.below HB2.out)
        clear hb2
        go_wp2_with fail
        clear c10 c20 m20 c11 c21 m21 c12 c22 m22 c13 c23 m23 c14 c24 m24 c15 c25 m25 c16 c26 m26
        refine (implEdt d _ _ c b _ HR1.out HR2.out hg1 hg2).mono ?_
        rintro e w1 ⟨rfl, hb⟩
        replace HB := Lib.hid (below_thru HB2.out (Nat.le_refl _) hb)
        clear hb HB2
        cases hq : c.beq b with
        | true =>
          have HK : Hid (Edt.beqs (cs.take (k + 1)) (bs.take (k + 1)) = true) := by show _ = _; rw [HTK.out, HF.out, hq]; rfl
          clear hq
          go_wp2_with fail
          exact ⟨⟨k + 1, by omega, by go_num, HK.out, HB.out⟩, by simp [intOf]; omega⟩
        | false =>
          have HK := Lib.hid (HBAD.out hq)
          clear hq
          go_wp2_with fail
          go_ret
          exact ⟨by rw [HK.out]; rfl, HB.out⟩
      · obtain rfl : k = cs.length := by omega
        have HK : Hid (Edt.beqs cs bs = true) := by
          have := HF.out
          rw [List.take_length, HL.out, List.take_length] at this; exact this
        go_wp2_with fail
        go_ret
        exact ⟨by rw [HK.out]; rfl, HB.out⟩
end Go.Proofs.Ytddfeecnimdikaa
/-
  Proved: impl.EqualHistory says whether two values are equal; it leaves the memory that was there as it was.
-/
namespace Go.Proofs.Ytddfeecnimdikaa
open Go.RowKit

set_option maxRecDepth 100000 in
set_option maxHeartbeats 4000000 in
theorem implHis (d : Nat) (v1 v2 : Value) (t1 t2 : His) (w : World) (h1 : HisAt w d v1 t1) (h2 : HisAt w d v2 t2) (hn1 : t1.bulk ≤ 1048576) (hn2 : t2.bulk ≤ 1048576) :
    Calls Try.prog 10 #[v1, v2] w fun e w' => e = .returned (.bool (t1.beq t2)) ∧ Below w.heap.size w w' := by
  cases t1 with
  | mk x1 x2 x3 =>
  cases t2 with
  | mk y1 y2 y3 =>
    obtain ⟨pba, pbn, pbc, pcbk, pcbnm, pcbm, pcbtk, pcbta, pcbtn, pcbtc, pcbsa, pcbsn, pcbsc, pcca, pccn, pccc, pda, pdn, pdc, rfl, ph1, ph2, ph3⟩ := h1
    obtain ⟨uba, ubn, ubc, ucbk, ucbnm, ucbm, ucbtk, ucbta, ucbtn, ucbtc, ucbsa, ucbsn, ucbsc, ucca, uccn, uccc, uda, udn, udc, rfl, pk1, pk2, pk3⟩ := h2
    dsimp only at ph1 ph2 ph3 pk1 pk2 pk3 ⊢
    have hb1 : (His.mk x1 x2 x3).bulk = Edt.bulks x1 + x2.bulk + Edt.bulks x3 := rfl
    have b11 : Edt.bulks x1 ≤ 1048576 := by omega
    have b12 : x2.bulk ≤ 1048576 := by omega
    have b13 : Edt.bulks x3 ≤ 1048576 := by omega
    have hb2 : (His.mk y1 y2 y3).bulk = Edt.bulks y1 + y2.bulk + Edt.bulks y3 := rfl
    have b21 : Edt.bulks y1 ≤ 1048576 := by omega
    have b22 : y2.bulk ≤ 1048576 := by omega
    have b23 : Edt.bulks y3 ≤ 1048576 := by omega
    have hq : Hid ((His.mk x1 x2 x3).beq (His.mk y1 y2 y3) = ((Edt.beqs x1 y1) && (Edt.beq x2 y2) && (Edt.beqs x3 y3))) := rfl
    clear hn1 hn2 hb1 hb2
    have e3 : Below w.heap.size w ((w.alloc (.cells #[.slice pba pbn pbc, .int .i64 pcbk, .string pcbnm, .int .i64 pcbm, .int .i64 pcbtk, .slice pcbta pcbtn pcbtc, .slice pcbsa pcbsn pcbsc, .slice pcca pccn pccc, .slice pda pdn pdc] 46)).alloc (.cells #[.slice uba ubn ubc, .int .i64 ucbk, .string ucbnm, .int .i64 ucbm, .int .i64 ucbtk, .slice ucbta ucbtn ucbtc, .slice ucbsa ucbsn ucbsc, .slice ucca uccn uccc, .slice uda udn udc] 46)) := ((Below.refl _ _).alloc (Nat.le_refl _) _).alloc (by simp) _
    have H1 := Lib.hid (ph1.below e3)
    have J1 := Lib.hid (pk1.below e3)
    have H2 := Lib.hid (ph2.below e3)
    have J2 := Lib.hid (pk2.below e3)
    have H3 := Lib.hid (ph3.below e3)
    have J3 := Lib.hid (pk3.below e3)
    clear e3 ph1 pk1 ph2 pk2 ph3 pk3
    go_enter Try.func10, Try.ntmps10
    go_wp2_with fail
    refine (libEdts d _ _ x1 y1 _ H1.out J1.out b11 b21).mono ?_
    rintro e' w1 ⟨rfl, hb⟩
    have HB := Lib.hid (two_on (Below.refl _ _) hb)
    replace H2 := Lib.hid (H2.out.below hb)
    replace J2 := Lib.hid (J2.out.below hb)
    replace H3 := Lib.hid (H3.out.below hb)
    replace J3 := Lib.hid (J3.out.below hb)
    clear hb H1 J1
    cases hv : Edt.beqs x1 y1 with
    | false =>
      have HK : Hid ((His.mk x1 x2 x3).beq (His.mk y1 y2 y3) = false) := by show _ = _; rw [hq.out, hv]; simp
      clear hv
      go_wp2_with fail
      go_ret
      exact ⟨by rw [HK.out]; rfl, two_below HB.out⟩
    | true =>
      rw [hv] at hq
      clear hv
      have c1 := two_first HB.out 1
      have u1 := two_next HB.out 1
      have c2 := two_first HB.out 2
      have u2 := two_next HB.out 2
      have c3 := two_first HB.out 3
      have u3 := two_next HB.out 3
      have c4 := two_first HB.out 4
      have u4 := two_next HB.out 4
      have c5 := two_first HB.out 5
      have u5 := two_next HB.out 5
      have c6 := two_first HB.out 6
      have u6 := two_next HB.out 6
      have c7 := two_first HB.out 7
      have u7 := two_next HB.out 7
      go_wp2_with fail
      clear c1 u1 c2 u2 c3 u3 c4 u4 c5 u5 c6 u6 c7 u7
      refine (implEdt d _ _ x2 y2 _ H2.out J2.out b12 b22).mono ?_
      rintro e' w2 ⟨rfl, hb⟩
      replace HB := Lib.hid (two_on HB.out hb)
      replace H3 := Lib.hid (H3.out.below hb)
      replace J3 := Lib.hid (J3.out.below hb)
      clear hb H2 J2
      cases hv : Edt.beq x2 y2 with
      | false =>
        have HK : Hid ((His.mk x1 x2 x3).beq (His.mk y1 y2 y3) = false) := by show _ = _; rw [hq.out, hv]; simp
        clear hv
        go_wp2_with fail
        go_ret
        exact ⟨by rw [HK.out]; rfl, two_below HB.out⟩
      | true =>
        rw [hv] at hq
        clear hv
        have c8 := two_first HB.out 8
        have u8 := two_next HB.out 8
        go_wp2_with fail
        clear c8 u8
        refine (libEdts d _ _ x3 y3 _ H3.out J3.out b13 b23).mono ?_
        rintro e' w3 ⟨rfl, hb⟩
        replace HB := Lib.hid (two_on HB.out hb)
        clear hb H3 J3
        have HK : Hid ((His.mk x1 x2 x3).beq (His.mk y1 y2 y3) = Edt.beqs x3 y3) := by show _ = _; rw [hq.out]; simp
        go_wp2_with fail
        go_ret
        exact ⟨by rw [HK.out]; rfl, two_below HB.out⟩
end Go.Proofs.Ytddfeecnimdikaa
/-
  Proved: the law FnExactEqualHistory answers true for every argument, and leaves the memory that was there as it was.
-/
namespace Go.Proofs.Ytddfeecnimdikaa
open Go.RowKit

set_option maxRecDepth 100000 in
set_option maxHeartbeats 2000000 in
theorem equalHistoryWalk (d : Nat) (v1 : Value) (t1 : His) (v2 : Value) (t2 : His) (w : World) (h1 : HisAt w d v1 t1) (h2 : HisAt w d v2 t2) :
    Calls Try.prog 3 #[v1, v2] w fun e w' => e = .returned (.bool true) ∧ Below w.heap.size w w' := by
  obtain ⟨a1ba, a1bn, a1bc, a1cbk, a1cbnm, a1cbm, a1cbtk, a1cbta, a1cbtn, a1cbtc, a1cbsa, a1cbsn, a1cbsc, a1cca, a1ccn, a1ccc, a1da, a1dn, a1dc, rfl⟩ := his_parts h1
  obtain ⟨a2ba, a2bn, a2bc, a2cbk, a2cbnm, a2cbm, a2cbtk, a2cbta, a2cbtn, a2cbtc, a2cbsa, a2cbsn, a2cbsc, a2cca, a2ccn, a2ccc, a2da, a2dn, a2dc, rfl⟩ := his_parts h2
  have B : Hid (Below w.heap.size w ((w.alloc (.cells #[.slice a1ba a1bn a1bc, .int .i64 a1cbk, .string a1cbnm, .int .i64 a1cbm, .int .i64 a1cbtk, .slice a1cbta a1cbtn a1cbtc, .slice a1cbsa a1cbsn a1cbsc, .slice a1cca a1ccn a1ccc, .slice a1da a1dn a1dc] 33)).alloc (.cells #[.slice a2ba a2bn a2bc, .int .i64 a2cbk, .string a2cbnm, .int .i64 a2cbm, .int .i64 a2cbtk, .slice a2cbta a2cbtn a2cbtc, .slice a2cbsa a2cbsn a2cbsc, .slice a2cca a2ccn a2ccc, .slice a2da a2dn a2dc] 33))) := ((Below.refl _ _).alloc (Nat.le_refl _) _).alloc (by simp) _
  have HA1 := Lib.hid (h1.below B.out)
  have HA2 := Lib.hid (h2.below B.out)
  have XA1 : Hid (BoxAt ((w.alloc (.cells #[.slice a1ba a1bn a1bc, .int .i64 a1cbk, .string a1cbnm, .int .i64 a1cbm, .int .i64 a1cbtk, .slice a1cbta a1cbtn a1cbtc, .slice a1cbsa a1cbsn a1cbsc, .slice a1cca a1ccn a1ccc, .slice a1da a1dn a1dc] 33)).alloc (.cells #[.slice a2ba a2bn a2bc, .int .i64 a2cbk, .string a2cbnm, .int .i64 a2cbm, .int .i64 a2cbtk, .slice a2cbta a2cbtn a2cbtc, .slice a2cbsa a2cbsn a2cbsc, .slice a2cca a2ccn a2ccc, .slice a2da a2dn a2dc] 33)) (w.heap.size) #[.slice a1ba a1bn a1bc, .int .i64 a1cbk, .string a1cbnm, .int .i64 a1cbm, .int .i64 a1cbtk, .slice a1cbta a1cbtn a1cbtc, .slice a1cbsa a1cbsn a1cbsc, .slice a1cca a1ccn a1ccc, .slice a1da a1dn a1dc]) := (BoxAt.new _ _ _).below (below_alloc _ _)
  have XA2 : Hid (BoxAt ((w.alloc (.cells #[.slice a1ba a1bn a1bc, .int .i64 a1cbk, .string a1cbnm, .int .i64 a1cbm, .int .i64 a1cbtk, .slice a1cbta a1cbtn a1cbtc, .slice a1cbsa a1cbsn a1cbsc, .slice a1cca a1ccn a1ccc, .slice a1da a1dn a1dc] 33)).alloc (.cells #[.slice a2ba a2bn a2bc, .int .i64 a2cbk, .string a2cbnm, .int .i64 a2cbm, .int .i64 a2cbtk, .slice a2cbta a2cbtn a2cbtc, .slice a2cbsa a2cbsn a2cbsc, .slice a2cca a2ccn a2ccc, .slice a2da a2dn a2dc] 33)) (w.heap.size + 1) #[.slice a2ba a2bn a2bc, .int .i64 a2cbk, .string a2cbnm, .int .i64 a2cbm, .int .i64 a2cbtk, .slice a2cbta a2cbtn a2cbtc, .slice a2cbsa a2cbsn a2cbsc, .slice a2cca a2ccn a2ccc, .slice a2da a2dn a2dc]) := by
    have := BoxAt.new (w.alloc (.cells #[.slice a1ba a1bn a1bc, .int .i64 a1cbk, .string a1cbnm, .int .i64 a1cbm, .int .i64 a1cbtk, .slice a1cbta a1cbtn a1cbtc, .slice a1cbsa a1cbsn a1cbsc, .slice a1cca a1ccn a1ccc, .slice a1da a1dn a1dc] 33)) #[.slice a2ba a2bn a2bc, .int .i64 a2cbk, .string a2cbnm, .int .i64 a2cbm, .int .i64 a2cbtk, .slice a2cbta a2cbtn a2cbtc, .slice a2cbsa a2cbsn a2cbsc, .slice a2cca a2ccn a2ccc, .slice a2da a2dn a2dc] 33
    rw [show (w.alloc (.cells #[.slice a1ba a1bn a1bc, .int .i64 a1cbk, .string a1cbnm, .int .i64 a1cbm, .int .i64 a1cbtk, .slice a1cbta a1cbtn a1cbtc, .slice a1cbsa a1cbsn a1cbsc, .slice a1cca a1ccn a1ccc, .slice a1da a1dn a1dc] 33)).heap.size = w.heap.size + 1 from by simp] at this
    exact this
  clear h1 h2
  go_enter Try.func3, Try.ntmps3
  go_wp2_with fail
  refine (szHis d _ t1 1048576 _ (by omega) (by omega) HA1.out).mono ?_
  rintro e w1 ⟨r1, rfl, hb, hr1⟩
  replace B := Lib.hid (below_thru B.out (Nat.le_refl _) hb)
  replace HA1 := Lib.hid (HA1.out.below hb)
  replace HA2 := Lib.hid (HA2.out.below hb)
  replace XA1 := Lib.hid (XA1.out.below hb)
  replace XA2 := Lib.hid (XA2.out.below hb)
  clear hb
  rcases hr1 with ⟨hr1, hs1⟩ | ⟨hr1, hs1⟩
  · go_wp2_with fail
    go_ret
    exact ⟨rfl, B.out⟩
  have hq1 : r1 ≤ 1048576 := by omega
  have hn1 : t1.bulk ≤ 1048576 := by omega
  have cXA1_0 := XA1.out.2 0
  have cXA1_1 := XA1.out.2 1
  have cXA1_2 := XA1.out.2 2
  have cXA1_3 := XA1.out.2 3
  have cXA1_4 := XA1.out.2 4
  have cXA1_5 := XA1.out.2 5
  have cXA1_6 := XA1.out.2 6
  have cXA1_7 := XA1.out.2 7
  have cXA1_8 := XA1.out.2 8
  have cXA2_0 := XA2.out.2 0
  have cXA2_1 := XA2.out.2 1
  have cXA2_2 := XA2.out.2 2
  have cXA2_3 := XA2.out.2 3
  have cXA2_4 := XA2.out.2 4
  have cXA2_5 := XA2.out.2 5
  have cXA2_6 := XA2.out.2 6
  have cXA2_7 := XA2.out.2 7
  have cXA2_8 := XA2.out.2 8
  go_wp2_with fail
  clear cXA1_0 cXA1_1 cXA1_2 cXA1_3 cXA1_4 cXA1_5 cXA1_6 cXA1_7 cXA1_8 cXA2_0 cXA2_1 cXA2_2 cXA2_3 cXA2_4 cXA2_5 cXA2_6 cXA2_7 cXA2_8
  refine (szHis d _ t2 r1 _ hr1 hq1 HA2.out).mono ?_
  rintro e w2 ⟨r2, rfl, hb, hr2⟩
  replace B := Lib.hid (below_thru B.out (Nat.le_refl _) hb)
  replace HA1 := Lib.hid (HA1.out.below hb)
  replace HA2 := Lib.hid (HA2.out.below hb)
  replace XA1 := Lib.hid (XA1.out.below hb)
  replace XA2 := Lib.hid (XA2.out.below hb)
  clear hb
  rcases hr2 with ⟨hr2, hs2⟩ | ⟨hr2, hs2⟩
  · go_wp2_with fail
    go_ret
    exact ⟨rfl, B.out⟩
  have hq2 : r2 ≤ 1048576 := by omega
  have hn2 : t2.bulk ≤ 1048576 := by omega
  clear hs1 hs2
  have cXA1_0 := XA1.out.2 0
  have cXA1_1 := XA1.out.2 1
  have cXA1_2 := XA1.out.2 2
  have cXA1_3 := XA1.out.2 3
  have cXA1_4 := XA1.out.2 4
  have cXA1_5 := XA1.out.2 5
  have cXA1_6 := XA1.out.2 6
  have cXA1_7 := XA1.out.2 7
  have cXA1_8 := XA1.out.2 8
  have cXA2_0 := XA2.out.2 0
  have cXA2_1 := XA2.out.2 1
  have cXA2_2 := XA2.out.2 2
  have cXA2_3 := XA2.out.2 3
  have cXA2_4 := XA2.out.2 4
  have cXA2_5 := XA2.out.2 5
  have cXA2_6 := XA2.out.2 6
  have cXA2_7 := XA2.out.2 7
  have cXA2_8 := XA2.out.2 8
  go_wp2_with fail
  clear cXA1_0 cXA1_1 cXA1_2 cXA1_3 cXA1_4 cXA1_5 cXA1_6 cXA1_7 cXA1_8 cXA2_0 cXA2_1 cXA2_2 cXA2_3 cXA2_4 cXA2_5 cXA2_6 cXA2_7 cXA2_8
  have hb := below_drew w2
  replace B := Lib.hid (below_thru B.out (Nat.le_refl _) hb)
  replace HA1 := Lib.hid (HA1.out.below hb)
  replace HA2 := Lib.hid (HA2.out.below hb)
  replace XA1 := Lib.hid (XA1.out.below hb)
  replace XA2 := Lib.hid (XA2.out.below hb)
  clear hb
  go_region_held3 (fun w' => w'.cell? ⟨w.heap.size, 0, none⟩ = some (.slice a1ba a1bn a1bc) ∧ w'.cell? ⟨w.heap.size, 1, none⟩ = some (.int .i64 a1cbk) ∧ w'.cell? ⟨w.heap.size, 2, none⟩ = some (.string a1cbnm) ∧ w'.cell? ⟨w.heap.size, 3, none⟩ = some (.int .i64 a1cbm) ∧ w'.cell? ⟨w.heap.size, 4, none⟩ = some (.int .i64 a1cbtk) ∧ w'.cell? ⟨w.heap.size, 5, none⟩ = some (.slice a1cbta a1cbtn a1cbtc) ∧ w'.cell? ⟨w.heap.size, 6, none⟩ = some (.slice a1cbsa a1cbsn a1cbsc) ∧ w'.cell? ⟨w.heap.size, 7, none⟩ = some (.slice a1cca a1ccn a1ccc) ∧ w'.cell? ⟨w.heap.size, 8, none⟩ = some (.slice a1da a1dn a1dc) ∧ w'.cell? ⟨w.heap.size + 1, 0, none⟩ = some (.slice a2ba a2bn a2bc) ∧ w'.cell? ⟨w.heap.size + 1, 1, none⟩ = some (.int .i64 a2cbk) ∧ w'.cell? ⟨w.heap.size + 1, 2, none⟩ = some (.string a2cbnm) ∧ w'.cell? ⟨w.heap.size + 1, 3, none⟩ = some (.int .i64 a2cbm) ∧ w'.cell? ⟨w.heap.size + 1, 4, none⟩ = some (.int .i64 a2cbtk) ∧ w'.cell? ⟨w.heap.size + 1, 5, none⟩ = some (.slice a2cbta a2cbtn a2cbtc) ∧ w'.cell? ⟨w.heap.size + 1, 6, none⟩ = some (.slice a2cbsa a2cbsn a2cbsc) ∧ w'.cell? ⟨w.heap.size + 1, 7, none⟩ = some (.slice a2cca a2ccn a2ccc) ∧ w'.cell? ⟨w.heap.size + 1, 8, none⟩ = some (.slice a2da a2dn a2dc)) (exact ⟨XA1.out.2 0, XA1.out.2 1, XA1.out.2 2, XA1.out.2 3, XA1.out.2 4, XA1.out.2 5, XA1.out.2 6, XA1.out.2 7, XA1.out.2 8, XA2.out.2 0, XA2.out.2 1, XA2.out.2 2, XA2.out.2 3, XA2.out.2 4, XA2.out.2 5, XA2.out.2 6, XA2.out.2 7, XA2.out.2 8⟩)
    (first
     | (go_at_call_of 9 (Value.agg #[Value.slice a1ba a1bn a1bc, Value.int IntKind.i64 a1cbk, Value.string a1cbnm, Value.int IntKind.i64 a1cbm, Value.int IntKind.i64 a1cbtk, Value.slice a1cbta a1cbtn a1cbtc, Value.slice a1cbsa a1cbsn a1cbsc, Value.slice a1cca a1ccn a1ccc, Value.slice a1da a1dn a1dc])
        refine (toHis d _ t1 _ hn1 HA1.out).mono ?_
        rintro e w3 ⟨s1, fp, rfl, ht, hf, hb⟩
        replace B := Lib.hid (below_thru B.out (Nat.le_refl _) hb)
        replace HA1 := Lib.hid (HA1.out.below hb)
        replace HA2 := Lib.hid (HA2.out.below hb)
        replace XA1 := Lib.hid (XA1.out.below hb)
        replace XA2 := Lib.hid (XA2.out.below hb)
        clear hb
        have Hs1 := Lib.hid ht.at_
        clear ht hf)
     | (go_at_call_of 9 (Value.agg #[Value.slice a2ba a2bn a2bc, Value.int IntKind.i64 a2cbk, Value.string a2cbnm, Value.int IntKind.i64 a2cbm, Value.int IntKind.i64 a2cbtk, Value.slice a2cbta a2cbtn a2cbtc, Value.slice a2cbsa a2cbsn a2cbsc, Value.slice a2cca a2ccn a2ccc, Value.slice a2da a2dn a2dc])
        refine (toHis d _ t2 _ hn2 HA2.out).mono ?_
        rintro e w4 ⟨s2, fp, rfl, ht, hf, hb⟩
        replace B := Lib.hid (below_thru B.out (Nat.le_refl _) hb)
        replace HA1 := Lib.hid (HA1.out.below hb)
        replace HA2 := Lib.hid (HA2.out.below hb)
        replace XA1 := Lib.hid (XA1.out.below hb)
        replace XA2 := Lib.hid (XA2.out.below hb)
        replace Hs1 := Lib.hid (Hs1.out.below hb)
        clear hb
        have Hs2 := Lib.hid ht.at_
        clear ht hf)
     | (go_at_call 8
        refine (specHis d s1 s2 t1 t2 _ Hs1.out Hs2.out hn1 hn2).mono ?_
        rintro e w5 ⟨rfl, hb⟩
        replace B := Lib.hid (below_thru B.out (Nat.le_refl _) hb)
        replace HA1 := Lib.hid (HA1.out.below hb)
        replace HA2 := Lib.hid (HA2.out.below hb)
        replace XA1 := Lib.hid (XA1.out.below hb)
        replace XA2 := Lib.hid (XA2.out.below hb)
        clear hb
        clear Hs1 Hs2))
  have cXA1_0 := XA1.out.2 0
  have cXA1_1 := XA1.out.2 1
  have cXA1_2 := XA1.out.2 2
  have cXA1_3 := XA1.out.2 3
  have cXA1_4 := XA1.out.2 4
  have cXA1_5 := XA1.out.2 5
  have cXA1_6 := XA1.out.2 6
  have cXA1_7 := XA1.out.2 7
  have cXA1_8 := XA1.out.2 8
  have cXA2_0 := XA2.out.2 0
  have cXA2_1 := XA2.out.2 1
  have cXA2_2 := XA2.out.2 2
  have cXA2_3 := XA2.out.2 3
  have cXA2_4 := XA2.out.2 4
  have cXA2_5 := XA2.out.2 5
  have cXA2_6 := XA2.out.2 6
  have cXA2_7 := XA2.out.2 7
  have cXA2_8 := XA2.out.2 8
  go_wp2_with fail
  clear cXA1_0 cXA1_1 cXA1_2 cXA1_3 cXA1_4 cXA1_5 cXA1_6 cXA1_7 cXA1_8 cXA2_0 cXA2_1 cXA2_2 cXA2_3 cXA2_4 cXA2_5 cXA2_6 cXA2_7 cXA2_8
  refine (toHis d _ t1 _ hn1 HA1.out).mono ?_
  rintro e w6 ⟨x1, fp, rfl, ht, hf, hb⟩
  replace B := Lib.hid (below_thru B.out (Nat.le_refl _) hb)
  replace HA1 := Lib.hid (HA1.out.below hb)
  replace HA2 := Lib.hid (HA2.out.below hb)
  replace XA1 := Lib.hid (XA1.out.below hb)
  replace XA2 := Lib.hid (XA2.out.below hb)
  clear hb
  obtain ⟨x1ba, x1bn, x1bc, x1cbk, x1cbnm, x1cbm, x1cbtk, x1cbta, x1cbtn, x1cbtc, x1cbsa, x1cbsn, x1cbsc, x1cca, x1ccn, x1ccc, x1da, x1dn, x1dc, rfl⟩ := his_parts ht.at_
  have HX1 := Lib.hid ht.at_
  clear ht hf
  have XX1 : Hid (BoxAt (w6.alloc (.cells #[.slice x1ba x1bn x1bc, .int .i64 x1cbk, .string x1cbnm, .int .i64 x1cbm, .int .i64 x1cbtk, .slice x1cbta x1cbtn x1cbtc, .slice x1cbsa x1cbsn x1cbsc, .slice x1cca x1ccn x1ccc, .slice x1da x1dn x1dc] 46)) w6.heap.size #[.slice x1ba x1bn x1bc, .int .i64 x1cbk, .string x1cbnm, .int .i64 x1cbm, .int .i64 x1cbtk, .slice x1cbta x1cbtn x1cbtc, .slice x1cbsa x1cbsn x1cbsc, .slice x1cca x1ccn x1ccc, .slice x1da x1dn x1dc]) := BoxAt.new _ _ _
  have hb := below_alloc w6 (.cells #[.slice x1ba x1bn x1bc, .int .i64 x1cbk, .string x1cbnm, .int .i64 x1cbm, .int .i64 x1cbtk, .slice x1cbta x1cbtn x1cbtc, .slice x1cbsa x1cbsn x1cbsc, .slice x1cca x1ccn x1ccc, .slice x1da x1dn x1dc] 46)
  replace B := Lib.hid (below_thru B.out (Nat.le_refl _) hb)
  replace HA1 := Lib.hid (HA1.out.below hb)
  replace HA2 := Lib.hid (HA2.out.below hb)
  replace XA1 := Lib.hid (XA1.out.below hb)
  replace XA2 := Lib.hid (XA2.out.below hb)
  replace HX1 := Lib.hid (HX1.out.below hb)
  clear hb
  have cXA1_0 := XA1.out.2 0
  have cXA1_1 := XA1.out.2 1
  have cXA1_2 := XA1.out.2 2
  have cXA1_3 := XA1.out.2 3
  have cXA1_4 := XA1.out.2 4
  have cXA1_5 := XA1.out.2 5
  have cXA1_6 := XA1.out.2 6
  have cXA1_7 := XA1.out.2 7
  have cXA1_8 := XA1.out.2 8
  have cXA2_0 := XA2.out.2 0
  have cXA2_1 := XA2.out.2 1
  have cXA2_2 := XA2.out.2 2
  have cXA2_3 := XA2.out.2 3
  have cXA2_4 := XA2.out.2 4
  have cXA2_5 := XA2.out.2 5
  have cXA2_6 := XA2.out.2 6
  have cXA2_7 := XA2.out.2 7
  have cXA2_8 := XA2.out.2 8
  have cXX1_0 := XX1.out.2 0
  have cXX1_1 := XX1.out.2 1
  have cXX1_2 := XX1.out.2 2
  have cXX1_3 := XX1.out.2 3
  have cXX1_4 := XX1.out.2 4
  have cXX1_5 := XX1.out.2 5
  have cXX1_6 := XX1.out.2 6
  have cXX1_7 := XX1.out.2 7
  have cXX1_8 := XX1.out.2 8
  go_wp2_with fail
  clear cXA1_0 cXA1_1 cXA1_2 cXA1_3 cXA1_4 cXA1_5 cXA1_6 cXA1_7 cXA1_8 cXA2_0 cXA2_1 cXA2_2 cXA2_3 cXA2_4 cXA2_5 cXA2_6 cXA2_7 cXA2_8 cXX1_0 cXX1_1 cXX1_2 cXX1_3 cXX1_4 cXX1_5 cXX1_6 cXX1_7 cXX1_8
  refine (toHis d _ t2 _ hn2 HA2.out).mono ?_
  rintro e w7 ⟨x2, fp, rfl, ht, hf, hb⟩
  replace B := Lib.hid (below_thru B.out (Nat.le_refl _) hb)
  replace HA1 := Lib.hid (HA1.out.below hb)
  replace HA2 := Lib.hid (HA2.out.below hb)
  replace XA1 := Lib.hid (XA1.out.below hb)
  replace XA2 := Lib.hid (XA2.out.below hb)
  replace HX1 := Lib.hid (HX1.out.below hb)
  replace XX1 := Lib.hid (XX1.out.below hb)
  clear hb
  obtain ⟨x2ba, x2bn, x2bc, x2cbk, x2cbnm, x2cbm, x2cbtk, x2cbta, x2cbtn, x2cbtc, x2cbsa, x2cbsn, x2cbsc, x2cca, x2ccn, x2ccc, x2da, x2dn, x2dc, rfl⟩ := his_parts ht.at_
  have HX2 := Lib.hid ht.at_
  clear ht hf
  have XX2 : Hid (BoxAt (w7.alloc (.cells #[.slice x2ba x2bn x2bc, .int .i64 x2cbk, .string x2cbnm, .int .i64 x2cbm, .int .i64 x2cbtk, .slice x2cbta x2cbtn x2cbtc, .slice x2cbsa x2cbsn x2cbsc, .slice x2cca x2ccn x2ccc, .slice x2da x2dn x2dc] 46)) w7.heap.size #[.slice x2ba x2bn x2bc, .int .i64 x2cbk, .string x2cbnm, .int .i64 x2cbm, .int .i64 x2cbtk, .slice x2cbta x2cbtn x2cbtc, .slice x2cbsa x2cbsn x2cbsc, .slice x2cca x2ccn x2ccc, .slice x2da x2dn x2dc]) := BoxAt.new _ _ _
  have hb := below_alloc w7 (.cells #[.slice x2ba x2bn x2bc, .int .i64 x2cbk, .string x2cbnm, .int .i64 x2cbm, .int .i64 x2cbtk, .slice x2cbta x2cbtn x2cbtc, .slice x2cbsa x2cbsn x2cbsc, .slice x2cca x2ccn x2ccc, .slice x2da x2dn x2dc] 46)
  replace B := Lib.hid (below_thru B.out (Nat.le_refl _) hb)
  replace HA1 := Lib.hid (HA1.out.below hb)
  replace HA2 := Lib.hid (HA2.out.below hb)
  replace XA1 := Lib.hid (XA1.out.below hb)
  replace XA2 := Lib.hid (XA2.out.below hb)
  replace HX1 := Lib.hid (HX1.out.below hb)
  replace XX1 := Lib.hid (XX1.out.below hb)
  replace HX2 := Lib.hid (HX2.out.below hb)
  clear hb
  have cXA1_0 := XA1.out.2 0
  have cXA1_1 := XA1.out.2 1
  have cXA1_2 := XA1.out.2 2
  have cXA1_3 := XA1.out.2 3
  have cXA1_4 := XA1.out.2 4
  have cXA1_5 := XA1.out.2 5
  have cXA1_6 := XA1.out.2 6
  have cXA1_7 := XA1.out.2 7
  have cXA1_8 := XA1.out.2 8
  have cXA2_0 := XA2.out.2 0
  have cXA2_1 := XA2.out.2 1
  have cXA2_2 := XA2.out.2 2
  have cXA2_3 := XA2.out.2 3
  have cXA2_4 := XA2.out.2 4
  have cXA2_5 := XA2.out.2 5
  have cXA2_6 := XA2.out.2 6
  have cXA2_7 := XA2.out.2 7
  have cXA2_8 := XA2.out.2 8
  have cXX1_0 := XX1.out.2 0
  have cXX1_1 := XX1.out.2 1
  have cXX1_2 := XX1.out.2 2
  have cXX1_3 := XX1.out.2 3
  have cXX1_4 := XX1.out.2 4
  have cXX1_5 := XX1.out.2 5
  have cXX1_6 := XX1.out.2 6
  have cXX1_7 := XX1.out.2 7
  have cXX1_8 := XX1.out.2 8
  have cXX2_0 := XX2.out.2 0
  have cXX2_1 := XX2.out.2 1
  have cXX2_2 := XX2.out.2 2
  have cXX2_3 := XX2.out.2 3
  have cXX2_4 := XX2.out.2 4
  have cXX2_5 := XX2.out.2 5
  have cXX2_6 := XX2.out.2 6
  have cXX2_7 := XX2.out.2 7
  have cXX2_8 := XX2.out.2 8
  go_wp2_with fail
  clear cXA1_0 cXA1_1 cXA1_2 cXA1_3 cXA1_4 cXA1_5 cXA1_6 cXA1_7 cXA1_8 cXA2_0 cXA2_1 cXA2_2 cXA2_3 cXA2_4 cXA2_5 cXA2_6 cXA2_7 cXA2_8 cXX1_0 cXX1_1 cXX1_2 cXX1_3 cXX1_4 cXX1_5 cXX1_6 cXX1_7 cXX1_8 cXX2_0 cXX2_1 cXX2_2 cXX2_3 cXX2_4 cXX2_5 cXX2_6 cXX2_7 cXX2_8
  refine (implHis d _ _ t1 t2 _ HX1.out HX2.out hn1 hn2).mono ?_
  rintro e w8 ⟨rfl, hb⟩
  replace B := Lib.hid (below_thru B.out (Nat.le_refl _) hb)
  replace HA1 := Lib.hid (HA1.out.below hb)
  replace HA2 := Lib.hid (HA2.out.below hb)
  replace XA1 := Lib.hid (XA1.out.below hb)
  replace XA2 := Lib.hid (XA2.out.below hb)
  replace HX1 := Lib.hid (HX1.out.below hb)
  replace XX1 := Lib.hid (XX1.out.below hb)
  replace HX2 := Lib.hid (HX2.out.below hb)
  replace XX2 := Lib.hid (XX2.out.below hb)
  clear hb
  have cXA1_0 := XA1.out.2 0
  have cXA1_1 := XA1.out.2 1
  have cXA1_2 := XA1.out.2 2
  have cXA1_3 := XA1.out.2 3
  have cXA1_4 := XA1.out.2 4
  have cXA1_5 := XA1.out.2 5
  have cXA1_6 := XA1.out.2 6
  have cXA1_7 := XA1.out.2 7
  have cXA1_8 := XA1.out.2 8
  have cXA2_0 := XA2.out.2 0
  have cXA2_1 := XA2.out.2 1
  have cXA2_2 := XA2.out.2 2
  have cXA2_3 := XA2.out.2 3
  have cXA2_4 := XA2.out.2 4
  have cXA2_5 := XA2.out.2 5
  have cXA2_6 := XA2.out.2 6
  have cXA2_7 := XA2.out.2 7
  have cXA2_8 := XA2.out.2 8
  have cXX1_0 := XX1.out.2 0
  have cXX1_1 := XX1.out.2 1
  have cXX1_2 := XX1.out.2 2
  have cXX1_3 := XX1.out.2 3
  have cXX1_4 := XX1.out.2 4
  have cXX1_5 := XX1.out.2 5
  have cXX1_6 := XX1.out.2 6
  have cXX1_7 := XX1.out.2 7
  have cXX1_8 := XX1.out.2 8
  have cXX2_0 := XX2.out.2 0
  have cXX2_1 := XX2.out.2 1
  have cXX2_2 := XX2.out.2 2
  have cXX2_3 := XX2.out.2 3
  have cXX2_4 := XX2.out.2 4
  have cXX2_5 := XX2.out.2 5
  have cXX2_6 := XX2.out.2 6
  have cXX2_7 := XX2.out.2 7
  have cXX2_8 := XX2.out.2 8
  go_wp2_with fail
  clear cXA1_0 cXA1_1 cXA1_2 cXA1_3 cXA1_4 cXA1_5 cXA1_6 cXA1_7 cXA1_8 cXA2_0 cXA2_1 cXA2_2 cXA2_3 cXA2_4 cXA2_5 cXA2_6 cXA2_7 cXA2_8 cXX1_0 cXX1_1 cXX1_2 cXX1_3 cXX1_4 cXX1_5 cXX1_6 cXX1_7 cXX1_8 cXX2_0 cXX2_1 cXX2_2 cXX2_3 cXX2_4 cXX2_5 cXX2_6 cXX2_7 cXX2_8
  have hb := below_drew w8
  replace B := Lib.hid (below_thru B.out (Nat.le_refl _) hb)
  replace HA1 := Lib.hid (HA1.out.below hb)
  replace HA2 := Lib.hid (HA2.out.below hb)
  replace XA1 := Lib.hid (XA1.out.below hb)
  replace XA2 := Lib.hid (XA2.out.below hb)
  replace HX1 := Lib.hid (HX1.out.below hb)
  replace XX1 := Lib.hid (XX1.out.below hb)
  replace HX2 := Lib.hid (HX2.out.below hb)
  replace XX2 := Lib.hid (XX2.out.below hb)
  clear hb
  go_region_held3 (fun w' => w'.cell? ⟨w.heap.size, 0, none⟩ = some (.slice a1ba a1bn a1bc) ∧ w'.cell? ⟨w.heap.size, 1, none⟩ = some (.int .i64 a1cbk) ∧ w'.cell? ⟨w.heap.size, 2, none⟩ = some (.string a1cbnm) ∧ w'.cell? ⟨w.heap.size, 3, none⟩ = some (.int .i64 a1cbm) ∧ w'.cell? ⟨w.heap.size, 4, none⟩ = some (.int .i64 a1cbtk) ∧ w'.cell? ⟨w.heap.size, 5, none⟩ = some (.slice a1cbta a1cbtn a1cbtc) ∧ w'.cell? ⟨w.heap.size, 6, none⟩ = some (.slice a1cbsa a1cbsn a1cbsc) ∧ w'.cell? ⟨w.heap.size, 7, none⟩ = some (.slice a1cca a1ccn a1ccc) ∧ w'.cell? ⟨w.heap.size, 8, none⟩ = some (.slice a1da a1dn a1dc) ∧ w'.cell? ⟨w.heap.size + 1, 0, none⟩ = some (.slice a2ba a2bn a2bc) ∧ w'.cell? ⟨w.heap.size + 1, 1, none⟩ = some (.int .i64 a2cbk) ∧ w'.cell? ⟨w.heap.size + 1, 2, none⟩ = some (.string a2cbnm) ∧ w'.cell? ⟨w.heap.size + 1, 3, none⟩ = some (.int .i64 a2cbm) ∧ w'.cell? ⟨w.heap.size + 1, 4, none⟩ = some (.int .i64 a2cbtk) ∧ w'.cell? ⟨w.heap.size + 1, 5, none⟩ = some (.slice a2cbta a2cbtn a2cbtc) ∧ w'.cell? ⟨w.heap.size + 1, 6, none⟩ = some (.slice a2cbsa a2cbsn a2cbsc) ∧ w'.cell? ⟨w.heap.size + 1, 7, none⟩ = some (.slice a2cca a2ccn a2ccc) ∧ w'.cell? ⟨w.heap.size + 1, 8, none⟩ = some (.slice a2da a2dn a2dc) ∧ w'.cell? ⟨w6.heap.size, 0, none⟩ = some (.slice x1ba x1bn x1bc) ∧ w'.cell? ⟨w6.heap.size, 1, none⟩ = some (.int .i64 x1cbk) ∧ w'.cell? ⟨w6.heap.size, 2, none⟩ = some (.string x1cbnm) ∧ w'.cell? ⟨w6.heap.size, 3, none⟩ = some (.int .i64 x1cbm) ∧ w'.cell? ⟨w6.heap.size, 4, none⟩ = some (.int .i64 x1cbtk) ∧ w'.cell? ⟨w6.heap.size, 5, none⟩ = some (.slice x1cbta x1cbtn x1cbtc) ∧ w'.cell? ⟨w6.heap.size, 6, none⟩ = some (.slice x1cbsa x1cbsn x1cbsc) ∧ w'.cell? ⟨w6.heap.size, 7, none⟩ = some (.slice x1cca x1ccn x1ccc) ∧ w'.cell? ⟨w6.heap.size, 8, none⟩ = some (.slice x1da x1dn x1dc) ∧ w'.cell? ⟨w7.heap.size, 0, none⟩ = some (.slice x2ba x2bn x2bc) ∧ w'.cell? ⟨w7.heap.size, 1, none⟩ = some (.int .i64 x2cbk) ∧ w'.cell? ⟨w7.heap.size, 2, none⟩ = some (.string x2cbnm) ∧ w'.cell? ⟨w7.heap.size, 3, none⟩ = some (.int .i64 x2cbm) ∧ w'.cell? ⟨w7.heap.size, 4, none⟩ = some (.int .i64 x2cbtk) ∧ w'.cell? ⟨w7.heap.size, 5, none⟩ = some (.slice x2cbta x2cbtn x2cbtc) ∧ w'.cell? ⟨w7.heap.size, 6, none⟩ = some (.slice x2cbsa x2cbsn x2cbsc) ∧ w'.cell? ⟨w7.heap.size, 7, none⟩ = some (.slice x2cca x2ccn x2ccc) ∧ w'.cell? ⟨w7.heap.size, 8, none⟩ = some (.slice x2da x2dn x2dc)) (exact ⟨XA1.out.2 0, XA1.out.2 1, XA1.out.2 2, XA1.out.2 3, XA1.out.2 4, XA1.out.2 5, XA1.out.2 6, XA1.out.2 7, XA1.out.2 8, XA2.out.2 0, XA2.out.2 1, XA2.out.2 2, XA2.out.2 3, XA2.out.2 4, XA2.out.2 5, XA2.out.2 6, XA2.out.2 7, XA2.out.2 8, XX1.out.2 0, XX1.out.2 1, XX1.out.2 2, XX1.out.2 3, XX1.out.2 4, XX1.out.2 5, XX1.out.2 6, XX1.out.2 7, XX1.out.2 8, XX2.out.2 0, XX2.out.2 1, XX2.out.2 2, XX2.out.2 3, XX2.out.2 4, XX2.out.2 5, XX2.out.2 6, XX2.out.2 7, XX2.out.2 8⟩)
    (first
     | (go_at_call_of 9 (Value.agg #[Value.slice a1ba a1bn a1bc, Value.int IntKind.i64 a1cbk, Value.string a1cbnm, Value.int IntKind.i64 a1cbm, Value.int IntKind.i64 a1cbtk, Value.slice a1cbta a1cbtn a1cbtc, Value.slice a1cbsa a1cbsn a1cbsc, Value.slice a1cca a1ccn a1ccc, Value.slice a1da a1dn a1dc])
        refine (toHis d _ t1 _ hn1 HA1.out).mono ?_
        rintro e w9 ⟨y1, fp, rfl, ht, hf, hb⟩
        replace B := Lib.hid (below_thru B.out (Nat.le_refl _) hb)
        replace HA1 := Lib.hid (HA1.out.below hb)
        replace HA2 := Lib.hid (HA2.out.below hb)
        replace XA1 := Lib.hid (XA1.out.below hb)
        replace XA2 := Lib.hid (XA2.out.below hb)
        replace HX1 := Lib.hid (HX1.out.below hb)
        replace XX1 := Lib.hid (XX1.out.below hb)
        replace HX2 := Lib.hid (HX2.out.below hb)
        replace XX2 := Lib.hid (XX2.out.below hb)
        clear hb
        have Hy1 := Lib.hid ht.at_
        clear ht hf)
     | (go_at_call 11
        refine (eqHis d _ y1 t1 _ HX1.out Hy1.out).mono ?_
        rintro e w10 ⟨rfl, hb⟩
        replace B := Lib.hid (below_thru B.out (Nat.le_refl _) hb)
        replace HA1 := Lib.hid (HA1.out.below hb)
        replace HA2 := Lib.hid (HA2.out.below hb)
        replace XA1 := Lib.hid (XA1.out.below hb)
        replace XA2 := Lib.hid (XA2.out.below hb)
        replace HX1 := Lib.hid (HX1.out.below hb)
        replace XX1 := Lib.hid (XX1.out.below hb)
        replace HX2 := Lib.hid (HX2.out.below hb)
        replace XX2 := Lib.hid (XX2.out.below hb)
        clear hb
        clear Hy1))
  have cXA1_0 := XA1.out.2 0
  have cXA1_1 := XA1.out.2 1
  have cXA1_2 := XA1.out.2 2
  have cXA1_3 := XA1.out.2 3
  have cXA1_4 := XA1.out.2 4
  have cXA1_5 := XA1.out.2 5
  have cXA1_6 := XA1.out.2 6
  have cXA1_7 := XA1.out.2 7
  have cXA1_8 := XA1.out.2 8
  have cXA2_0 := XA2.out.2 0
  have cXA2_1 := XA2.out.2 1
  have cXA2_2 := XA2.out.2 2
  have cXA2_3 := XA2.out.2 3
  have cXA2_4 := XA2.out.2 4
  have cXA2_5 := XA2.out.2 5
  have cXA2_6 := XA2.out.2 6
  have cXA2_7 := XA2.out.2 7
  have cXA2_8 := XA2.out.2 8
  have cXX1_0 := XX1.out.2 0
  have cXX1_1 := XX1.out.2 1
  have cXX1_2 := XX1.out.2 2
  have cXX1_3 := XX1.out.2 3
  have cXX1_4 := XX1.out.2 4
  have cXX1_5 := XX1.out.2 5
  have cXX1_6 := XX1.out.2 6
  have cXX1_7 := XX1.out.2 7
  have cXX1_8 := XX1.out.2 8
  have cXX2_0 := XX2.out.2 0
  have cXX2_1 := XX2.out.2 1
  have cXX2_2 := XX2.out.2 2
  have cXX2_3 := XX2.out.2 3
  have cXX2_4 := XX2.out.2 4
  have cXX2_5 := XX2.out.2 5
  have cXX2_6 := XX2.out.2 6
  have cXX2_7 := XX2.out.2 7
  have cXX2_8 := XX2.out.2 8
  go_wp2_with fail
  clear cXA1_0 cXA1_1 cXA1_2 cXA1_3 cXA1_4 cXA1_5 cXA1_6 cXA1_7 cXA1_8 cXA2_0 cXA2_1 cXA2_2 cXA2_3 cXA2_4 cXA2_5 cXA2_6 cXA2_7 cXA2_8 cXX1_0 cXX1_1 cXX1_2 cXX1_3 cXX1_4 cXX1_5 cXX1_6 cXX1_7 cXX1_8 cXX2_0 cXX2_1 cXX2_2 cXX2_3 cXX2_4 cXX2_5 cXX2_6 cXX2_7 cXX2_8
  have hb := below_drew w10
  replace B := Lib.hid (below_thru B.out (Nat.le_refl _) hb)
  replace HA1 := Lib.hid (HA1.out.below hb)
  replace HA2 := Lib.hid (HA2.out.below hb)
  replace XA1 := Lib.hid (XA1.out.below hb)
  replace XA2 := Lib.hid (XA2.out.below hb)
  replace HX1 := Lib.hid (HX1.out.below hb)
  replace XX1 := Lib.hid (XX1.out.below hb)
  replace HX2 := Lib.hid (HX2.out.below hb)
  replace XX2 := Lib.hid (XX2.out.below hb)
  clear hb
  go_region_held3 (fun w' => w'.cell? ⟨w.heap.size, 0, none⟩ = some (.slice a1ba a1bn a1bc) ∧ w'.cell? ⟨w.heap.size, 1, none⟩ = some (.int .i64 a1cbk) ∧ w'.cell? ⟨w.heap.size, 2, none⟩ = some (.string a1cbnm) ∧ w'.cell? ⟨w.heap.size, 3, none⟩ = some (.int .i64 a1cbm) ∧ w'.cell? ⟨w.heap.size, 4, none⟩ = some (.int .i64 a1cbtk) ∧ w'.cell? ⟨w.heap.size, 5, none⟩ = some (.slice a1cbta a1cbtn a1cbtc) ∧ w'.cell? ⟨w.heap.size, 6, none⟩ = some (.slice a1cbsa a1cbsn a1cbsc) ∧ w'.cell? ⟨w.heap.size, 7, none⟩ = some (.slice a1cca a1ccn a1ccc) ∧ w'.cell? ⟨w.heap.size, 8, none⟩ = some (.slice a1da a1dn a1dc) ∧ w'.cell? ⟨w.heap.size + 1, 0, none⟩ = some (.slice a2ba a2bn a2bc) ∧ w'.cell? ⟨w.heap.size + 1, 1, none⟩ = some (.int .i64 a2cbk) ∧ w'.cell? ⟨w.heap.size + 1, 2, none⟩ = some (.string a2cbnm) ∧ w'.cell? ⟨w.heap.size + 1, 3, none⟩ = some (.int .i64 a2cbm) ∧ w'.cell? ⟨w.heap.size + 1, 4, none⟩ = some (.int .i64 a2cbtk) ∧ w'.cell? ⟨w.heap.size + 1, 5, none⟩ = some (.slice a2cbta a2cbtn a2cbtc) ∧ w'.cell? ⟨w.heap.size + 1, 6, none⟩ = some (.slice a2cbsa a2cbsn a2cbsc) ∧ w'.cell? ⟨w.heap.size + 1, 7, none⟩ = some (.slice a2cca a2ccn a2ccc) ∧ w'.cell? ⟨w.heap.size + 1, 8, none⟩ = some (.slice a2da a2dn a2dc) ∧ w'.cell? ⟨w6.heap.size, 0, none⟩ = some (.slice x1ba x1bn x1bc) ∧ w'.cell? ⟨w6.heap.size, 1, none⟩ = some (.int .i64 x1cbk) ∧ w'.cell? ⟨w6.heap.size, 2, none⟩ = some (.string x1cbnm) ∧ w'.cell? ⟨w6.heap.size, 3, none⟩ = some (.int .i64 x1cbm) ∧ w'.cell? ⟨w6.heap.size, 4, none⟩ = some (.int .i64 x1cbtk) ∧ w'.cell? ⟨w6.heap.size, 5, none⟩ = some (.slice x1cbta x1cbtn x1cbtc) ∧ w'.cell? ⟨w6.heap.size, 6, none⟩ = some (.slice x1cbsa x1cbsn x1cbsc) ∧ w'.cell? ⟨w6.heap.size, 7, none⟩ = some (.slice x1cca x1ccn x1ccc) ∧ w'.cell? ⟨w6.heap.size, 8, none⟩ = some (.slice x1da x1dn x1dc) ∧ w'.cell? ⟨w7.heap.size, 0, none⟩ = some (.slice x2ba x2bn x2bc) ∧ w'.cell? ⟨w7.heap.size, 1, none⟩ = some (.int .i64 x2cbk) ∧ w'.cell? ⟨w7.heap.size, 2, none⟩ = some (.string x2cbnm) ∧ w'.cell? ⟨w7.heap.size, 3, none⟩ = some (.int .i64 x2cbm) ∧ w'.cell? ⟨w7.heap.size, 4, none⟩ = some (.int .i64 x2cbtk) ∧ w'.cell? ⟨w7.heap.size, 5, none⟩ = some (.slice x2cbta x2cbtn x2cbtc) ∧ w'.cell? ⟨w7.heap.size, 6, none⟩ = some (.slice x2cbsa x2cbsn x2cbsc) ∧ w'.cell? ⟨w7.heap.size, 7, none⟩ = some (.slice x2cca x2ccn x2ccc) ∧ w'.cell? ⟨w7.heap.size, 8, none⟩ = some (.slice x2da x2dn x2dc)) (exact ⟨XA1.out.2 0, XA1.out.2 1, XA1.out.2 2, XA1.out.2 3, XA1.out.2 4, XA1.out.2 5, XA1.out.2 6, XA1.out.2 7, XA1.out.2 8, XA2.out.2 0, XA2.out.2 1, XA2.out.2 2, XA2.out.2 3, XA2.out.2 4, XA2.out.2 5, XA2.out.2 6, XA2.out.2 7, XA2.out.2 8, XX1.out.2 0, XX1.out.2 1, XX1.out.2 2, XX1.out.2 3, XX1.out.2 4, XX1.out.2 5, XX1.out.2 6, XX1.out.2 7, XX1.out.2 8, XX2.out.2 0, XX2.out.2 1, XX2.out.2 2, XX2.out.2 3, XX2.out.2 4, XX2.out.2 5, XX2.out.2 6, XX2.out.2 7, XX2.out.2 8⟩)
    (first
     | (go_at_call_of 9 (Value.agg #[Value.slice a2ba a2bn a2bc, Value.int IntKind.i64 a2cbk, Value.string a2cbnm, Value.int IntKind.i64 a2cbm, Value.int IntKind.i64 a2cbtk, Value.slice a2cbta a2cbtn a2cbtc, Value.slice a2cbsa a2cbsn a2cbsc, Value.slice a2cca a2ccn a2ccc, Value.slice a2da a2dn a2dc])
        refine (toHis d _ t2 _ hn2 HA2.out).mono ?_
        rintro e w11 ⟨y2, fp, rfl, ht, hf, hb⟩
        replace B := Lib.hid (below_thru B.out (Nat.le_refl _) hb)
        replace HA1 := Lib.hid (HA1.out.below hb)
        replace HA2 := Lib.hid (HA2.out.below hb)
        replace XA1 := Lib.hid (XA1.out.below hb)
        replace XA2 := Lib.hid (XA2.out.below hb)
        replace HX1 := Lib.hid (HX1.out.below hb)
        replace XX1 := Lib.hid (XX1.out.below hb)
        replace HX2 := Lib.hid (HX2.out.below hb)
        replace XX2 := Lib.hid (XX2.out.below hb)
        clear hb
        have Hy2 := Lib.hid ht.at_
        clear ht hf)
     | (go_at_call 11
        refine (eqHis d _ y2 t2 _ HX2.out Hy2.out).mono ?_
        rintro e w12 ⟨rfl, hb⟩
        replace B := Lib.hid (below_thru B.out (Nat.le_refl _) hb)
        replace HA1 := Lib.hid (HA1.out.below hb)
        replace HA2 := Lib.hid (HA2.out.below hb)
        replace XA1 := Lib.hid (XA1.out.below hb)
        replace XA2 := Lib.hid (XA2.out.below hb)
        replace HX1 := Lib.hid (HX1.out.below hb)
        replace XX1 := Lib.hid (XX1.out.below hb)
        replace HX2 := Lib.hid (HX2.out.below hb)
        replace XX2 := Lib.hid (XX2.out.below hb)
        clear hb
        clear Hy2))
  have cXA1_0 := XA1.out.2 0
  have cXA1_1 := XA1.out.2 1
  have cXA1_2 := XA1.out.2 2
  have cXA1_3 := XA1.out.2 3
  have cXA1_4 := XA1.out.2 4
  have cXA1_5 := XA1.out.2 5
  have cXA1_6 := XA1.out.2 6
  have cXA1_7 := XA1.out.2 7
  have cXA1_8 := XA1.out.2 8
  have cXA2_0 := XA2.out.2 0
  have cXA2_1 := XA2.out.2 1
  have cXA2_2 := XA2.out.2 2
  have cXA2_3 := XA2.out.2 3
  have cXA2_4 := XA2.out.2 4
  have cXA2_5 := XA2.out.2 5
  have cXA2_6 := XA2.out.2 6
  have cXA2_7 := XA2.out.2 7
  have cXA2_8 := XA2.out.2 8
  have cXX1_0 := XX1.out.2 0
  have cXX1_1 := XX1.out.2 1
  have cXX1_2 := XX1.out.2 2
  have cXX1_3 := XX1.out.2 3
  have cXX1_4 := XX1.out.2 4
  have cXX1_5 := XX1.out.2 5
  have cXX1_6 := XX1.out.2 6
  have cXX1_7 := XX1.out.2 7
  have cXX1_8 := XX1.out.2 8
  have cXX2_0 := XX2.out.2 0
  have cXX2_1 := XX2.out.2 1
  have cXX2_2 := XX2.out.2 2
  have cXX2_3 := XX2.out.2 3
  have cXX2_4 := XX2.out.2 4
  have cXX2_5 := XX2.out.2 5
  have cXX2_6 := XX2.out.2 6
  have cXX2_7 := XX2.out.2 7
  have cXX2_8 := XX2.out.2 8
  go_wp2_with fail
  go_ret
  exact ⟨rfl, B.out⟩
end Go.Proofs.Ytddfeecnimdikaa
namespace Go.Proofs.Ytddfeecnimdikaa.ExactEqualHistory
open Go.ChangeShapes Go.WideShapes Go.ChangeAt Go.RowKit Go.WideMaps Go.WideElems
open Go.ChangeMaps (setBlock shut_map_nil open_string shut_string keptBut_setBlock frozen?_setBlock heap_setBlock_same)
set_option maxRecDepth 100000 in
theorem contract (H : Type) (enc : TypeId × Value → H) (W : World) (base : Nat) (args : Array Value) (ds gs : List (DataW H)) (before : List MemPlace)
    (hval : ∀ (j : Nat) t v, Try.f3.params[j]? = some t → args[j]? = some v → Value.okWide Try.prog W .any base t v)
    (hW : DataW.Whole enc Try.prog Try.f3.params.toList Rows.fnExactEqualHistorySpec.vars false W args.toList ds gs before) 
    (_hsz : (DataW.weightsEach Try.prog (Try.f3.params.toList ++ (OpenSpec.ofChange Rows.fnExactEqualHistorySpec).bare.plain.varTypes Try.prog) (ds ++ gs)).all (· ≤ reachBytes) = true) (_hsh : W.ShapedOpen Try.prog) :
    Calls Try.prog 3 args W fun e W' => ∃ v, e = .returned v ∧ Rows.fnExactEqualHistorySpec.post enc Try.prog Try.f3 false true false false W args v W' := by
  have hW' := hW
  obtain ⟨p, q, hA0, hV, rfl, hfz, hnd⟩ := hW
  have hA : DataW.TrodAll enc Try.prog W 0 (fun _ => true) true Try.f3.params.toList args.toList ds p := hA0
  rw [Try.params3] at hA hval
  obtain ⟨v0, vs0, d0, ds0, p0, q0, hargs, rfl, rfl, h0, r0⟩ := trodAll_cons hA
  obtain ⟨v1, vs1, d1, ds1, p1, q1, rfl, rfl, rfl, h1, r1⟩ := trodAll_cons r0
  obtain ⟨rfl, rfl, rfl⟩ := trodAll_nil r1
  obtain rfl : args = #[v0, v1] := by cases args; simp_all
  obtain ⟨rfl, rfl⟩ := trodVars_none hV
  obtain ⟨e0, t0, ht0⟩ := his_of_arg (hval 0 33 v0 rfl rfl) h0
  obtain ⟨e1, t1, ht1⟩ := his_of_arg (hval 1 33 v1 rfl rfl) h1
  have hd0 := ht0.mono (Nat.le_max_left e0 e1)
  have hd1 := ht1.mono (Nat.le_max_right e0 e1)
  refine Calls.mono (equalHistoryWalk (max e0 e1) v0 t0 v1 t1 W hd0 hd1) fun e W' ⟨he, hg⟩ => ?_
  subst he
  exact ⟨_, rfl, Law.law_post hW' rfl (by kernel_rfl) Try.underlying4 (by kernel_rfl) (by kernel_rfl) (fun _ => rfl) hg⟩
set_option maxRecDepth 100000 in
theorem laid_met (os : Os) : laidMet Try.prog Rows.fnExactEqualHistoryRow.laid (((World.holding Try.prog os ⟨#[], #[], []⟩)).forCall (fun _ _ => 0) ⟨#[], #[.agg #[.slice none 0 0, .int .i64 0, .string ⟨#[]⟩, .int .i64 0, .int .i64 0, .slice none 0 0, .slice none 0 0, .slice none 0 0, .slice none 0 0], .agg #[.slice none 0 0, .int .i64 0, .string ⟨#[]⟩, .int .i64 0, .int .i64 0, .slice none 0 0, .slice none 0 0, .slice none 0 0, .slice none 0 0]], []⟩).memory :=
  laidMet_of_run' 8 (by kernel_rfl) (by kernel_rfl)
theorem reads (os : Os) {H : Type} (enc : TypeId × Value → H) : ∃ places, DataW.whole enc Try.prog (((World.holding Try.prog os ⟨#[], #[], []⟩)).forCall (fun _ _ => 0) ⟨#[], #[.agg #[.slice none 0 0, .int .i64 0, .string ⟨#[]⟩, .int .i64 0, .int .i64 0, .slice none 0 0, .slice none 0 0, .slice none 0 0, .slice none 0 0], .agg #[.slice none 0 0, .int .i64 0, .string ⟨#[]⟩, .int .i64 0, .int .i64 0, .slice none 0 0, .slice none 0 0, .slice none 0 0, .slice none 0 0]], []⟩).memory Try.f3.params.toList Rows.fnExactEqualHistorySpec.vars false (#[.agg #[.slice none 0 0, .int .i64 0, .string ⟨#[]⟩, .int .i64 0, .int .i64 0, .slice none 0 0, .slice none 0 0, .slice none 0 0, .slice none 0 0], .agg #[.slice none 0 0, .int .i64 0, .string ⟨#[]⟩, .int .i64 0, .int .i64 0, .slice none 0 0, .slice none 0 0, .slice none 0 0, .slice none 0 0]] : Array Value).toList 8 = some ([.agg [.nil, .agg [.agg [.lit (.int .i64 0), .lit (.string []), .lit (.int .i64 0), .agg [.lit (.int .i64 0), .nil], .nil], .nil], .nil], .agg [.nil, .agg [.agg [.lit (.int .i64 0), .lit (.string []), .lit (.int .i64 0), .agg [.lit (.int .i64 0), .nil], .nil], .nil], .nil]], [], places) :=
  ⟨[], by kernel_rfl⟩
set_option maxRecDepth 100000 in
theorem lifted (os : Os) (started : os.Started) (H : Type) (enc : TypeId × Value → H) (F : Stop.Interp) :
    ReturnsInHanded {} Try.checked os 3 .any ((OpenSpec.ofChange Rows.fnExactEqualHistorySpec).preRow enc Try.prog Try.f3 Rows.fnExactEqualHistoryRow.domain false Rows.fnExactEqualHistoryRow.laid) (((OpenSpec.ofChange Rows.fnExactEqualHistorySpec).at F).post enc Try.prog Try.f3 false true false false) := by
  obtain ⟨places, hx⟩ := reads os enc
  refine returnsInHanded_of_row (C := Try.checked) (s := OpenSpec.ofChange Rows.fnExactEqualHistorySpec) (by kernel_rfl) started (by kernel_rfl) Try.func3
    (witness_row_atRef (enc := enc) (C := Try.checked) false (World.holding Try.prog os ⟨#[], #[], []⟩) #[.agg #[.slice none 0 0, .int .i64 0, .string ⟨#[]⟩, .int .i64 0, .int .i64 0, .slice none 0 0, .slice none 0 0, .slice none 0 0, .slice none 0 0], .agg #[.slice none 0 0, .int .i64 0, .string ⟨#[]⟩, .int .i64 0, .int .i64 0, .slice none 0 0, .slice none 0 0, .slice none 0 0, .slice none 0 0]] rfl (by kernel_rfl) (by kernel_rfl) (by kernel_rfl)
      (OpenSpec.preRow_of_cond 8 hx (by kernel_rfl) (fun k hk => by cases hk) (by kernel_rfl) (laid_met os))) ?_
  intro W base args ds gs before hval hW _ _ hsz _ hsh _
  exact contract H enc W base args ds gs before hval hW hsz hsh
theorem said : Rows.FnExactEqualHistorySaid :=
  OpenClaim.holds_of_cond 3 Try.f3 rfl rfl rfl rfl rfl rfl rfl ⟨rfl, rfl, rfl, rfl, rfl⟩ rfl rfl rfl rfl rfl (by kernel_rfl) Try.func3 (by kernel_rfl)
    (of_decide_eq_true (by kernel_rfl)) (by unfold Func.isWrapper; first | (rw [if_pos (by decide +kernel)]; kernel_rfl) | (rw [if_neg (by decide +kernel)]; exact ⟨rfl, rfl⟩))
    (fun os started H enc _ F => by rw [OpenClaim.pre_eq_preRow]; exact lifted os started H enc F)
end Go.Proofs.Ytddfeecnimdikaa.ExactEqualHistory
