/-
  Proved: spec.l18Zero, spec.l18Types and spec.l18Fields say whether the types, the name and the number of a node belong to its kind; the memory that was there stays as it was.
-/
import Derived.Test.YtnggkcgifjfnfaaDoorCoForm
import Derived.Test.YtnggkcgifjfnfaaDoorSpecName
import Derived.Test.YtnggkcgifjfnfaaDoorSpecIn
import Derived.Test.YtnggkcgifjfnfaaDoorCoLite
import Derived.Test.YtnggkcgifjfnfaaDoorPart
import Derived.Test.YtnggkcgifjfnfaaDoorSpecValid
import Derived.Test.YtnggkcgifjfnfaaDoorSzCore
import Derived.Test.YtnggkcgifjfnfaaDoorHold
namespace Go.Proofs.YtnggkcgifjfnfaaDoor
open Go.RowKit

set_option maxRecDepth 100000 in
set_option maxHeartbeats 1000000 in
theorem specZero (d : Nat) (v : Value) (t : Ty) (w : World) (h : TyAt w d v t) :
    Calls Tryd.prog 92 #[v] w fun e w' => e = .returned (.bool (t.beq (.node 0 []))) ∧ Below w.heap.size w w' := by
  obtain ⟨yk, ya, yn, yc, rfl⟩ := agg_parts h
  have hz := co_ty_zero h
  have HZ := Lib.hid hz
  clear hz h
  by_cases q : yk = 0
  · subst q
    by_cases q1 : yn = 0
    · have q1b : ((yn : Int) == 0) = true := by simp [q1]
      go_enter Tryd.func92, Tryd.ntmps92
      go_wp2_with fail
      go_ret
      exact ⟨by rw [HZ.out]; simp [q1], below_alloc _ _⟩
    · have q1b : ((yn : Int) == 0) = false := by simp [q1]
      go_enter Tryd.func92, Tryd.ntmps92
      go_wp2_with fail
      go_ret
      exact ⟨by rw [HZ.out]; simp [q1], below_alloc _ _⟩
  · have qb : (yk == 0) = false := by simp [q]
    go_enter Tryd.func92, Tryd.ntmps92
    go_wp2_with fail
    go_ret
    exact ⟨by rw [HZ.out]; simp [q], below_alloc _ _⟩
set_option maxRecDepth 100000 in
set_option maxHeartbeats 4000000 in
theorem specCoTypes (d : Nat) (v : Value) (kd : Int) (nm0 : ByteArray) (n0 : Int) (fr ty : Ty) (es : List Co) (ns : List ByteArray) (vs : List Co) (w : World) (h : CoAt w (d + 1) v (.node kd nm0 n0 fr ty es ns vs)) (hsz : (Co.node kd nm0 n0 fr ty es ns vs).bulk ≤ 1048576) :
    Calls Tryd.prog 72 #[v] w fun e w' => e = .returned (.bool (coTypesB kd fr ty)) ∧ Below w.heap.size w w' := by
  have HV := co_parts h
  obtain ⟨c3, c4, c5, c6, sl, el, rfl, hk0, hk1, hn0, hn1, hnm, hfr, hty, ⟨a, cap, rfl, hcap, hcap2, hat⟩, hln, a2, cap2, rfl, hcpe, hcpe2, hae⟩ := h
  obtain ⟨k, nm, n, fk, fa, fn, fc, tk, ta, tn, tc, sa, sn, sc, ea, en, ec, hv⟩ := HV
  injection hv with hv
  injection hv with hv
  simp at hv
  obtain ⟨rfl, rfl, rfl, rfl, rfl, rfl, rfl, HVR⟩ := hv
  clear HVR
  have HAT := Lib.hid hat; clear hat
  have HAE := Lib.hid hae; clear hae
  have HLN := Lib.hid hln; clear hln
  have hbk : (Co.node kd nm0 n0 fr ty es ns vs).bulk = nm0.size + (fr.size - 1) + (ty.size - 1) + Co.bulks es + (txs ns + Co.bulks vs) := rfl
  have HSZ : Hid (Co.bulks es + Co.bulks vs ≤ 1048576) := by show _ ≤ _; omega
  have HNM : Hid (nm0.size ≤ 1048576) := by show _ ≤ _; omega
  have HTXS : Hid (txs ns ≤ 1048576) := by show _ ≤ _; omega
  have HFZ : Hid (fr.size ≤ 1048577) := by show _ ≤ _; omega
  have HTZ : Hid (ty.size ≤ 1048577) := by show _ ≤ _; omega
  have hlen : es.length ≤ 1048576 := by have := Co.length_le es; omega
  have hlen2 : vs.length ≤ 1048576 := by have := Co.length_le vs; omega
  have HFR := Lib.hid hfr
  have HTY := Lib.hid hty
  clear hsz hbk hty hfr
  have B0 : Hid (Below (w.heap.size + 1) (w.alloc (.cells #[.int .i64 kd, .string nm0, .int .i64 n0, .int .i64 fk, .slice fa fn fc, .int .i64 tk, .slice ta tn tc, .slice a es.length cap, .slice a2 vs.length cap2] 37)) (w.alloc (.cells #[.int .i64 kd, .string nm0, .int .i64 n0, .int .i64 fk, .slice fa fn fc, .int .i64 tk, .slice ta tn tc, .slice a es.length cap, .slice a2 vs.length cap2] 37))) := Below.refl _ _
  have HTYb := Lib.hid (HTY.out.below (box_below B0.out))
  have HFRb := Lib.hid (HFR.out.below (box_below B0.out))
  clear HTY HFR HAT HAE HLN HSZ HTXS
  by_cases q4 : kd = 4
  · subst q4
    go_enter Tryd.func72, Tryd.ntmps72
    go_wp2_with fail
    refine (specValid d _ ty _ HTYb.out HTZ.out).mono ?_
    rintro e w2 ⟨rfl, hb2⟩
    have HTY2 := Lib.hid (HTYb.out.below hb2)
    have HFR2 := Lib.hid (HFRb.out.below hb2)
    have B2 := Lib.hid (box_next B0.out hb2); clear hb2
    clear HTYb HFRb
    cases hvt : ty.valid with
    | false =>
      have c0 := box_cell B2.out 0
      have c1 := box_cell B2.out 1
      have c2 := box_cell B2.out 2
      have c3 := box_cell B2.out 3
      have c4 := box_cell B2.out 4
      have c5 := box_cell B2.out 5
      have c6 := box_cell B2.out 6
      have c7 := box_cell B2.out 7
      have c8 := box_cell B2.out 8
      go_wp2_with fail
      go_ret
      exact ⟨by simp [coTypesB, coTyFor, tgtB, srcB, *], box_below B2.out⟩
    | true =>
      have c0 := box_cell B2.out 0
      have c1 := box_cell B2.out 1
      have c2 := box_cell B2.out 2
      have c3 := box_cell B2.out 3
      have c4 := box_cell B2.out 4
      have c5 := box_cell B2.out 5
      have c6 := box_cell B2.out 6
      have c7 := box_cell B2.out 7
      have c8 := box_cell B2.out 8
      go_wp2_with fail
      refine (specValid d _ fr _ HFR2.out HFZ.out).mono ?_
      rintro e w3 ⟨rfl, hb3⟩
      have HTY3 := Lib.hid (HTY2.out.below hb3)
      have HFR3 := Lib.hid (HFR2.out.below hb3)
      have B3 := Lib.hid (box_next B2.out hb3); clear hb3
      clear HTY2 HFR2
      clear c0 c1 c2 c3 c4 c5 c6 c7 c8
      cases hvf : fr.valid with
      | true =>
        have FZ := valid_some hvf
        have c0 := box_cell B3.out 0
        have c1 := box_cell B3.out 1
        have c2 := box_cell B3.out 2
        have c3 := box_cell B3.out 3
        have c4 := box_cell B3.out 4
        have c5 := box_cell B3.out 5
        have c6 := box_cell B3.out 6
        have c7 := box_cell B3.out 7
        have c8 := box_cell B3.out 8
        go_wp2_with fail
        go_ret
        exact ⟨by simp [coTypesB, coTyFor, tgtB, srcB, *], box_below B3.out⟩
      | false =>
        have c0 := box_cell B3.out 0
        have c1 := box_cell B3.out 1
        have c2 := box_cell B3.out 2
        have c3 := box_cell B3.out 3
        have c4 := box_cell B3.out 4
        have c5 := box_cell B3.out 5
        have c6 := box_cell B3.out 6
        have c7 := box_cell B3.out 7
        have c8 := box_cell B3.out 8
        go_wp2_with fail
        refine (specZero d _ fr _ HFR3.out).mono ?_
        rintro e w5 ⟨rfl, hb5⟩
        have B5 := Lib.hid (box_next B3.out hb5); clear hb5
        clear c0 c1 c2 c3 c4 c5 c6 c7 c8
        cases hzf : fr.beq (.node 0 []) with
        | false =>
          have c0 := box_cell B5.out 0
          have c1 := box_cell B5.out 1
          have c2 := box_cell B5.out 2
          have c3 := box_cell B5.out 3
          have c4 := box_cell B5.out 4
          have c5 := box_cell B5.out 5
          have c6 := box_cell B5.out 6
          have c7 := box_cell B5.out 7
          have c8 := box_cell B5.out 8
          go_wp2_with fail
          go_ret
          exact ⟨by simp [coTypesB, coTyFor, tgtB, srcB, *], box_below B5.out⟩
        | true =>
          have c0 := box_cell B5.out 0
          have c1 := box_cell B5.out 1
          have c2 := box_cell B5.out 2
          have c3 := box_cell B5.out 3
          have c4 := box_cell B5.out 4
          have c5 := box_cell B5.out 5
          have c6 := box_cell B5.out 6
          have c7 := box_cell B5.out 7
          have c8 := box_cell B5.out 8
          go_wp2_with fail
          go_ret
          exact ⟨by simp [coTypesB, coTyFor, tgtB, srcB, *], box_below B5.out⟩
  by_cases q14 : kd = 14
  · subst q14
    go_enter Tryd.func72, Tryd.ntmps72
    go_wp2_with fail
    refine (specValid d _ ty _ HTYb.out HTZ.out).mono ?_
    rintro e w2 ⟨rfl, hb2⟩
    have HTY2 := Lib.hid (HTYb.out.below hb2)
    have HFR2 := Lib.hid (HFRb.out.below hb2)
    have B2 := Lib.hid (box_next B0.out hb2); clear hb2
    clear HTYb HFRb
    cases hvt : ty.valid with
    | false =>
      have c0 := box_cell B2.out 0
      have c1 := box_cell B2.out 1
      have c2 := box_cell B2.out 2
      have c3 := box_cell B2.out 3
      have c4 := box_cell B2.out 4
      have c5 := box_cell B2.out 5
      have c6 := box_cell B2.out 6
      have c7 := box_cell B2.out 7
      have c8 := box_cell B2.out 8
      go_wp2_with fail
      go_ret
      exact ⟨by simp [coTypesB, coTyFor, tgtB, srcB, *], box_below B2.out⟩
    | true =>
      have c0 := box_cell B2.out 0
      have c1 := box_cell B2.out 1
      have c2 := box_cell B2.out 2
      have c3 := box_cell B2.out 3
      have c4 := box_cell B2.out 4
      have c5 := box_cell B2.out 5
      have c6 := box_cell B2.out 6
      have c7 := box_cell B2.out 7
      have c8 := box_cell B2.out 8
      go_wp2_with fail
      refine (specValid d _ fr _ HFR2.out HFZ.out).mono ?_
      rintro e w3 ⟨rfl, hb3⟩
      have HTY3 := Lib.hid (HTY2.out.below hb3)
      have HFR3 := Lib.hid (HFR2.out.below hb3)
      have B3 := Lib.hid (box_next B2.out hb3); clear hb3
      clear HTY2 HFR2
      clear c0 c1 c2 c3 c4 c5 c6 c7 c8
      cases hvf : fr.valid with
      | false =>
        have c0 := box_cell B3.out 0
        have c1 := box_cell B3.out 1
        have c2 := box_cell B3.out 2
        have c3 := box_cell B3.out 3
        have c4 := box_cell B3.out 4
        have c5 := box_cell B3.out 5
        have c6 := box_cell B3.out 6
        have c7 := box_cell B3.out 7
        have c8 := box_cell B3.out 8
        go_wp2_with fail
        go_ret
        exact ⟨by simp [coTypesB, coTyFor, tgtB, srcB, *], box_below B3.out⟩
      | true =>
        have c0 := box_cell B3.out 0
        have c1 := box_cell B3.out 1
        have c2 := box_cell B3.out 2
        have c3 := box_cell B3.out 3
        have c4 := box_cell B3.out 4
        have c5 := box_cell B3.out 5
        have c6 := box_cell B3.out 6
        have c7 := box_cell B3.out 7
        have c8 := box_cell B3.out 8
        go_wp2_with fail
        go_ret
        exact ⟨by simp [coTypesB, coTyFor, tgtB, srcB, *], box_below B3.out⟩
  by_cases q15 : kd = 15
  · subst q15
    go_enter Tryd.func72, Tryd.ntmps72
    go_wp2_with fail
    refine (specValid d _ ty _ HTYb.out HTZ.out).mono ?_
    rintro e w2 ⟨rfl, hb2⟩
    have HTY2 := Lib.hid (HTYb.out.below hb2)
    have HFR2 := Lib.hid (HFRb.out.below hb2)
    have B2 := Lib.hid (box_next B0.out hb2); clear hb2
    clear HTYb HFRb
    cases hvt : ty.valid with
    | false =>
      have c0 := box_cell B2.out 0
      have c1 := box_cell B2.out 1
      have c2 := box_cell B2.out 2
      have c3 := box_cell B2.out 3
      have c4 := box_cell B2.out 4
      have c5 := box_cell B2.out 5
      have c6 := box_cell B2.out 6
      have c7 := box_cell B2.out 7
      have c8 := box_cell B2.out 8
      go_wp2_with fail
      go_ret
      exact ⟨by simp [coTypesB, coTyFor, tgtB, srcB, *], box_below B2.out⟩
    | true =>
      have c0 := box_cell B2.out 0
      have c1 := box_cell B2.out 1
      have c2 := box_cell B2.out 2
      have c3 := box_cell B2.out 3
      have c4 := box_cell B2.out 4
      have c5 := box_cell B2.out 5
      have c6 := box_cell B2.out 6
      have c7 := box_cell B2.out 7
      have c8 := box_cell B2.out 8
      go_wp2_with fail
      refine (specValid d _ fr _ HFR2.out HFZ.out).mono ?_
      rintro e w3 ⟨rfl, hb3⟩
      have HTY3 := Lib.hid (HTY2.out.below hb3)
      have HFR3 := Lib.hid (HFR2.out.below hb3)
      have B3 := Lib.hid (box_next B2.out hb3); clear hb3
      clear HTY2 HFR2
      clear c0 c1 c2 c3 c4 c5 c6 c7 c8
      cases hvf : fr.valid with
      | false =>
        have c0 := box_cell B3.out 0
        have c1 := box_cell B3.out 1
        have c2 := box_cell B3.out 2
        have c3 := box_cell B3.out 3
        have c4 := box_cell B3.out 4
        have c5 := box_cell B3.out 5
        have c6 := box_cell B3.out 6
        have c7 := box_cell B3.out 7
        have c8 := box_cell B3.out 8
        go_wp2_with fail
        go_ret
        exact ⟨by simp [coTypesB, coTyFor, tgtB, srcB, *], box_below B3.out⟩
      | true =>
        have c0 := box_cell B3.out 0
        have c1 := box_cell B3.out 1
        have c2 := box_cell B3.out 2
        have c3 := box_cell B3.out 3
        have c4 := box_cell B3.out 4
        have c5 := box_cell B3.out 5
        have c6 := box_cell B3.out 6
        have c7 := box_cell B3.out 7
        have c8 := box_cell B3.out 8
        go_wp2_with fail
        go_ret
        exact ⟨by simp [coTypesB, coTyFor, tgtB, srcB, *], box_below B3.out⟩
  have z4 : (kd == 4) = false := by simp [q4]
  have z14 : (kd == 14) = false := by simp [q14]
  have z15 : (kd == 15) = false := by simp [q15]
  go_enter Tryd.func72, Tryd.ntmps72
  go_wp2_with fail
  refine (specValid d _ ty _ HTYb.out HTZ.out).mono ?_
  rintro e w2 ⟨rfl, hb2⟩
  have HTY2 := Lib.hid (HTYb.out.below hb2)
  have HFR2 := Lib.hid (HFRb.out.below hb2)
  have B2 := Lib.hid (box_next B0.out hb2); clear hb2
  clear HTYb HFRb
  cases hvt : ty.valid with
  | true =>
    have TZ := valid_some hvt
    have c0 := box_cell B2.out 0
    have c1 := box_cell B2.out 1
    have c2 := box_cell B2.out 2
    have c3 := box_cell B2.out 3
    have c4 := box_cell B2.out 4
    have c5 := box_cell B2.out 5
    have c6 := box_cell B2.out 6
    have c7 := box_cell B2.out 7
    have c8 := box_cell B2.out 8
    go_wp2_with fail
    go_ret
    exact ⟨by simp [coTypesB, coTyFor, tgtB, srcB, *], box_below B2.out⟩
  | false =>
    have c0 := box_cell B2.out 0
    have c1 := box_cell B2.out 1
    have c2 := box_cell B2.out 2
    have c3 := box_cell B2.out 3
    have c4 := box_cell B2.out 4
    have c5 := box_cell B2.out 5
    have c6 := box_cell B2.out 6
    have c7 := box_cell B2.out 7
    have c8 := box_cell B2.out 8
    go_wp2_with fail
    refine (specValid d _ fr _ HFR2.out HFZ.out).mono ?_
    rintro e w3 ⟨rfl, hb3⟩
    have HTY3 := Lib.hid (HTY2.out.below hb3)
    have HFR3 := Lib.hid (HFR2.out.below hb3)
    have B3 := Lib.hid (box_next B2.out hb3); clear hb3
    clear HTY2 HFR2
    clear c0 c1 c2 c3 c4 c5 c6 c7 c8
    cases hvf : fr.valid with
    | true =>
      have FZ := valid_some hvf
      have c0 := box_cell B3.out 0
      have c1 := box_cell B3.out 1
      have c2 := box_cell B3.out 2
      have c3 := box_cell B3.out 3
      have c4 := box_cell B3.out 4
      have c5 := box_cell B3.out 5
      have c6 := box_cell B3.out 6
      have c7 := box_cell B3.out 7
      have c8 := box_cell B3.out 8
      go_wp2_with fail
      go_ret
      exact ⟨by simp [coTypesB, coTyFor, tgtB, srcB, *], box_below B3.out⟩
    | false =>
      have c0 := box_cell B3.out 0
      have c1 := box_cell B3.out 1
      have c2 := box_cell B3.out 2
      have c3 := box_cell B3.out 3
      have c4 := box_cell B3.out 4
      have c5 := box_cell B3.out 5
      have c6 := box_cell B3.out 6
      have c7 := box_cell B3.out 7
      have c8 := box_cell B3.out 8
      go_wp2_with fail
      refine (specZero d _ ty _ HTY3.out).mono ?_
      rintro e w4 ⟨rfl, hb4⟩
      have HFR4 := Lib.hid (HFR3.out.below hb4)
      have B4 := Lib.hid (box_next B3.out hb4); clear hb4
      clear HFR3 HTY3
      clear c0 c1 c2 c3 c4 c5 c6 c7 c8
      cases hzt : ty.beq (.node 0 []) with
      | false =>
        have c0 := box_cell B4.out 0
        have c1 := box_cell B4.out 1
        have c2 := box_cell B4.out 2
        have c3 := box_cell B4.out 3
        have c4 := box_cell B4.out 4
        have c5 := box_cell B4.out 5
        have c6 := box_cell B4.out 6
        have c7 := box_cell B4.out 7
        have c8 := box_cell B4.out 8
        go_wp2_with fail
        go_ret
        exact ⟨by simp [coTypesB, coTyFor, tgtB, srcB, *], box_below B4.out⟩
      | true =>
        have c0 := box_cell B4.out 0
        have c1 := box_cell B4.out 1
        have c2 := box_cell B4.out 2
        have c3 := box_cell B4.out 3
        have c4 := box_cell B4.out 4
        have c5 := box_cell B4.out 5
        have c6 := box_cell B4.out 6
        have c7 := box_cell B4.out 7
        have c8 := box_cell B4.out 8
        go_wp2_with fail
        refine (specZero d _ fr _ HFR4.out).mono ?_
        rintro e w5 ⟨rfl, hb5⟩
        have B5 := Lib.hid (box_next B4.out hb5); clear hb5
        clear c0 c1 c2 c3 c4 c5 c6 c7 c8
        cases hzf : fr.beq (.node 0 []) with
        | false =>
          have c0 := box_cell B5.out 0
          have c1 := box_cell B5.out 1
          have c2 := box_cell B5.out 2
          have c3 := box_cell B5.out 3
          have c4 := box_cell B5.out 4
          have c5 := box_cell B5.out 5
          have c6 := box_cell B5.out 6
          have c7 := box_cell B5.out 7
          have c8 := box_cell B5.out 8
          go_wp2_with fail
          go_ret
          exact ⟨by simp [coTypesB, coTyFor, tgtB, srcB, *], box_below B5.out⟩
        | true =>
          have c0 := box_cell B5.out 0
          have c1 := box_cell B5.out 1
          have c2 := box_cell B5.out 2
          have c3 := box_cell B5.out 3
          have c4 := box_cell B5.out 4
          have c5 := box_cell B5.out 5
          have c6 := box_cell B5.out 6
          have c7 := box_cell B5.out 7
          have c8 := box_cell B5.out 8
          go_wp2_with fail
          go_ret
          exact ⟨by simp [coTypesB, coTyFor, tgtB, srcB, *], box_below B5.out⟩
set_option maxRecDepth 100000 in
set_option maxHeartbeats 4000000 in
theorem specCoFields (d : Nat) (v : Value) (kd : Int) (nm0 : ByteArray) (n0 : Int) (fr ty : Ty) (es : List Co) (ns : List ByteArray) (vs : List Co) (w : World) (h : CoAt w (d + 1) v (.node kd nm0 n0 fr ty es ns vs)) (hsz : (Co.node kd nm0 n0 fr ty es ns vs).bulk ≤ 1048576) :
    Calls Tryd.prog 56 #[v] w fun e w' => e = .returned (.bool (coFieldsB kd nm0 n0 fr ty)) ∧ Below w.heap.size w w' := by
  have HWH := Lib.hid h
  have HBK := Lib.hid hsz
  have HV := co_parts h
  obtain ⟨c3, c4, c5, c6, sl, el, rfl, hk0, hk1, hn0, hn1, hnm, hfr, hty, ⟨a, cap, rfl, hcap, hcap2, hat⟩, hln, a2, cap2, rfl, hcpe, hcpe2, hae⟩ := h
  obtain ⟨k, nm, n, fk, fa, fn, fc, tk, ta, tn, tc, sa, sn, sc, ea, en, ec, hv⟩ := HV
  injection hv with hv
  injection hv with hv
  simp at hv
  obtain ⟨rfl, rfl, rfl, rfl, rfl, rfl, rfl, HVR⟩ := hv
  clear HVR
  have HAT := Lib.hid hat; clear hat
  have HAE := Lib.hid hae; clear hae
  have HLN := Lib.hid hln; clear hln
  have hbk : (Co.node kd nm0 n0 fr ty es ns vs).bulk = nm0.size + (fr.size - 1) + (ty.size - 1) + Co.bulks es + (txs ns + Co.bulks vs) := rfl
  have HSZ : Hid (Co.bulks es + Co.bulks vs ≤ 1048576) := by show _ ≤ _; omega
  have HNM : Hid (nm0.size ≤ 1048576) := by show _ ≤ _; omega
  have HTXS : Hid (txs ns ≤ 1048576) := by show _ ≤ _; omega
  have HFZ : Hid (fr.size ≤ 1048577) := by show _ ≤ _; omega
  have HTZ : Hid (ty.size ≤ 1048577) := by show _ ≤ _; omega
  have hlen : es.length ≤ 1048576 := by have := Co.length_le es; omega
  have hlen2 : vs.length ≤ 1048576 := by have := Co.length_le vs; omega
  have HFR := Lib.hid hfr
  have HTY := Lib.hid hty
  clear hsz hbk hty hfr
  have B0 : Hid (Below (w.heap.size + 1) (w.alloc (.cells #[.int .i64 kd, .string nm0, .int .i64 n0, .int .i64 fk, .slice fa fn fc, .int .i64 tk, .slice ta tn tc, .slice a es.length cap, .slice a2 vs.length cap2] 37)) (w.alloc (.cells #[.int .i64 kd, .string nm0, .int .i64 n0, .int .i64 fk, .slice fa fn fc, .int .i64 tk, .slice ta tn tc, .slice a es.length cap, .slice a2 vs.length cap2] 37))) := Below.refl _ _
  have HWb := Lib.hid (HWH.out.below (box_below B0.out))
  have hnz := HNM.out
  clear HTY HFR HAT HAE HLN HSZ HTXS HWH
  by_cases q3 : kd = 3
  · subst q3
    go_enter Tryd.func56, Tryd.ntmps56
    go_wp2_with fail
    refine (specName nm0 _ (by omega)).mono ?_
    rintro e w1 ⟨rfl, hw1⟩
    subst hw1
    cases hnb : nameB nm0 with
    | false =>
      have c0 := box_cell B0.out 0
      have c1 := box_cell B0.out 1
      have c2 := box_cell B0.out 2
      have c3 := box_cell B0.out 3
      have c4 := box_cell B0.out 4
      have c5 := box_cell B0.out 5
      have c6 := box_cell B0.out 6
      have c7 := box_cell B0.out 7
      have c8 := box_cell B0.out 8
      go_wp2_with fail
      go_ret
      exact ⟨by simp [coFieldsB, coNameFor, coNumFor, *], box_below B0.out⟩
    | true =>
      have NZ := co_name_some hnb
      have c0 := box_cell B0.out 0
      have c1 := box_cell B0.out 1
      have c2 := box_cell B0.out 2
      have c3 := box_cell B0.out 3
      have c4 := box_cell B0.out 4
      have c5 := box_cell B0.out 5
      have c6 := box_cell B0.out 6
      have c7 := box_cell B0.out 7
      have c8 := box_cell B0.out 8
      go_wp2_with fail
      refine (specCoTypes d _ 3 nm0 n0 fr ty es ns vs _ HWb.out HBK.out).mono ?_
      rintro e w2 ⟨rfl, hb2⟩
      have B2 := Lib.hid (box_next B0.out hb2); clear hb2
      clear c0 c1 c2 c3 c4 c5 c6 c7 c8
      cases hct : coTypesB 3 fr ty with
      | false =>
        have c0 := box_cell B2.out 0
        have c1 := box_cell B2.out 1
        have c2 := box_cell B2.out 2
        have c3 := box_cell B2.out 3
        have c4 := box_cell B2.out 4
        have c5 := box_cell B2.out 5
        have c6 := box_cell B2.out 6
        have c7 := box_cell B2.out 7
        have c8 := box_cell B2.out 8
        go_wp2_with fail
        go_ret
        exact ⟨by simp [coFieldsB, coNameFor, coNumFor, *], box_below B2.out⟩
      | true =>
        by_cases qn : n0 = 0
        · subst qn
          have c0 := box_cell B2.out 0
          have c1 := box_cell B2.out 1
          have c2 := box_cell B2.out 2
          have c3 := box_cell B2.out 3
          have c4 := box_cell B2.out 4
          have c5 := box_cell B2.out 5
          have c6 := box_cell B2.out 6
          have c7 := box_cell B2.out 7
          have c8 := box_cell B2.out 8
          go_wp2_with fail
          go_ret
          exact ⟨by simp [coFieldsB, coNameFor, coNumFor, *], box_below B2.out⟩
        · have qnb : (n0 == 0) = false := by simp [qn]
          have c0 := box_cell B2.out 0
          have c1 := box_cell B2.out 1
          have c2 := box_cell B2.out 2
          have c3 := box_cell B2.out 3
          have c4 := box_cell B2.out 4
          have c5 := box_cell B2.out 5
          have c6 := box_cell B2.out 6
          have c7 := box_cell B2.out 7
          have c8 := box_cell B2.out 8
          go_wp2_with fail
          go_ret
          exact ⟨by simp [coFieldsB, coNameFor, coNumFor, *], box_below B2.out⟩
  by_cases q4 : kd = 4
  · subst q4
    go_enter Tryd.func56, Tryd.ntmps56
    go_wp2_with fail
    refine (specName nm0 _ (by omega)).mono ?_
    rintro e w1 ⟨rfl, hw1⟩
    subst hw1
    cases hnb : nameB nm0 with
    | false =>
      have c0 := box_cell B0.out 0
      have c1 := box_cell B0.out 1
      have c2 := box_cell B0.out 2
      have c3 := box_cell B0.out 3
      have c4 := box_cell B0.out 4
      have c5 := box_cell B0.out 5
      have c6 := box_cell B0.out 6
      have c7 := box_cell B0.out 7
      have c8 := box_cell B0.out 8
      go_wp2_with fail
      go_ret
      exact ⟨by simp [coFieldsB, coNameFor, coNumFor, *], box_below B0.out⟩
    | true =>
      have NZ := co_name_some hnb
      have c0 := box_cell B0.out 0
      have c1 := box_cell B0.out 1
      have c2 := box_cell B0.out 2
      have c3 := box_cell B0.out 3
      have c4 := box_cell B0.out 4
      have c5 := box_cell B0.out 5
      have c6 := box_cell B0.out 6
      have c7 := box_cell B0.out 7
      have c8 := box_cell B0.out 8
      go_wp2_with fail
      refine (specCoTypes d _ 4 nm0 n0 fr ty es ns vs _ HWb.out HBK.out).mono ?_
      rintro e w2 ⟨rfl, hb2⟩
      have B2 := Lib.hid (box_next B0.out hb2); clear hb2
      clear c0 c1 c2 c3 c4 c5 c6 c7 c8
      cases hct : coTypesB 4 fr ty with
      | false =>
        have c0 := box_cell B2.out 0
        have c1 := box_cell B2.out 1
        have c2 := box_cell B2.out 2
        have c3 := box_cell B2.out 3
        have c4 := box_cell B2.out 4
        have c5 := box_cell B2.out 5
        have c6 := box_cell B2.out 6
        have c7 := box_cell B2.out 7
        have c8 := box_cell B2.out 8
        go_wp2_with fail
        go_ret
        exact ⟨by simp [coFieldsB, coNameFor, coNumFor, *], box_below B2.out⟩
      | true =>
        by_cases qn : n0 = 0
        · subst qn
          have c0 := box_cell B2.out 0
          have c1 := box_cell B2.out 1
          have c2 := box_cell B2.out 2
          have c3 := box_cell B2.out 3
          have c4 := box_cell B2.out 4
          have c5 := box_cell B2.out 5
          have c6 := box_cell B2.out 6
          have c7 := box_cell B2.out 7
          have c8 := box_cell B2.out 8
          go_wp2_with fail
          go_ret
          exact ⟨by simp [coFieldsB, coNameFor, coNumFor, *], box_below B2.out⟩
        · have qnb : (n0 == 0) = false := by simp [qn]
          have c0 := box_cell B2.out 0
          have c1 := box_cell B2.out 1
          have c2 := box_cell B2.out 2
          have c3 := box_cell B2.out 3
          have c4 := box_cell B2.out 4
          have c5 := box_cell B2.out 5
          have c6 := box_cell B2.out 6
          have c7 := box_cell B2.out 7
          have c8 := box_cell B2.out 8
          go_wp2_with fail
          go_ret
          exact ⟨by simp [coFieldsB, coNameFor, coNumFor, *], box_below B2.out⟩
  by_cases q1 : kd = 1
  · subst q1
    go_enter Tryd.func56, Tryd.ntmps56
    go_wp2_with fail
    refine (specName nm0 _ (by omega)).mono ?_
    rintro e w1 ⟨rfl, hw1⟩
    subst hw1
    cases hnb : nameB nm0 with
    | true =>
      have NZ := co_name_some hnb
      have c0 := box_cell B0.out 0
      have c1 := box_cell B0.out 1
      have c2 := box_cell B0.out 2
      have c3 := box_cell B0.out 3
      have c4 := box_cell B0.out 4
      have c5 := box_cell B0.out 5
      have c6 := box_cell B0.out 6
      have c7 := box_cell B0.out 7
      have c8 := box_cell B0.out 8
      go_wp2_with fail
      go_ret
      exact ⟨by simp [coFieldsB, coNameFor, coNumFor, *], box_below B0.out⟩
    | false =>
      by_cases NZ : nm0.size = 0
      · have e1 := co_text_zero NZ
        have c0 := box_cell B0.out 0
        have c1 := box_cell B0.out 1
        have c2 := box_cell B0.out 2
        have c3 := box_cell B0.out 3
        have c4 := box_cell B0.out 4
        have c5 := box_cell B0.out 5
        have c6 := box_cell B0.out 6
        have c7 := box_cell B0.out 7
        have c8 := box_cell B0.out 8
        go_wp2_with fail
        refine (specCoTypes d _ 1 nm0 n0 fr ty es ns vs _ HWb.out HBK.out).mono ?_
        rintro e w2 ⟨rfl, hb2⟩
        have B2 := Lib.hid (box_next B0.out hb2); clear hb2
        clear c0 c1 c2 c3 c4 c5 c6 c7 c8
        cases hct : coTypesB 1 fr ty with
        | false =>
          have c0 := box_cell B2.out 0
          have c1 := box_cell B2.out 1
          have c2 := box_cell B2.out 2
          have c3 := box_cell B2.out 3
          have c4 := box_cell B2.out 4
          have c5 := box_cell B2.out 5
          have c6 := box_cell B2.out 6
          have c7 := box_cell B2.out 7
          have c8 := box_cell B2.out 8
          go_wp2_with fail
          go_ret
          exact ⟨by simp [coFieldsB, coNameFor, coNumFor, *], box_below B2.out⟩
        | true =>
          have c0 := box_cell B2.out 0
          have c1 := box_cell B2.out 1
          have c2 := box_cell B2.out 2
          have c3 := box_cell B2.out 3
          have c4 := box_cell B2.out 4
          have c5 := box_cell B2.out 5
          have c6 := box_cell B2.out 6
          have c7 := box_cell B2.out 7
          have c8 := box_cell B2.out 8
          go_wp2_with fail
          refine (specIn n0 1 99 _).mono ?_
          rintro e w9 ⟨rfl, hw9⟩
          subst hw9
          go_wp2_with fail
          go_ret
          exact ⟨by simp [coFieldsB, coNameFor, coNumFor, *], box_below B2.out⟩
      · have e1 := toList_some (s := nm0) (by omega)
        have c0 := box_cell B0.out 0
        have c1 := box_cell B0.out 1
        have c2 := box_cell B0.out 2
        have c3 := box_cell B0.out 3
        have c4 := box_cell B0.out 4
        have c5 := box_cell B0.out 5
        have c6 := box_cell B0.out 6
        have c7 := box_cell B0.out 7
        have c8 := box_cell B0.out 8
        go_wp2_with fail
        go_ret
        exact ⟨by simp [coFieldsB, coNameFor, coNumFor, *], box_below B0.out⟩
  by_cases q2 : kd = 2
  · subst q2
    go_enter Tryd.func56, Tryd.ntmps56
    go_wp2_with fail
    refine (specName nm0 _ (by omega)).mono ?_
    rintro e w1 ⟨rfl, hw1⟩
    subst hw1
    cases hnb : nameB nm0 with
    | true =>
      have NZ := co_name_some hnb
      have c0 := box_cell B0.out 0
      have c1 := box_cell B0.out 1
      have c2 := box_cell B0.out 2
      have c3 := box_cell B0.out 3
      have c4 := box_cell B0.out 4
      have c5 := box_cell B0.out 5
      have c6 := box_cell B0.out 6
      have c7 := box_cell B0.out 7
      have c8 := box_cell B0.out 8
      go_wp2_with fail
      go_ret
      exact ⟨by simp [coFieldsB, coNameFor, coNumFor, *], box_below B0.out⟩
    | false =>
      by_cases NZ : nm0.size = 0
      · have e1 := co_text_zero NZ
        have c0 := box_cell B0.out 0
        have c1 := box_cell B0.out 1
        have c2 := box_cell B0.out 2
        have c3 := box_cell B0.out 3
        have c4 := box_cell B0.out 4
        have c5 := box_cell B0.out 5
        have c6 := box_cell B0.out 6
        have c7 := box_cell B0.out 7
        have c8 := box_cell B0.out 8
        go_wp2_with fail
        refine (specCoTypes d _ 2 nm0 n0 fr ty es ns vs _ HWb.out HBK.out).mono ?_
        rintro e w2 ⟨rfl, hb2⟩
        have B2 := Lib.hid (box_next B0.out hb2); clear hb2
        clear c0 c1 c2 c3 c4 c5 c6 c7 c8
        cases hct : coTypesB 2 fr ty with
        | false =>
          have c0 := box_cell B2.out 0
          have c1 := box_cell B2.out 1
          have c2 := box_cell B2.out 2
          have c3 := box_cell B2.out 3
          have c4 := box_cell B2.out 4
          have c5 := box_cell B2.out 5
          have c6 := box_cell B2.out 6
          have c7 := box_cell B2.out 7
          have c8 := box_cell B2.out 8
          go_wp2_with fail
          go_ret
          exact ⟨by simp [coFieldsB, coNameFor, coNumFor, *], box_below B2.out⟩
        | true =>
          have c0 := box_cell B2.out 0
          have c1 := box_cell B2.out 1
          have c2 := box_cell B2.out 2
          have c3 := box_cell B2.out 3
          have c4 := box_cell B2.out 4
          have c5 := box_cell B2.out 5
          have c6 := box_cell B2.out 6
          have c7 := box_cell B2.out 7
          have c8 := box_cell B2.out 8
          go_wp2_with fail
          refine (specIn n0 1 99 _).mono ?_
          rintro e w9 ⟨rfl, hw9⟩
          subst hw9
          go_wp2_with fail
          go_ret
          exact ⟨by simp [coFieldsB, coNameFor, coNumFor, *], box_below B2.out⟩
      · have e1 := toList_some (s := nm0) (by omega)
        have c0 := box_cell B0.out 0
        have c1 := box_cell B0.out 1
        have c2 := box_cell B0.out 2
        have c3 := box_cell B0.out 3
        have c4 := box_cell B0.out 4
        have c5 := box_cell B0.out 5
        have c6 := box_cell B0.out 6
        have c7 := box_cell B0.out 7
        have c8 := box_cell B0.out 8
        go_wp2_with fail
        go_ret
        exact ⟨by simp [coFieldsB, coNameFor, coNumFor, *], box_below B0.out⟩
  by_cases q9 : kd = 9
  · subst q9
    go_enter Tryd.func56, Tryd.ntmps56
    go_wp2_with fail
    refine (specName nm0 _ (by omega)).mono ?_
    rintro e w1 ⟨rfl, hw1⟩
    subst hw1
    cases hnb : nameB nm0 with
    | true =>
      have NZ := co_name_some hnb
      have c0 := box_cell B0.out 0
      have c1 := box_cell B0.out 1
      have c2 := box_cell B0.out 2
      have c3 := box_cell B0.out 3
      have c4 := box_cell B0.out 4
      have c5 := box_cell B0.out 5
      have c6 := box_cell B0.out 6
      have c7 := box_cell B0.out 7
      have c8 := box_cell B0.out 8
      go_wp2_with fail
      go_ret
      exact ⟨by simp [coFieldsB, coNameFor, coNumFor, *], box_below B0.out⟩
    | false =>
      by_cases NZ : nm0.size = 0
      · have e1 := co_text_zero NZ
        have c0 := box_cell B0.out 0
        have c1 := box_cell B0.out 1
        have c2 := box_cell B0.out 2
        have c3 := box_cell B0.out 3
        have c4 := box_cell B0.out 4
        have c5 := box_cell B0.out 5
        have c6 := box_cell B0.out 6
        have c7 := box_cell B0.out 7
        have c8 := box_cell B0.out 8
        go_wp2_with fail
        refine (specCoTypes d _ 9 nm0 n0 fr ty es ns vs _ HWb.out HBK.out).mono ?_
        rintro e w2 ⟨rfl, hb2⟩
        have B2 := Lib.hid (box_next B0.out hb2); clear hb2
        clear c0 c1 c2 c3 c4 c5 c6 c7 c8
        cases hct : coTypesB 9 fr ty with
        | false =>
          have c0 := box_cell B2.out 0
          have c1 := box_cell B2.out 1
          have c2 := box_cell B2.out 2
          have c3 := box_cell B2.out 3
          have c4 := box_cell B2.out 4
          have c5 := box_cell B2.out 5
          have c6 := box_cell B2.out 6
          have c7 := box_cell B2.out 7
          have c8 := box_cell B2.out 8
          go_wp2_with fail
          go_ret
          exact ⟨by simp [coFieldsB, coNameFor, coNumFor, *], box_below B2.out⟩
        | true =>
          have c0 := box_cell B2.out 0
          have c1 := box_cell B2.out 1
          have c2 := box_cell B2.out 2
          have c3 := box_cell B2.out 3
          have c4 := box_cell B2.out 4
          have c5 := box_cell B2.out 5
          have c6 := box_cell B2.out 6
          have c7 := box_cell B2.out 7
          have c8 := box_cell B2.out 8
          go_wp2_with fail
          refine (specIn n0 0 1 _).mono ?_
          rintro e w9 ⟨rfl, hw9⟩
          subst hw9
          go_wp2_with fail
          go_ret
          exact ⟨by simp [coFieldsB, coNameFor, coNumFor, *], box_below B2.out⟩
      · have e1 := toList_some (s := nm0) (by omega)
        have c0 := box_cell B0.out 0
        have c1 := box_cell B0.out 1
        have c2 := box_cell B0.out 2
        have c3 := box_cell B0.out 3
        have c4 := box_cell B0.out 4
        have c5 := box_cell B0.out 5
        have c6 := box_cell B0.out 6
        have c7 := box_cell B0.out 7
        have c8 := box_cell B0.out 8
        go_wp2_with fail
        go_ret
        exact ⟨by simp [coFieldsB, coNameFor, coNumFor, *], box_below B0.out⟩
  by_cases q6 : kd = 6
  · subst q6
    go_enter Tryd.func56, Tryd.ntmps56
    go_wp2_with fail
    refine (specName nm0 _ (by omega)).mono ?_
    rintro e w1 ⟨rfl, hw1⟩
    subst hw1
    cases hnb : nameB nm0 with
    | true =>
      have NZ := co_name_some hnb
      have c0 := box_cell B0.out 0
      have c1 := box_cell B0.out 1
      have c2 := box_cell B0.out 2
      have c3 := box_cell B0.out 3
      have c4 := box_cell B0.out 4
      have c5 := box_cell B0.out 5
      have c6 := box_cell B0.out 6
      have c7 := box_cell B0.out 7
      have c8 := box_cell B0.out 8
      go_wp2_with fail
      go_ret
      exact ⟨by simp [coFieldsB, coNameFor, coNumFor, *], box_below B0.out⟩
    | false =>
      by_cases NZ : nm0.size = 0
      · have e1 := co_text_zero NZ
        have c0 := box_cell B0.out 0
        have c1 := box_cell B0.out 1
        have c2 := box_cell B0.out 2
        have c3 := box_cell B0.out 3
        have c4 := box_cell B0.out 4
        have c5 := box_cell B0.out 5
        have c6 := box_cell B0.out 6
        have c7 := box_cell B0.out 7
        have c8 := box_cell B0.out 8
        go_wp2_with fail
        refine (specCoTypes d _ 6 nm0 n0 fr ty es ns vs _ HWb.out HBK.out).mono ?_
        rintro e w2 ⟨rfl, hb2⟩
        have B2 := Lib.hid (box_next B0.out hb2); clear hb2
        clear c0 c1 c2 c3 c4 c5 c6 c7 c8
        cases hct : coTypesB 6 fr ty with
        | false =>
          have c0 := box_cell B2.out 0
          have c1 := box_cell B2.out 1
          have c2 := box_cell B2.out 2
          have c3 := box_cell B2.out 3
          have c4 := box_cell B2.out 4
          have c5 := box_cell B2.out 5
          have c6 := box_cell B2.out 6
          have c7 := box_cell B2.out 7
          have c8 := box_cell B2.out 8
          go_wp2_with fail
          go_ret
          exact ⟨by simp [coFieldsB, coNameFor, coNumFor, *], box_below B2.out⟩
        | true =>
          have c0 := box_cell B2.out 0
          have c1 := box_cell B2.out 1
          have c2 := box_cell B2.out 2
          have c3 := box_cell B2.out 3
          have c4 := box_cell B2.out 4
          have c5 := box_cell B2.out 5
          have c6 := box_cell B2.out 6
          have c7 := box_cell B2.out 7
          have c8 := box_cell B2.out 8
          go_wp2_with fail
          go_ret
          exact ⟨by simp [coFieldsB, coNameFor, coNumFor, *], box_below B2.out⟩
      · have e1 := toList_some (s := nm0) (by omega)
        have c0 := box_cell B0.out 0
        have c1 := box_cell B0.out 1
        have c2 := box_cell B0.out 2
        have c3 := box_cell B0.out 3
        have c4 := box_cell B0.out 4
        have c5 := box_cell B0.out 5
        have c6 := box_cell B0.out 6
        have c7 := box_cell B0.out 7
        have c8 := box_cell B0.out 8
        go_wp2_with fail
        go_ret
        exact ⟨by simp [coFieldsB, coNameFor, coNumFor, *], box_below B0.out⟩
  have z1 : (kd == 1) = false := by simp [q1]
  have z2 : (kd == 2) = false := by simp [q2]
  have z3 : (kd == 3) = false := by simp [q3]
  have z4 : (kd == 4) = false := by simp [q4]
  have z6 : (kd == 6) = false := by simp [q6]
  have z9 : (kd == 9) = false := by simp [q9]
  go_enter Tryd.func56, Tryd.ntmps56
  go_wp2_with fail
  refine (specName nm0 _ (by omega)).mono ?_
  rintro e w1 ⟨rfl, hw1⟩
  subst hw1
  cases hnb : nameB nm0 with
  | true =>
    have NZ := co_name_some hnb
    have c0 := box_cell B0.out 0
    have c1 := box_cell B0.out 1
    have c2 := box_cell B0.out 2
    have c3 := box_cell B0.out 3
    have c4 := box_cell B0.out 4
    have c5 := box_cell B0.out 5
    have c6 := box_cell B0.out 6
    have c7 := box_cell B0.out 7
    have c8 := box_cell B0.out 8
    go_wp2_with fail
    go_ret
    exact ⟨by simp [coFieldsB, coNameFor, coNumFor, *], box_below B0.out⟩
  | false =>
    by_cases NZ : nm0.size = 0
    · have e1 := co_text_zero NZ
      have c0 := box_cell B0.out 0
      have c1 := box_cell B0.out 1
      have c2 := box_cell B0.out 2
      have c3 := box_cell B0.out 3
      have c4 := box_cell B0.out 4
      have c5 := box_cell B0.out 5
      have c6 := box_cell B0.out 6
      have c7 := box_cell B0.out 7
      have c8 := box_cell B0.out 8
      go_wp2_with fail
      refine (specCoTypes d _ kd nm0 n0 fr ty es ns vs _ HWb.out HBK.out).mono ?_
      rintro e w2 ⟨rfl, hb2⟩
      have B2 := Lib.hid (box_next B0.out hb2); clear hb2
      clear c0 c1 c2 c3 c4 c5 c6 c7 c8
      cases hct : coTypesB kd fr ty with
      | false =>
        have c0 := box_cell B2.out 0
        have c1 := box_cell B2.out 1
        have c2 := box_cell B2.out 2
        have c3 := box_cell B2.out 3
        have c4 := box_cell B2.out 4
        have c5 := box_cell B2.out 5
        have c6 := box_cell B2.out 6
        have c7 := box_cell B2.out 7
        have c8 := box_cell B2.out 8
        go_wp2_with fail
        go_ret
        exact ⟨by simp [coFieldsB, coNameFor, coNumFor, *], box_below B2.out⟩
      | true =>
        by_cases qn : n0 = 0
        · subst qn
          have c0 := box_cell B2.out 0
          have c1 := box_cell B2.out 1
          have c2 := box_cell B2.out 2
          have c3 := box_cell B2.out 3
          have c4 := box_cell B2.out 4
          have c5 := box_cell B2.out 5
          have c6 := box_cell B2.out 6
          have c7 := box_cell B2.out 7
          have c8 := box_cell B2.out 8
          go_wp2_with fail
          go_ret
          exact ⟨by simp [coFieldsB, coNameFor, coNumFor, *], box_below B2.out⟩
        · have qnb : (n0 == 0) = false := by simp [qn]
          have c0 := box_cell B2.out 0
          have c1 := box_cell B2.out 1
          have c2 := box_cell B2.out 2
          have c3 := box_cell B2.out 3
          have c4 := box_cell B2.out 4
          have c5 := box_cell B2.out 5
          have c6 := box_cell B2.out 6
          have c7 := box_cell B2.out 7
          have c8 := box_cell B2.out 8
          go_wp2_with fail
          go_ret
          exact ⟨by simp [coFieldsB, coNameFor, coNumFor, *], box_below B2.out⟩
    · have e1 := toList_some (s := nm0) (by omega)
      have c0 := box_cell B0.out 0
      have c1 := box_cell B0.out 1
      have c2 := box_cell B0.out 2
      have c3 := box_cell B0.out 3
      have c4 := box_cell B0.out 4
      have c5 := box_cell B0.out 5
      have c6 := box_cell B0.out 6
      have c7 := box_cell B0.out 7
      have c8 := box_cell B0.out 8
      go_wp2_with fail
      go_ret
      exact ⟨by simp [coFieldsB, coNameFor, coNumFor, *], box_below B0.out⟩
end Go.Proofs.YtnggkcgifjfnfaaDoor
