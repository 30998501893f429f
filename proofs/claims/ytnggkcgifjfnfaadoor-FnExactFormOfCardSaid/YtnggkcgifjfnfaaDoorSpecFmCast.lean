/-
  Proved: spec.l24Form, with what it calls, and spec.FormOf give the form of a core expression; the memory that was there stays as it was.
-/
import Derived.Test.YtnggkcgifjfnfaaDoorSpecFmEnv
import Derived.Test.YtnggkcgifjfnfaaDoorSpecBoxed
import Derived.Test.YtnggkcgifjfnfaaDoorSpecIsGround
import Derived.Test.YtnggkcgifjfnfaaDoorSpecEqual
import Derived.Test.YtnggkcgifjfnfaaDoorSpecIsCore
import Derived.Test.YtnggkcgifjfnfaaDoorCoLite
import Derived.Deep.RegionHeld3
namespace Go.Proofs.YtnggkcgifjfnfaaDoor
open Go.RowKit

theorem sty_kd {w : World} {d : Nat} {k : Int} {c : Value} {t : Ty} (h : TyAt w d (.agg #[.int .i64 k, c]) t) : t.kd = k := by
  cases d with
  | zero => exact h.elim
  | succ d =>
    cases t with
    | node j ts =>
      obtain ⟨s, hs, _⟩ := h
      injection hs with hs
      injection hs with hs
      simp at hs
      exact hs.1.symm
theorem sco_kd {w : World} {d : Nat} {k : Int} {c1 c2 c3 c4 c5 c6 c7 c8 : Value} {t : Co} (h : CoAt w d (.agg #[.int .i64 k, c1, c2, c3, c4, c5, c6, c7, c8]) t) : t.kd = k := by
  cases d with
  | zero => exact h.elim
  | succ d =>
    cases t with
    | node j nm n fr ty es ns vs =>
      obtain ⟨_, _, _, _, _, _, hv, _⟩ := h
      injection hv with hv
      injection hv with hv
      simp at hv
      exact hv.1.symm
theorem opn_all (l : List Int) : opn (!hasF 0 l) = if allF l = 0 then 0 else 2 := by
  unfold allF
  cases hasF 0 l <;> cases hasF 2 l <;> simp [opn]
theorem allF_one {f : Int} (h : f = 0 ∨ f = 1 ∨ f = 2) : allF [f] = f := by
  rcases h with rfl | rfl | rfl <;> simp [allF, hasF]
set_option maxRecDepth 100000 in
set_option maxHeartbeats 4000000 in
theorem specIf (b : Bool) (w : World) : Calls Tryd.prog 31 #[.bool b] w fun e w' => e = .returned (.int .i64 (opn b)) ∧ w' = w := by
  cases b with
  | true =>
    go_enter Tryd.func31, Tryd.ntmps31
    go_wp2_with fail
    go_ret
    exact ⟨rfl, rfl⟩
  | false =>
    go_enter Tryd.func31, Tryd.ntmps31
    go_wp2_with fail
    go_ret
    exact ⟨rfl, rfl⟩
set_option maxRecDepth 100000 in
set_option maxHeartbeats 4000000 in
theorem specBetween (d : Nat) (v : Value) (t : Co) (w : World) (h : CoAt w d v t) (hsz : t.bulk ≤ 1048576) (k : Int) :
    Calls Tryd.prog 35 #[v, .int .i64 k] w fun e w' => e = .returned (.bool (t.btw k)) ∧ Below w.heap.size w w' := by
  cases d with
  | zero => exact h.elim
  | succ d =>
  cases t with
  | node kd nm0 n0 fr ty es ns vs =>
    have HV := co_parts h
    obtain ⟨c3, c4, c5, c6, sl, el, rfl, hk0, hk1, hn0, hn1, hnm, hfr, hty, ⟨a, cap, rfl, hcap, hcap2, hat⟩, hln, a2, cap2, rfl, hcpe, hcpe2, hae⟩ := h
    obtain ⟨k, nm, n, fk, fa, fn, fc, tk, ta, tn, tc, sa, sn, sc, ea, en, ec, hv⟩ := HV
    injection hv with hv
    injection hv with hv
    simp at hv
    obtain ⟨rfl, rfl, rfl, rfl, rfl, rfl, rfl, HVR⟩ := hv
    clear HVR
    have HAT := Lib.hid hat; clear hat
    have HAE := Lib.hid hae; clear hae
    have HLN := Lib.hid hln; clear hln
    have hbk : (Co.node kd nm0 n0 fr ty es ns vs).bulk = nm0.size + (fr.size - 1) + (ty.size - 1) + Co.bulks es + (txs ns + Co.bulks vs) := rfl
    have HSZ : Hid (Co.bulks es + Co.bulks vs ≤ 1048576) := by show _ ≤ _; omega
    have HNM : Hid (nm0.size ≤ 1048576) := by show _ ≤ _; omega
    have HTXS : Hid (txs ns ≤ 1048576) := by show _ ≤ _; omega
    have HFZ : Hid (fr.size ≤ 1048577) := by show _ ≤ _; omega
    have HTZ : Hid (ty.size ≤ 1048577) := by show _ ≤ _; omega
    have hlen : es.length ≤ 1048576 := by have := Co.length_le es; omega
    have hlen2 : vs.length ≤ 1048576 := by have := Co.length_le vs; omega
    have HFR := Lib.hid hfr
    have HTY := Lib.hid hty
    clear hsz hbk hty hfr
    have EFK := Lib.hid (sty_kd HFR.out)
    have ETK := Lib.hid (sty_kd HTY.out)
    clear HAT HAE HLN HSZ HNM HTXS HFZ HTZ HFR HTY
    by_cases q : kd = 14
    · have q1 : (kd == 14) = true := by simp [q]
      by_cases q3 : fk = k
      · have q4 : (fk == k) = true := by simp [q3]
        by_cases q5 : tk = k
        · have q6 : (tk == k) = true := by simp [q5]
          have HR : Hid ((Co.node kd nm0 n0 fr ty es ns vs).btw k = true) := by show _ = _; simp [Co.btw, EFK.out, ETK.out, q, q3, q5]
          go_enter Tryd.func35, Tryd.ntmps35
          go_wp2_with fail
          go_ret
          exact ⟨by rw [HR.out]; rfl, below_alloc _ _⟩
        · have q6 : (tk == k) = false := by simp [q5]
          have HR : Hid ((Co.node kd nm0 n0 fr ty es ns vs).btw k = false) := by show _ = _; simp [Co.btw, EFK.out, ETK.out, q5]
          go_enter Tryd.func35, Tryd.ntmps35
          go_wp2_with fail
          go_ret
          exact ⟨by rw [HR.out]; rfl, below_alloc _ _⟩
      · have q4 : (fk == k) = false := by simp [q3]
        have HR : Hid ((Co.node kd nm0 n0 fr ty es ns vs).btw k = false) := by show _ = _; simp [Co.btw, EFK.out, ETK.out, q3]
        go_enter Tryd.func35, Tryd.ntmps35
        go_wp2_with fail
        go_ret
        exact ⟨by rw [HR.out]; rfl, below_alloc _ _⟩
    · have q1 : (kd == 14) = false := by simp [q]
      have HR : Hid ((Co.node kd nm0 n0 fr ty es ns vs).btw k = false) := by show _ = _; simp [Co.btw, EFK.out, ETK.out, q]
      go_enter Tryd.func35, Tryd.ntmps35
      go_wp2_with fail
      go_ret
      exact ⟨by rw [HR.out]; rfl, below_alloc _ _⟩
set_option maxRecDepth 100000 in
set_option maxHeartbeats 8000000 in
theorem specFmCast (d : Nat) (v : Value) (nm0 : ByteArray) (n0 : Int) (fr ty : Ty) (a0 : Co) (ns : List ByteArray) (vs : List Co) (w : World) (h : CoAt w (d + 1) v (Co.node 14 nm0 n0 fr ty [a0] ns vs)) (hsz : (Co.node 14 nm0 n0 fr ty [a0] ns vs).bulk ≤ 1048576) (own : Int) :
    Calls Tryd.prog 34 #[v, .int .i64 own] w fun e w' => e = .returned (.int .i64 (castF fr ty a0.boxB own)) ∧ Below w.heap.size w w' := by
  have HWH := Lib.hid h
  have HBK := Lib.hid hsz
  have haz : a0.bulk ≤ 1048576 := by have h1 := hsz; simp only [Co.bulk, Co.bulks] at h1; omega
  have HV := co_parts h
  obtain ⟨c3, c4, c5, c6, sl, el, rfl, hk0, hk1, hn0, hn1, hnm, hfr, hty, ⟨a, cap, rfl, hcap, hcap2, hat⟩, hln, a2, cap2, rfl, hcpe, hcpe2, hae⟩ := h
  obtain ⟨k, nm, n, fk, fa, fn, fc, tk, ta, tn, tc, sa, sn, sc, ea, en, ec, hv⟩ := HV
  injection hv with hv
  injection hv with hv
  simp at hv
  obtain ⟨rfl, rfl, rfl, rfl, rfl, rfl, rfl, HVR⟩ := hv
  clear HVR
  have HAT := Lib.hid hat; clear hat
  have HAE := Lib.hid hae; clear hae
  have HLN := Lib.hid hln; clear hln
  have hbk : (Co.node 14 nm0 n0 fr ty [a0] ns vs).bulk = nm0.size + (fr.size - 1) + (ty.size - 1) + Co.bulks [a0] + (txs ns + Co.bulks vs) := rfl
  have HSZ : Hid (Co.bulks [a0] + Co.bulks vs ≤ 1048576) := by show _ ≤ _; omega
  have HNM : Hid (nm0.size ≤ 1048576) := by show _ ≤ _; omega
  have HTXS : Hid (txs ns ≤ 1048576) := by show _ ≤ _; omega
  have HFZ : Hid (fr.size ≤ 1048577) := by show _ ≤ _; omega
  have HTZ : Hid (ty.size ≤ 1048577) := by show _ ≤ _; omega
  have hlen : [a0].length ≤ 1048576 := by have := Co.length_le [a0]; omega
  have hlen2 : vs.length ≤ 1048576 := by have := Co.length_le vs; omega
  have HFR := Lib.hid hfr
  have HTY := Lib.hid hty
  clear hsz hbk hty hfr
  have EFK := Lib.hid (sty_kd HFR.out)
  have hfz : fr.size ≤ 1048577 := HFZ.out
  have htz : ty.size ≤ 1048577 := HTZ.out
  clear HAE HLN HSZ HNM HTXS HFZ HTZ
  obtain ⟨b, off, x0, x1, x2, x3, x4, x5, x6, x7, x8, rfl, hbl, hc0, hc1, hc2, hc3, hc4, hc5, hc6, hc7, hc8, ht⟩ := HAT.out 0 (by simp)
  simp only [Nat.zero_mul, Nat.add_zero, List.getElem_cons_zero] at hc0 hc1 hc2 hc3 hc4 hc5 hc6 hc7 hc8 ht
  have HA0 := Lib.hid ht
  have E0 := Lib.hid hc0
  have E1 := Lib.hid hc1
  have E2 := Lib.hid hc2
  have E3 := Lib.hid hc3
  have E4 := Lib.hid hc4
  have E5 := Lib.hid hc5
  have E6 := Lib.hid hc6
  have E7 := Lib.hid hc7
  have E8 := Lib.hid hc8
  clear ht hc0 hc1 hc2 hc3 hc4 hc5 hc6 hc7 hc8 HAT
  obtain ⟨b4, e_b4⟩ : ∃ q : Bool, q = (Co.node 14 nm0 n0 fr ty [a0] ns vs).btw 4 := ⟨_, rfl⟩
  have H_b4 := Lib.hid e_b4
  obtain ⟨b5, e_b5⟩ : ∃ q : Bool, q = (Co.node 14 nm0 n0 fr ty [a0] ns vs).btw 5 := ⟨_, rfl⟩
  have H_b5 := Lib.hid e_b5
  obtain ⟨be, e_be⟩ : ∃ q : Bool, q = fr.beq ty := ⟨_, rfl⟩
  have H_be := Lib.hid e_be
  obtain ⟨bx, e_bx⟩ : ∃ q : Bool, q = (Co.node 14 nm0 n0 fr ty [a0] ns vs).boxB := ⟨_, rfl⟩
  have H_bx := Lib.hid e_bx
  obtain ⟨gd, e_gd⟩ : ∃ q : Bool, q = (ty.valid && ty.beq ty.ground) := ⟨_, rfl⟩
  have H_gd := Lib.hid e_gd
  obtain ⟨b0, e_b0⟩ : ∃ q : Bool, q = a0.boxB := ⟨_, rfl⟩
  have H_b0 := Lib.hid e_b0
  obtain ⟨rr, e_rr⟩ : ∃ q : Int, q = castF fr ty a0.boxB own := ⟨_, rfl⟩
  have H_rr := Lib.hid e_rr
  have HCF : Hid (rr = if (((b4 || b5) && !be) || bx) then own else opn (decide (own = 2) && (decide (fk = 1) && (gd && !b0)))) := by
    show _ = _
    rw [e_rr, castF, ← e_be, ← e_b0, EFK.out]
    have x1 : btwT fr ty = (b4 || b5) := by rw [e_b4, e_b5]; simp [btwT, Co.btw]
    have x2 : boxT fr ty = bx := by rw [e_bx]; simp [Co.boxB, boxT]
    have x3 : grdT ty = gd := e_gd.symm
    rw [x1, x2, x3]
  clear e_b4 e_b5 e_be e_bx e_gd e_b0 e_rr
  have B : Hid (Below (w.heap.size + 1) (w.alloc (.cells #[.int .i64 14, .string nm0, .int .i64 n0, .int .i64 fk, .slice fa fn fc, .int .i64 tk, .slice ta tn tc, .slice (some ⟨b, off, none⟩) [a0].length cap, .slice a2 vs.length cap2] 37)) (w.alloc (.cells #[.int .i64 14, .string nm0, .int .i64 n0, .int .i64 fk, .slice fa fn fc, .int .i64 tk, .slice ta tn tc, .slice (some ⟨b, off, none⟩) [a0].length cap, .slice a2 vs.length cap2] 37))) := Below.refl _ _
  go_enter Tryd.func34, Tryd.ntmps34
  go_wp2_with fail
  refine (specBetween (d + 1) _ (Co.node 14 nm0 n0 fr ty [a0] ns vs) _ (HWH.out.below (box_below B.out)) HBK.out 4).mono ?_
  rintro e w1 ⟨rfl, hb⟩
  replace B := Lib.hid (box_next B.out hb); clear hb
  rw [← H_b4.out]
  cases b4 with
  | true =>
    have z0 := box_cell B.out 0
    have z1 := box_cell B.out 1
    have z2 := box_cell B.out 2
    have z3 := box_cell B.out 3
    have z4 := box_cell B.out 4
    have z5 := box_cell B.out 5
    have z6 := box_cell B.out 6
    have z7 := box_cell B.out 7
    have z8 := box_cell B.out 8
    go_wp2_with fail
    refine (specEqual d _ _ fr ty _ (HFR.out.below (box_below B.out)) (HTY.out.below (box_below B.out))).mono ?_
    rintro e w2 ⟨rfl, hb⟩
    replace B := Lib.hid (box_next B.out hb); clear hb
    rw [← H_be.out]
    clear z0 z1 z2 z3 z4 z5 z6 z7 z8
    cases be with
    | false =>
      go_wp2_with fail
      go_ret
      exact ⟨by rw [← H_rr.out, HCF.out]; simp, box_below B.out⟩
    | true =>
      have z0 := box_cell B.out 0
      have z1 := box_cell B.out 1
      have z2 := box_cell B.out 2
      have z3 := box_cell B.out 3
      have z4 := box_cell B.out 4
      have z5 := box_cell B.out 5
      have z6 := box_cell B.out 6
      have z7 := box_cell B.out 7
      have z8 := box_cell B.out 8
      go_wp2_with fail
      refine (specBoxed (d + 1) _ (Co.node 14 nm0 n0 fr ty [a0] ns vs) _ (HWH.out.below (box_below B.out)) HBK.out).mono ?_
      rintro e w3 ⟨rfl, hb⟩
      replace B := Lib.hid (box_next B.out hb); clear hb
      rw [← H_bx.out]
      clear z0 z1 z2 z3 z4 z5 z6 z7 z8
      cases bx with
      | true =>
        go_wp2_with fail
        go_ret
        exact ⟨by rw [← H_rr.out, HCF.out]; simp, box_below B.out⟩
      | false =>
        by_cases q2 : own = 2
        · have q3 : (own == 2) = true := by simp [q2]
          by_cases q4 : fk = 1
          · have q5 : (fk == 1) = true := by simp [q4]
            have z0 := box_cell B.out 0
            have z1 := box_cell B.out 1
            have z2 := box_cell B.out 2
            have z3 := box_cell B.out 3
            have z4 := box_cell B.out 4
            have z5 := box_cell B.out 5
            have z6 := box_cell B.out 6
            have z7 := box_cell B.out 7
            have z8 := box_cell B.out 8
            go_wp2_with fail
            refine (specIsGround d _ ty _ (HTY.out.below (box_below B.out)) htz).mono ?_
            rintro e w4 ⟨rfl, hb⟩
            replace B := Lib.hid (box_next B.out hb); clear hb
            rw [← H_gd.out]
            clear z0 z1 z2 z3 z4 z5 z6 z7 z8
            cases gd with
            | false =>
              go_wp2_with fail
              go_ret
              exact ⟨by rw [← H_rr.out, HCF.out]; simp [opn, q2, q4], box_below B.out⟩
            | true =>
              have z0 := box_cell B.out 0
              have z1 := box_cell B.out 1
              have z2 := box_cell B.out 2
              have z3 := box_cell B.out 3
              have z4 := box_cell B.out 4
              have z5 := box_cell B.out 5
              have z6 := box_cell B.out 6
              have z7 := box_cell B.out 7
              have z8 := box_cell B.out 8
              have y0 := ((box_below B.out).cell (p := ⟨b, off, none⟩) hbl).trans E0.out
              have y1 := ((box_below B.out).cell (p := ⟨b, off + 1, none⟩) hbl).trans E1.out
              have y2 := ((box_below B.out).cell (p := ⟨b, off + 2, none⟩) hbl).trans E2.out
              have y3 := ((box_below B.out).cell (p := ⟨b, off + 3, none⟩) hbl).trans E3.out
              have y4 := ((box_below B.out).cell (p := ⟨b, off + 4, none⟩) hbl).trans E4.out
              have y5 := ((box_below B.out).cell (p := ⟨b, off + 5, none⟩) hbl).trans E5.out
              have y6 := ((box_below B.out).cell (p := ⟨b, off + 6, none⟩) hbl).trans E6.out
              have y7 := ((box_below B.out).cell (p := ⟨b, off + 7, none⟩) hbl).trans E7.out
              have y8 := ((box_below B.out).cell (p := ⟨b, off + 8, none⟩) hbl).trans E8.out
              go_wp2_with fail
              refine (specBoxed d _ a0 _ (HA0.out.below (box_below B.out)) haz).mono ?_
              rintro e w5 ⟨rfl, hb⟩
              replace B := Lib.hid (box_next B.out hb); clear hb
              rw [← H_b0.out]
              clear z0 z1 z2 z3 z4 z5 z6 z7 z8
              clear y0 y1 y2 y3 y4 y5 y6 y7 y8
              cases b0 with
              | false =>
                go_wp2_with fail
                go_ret
                exact ⟨by rw [← H_rr.out, HCF.out]; simp [opn, q2, q4], box_below B.out⟩
              | true =>
                go_wp2_with fail
                go_ret
                exact ⟨by rw [← H_rr.out, HCF.out]; simp [opn, q2, q4], box_below B.out⟩
          · have q5 : (fk == 1) = false := by simp [q4]
            have z0 := box_cell B.out 0
            have z1 := box_cell B.out 1
            have z2 := box_cell B.out 2
            have z3 := box_cell B.out 3
            have z4 := box_cell B.out 4
            have z5 := box_cell B.out 5
            have z6 := box_cell B.out 6
            have z7 := box_cell B.out 7
            have z8 := box_cell B.out 8
            go_wp2_with fail
            go_ret
            exact ⟨by rw [← H_rr.out, HCF.out]; simp [opn, q4], box_below B.out⟩
        · have q3 : (own == 2) = false := by simp [q2]
          go_wp2_with fail
          go_ret
          exact ⟨by rw [← H_rr.out, HCF.out]; simp [opn, q2], box_below B.out⟩
  | false =>
    have z0 := box_cell B.out 0
    have z1 := box_cell B.out 1
    have z2 := box_cell B.out 2
    have z3 := box_cell B.out 3
    have z4 := box_cell B.out 4
    have z5 := box_cell B.out 5
    have z6 := box_cell B.out 6
    have z7 := box_cell B.out 7
    have z8 := box_cell B.out 8
    go_wp2_with fail
    refine (specBetween (d + 1) _ (Co.node 14 nm0 n0 fr ty [a0] ns vs) _ (HWH.out.below (box_below B.out)) HBK.out 5).mono ?_
    rintro e w6 ⟨rfl, hb⟩
    replace B := Lib.hid (box_next B.out hb); clear hb
    rw [← H_b5.out]
    clear z0 z1 z2 z3 z4 z5 z6 z7 z8
    cases b5 with
    | true =>
      have z0 := box_cell B.out 0
      have z1 := box_cell B.out 1
      have z2 := box_cell B.out 2
      have z3 := box_cell B.out 3
      have z4 := box_cell B.out 4
      have z5 := box_cell B.out 5
      have z6 := box_cell B.out 6
      have z7 := box_cell B.out 7
      have z8 := box_cell B.out 8
      go_wp2_with fail
      refine (specEqual d _ _ fr ty _ (HFR.out.below (box_below B.out)) (HTY.out.below (box_below B.out))).mono ?_
      rintro e w7 ⟨rfl, hb⟩
      replace B := Lib.hid (box_next B.out hb); clear hb
      rw [← H_be.out]
      clear z0 z1 z2 z3 z4 z5 z6 z7 z8
      cases be with
      | false =>
        go_wp2_with fail
        go_ret
        exact ⟨by rw [← H_rr.out, HCF.out]; simp, box_below B.out⟩
      | true =>
        have z0 := box_cell B.out 0
        have z1 := box_cell B.out 1
        have z2 := box_cell B.out 2
        have z3 := box_cell B.out 3
        have z4 := box_cell B.out 4
        have z5 := box_cell B.out 5
        have z6 := box_cell B.out 6
        have z7 := box_cell B.out 7
        have z8 := box_cell B.out 8
        go_wp2_with fail
        refine (specBoxed (d + 1) _ (Co.node 14 nm0 n0 fr ty [a0] ns vs) _ (HWH.out.below (box_below B.out)) HBK.out).mono ?_
        rintro e w8 ⟨rfl, hb⟩
        replace B := Lib.hid (box_next B.out hb); clear hb
        rw [← H_bx.out]
        clear z0 z1 z2 z3 z4 z5 z6 z7 z8
        cases bx with
        | true =>
          go_wp2_with fail
          go_ret
          exact ⟨by rw [← H_rr.out, HCF.out]; simp, box_below B.out⟩
        | false =>
          by_cases q2 : own = 2
          · have q3 : (own == 2) = true := by simp [q2]
            by_cases q4 : fk = 1
            · have q5 : (fk == 1) = true := by simp [q4]
              have z0 := box_cell B.out 0
              have z1 := box_cell B.out 1
              have z2 := box_cell B.out 2
              have z3 := box_cell B.out 3
              have z4 := box_cell B.out 4
              have z5 := box_cell B.out 5
              have z6 := box_cell B.out 6
              have z7 := box_cell B.out 7
              have z8 := box_cell B.out 8
              go_wp2_with fail
              refine (specIsGround d _ ty _ (HTY.out.below (box_below B.out)) htz).mono ?_
              rintro e w9 ⟨rfl, hb⟩
              replace B := Lib.hid (box_next B.out hb); clear hb
              rw [← H_gd.out]
              clear z0 z1 z2 z3 z4 z5 z6 z7 z8
              cases gd with
              | false =>
                go_wp2_with fail
                go_ret
                exact ⟨by rw [← H_rr.out, HCF.out]; simp [opn, q2, q4], box_below B.out⟩
              | true =>
                have z0 := box_cell B.out 0
                have z1 := box_cell B.out 1
                have z2 := box_cell B.out 2
                have z3 := box_cell B.out 3
                have z4 := box_cell B.out 4
                have z5 := box_cell B.out 5
                have z6 := box_cell B.out 6
                have z7 := box_cell B.out 7
                have z8 := box_cell B.out 8
                have y0 := ((box_below B.out).cell (p := ⟨b, off, none⟩) hbl).trans E0.out
                have y1 := ((box_below B.out).cell (p := ⟨b, off + 1, none⟩) hbl).trans E1.out
                have y2 := ((box_below B.out).cell (p := ⟨b, off + 2, none⟩) hbl).trans E2.out
                have y3 := ((box_below B.out).cell (p := ⟨b, off + 3, none⟩) hbl).trans E3.out
                have y4 := ((box_below B.out).cell (p := ⟨b, off + 4, none⟩) hbl).trans E4.out
                have y5 := ((box_below B.out).cell (p := ⟨b, off + 5, none⟩) hbl).trans E5.out
                have y6 := ((box_below B.out).cell (p := ⟨b, off + 6, none⟩) hbl).trans E6.out
                have y7 := ((box_below B.out).cell (p := ⟨b, off + 7, none⟩) hbl).trans E7.out
                have y8 := ((box_below B.out).cell (p := ⟨b, off + 8, none⟩) hbl).trans E8.out
                go_wp2_with fail
                refine (specBoxed d _ a0 _ (HA0.out.below (box_below B.out)) haz).mono ?_
                rintro e w10 ⟨rfl, hb⟩
                replace B := Lib.hid (box_next B.out hb); clear hb
                rw [← H_b0.out]
                clear z0 z1 z2 z3 z4 z5 z6 z7 z8
                clear y0 y1 y2 y3 y4 y5 y6 y7 y8
                cases b0 with
                | false =>
                  go_wp2_with fail
                  go_ret
                  exact ⟨by rw [← H_rr.out, HCF.out]; simp [opn, q2, q4], box_below B.out⟩
                | true =>
                  go_wp2_with fail
                  go_ret
                  exact ⟨by rw [← H_rr.out, HCF.out]; simp [opn, q2, q4], box_below B.out⟩
            · have q5 : (fk == 1) = false := by simp [q4]
              have z0 := box_cell B.out 0
              have z1 := box_cell B.out 1
              have z2 := box_cell B.out 2
              have z3 := box_cell B.out 3
              have z4 := box_cell B.out 4
              have z5 := box_cell B.out 5
              have z6 := box_cell B.out 6
              have z7 := box_cell B.out 7
              have z8 := box_cell B.out 8
              go_wp2_with fail
              go_ret
              exact ⟨by rw [← H_rr.out, HCF.out]; simp [opn, q4], box_below B.out⟩
          · have q3 : (own == 2) = false := by simp [q2]
            go_wp2_with fail
            go_ret
            exact ⟨by rw [← H_rr.out, HCF.out]; simp [opn, q2], box_below B.out⟩
    | false =>
      have z0 := box_cell B.out 0
      have z1 := box_cell B.out 1
      have z2 := box_cell B.out 2
      have z3 := box_cell B.out 3
      have z4 := box_cell B.out 4
      have z5 := box_cell B.out 5
      have z6 := box_cell B.out 6
      have z7 := box_cell B.out 7
      have z8 := box_cell B.out 8
      go_wp2_with fail
      refine (specBoxed (d + 1) _ (Co.node 14 nm0 n0 fr ty [a0] ns vs) _ (HWH.out.below (box_below B.out)) HBK.out).mono ?_
      rintro e w11 ⟨rfl, hb⟩
      replace B := Lib.hid (box_next B.out hb); clear hb
      rw [← H_bx.out]
      clear z0 z1 z2 z3 z4 z5 z6 z7 z8
      cases bx with
      | true =>
        go_wp2_with fail
        go_ret
        exact ⟨by rw [← H_rr.out, HCF.out]; simp, box_below B.out⟩
      | false =>
        by_cases q2 : own = 2
        · have q3 : (own == 2) = true := by simp [q2]
          by_cases q4 : fk = 1
          · have q5 : (fk == 1) = true := by simp [q4]
            have z0 := box_cell B.out 0
            have z1 := box_cell B.out 1
            have z2 := box_cell B.out 2
            have z3 := box_cell B.out 3
            have z4 := box_cell B.out 4
            have z5 := box_cell B.out 5
            have z6 := box_cell B.out 6
            have z7 := box_cell B.out 7
            have z8 := box_cell B.out 8
            go_wp2_with fail
            refine (specIsGround d _ ty _ (HTY.out.below (box_below B.out)) htz).mono ?_
            rintro e w12 ⟨rfl, hb⟩
            replace B := Lib.hid (box_next B.out hb); clear hb
            rw [← H_gd.out]
            clear z0 z1 z2 z3 z4 z5 z6 z7 z8
            cases gd with
            | false =>
              go_wp2_with fail
              go_ret
              exact ⟨by rw [← H_rr.out, HCF.out]; simp [opn, q2, q4], box_below B.out⟩
            | true =>
              have z0 := box_cell B.out 0
              have z1 := box_cell B.out 1
              have z2 := box_cell B.out 2
              have z3 := box_cell B.out 3
              have z4 := box_cell B.out 4
              have z5 := box_cell B.out 5
              have z6 := box_cell B.out 6
              have z7 := box_cell B.out 7
              have z8 := box_cell B.out 8
              have y0 := ((box_below B.out).cell (p := ⟨b, off, none⟩) hbl).trans E0.out
              have y1 := ((box_below B.out).cell (p := ⟨b, off + 1, none⟩) hbl).trans E1.out
              have y2 := ((box_below B.out).cell (p := ⟨b, off + 2, none⟩) hbl).trans E2.out
              have y3 := ((box_below B.out).cell (p := ⟨b, off + 3, none⟩) hbl).trans E3.out
              have y4 := ((box_below B.out).cell (p := ⟨b, off + 4, none⟩) hbl).trans E4.out
              have y5 := ((box_below B.out).cell (p := ⟨b, off + 5, none⟩) hbl).trans E5.out
              have y6 := ((box_below B.out).cell (p := ⟨b, off + 6, none⟩) hbl).trans E6.out
              have y7 := ((box_below B.out).cell (p := ⟨b, off + 7, none⟩) hbl).trans E7.out
              have y8 := ((box_below B.out).cell (p := ⟨b, off + 8, none⟩) hbl).trans E8.out
              go_wp2_with fail
              refine (specBoxed d _ a0 _ (HA0.out.below (box_below B.out)) haz).mono ?_
              rintro e w13 ⟨rfl, hb⟩
              replace B := Lib.hid (box_next B.out hb); clear hb
              rw [← H_b0.out]
              clear z0 z1 z2 z3 z4 z5 z6 z7 z8
              clear y0 y1 y2 y3 y4 y5 y6 y7 y8
              cases b0 with
              | false =>
                go_wp2_with fail
                go_ret
                exact ⟨by rw [← H_rr.out, HCF.out]; simp [opn, q2, q4], box_below B.out⟩
              | true =>
                go_wp2_with fail
                go_ret
                exact ⟨by rw [← H_rr.out, HCF.out]; simp [opn, q2, q4], box_below B.out⟩
          · have q5 : (fk == 1) = false := by simp [q4]
            have z0 := box_cell B.out 0
            have z1 := box_cell B.out 1
            have z2 := box_cell B.out 2
            have z3 := box_cell B.out 3
            have z4 := box_cell B.out 4
            have z5 := box_cell B.out 5
            have z6 := box_cell B.out 6
            have z7 := box_cell B.out 7
            have z8 := box_cell B.out 8
            go_wp2_with fail
            go_ret
            exact ⟨by rw [← H_rr.out, HCF.out]; simp [opn, q4], box_below B.out⟩
        · have q3 : (own == 2) = false := by simp [q2]
          go_wp2_with fail
          go_ret
          exact ⟨by rw [← H_rr.out, HCF.out]; simp [opn, q2], box_below B.out⟩
end Go.Proofs.YtnggkcgifjfnfaaDoor
