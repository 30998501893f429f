/-
  Proved: impl.equalCores, EqualCore and EqualBinds compare core expressions and environments; the memory that was there stays as it was.
-/
import Derived.Test.YtajikfageppobaaImplBindsEq
import Derived.Test.YtajikfageppobaaImplEqual
namespace Go.Proofs.Ytajikfageppobaa
open Go.RowKit

/-- An operation of a region whose guard says no is passed over. -/
theorem skipH {P : Program} {ops : Array Oper} {Q : Exit → Act → World → Prop} {md : Region.Mode} {S : World → Prop} {i : Nat} {oi : Oper} {fuel : Nat} {listed : Array Bool} {a : Act} {w : World} (hi : ops[i]? = some oi)
    (hs : Region.noSelect ops = true) (hf : Region.free md ops listed i = true) (hr : (Region.ready md ops listed).contains i = true)
    (hQ : ∀ c a w, Q (.panic c) (a.put oi.dst undef) w → Q (.panic c) a w) (hw : Region.wanted oi (yielded ops a.tmps) = false) (hS : S w) (hput : a.put oi.dst undef = a)
    (h : wpAnyH P md ops Q S fuel (listed.setIfInBounds i true) a w) : wpAnyH P md ops Q S (fuel + 1) listed a w :=
  wpAnyH_take hi hs hf hr hQ (Or.inr ⟨hw, rfl⟩) hS (by rw [hput]; exact h)
set_option maxRecDepth 100000 in
set_option maxHeartbeats 16000000 in
theorem implCores_step (d : Nat) (ih : EqCoresSaid d) : EqCoresSaid (d + 1) := by
  intro v1 v2 t1 t2 w h1 h2
  have IH2 := Lib.hid (implBinds_step d ih)
  have IH := Lib.hid ih; clear ih
  cases t1 with
  | node k1 nm1 n1 fr1 ty1 cs ns vs =>
  cases t2 with
  | node k2 nm2 n2 fr2 ty2 bs ms us =>
    obtain ⟨pb1, po1, x0, x1, x2, x3, x4, x5, x6, x7, x8, rfl, hpl1, k10, k11, k12, k13, k14, k15, k16, k17, k18, ht1⟩ := h1
    obtain ⟨c3, c4, c5, c6, sl, el, hv, hk10, hk11, hn10, hn11, hm1, hfr1, hty1, ⟨sa1, sc1, rfl, hcap1, hcp1, hat1⟩, hln1, ea1, ec1, rfl, hec1, hem1, hae1⟩ := ht1
    injection hv with hv
    injection hv with hv
    simp at hv
    obtain ⟨rfl, rfl, rfl, rfl, rfl, rfl, rfl, rfl, rfl⟩ := hv
    obtain ⟨pb2, po2, y0, y1, y2, y3, y4, y5, y6, y7, y8, rfl, hpl2, k20, k21, k22, k23, k24, k25, k26, k27, k28, ht2⟩ := h2
    obtain ⟨c3, c4, c5, c6, sl, el, hv, hk20, hk21, hn20, hn21, hm2, hfr2, hty2, ⟨sa2, sc2, rfl, hcap2, hcp2, hat2⟩, hln2, ea2, ec2, rfl, hec2, hem2, hae2⟩ := ht2
    injection hv with hv
    injection hv with hv
    simp at hv
    obtain ⟨rfl, rfl, rfl, rfl, rfl, rfl, rfl, rfl, rfl⟩ := hv
    have HF1 := Lib.hid hfr1
    have HF2 := Lib.hid hfr2
    have HY1 := Lib.hid hty1
    have HY2 := Lib.hid hty2
    have HA1 := Lib.hid hat1
    have HA2 := Lib.hid hat2
    have HE1 : Hid (CbsAt w d (.slice ea1 vs.length ec1) ns vs) := ⟨hln1, ea1, ec1, rfl, hec1, hem1, hae1⟩
    have HE2 : Hid (CbsAt w d (.slice ea2 us.length ec2) ms us) := ⟨hln2, ea2, ec2, rfl, hec2, hem2, hae2⟩
    clear hfr1 hfr2 hty1 hty2 hat1 hat2 hae1 hae2 hln1 hln2
    have HB : Hid (Below w.heap.size w w) := Below.refl _ _
    have K10 := Lib.hid k10
    have K11 := Lib.hid k11
    have K12 := Lib.hid k12
    have K13 := Lib.hid k13
    have K14 := Lib.hid k14
    have K15 := Lib.hid k15
    have K16 := Lib.hid k16
    have K17 := Lib.hid k17
    have K18 := Lib.hid k18
    have K20 := Lib.hid k20
    have K21 := Lib.hid k21
    have K22 := Lib.hid k22
    have K23 := Lib.hid k23
    have K24 := Lib.hid k24
    have K25 := Lib.hid k25
    have K26 := Lib.hid k26
    have K27 := Lib.hid k27
    have K28 := Lib.hid k28
    clear k10 k11 k12 k13 k14 k15 k16 k17 k18 k20 k21 k22 k23 k24 k25 k26 k27 k28
    by_cases q1 : k1 = k2
    case neg =>
      have q1b : (k1 != k2) = true := by simpa using q1
      have HR : Hid ((Co.node k1 nm1 n1 fr1 ty1 cs ns vs).beq (Co.node k2 nm2 n2 fr2 ty2 bs ms us) = false) := by show _ = _; simp [Co.beq, q1]
      go_enter Try.func85, Try.ntmps85
      have z10 : w.cell? ⟨pb1, po1, none⟩ = some (.int .i64 k1) := (HB.out.cell (p := ⟨pb1, po1, none⟩) hpl1).trans K10.out
      have z11 : w.cell? ⟨pb1, po1 + 1, none⟩ = some (.string nm1) := (HB.out.cell (p := ⟨pb1, po1 + 1, none⟩) hpl1).trans K11.out
      have z12 : w.cell? ⟨pb1, po1 + 2, none⟩ = some (.int .i64 n1) := (HB.out.cell (p := ⟨pb1, po1 + 2, none⟩) hpl1).trans K12.out
      have z17 : w.cell? ⟨pb1, po1 + 7, none⟩ = some (.slice sa1 cs.length sc1) := (HB.out.cell (p := ⟨pb1, po1 + 7, none⟩) hpl1).trans K17.out
      have z20 : w.cell? ⟨pb2, po2, none⟩ = some (.int .i64 k2) := (HB.out.cell (p := ⟨pb2, po2, none⟩) hpl2).trans K20.out
      have z21 : w.cell? ⟨pb2, po2 + 1, none⟩ = some (.string nm2) := (HB.out.cell (p := ⟨pb2, po2 + 1, none⟩) hpl2).trans K21.out
      have z22 : w.cell? ⟨pb2, po2 + 2, none⟩ = some (.int .i64 n2) := (HB.out.cell (p := ⟨pb2, po2 + 2, none⟩) hpl2).trans K22.out
      have z27 : w.cell? ⟨pb2, po2 + 7, none⟩ = some (.slice sa2 bs.length sc2) := (HB.out.cell (p := ⟨pb2, po2 + 7, none⟩) hpl2).trans K27.out
      go_wp2_with fail
      go_quiet (fail)
      go_wp2_with fail
      go_ret
      exact ⟨by rw [HR.out]; rfl, drewC HB.out nq⟩
    subst q1
    by_cases q2 : nm1 = nm2
    case neg =>
      have q2b : (nm1.toList == nm2.toList) = false := text_ne q2
      have HR : Hid ((Co.node k1 nm1 n1 fr1 ty1 cs ns vs).beq (Co.node k1 nm2 n2 fr2 ty2 bs ms us) = false) := by show _ = _; simp [Co.beq, q2]
      go_enter Try.func85, Try.ntmps85
      have z10 : w.cell? ⟨pb1, po1, none⟩ = some (.int .i64 k1) := (HB.out.cell (p := ⟨pb1, po1, none⟩) hpl1).trans K10.out
      have z11 : w.cell? ⟨pb1, po1 + 1, none⟩ = some (.string nm1) := (HB.out.cell (p := ⟨pb1, po1 + 1, none⟩) hpl1).trans K11.out
      have z12 : w.cell? ⟨pb1, po1 + 2, none⟩ = some (.int .i64 n1) := (HB.out.cell (p := ⟨pb1, po1 + 2, none⟩) hpl1).trans K12.out
      have z17 : w.cell? ⟨pb1, po1 + 7, none⟩ = some (.slice sa1 cs.length sc1) := (HB.out.cell (p := ⟨pb1, po1 + 7, none⟩) hpl1).trans K17.out
      have z20 : w.cell? ⟨pb2, po2, none⟩ = some (.int .i64 k1) := (HB.out.cell (p := ⟨pb2, po2, none⟩) hpl2).trans K20.out
      have z21 : w.cell? ⟨pb2, po2 + 1, none⟩ = some (.string nm2) := (HB.out.cell (p := ⟨pb2, po2 + 1, none⟩) hpl2).trans K21.out
      have z22 : w.cell? ⟨pb2, po2 + 2, none⟩ = some (.int .i64 n2) := (HB.out.cell (p := ⟨pb2, po2 + 2, none⟩) hpl2).trans K22.out
      have z27 : w.cell? ⟨pb2, po2 + 7, none⟩ = some (.slice sa2 bs.length sc2) := (HB.out.cell (p := ⟨pb2, po2 + 7, none⟩) hpl2).trans K27.out
      go_wp2_with fail
      go_quiet (fail)
      go_wp2_with fail
      go_ret
      exact ⟨by rw [HR.out]; rfl, drewC HB.out nq⟩
    subst q2
    by_cases q3 : n1 = n2
    case neg =>
      have q3b : (n1 != n2) = true := by simpa using q3
      have HR : Hid ((Co.node k1 nm1 n1 fr1 ty1 cs ns vs).beq (Co.node k1 nm1 n2 fr2 ty2 bs ms us) = false) := by show _ = _; simp [Co.beq, q3]
      go_enter Try.func85, Try.ntmps85
      have z10 : w.cell? ⟨pb1, po1, none⟩ = some (.int .i64 k1) := (HB.out.cell (p := ⟨pb1, po1, none⟩) hpl1).trans K10.out
      have z11 : w.cell? ⟨pb1, po1 + 1, none⟩ = some (.string nm1) := (HB.out.cell (p := ⟨pb1, po1 + 1, none⟩) hpl1).trans K11.out
      have z12 : w.cell? ⟨pb1, po1 + 2, none⟩ = some (.int .i64 n1) := (HB.out.cell (p := ⟨pb1, po1 + 2, none⟩) hpl1).trans K12.out
      have z17 : w.cell? ⟨pb1, po1 + 7, none⟩ = some (.slice sa1 cs.length sc1) := (HB.out.cell (p := ⟨pb1, po1 + 7, none⟩) hpl1).trans K17.out
      have z20 : w.cell? ⟨pb2, po2, none⟩ = some (.int .i64 k1) := (HB.out.cell (p := ⟨pb2, po2, none⟩) hpl2).trans K20.out
      have z21 : w.cell? ⟨pb2, po2 + 1, none⟩ = some (.string nm1) := (HB.out.cell (p := ⟨pb2, po2 + 1, none⟩) hpl2).trans K21.out
      have z22 : w.cell? ⟨pb2, po2 + 2, none⟩ = some (.int .i64 n2) := (HB.out.cell (p := ⟨pb2, po2 + 2, none⟩) hpl2).trans K22.out
      have z27 : w.cell? ⟨pb2, po2 + 7, none⟩ = some (.slice sa2 bs.length sc2) := (HB.out.cell (p := ⟨pb2, po2 + 7, none⟩) hpl2).trans K27.out
      go_wp2_with fail
      go_quiet (fail)
      go_wp2_with fail
      go_ret
      exact ⟨by rw [HR.out]; rfl, drewC HB.out nq⟩
    subst q3
    by_cases q7 : cs.length = bs.length
    case neg =>
      have q7b : ((cs.length : Int) != (bs.length : Int)) = true := by simp; omega
      have HR : Hid ((Co.node k1 nm1 n1 fr1 ty1 cs ns vs).beq (Co.node k1 nm1 n1 fr2 ty2 bs ms us) = false) := by show _ = _; simp [Co.beq, Co.beqs_len cs bs q7]
      clear q7
      go_enter Try.func85, Try.ntmps85
      have z10 : w.cell? ⟨pb1, po1, none⟩ = some (.int .i64 k1) := (HB.out.cell (p := ⟨pb1, po1, none⟩) hpl1).trans K10.out
      have z11 : w.cell? ⟨pb1, po1 + 1, none⟩ = some (.string nm1) := (HB.out.cell (p := ⟨pb1, po1 + 1, none⟩) hpl1).trans K11.out
      have z12 : w.cell? ⟨pb1, po1 + 2, none⟩ = some (.int .i64 n1) := (HB.out.cell (p := ⟨pb1, po1 + 2, none⟩) hpl1).trans K12.out
      have z17 : w.cell? ⟨pb1, po1 + 7, none⟩ = some (.slice sa1 cs.length sc1) := (HB.out.cell (p := ⟨pb1, po1 + 7, none⟩) hpl1).trans K17.out
      have z20 : w.cell? ⟨pb2, po2, none⟩ = some (.int .i64 k1) := (HB.out.cell (p := ⟨pb2, po2, none⟩) hpl2).trans K20.out
      have z21 : w.cell? ⟨pb2, po2 + 1, none⟩ = some (.string nm1) := (HB.out.cell (p := ⟨pb2, po2 + 1, none⟩) hpl2).trans K21.out
      have z22 : w.cell? ⟨pb2, po2 + 2, none⟩ = some (.int .i64 n1) := (HB.out.cell (p := ⟨pb2, po2 + 2, none⟩) hpl2).trans K22.out
      have z27 : w.cell? ⟨pb2, po2 + 7, none⟩ = some (.slice sa2 bs.length sc2) := (HB.out.cell (p := ⟨pb2, po2 + 7, none⟩) hpl2).trans K27.out
      go_wp2_with fail
      go_quiet (fail)
      go_wp2_with fail
      go_ret
      exact ⟨by rw [HR.out]; rfl, drewC HB.out nq⟩
    have q7b : ((cs.length : Int) != (bs.length : Int)) = false := by simp; omega
    have Q7 := Lib.hid q7
    clear q7
    go_enter Try.func85, Try.ntmps85
    have z10 : w.cell? ⟨pb1, po1, none⟩ = some (.int .i64 k1) := (HB.out.cell (p := ⟨pb1, po1, none⟩) hpl1).trans K10.out
    have z11 : w.cell? ⟨pb1, po1 + 1, none⟩ = some (.string nm1) := (HB.out.cell (p := ⟨pb1, po1 + 1, none⟩) hpl1).trans K11.out
    have z12 : w.cell? ⟨pb1, po1 + 2, none⟩ = some (.int .i64 n1) := (HB.out.cell (p := ⟨pb1, po1 + 2, none⟩) hpl1).trans K12.out
    have z17 : w.cell? ⟨pb1, po1 + 7, none⟩ = some (.slice sa1 cs.length sc1) := (HB.out.cell (p := ⟨pb1, po1 + 7, none⟩) hpl1).trans K17.out
    have z20 : w.cell? ⟨pb2, po2, none⟩ = some (.int .i64 k1) := (HB.out.cell (p := ⟨pb2, po2, none⟩) hpl2).trans K20.out
    have z21 : w.cell? ⟨pb2, po2 + 1, none⟩ = some (.string nm1) := (HB.out.cell (p := ⟨pb2, po2 + 1, none⟩) hpl2).trans K21.out
    have z22 : w.cell? ⟨pb2, po2 + 2, none⟩ = some (.int .i64 n1) := (HB.out.cell (p := ⟨pb2, po2 + 2, none⟩) hpl2).trans K22.out
    have z27 : w.cell? ⟨pb2, po2 + 7, none⟩ = some (.slice sa2 bs.length sc2) := (HB.out.cell (p := ⟨pb2, po2 + 7, none⟩) hpl2).trans K27.out
    go_wp2_with fail
    go_quiet (fail)
    clear z10 z11 z12 z17 z20 z21 z22 z27
    clear q7b
    replace HB := Lib.hid (drewC HB.out nq)
    have z13 : (w.drewN nq).cell? ⟨pb1, po1 + 3, none⟩ = some x3 := (HB.out.cell (p := ⟨pb1, po1 + 3, none⟩) hpl1).trans K13.out
    have z14 : (w.drewN nq).cell? ⟨pb1, po1 + 4, none⟩ = some x4 := (HB.out.cell (p := ⟨pb1, po1 + 4, none⟩) hpl1).trans K14.out
    have z15 : (w.drewN nq).cell? ⟨pb1, po1 + 5, none⟩ = some x5 := (HB.out.cell (p := ⟨pb1, po1 + 5, none⟩) hpl1).trans K15.out
    have z16 : (w.drewN nq).cell? ⟨pb1, po1 + 6, none⟩ = some x6 := (HB.out.cell (p := ⟨pb1, po1 + 6, none⟩) hpl1).trans K16.out
    have z23 : (w.drewN nq).cell? ⟨pb2, po2 + 3, none⟩ = some y3 := (HB.out.cell (p := ⟨pb2, po2 + 3, none⟩) hpl2).trans K23.out
    have z24 : (w.drewN nq).cell? ⟨pb2, po2 + 4, none⟩ = some y4 := (HB.out.cell (p := ⟨pb2, po2 + 4, none⟩) hpl2).trans K24.out
    have z25 : (w.drewN nq).cell? ⟨pb2, po2 + 5, none⟩ = some y5 := (HB.out.cell (p := ⟨pb2, po2 + 5, none⟩) hpl2).trans K25.out
    have z26 : (w.drewN nq).cell? ⟨pb2, po2 + 6, none⟩ = some y6 := (HB.out.cell (p := ⟨pb2, po2 + 6, none⟩) hpl2).trans K26.out
    go_wp2_with fail
    clear z13 z14 z15 z16 z23 z24 z25 z26
    replace HB := Lib.hid HB.out.drew
    replace HF1 := Lib.hid (HF1.out.below HB.out)
    replace HF2 := Lib.hid (HF2.out.below HB.out)
    replace HY1 := Lib.hid (HY1.out.below HB.out)
    replace HY2 := Lib.hid (HY2.out.below HB.out)
    cases hq : fr1.beq fr2 with
    | false =>
      have HR : Hid ((Co.node k1 nm1 n1 fr1 ty1 cs ns vs).beq (Co.node k1 nm1 n1 fr2 ty2 bs ms us) = false) := by show _ = _; simp [Co.beq, hq]
      have HQ := Lib.hid hq
      clear hq
      refine wp_region_held_drew (S := fun w' => w'.cell? ⟨pb1, po1 + 3, none⟩ = some x3 ∧ w'.cell? ⟨pb1, po1 + 4, none⟩ = some x4 ∧ w'.cell? ⟨pb2, po2 + 3, none⟩ = some y3 ∧ w'.cell? ⟨pb2, po2 + 4, none⟩ = some y4) (by kernel_rfl) (by exact ⟨(HB.out.cell (p := ⟨pb1, po1 + 3, none⟩) hpl1).trans K13.out, (HB.out.cell (p := ⟨pb1, po1 + 4, none⟩) hpl1).trans K14.out, (HB.out.cell (p := ⟨pb2, po2 + 3, none⟩) hpl2).trans K23.out, (HB.out.cell (p := ⟨pb2, po2 + 4, none⟩) hpl2).trans K24.out⟩) (fun hHeld => ?_)
      refine wpAnyH_take (i := 0) (v := ?v0) rfl (by kernel_rfl) (by kernel_rfl) (by kernel_rfl) (fun _ _ _ h => h) (Or.inl ⟨by rfl, ?hy0⟩) hHeld ?rest0
      case hy0 =>
        intro w hSw
        (try dsimp only at hSw)
        go_simp
        all_goals (first | done | with_reducible rfl)
      try simp only [Act.put]
      try simp only [List.setIfInBounds_toArray]
      try simp only [List.set_cons_succ]
      try simp only [List.set_cons_zero]
      refine wpAnyH_take (i := 1) (v := ?v1) rfl (by kernel_rfl) (by kernel_rfl) (by kernel_rfl) (fun _ _ _ h => h) (Or.inl ⟨by rfl, ?hy1⟩) hHeld ?rest1
      case hy1 =>
        intro w hSw
        (try dsimp only at hSw)
        go_simp
        all_goals (first | done | with_reducible rfl)
      try simp only [Act.put]
      try simp only [List.setIfInBounds_toArray]
      try simp only [List.set_cons_succ]
      try simp only [List.set_cons_zero]
      refine wpAnyH_take (i := 2) (v := ?v2) rfl (by kernel_rfl) (by kernel_rfl) (by kernel_rfl) (fun _ _ _ h => h) (Or.inl ⟨by rfl, ?hy2⟩) hHeld ?rest2
      case hy2 =>
        intro w hSw
        (try dsimp only at hSw)
        go_simp
        all_goals (first | done | with_reducible rfl)
      try simp only [Act.put]
      try simp only [List.setIfInBounds_toArray]
      try simp only [List.set_cons_succ]
      try simp only [List.set_cons_zero]
      refine wpAnyH_take (i := 3) (v := ?v3) rfl (by kernel_rfl) (by kernel_rfl) (by kernel_rfl) (fun _ _ _ h => h) (Or.inl ⟨by rfl, ?hy3⟩) hHeld ?rest3
      case hy3 =>
        intro w hSw
        (try dsimp only at hSw)
        go_simp
        all_goals (first | done | with_reducible rfl)
      try simp only [Act.put]
      try simp only [List.setIfInBounds_toArray]
      try simp only [List.set_cons_succ]
      try simp only [List.set_cons_zero]
      refine wpAnyH_take (i := 4) (v := ?v4) rfl (by kernel_rfl) (by kernel_rfl) (by kernel_rfl) (fun _ _ _ h => h) (Or.inl ⟨by rfl, ?hy4⟩) hHeld ?rest4
      case hy4 =>
        intro w hSw
        (try dsimp only at hSw)
        go_simp
        all_goals (first | done | with_reducible rfl)
      try simp only [Act.put]
      try simp only [List.setIfInBounds_toArray]
      try simp only [List.set_cons_succ]
      try simp only [List.set_cons_zero]
      refine wpAnyH_take (i := 5) (v := ?v5) rfl (by kernel_rfl) (by kernel_rfl) (by kernel_rfl) (fun _ _ _ h => h) (Or.inl ⟨by rfl, ?hy5⟩) hHeld ?rest5
      case hy5 =>
        intro w hSw
        (try dsimp only at hSw)
        go_simp
        all_goals (first | done | with_reducible rfl)
      try simp only [Act.put]
      try simp only [List.setIfInBounds_toArray]
      try simp only [List.set_cons_succ]
      try simp only [List.set_cons_zero]
      refine wpAnyH_take (i := 6) (v := ?v6) rfl (by kernel_rfl) (by kernel_rfl) (by kernel_rfl) (fun _ _ _ h => h) (Or.inl ⟨by rfl, ?hy6⟩) hHeld ?rest6
      case hy6 =>
        intro w hSw
        (try dsimp only at hSw)
        go_simp
        all_goals (first | done | with_reducible rfl)
      try simp only [Act.put]
      try simp only [List.setIfInBounds_toArray]
      try simp only [List.set_cons_succ]
      try simp only [List.set_cons_zero]
      refine wpAnyH_take (i := 7) (v := ?v7) rfl (by kernel_rfl) (by kernel_rfl) (by kernel_rfl) (fun _ _ _ h => h) (Or.inl ⟨by rfl, ?hy7⟩) hHeld ?rest7
      case hy7 =>
        intro w hSw
        (try dsimp only at hSw)
        go_simp
        all_goals (first | done | with_reducible rfl)
      try simp only [Act.put]
      try simp only [List.setIfInBounds_toArray]
      try simp only [List.set_cons_succ]
      try simp only [List.set_cons_zero]
      refine wpAnyH_ready (rs := [8]) (by kernel_rfl) (by simp) ?_
      refine AllReadyH.cons rfl (fun K hK => ?_) AllReadyH.nil
      go_simp
      go_at_call 97
      refine (implEqual d _ _ fr1 fr2 _ HF1.out HF2.out).mono ?_
      rintro e w1 ⟨he, hb⟩
      replace HB := Lib.hid (below_thru HB.out (Nat.le_refl _) hb)
      clear hb
      rw [HQ.out] at he
      subst he
      clear hHeld
      try go_wp2_with fail
      refine hK.out _ _ (by exact ⟨(HB.out.cell (p := ⟨pb1, po1 + 3, none⟩) hpl1).trans K13.out, (HB.out.cell (p := ⟨pb1, po1 + 4, none⟩) hpl1).trans K14.out, (HB.out.cell (p := ⟨pb2, po2 + 3, none⟩) hpl2).trans K23.out, (HB.out.cell (p := ⟨pb2, po2 + 4, none⟩) hpl2).trans K24.out⟩) (fun hHeld => ?_)
      clear hK K
      try simp only [Act.put]
      try simp only [List.setIfInBounds_toArray]
      try simp only [List.set_cons_succ]
      try simp only [List.set_cons_zero]
      refine wpAnyH_take (i := 9) (v := ?v9) rfl (by kernel_rfl) (by kernel_rfl) (by kernel_rfl) (fun _ _ _ h => h) (Or.inl ⟨by rfl, ?hy9⟩) hHeld ?rest9
      case hy9 =>
        intro w hSw
        (try dsimp only at hSw)
        go_simp
        all_goals (first | done | with_reducible rfl)
      try simp only [Act.put]
      try simp only [List.setIfInBounds_toArray]
      try simp only [List.set_cons_succ]
      try simp only [List.set_cons_zero]
      refine wpAnyH_take (i := 10) (v := ?v10) rfl (by kernel_rfl) (by kernel_rfl) (by kernel_rfl) (fun _ _ _ h => h) (Or.inl ⟨by rfl, ?hy10⟩) hHeld ?rest10
      case hy10 =>
        intro w hSw
        (try dsimp only at hSw)
        go_simp
        all_goals (first | done | with_reducible rfl)
      try simp only [Act.put]
      try simp only [List.setIfInBounds_toArray]
      try simp only [List.set_cons_succ]
      try simp only [List.set_cons_zero]
      refine skipH (i := 11) rfl (by kernel_rfl) (by kernel_rfl) (by kernel_rfl) (fun _ _ _ h => h) (by kernel_rfl) hHeld (by kernel_rfl) ?_
      refine skipH (i := 12) rfl (by kernel_rfl) (by kernel_rfl) (by kernel_rfl) (fun _ _ _ h => h) (by kernel_rfl) hHeld (by kernel_rfl) ?_
      refine skipH (i := 13) rfl (by kernel_rfl) (by kernel_rfl) (by kernel_rfl) (fun _ _ _ h => h) (by kernel_rfl) hHeld (by kernel_rfl) ?_
      refine skipH (i := 14) rfl (by kernel_rfl) (by kernel_rfl) (by kernel_rfl) (fun _ _ _ h => h) (by kernel_rfl) hHeld (by kernel_rfl) ?_
      refine skipH (i := 15) rfl (by kernel_rfl) (by kernel_rfl) (by kernel_rfl) (fun _ _ _ h => h) (by kernel_rfl) hHeld (by kernel_rfl) ?_
      refine skipH (i := 16) rfl (by kernel_rfl) (by kernel_rfl) (by kernel_rfl) (fun _ _ _ h => h) (by kernel_rfl) hHeld (by kernel_rfl) ?_
      refine skipH (i := 17) rfl (by kernel_rfl) (by kernel_rfl) (by kernel_rfl) (fun _ _ _ h => h) (by kernel_rfl) hHeld (by kernel_rfl) ?_
      refine skipH (i := 18) rfl (by kernel_rfl) (by kernel_rfl) (by kernel_rfl) (fun _ _ _ h => h) (by kernel_rfl) hHeld (by kernel_rfl) ?_
      refine skipH (i := 19) rfl (by kernel_rfl) (by kernel_rfl) (by kernel_rfl) (fun _ _ _ h => h) (by kernel_rfl) hHeld (by kernel_rfl) ?_
      refine skipH (i := 20) rfl (by kernel_rfl) (by kernel_rfl) (by kernel_rfl) (fun _ _ _ h => h) (by kernel_rfl) hHeld (by kernel_rfl) ?_
      refine wpAnyH_take (i := 21) (v := ?v21) rfl (by kernel_rfl) (by kernel_rfl) (by kernel_rfl) (fun _ _ _ h => h) (Or.inl ⟨by rfl, ?hy21⟩) hHeld ?rest21
      case hy21 =>
        intro w hSw
        (try dsimp only at hSw)
        go_simp
        all_goals (first | done | with_reducible rfl)
      try simp only [Act.put]
      try simp only [List.setIfInBounds_toArray]
      try simp only [List.set_cons_succ]
      try simp only [List.set_cons_zero]
      refine wpAnyH_done (by kernel_rfl) ?_ _
      go_wp2_with fail
      go_ret
      exact ⟨by rw [HR.out]; rfl, HB.out⟩
    | true =>
    have HQ := Lib.hid hq
    clear hq
    cases hq2 : ty1.beq ty2 with
    | false =>
      have HR : Hid ((Co.node k1 nm1 n1 fr1 ty1 cs ns vs).beq (Co.node k1 nm1 n1 fr2 ty2 bs ms us) = false) := by show _ = _; simp [Co.beq, hq2]
      have HQ2 := Lib.hid hq2
      clear hq2
      go_region_held3 (fun w' => w'.cell? ⟨pb1, po1 + 3, none⟩ = some x3 ∧ w'.cell? ⟨pb1, po1 + 4, none⟩ = some x4 ∧ w'.cell? ⟨pb1, po1 + 5, none⟩ = some x5 ∧ w'.cell? ⟨pb1, po1 + 6, none⟩ = some x6 ∧ w'.cell? ⟨pb2, po2 + 3, none⟩ = some y3 ∧ w'.cell? ⟨pb2, po2 + 4, none⟩ = some y4 ∧ w'.cell? ⟨pb2, po2 + 5, none⟩ = some y5 ∧ w'.cell? ⟨pb2, po2 + 6, none⟩ = some y6) (exact ⟨(HB.out.cell (p := ⟨pb1, po1 + 3, none⟩) hpl1).trans K13.out, (HB.out.cell (p := ⟨pb1, po1 + 4, none⟩) hpl1).trans K14.out, (HB.out.cell (p := ⟨pb1, po1 + 5, none⟩) hpl1).trans K15.out, (HB.out.cell (p := ⟨pb1, po1 + 6, none⟩) hpl1).trans K16.out, (HB.out.cell (p := ⟨pb2, po2 + 3, none⟩) hpl2).trans K23.out, (HB.out.cell (p := ⟨pb2, po2 + 4, none⟩) hpl2).trans K24.out, (HB.out.cell (p := ⟨pb2, po2 + 5, none⟩) hpl2).trans K25.out, (HB.out.cell (p := ⟨pb2, po2 + 6, none⟩) hpl2).trans K26.out⟩)
        (first
         | (go_at_call_of 97 (Value.agg #[x3, x4])
            refine (implEqual d _ _ fr1 fr2 _ HF1.out HF2.out).mono ?_
            rintro e w1 ⟨he, hb⟩
            replace HB := Lib.hid (below_thru HB.out (Nat.le_refl _) hb)
            replace HY1 := Lib.hid (HY1.out.below hb)
            replace HY2 := Lib.hid (HY2.out.below hb)
            clear hb
            rw [HQ.out] at he
            subst he)
         | (go_at_call_of 97 (Value.agg #[x5, x6])
            refine (implEqual d _ _ ty1 ty2 _ HY1.out HY2.out).mono ?_
            rintro e w2 ⟨he, hb⟩
            replace HB := Lib.hid (below_thru HB.out (Nat.le_refl _) hb)
            clear hb
            rw [HQ2.out] at he
            subst he))
      go_wp2_with fail
      go_ret
      exact ⟨by rw [HR.out]; rfl, HB.out⟩
    | true =>
    have HFIN : Hid ((Co.node k1 nm1 n1 fr1 ty1 cs ns vs).beq (Co.node k1 nm1 n1 fr2 ty2 bs ms us) = (Co.beqs cs bs && ebeq ns vs ms us)) := by show _ = _; simp [Co.beq, hq2, HQ.out, ebeq]
    have HQ2 := Lib.hid hq2
    clear hq2
    go_region_held3 (fun w' => w'.cell? ⟨pb1, po1 + 3, none⟩ = some x3 ∧ w'.cell? ⟨pb1, po1 + 4, none⟩ = some x4 ∧ w'.cell? ⟨pb1, po1 + 5, none⟩ = some x5 ∧ w'.cell? ⟨pb1, po1 + 6, none⟩ = some x6 ∧ w'.cell? ⟨pb2, po2 + 3, none⟩ = some y3 ∧ w'.cell? ⟨pb2, po2 + 4, none⟩ = some y4 ∧ w'.cell? ⟨pb2, po2 + 5, none⟩ = some y5 ∧ w'.cell? ⟨pb2, po2 + 6, none⟩ = some y6) (exact ⟨(HB.out.cell (p := ⟨pb1, po1 + 3, none⟩) hpl1).trans K13.out, (HB.out.cell (p := ⟨pb1, po1 + 4, none⟩) hpl1).trans K14.out, (HB.out.cell (p := ⟨pb1, po1 + 5, none⟩) hpl1).trans K15.out, (HB.out.cell (p := ⟨pb1, po1 + 6, none⟩) hpl1).trans K16.out, (HB.out.cell (p := ⟨pb2, po2 + 3, none⟩) hpl2).trans K23.out, (HB.out.cell (p := ⟨pb2, po2 + 4, none⟩) hpl2).trans K24.out, (HB.out.cell (p := ⟨pb2, po2 + 5, none⟩) hpl2).trans K25.out, (HB.out.cell (p := ⟨pb2, po2 + 6, none⟩) hpl2).trans K26.out⟩)
      (first
       | (go_at_call_of 97 (Value.agg #[x3, x4])
          refine (implEqual d _ _ fr1 fr2 _ HF1.out HF2.out).mono ?_
          rintro e w1 ⟨he, hb⟩
          replace HB := Lib.hid (below_thru HB.out (Nat.le_refl _) hb)
          replace HY1 := Lib.hid (HY1.out.below hb)
          replace HY2 := Lib.hid (HY2.out.below hb)
          clear hb
          rw [HQ.out] at he
          subst he)
       | (go_at_call_of 97 (Value.agg #[x5, x6])
          refine (implEqual d _ _ ty1 ty2 _ HY1.out HY2.out).mono ?_
          rintro e w2 ⟨he, hb⟩
          replace HB := Lib.hid (below_thru HB.out (Nat.le_refl _) hb)
          clear hb
          rw [HQ2.out] at he
          subst he))
    clear HF1 HF2 HY1 HY2 HQ HQ2
    have HB9 := Lib.hid HB.out
    have z17 : w2.cell? ⟨pb1, po1 + 7, none⟩ = some (.slice sa1 cs.length sc1) := (HB.out.cell (p := ⟨pb1, po1 + 7, none⟩) hpl1).trans K17.out
    have z18 : w2.cell? ⟨pb1, po1 + 8, none⟩ = some (.slice ea1 vs.length ec1) := (HB.out.cell (p := ⟨pb1, po1 + 8, none⟩) hpl1).trans K18.out
    have z27 : w2.cell? ⟨pb2, po2 + 7, none⟩ = some (.slice sa2 bs.length sc2) := (HB.out.cell (p := ⟨pb2, po2 + 7, none⟩) hpl2).trans K27.out
    have z28 : w2.cell? ⟨pb2, po2 + 8, none⟩ = some (.slice ea2 us.length ec2) := (HB.out.cell (p := ⟨pb2, po2 + 8, none⟩) hpl2).trans K28.out
    go_wp2_with fail
    clear z17 z18 z27 z28
    go_loopw [77] (fun i wr => ∃ k : Nat, k ≤ cs.length ∧ i = .int .i64 k ∧ Co.beqs (cs.take k) (bs.take k) = true ∧ Below w.heap.size w wr) (fun i _ => cs.length - (intOf i).toNat)
    case atStart => exact ⟨0, by omega, rfl, by simp [Co.beqs], HB9.out⟩
    case round =>
      obtain ⟨k, hk, rfl, hf, hb⟩ := hrel
      have HF := Lib.hid hf; clear hf
      have HB := Lib.hid hb; clear hb
      have z17 : wr.cell? ⟨pb1, po1 + 7, none⟩ = some (.slice sa1 cs.length sc1) := (HB.out.cell (p := ⟨pb1, po1 + 7, none⟩) hpl1).trans K17.out
      have z18 : wr.cell? ⟨pb1, po1 + 8, none⟩ = some (.slice ea1 vs.length ec1) := (HB.out.cell (p := ⟨pb1, po1 + 8, none⟩) hpl1).trans K18.out
      have z27 : wr.cell? ⟨pb2, po2 + 7, none⟩ = some (.slice sa2 bs.length sc2) := (HB.out.cell (p := ⟨pb2, po2 + 7, none⟩) hpl2).trans K27.out
      have z28 : wr.cell? ⟨pb2, po2 + 8, none⟩ = some (.slice ea2 us.length ec2) := (HB.out.cell (p := ⟨pb2, po2 + 8, none⟩) hpl2).trans K28.out
      by_cases hlt : k < cs.length
      · have hlt2 : k < bs.length := by have := Q7.out; omega
        obtain ⟨b1, off1, x0, x1, x2, x3, x4, x5, x6, x7, x8, rfl, hbl1, hc10, hc11, hc12, hc13, hc14, hc15, hc16, hc17, hc18, ht1⟩ := HA1.out k hlt
        obtain ⟨b2, off2, y0, y1, y2, y3, y4, y5, y6, y7, y8, rfl, hbl2, hc20, hc21, hc22, hc23, hc24, hc25, hc26, hc27, hc28, ht2⟩ := HA2.out k hlt2
        have c10 : wr.cell? ⟨b1, off1 + k * 9, none⟩ = some x0 := by rw [HB.out.cell (p := ⟨b1, off1 + k * 9, none⟩) hbl1]; exact hc10
        have c11 : wr.cell? ⟨b1, off1 + k * 9 + 1, none⟩ = some x1 := by rw [HB.out.cell (p := ⟨b1, off1 + k * 9 + 1, none⟩) hbl1]; exact hc11
        have c12 : wr.cell? ⟨b1, off1 + k * 9 + 2, none⟩ = some x2 := by rw [HB.out.cell (p := ⟨b1, off1 + k * 9 + 2, none⟩) hbl1]; exact hc12
        have c13 : wr.cell? ⟨b1, off1 + k * 9 + 3, none⟩ = some x3 := by rw [HB.out.cell (p := ⟨b1, off1 + k * 9 + 3, none⟩) hbl1]; exact hc13
        have c14 : wr.cell? ⟨b1, off1 + k * 9 + 4, none⟩ = some x4 := by rw [HB.out.cell (p := ⟨b1, off1 + k * 9 + 4, none⟩) hbl1]; exact hc14
        have c15 : wr.cell? ⟨b1, off1 + k * 9 + 5, none⟩ = some x5 := by rw [HB.out.cell (p := ⟨b1, off1 + k * 9 + 5, none⟩) hbl1]; exact hc15
        have c16 : wr.cell? ⟨b1, off1 + k * 9 + 6, none⟩ = some x6 := by rw [HB.out.cell (p := ⟨b1, off1 + k * 9 + 6, none⟩) hbl1]; exact hc16
        have c17 : wr.cell? ⟨b1, off1 + k * 9 + 7, none⟩ = some x7 := by rw [HB.out.cell (p := ⟨b1, off1 + k * 9 + 7, none⟩) hbl1]; exact hc17
        have c18 : wr.cell? ⟨b1, off1 + k * 9 + 8, none⟩ = some x8 := by rw [HB.out.cell (p := ⟨b1, off1 + k * 9 + 8, none⟩) hbl1]; exact hc18
        have c20 : wr.cell? ⟨b2, off2 + k * 9, none⟩ = some y0 := by rw [HB.out.cell (p := ⟨b2, off2 + k * 9, none⟩) hbl2]; exact hc20
        have c21 : wr.cell? ⟨b2, off2 + k * 9 + 1, none⟩ = some y1 := by rw [HB.out.cell (p := ⟨b2, off2 + k * 9 + 1, none⟩) hbl2]; exact hc21
        have c22 : wr.cell? ⟨b2, off2 + k * 9 + 2, none⟩ = some y2 := by rw [HB.out.cell (p := ⟨b2, off2 + k * 9 + 2, none⟩) hbl2]; exact hc22
        have c23 : wr.cell? ⟨b2, off2 + k * 9 + 3, none⟩ = some y3 := by rw [HB.out.cell (p := ⟨b2, off2 + k * 9 + 3, none⟩) hbl2]; exact hc23
        have c24 : wr.cell? ⟨b2, off2 + k * 9 + 4, none⟩ = some y4 := by rw [HB.out.cell (p := ⟨b2, off2 + k * 9 + 4, none⟩) hbl2]; exact hc24
        have c25 : wr.cell? ⟨b2, off2 + k * 9 + 5, none⟩ = some y5 := by rw [HB.out.cell (p := ⟨b2, off2 + k * 9 + 5, none⟩) hbl2]; exact hc25
        have c26 : wr.cell? ⟨b2, off2 + k * 9 + 6, none⟩ = some y6 := by rw [HB.out.cell (p := ⟨b2, off2 + k * 9 + 6, none⟩) hbl2]; exact hc26
        have c27 : wr.cell? ⟨b2, off2 + k * 9 + 7, none⟩ = some y7 := by rw [HB.out.cell (p := ⟨b2, off2 + k * 9 + 7, none⟩) hbl2]; exact hc27
        have c28 : wr.cell? ⟨b2, off2 + k * 9 + 8, none⟩ = some y8 := by rw [HB.out.cell (p := ⟨b2, off2 + k * 9 + 8, none⟩) hbl2]; exact hc28
        have HT1 := Lib.hid (ht1.below HB.out.drew)
        have HT2 := Lib.hid (ht2.below HB.out.drew)
        have HP1 : Hid (PtrCo wr.drew d (.pointer (some ⟨b1, off1 + k * 9, none⟩)) cs[k]) := ⟨_, _, _, _, _, _, _, _, _, _, _, rfl, Nat.lt_of_lt_of_le hbl1 HB.out.drew.size, c10, c11, c12, c13, c14, c15, c16, c17, c18, HT1.out⟩
        have HP2 : Hid (PtrCo wr.drew d (.pointer (some ⟨b2, off2 + k * 9, none⟩)) bs[k]) := ⟨_, _, _, _, _, _, _, _, _, _, _, rfl, Nat.lt_of_lt_of_le hbl2 HB.out.drew.size, c20, c21, c22, c23, c24, c25, c26, c27, c28, HT2.out⟩
        clear ht1 ht2 hc10 hc20 hc11 hc21 hc12 hc22 hc13 hc23 hc14 hc24 hc15 hc25 hc16 hc26 hc17 hc27 hc18 hc28
        go_wp2_with fail
        go_still_tail 12, (by kernel_rfl)
        change wpList _ _ _ _ _ wr.drew
        go_wp2_with fail
        refine (IH.out _ _ _ _ wr.drew HP1.out HP2.out).mono ?_
        rintro e w' ⟨rfl, hb1⟩
        have HN := Lib.hid (HB.out.drew.trans (hb1.mono HB.out.drew.size))
        clear hb1
        have HTK := Lib.hid (Co.beqs_take cs bs k hlt hlt2)
        cases hfk : cs[k].beq bs[k] with
        | true =>
          have HFK := Lib.hid hfk; clear hfk
          go_wp2_with fail
          exact ⟨⟨k + 1, by omega, by go_num, by rw [HTK.out, HF.out, HFK.out]; rfl, HN.out⟩, by simp [intOf]; omega⟩
        | false =>
          have HFK := Lib.hid hfk; clear hfk
          go_wp2_with fail
          go_ret
          have e : Co.beqs cs bs = false := Co.beqs_false cs bs (k + 1) (by rw [HTK.out, HF.out, HFK.out]; rfl) Q7.out
          exact ⟨by rw [HFIN.out, e]; rfl, HN.out⟩
      · obtain rfl : k = cs.length := by omega
        have HBA : Hid (Co.beqs cs bs = true) := by
          have := HF.out
          rw [List.take_length, Q7.out, List.take_length] at this; exact this
        have HC1 := Lib.hid (HE1.out.below HB.out.drew)
        have HC2 := Lib.hid (HE2.out.below HB.out.drew)
        go_wp2_with fail
        go_still_tail 8, (by kernel_rfl)
        change wpList _ _ _ _ _ wr.drew
        go_wp2_with fail
        refine (IH2.out _ _ ns vs ms us _ HC1.out HC2.out).mono ?_
        rintro e w3 ⟨rfl, hb⟩
        have HN := Lib.hid (below_thru HB.out.drew (Nat.le_refl _) hb)
        clear hb
        go_wp2_with fail
        go_ret
        exact ⟨by rw [HFIN.out, HBA.out, Bool.true_and]; rfl, HN.out⟩
theorem implCores : ∀ d, EqCoresSaid d
  | 0 => fun _ _ _ _ _ h _ => by obtain ⟨_, _, _, _, _, _, _, _, _, _, _, _, _, _, _, _, _, _, _, _, _, _, h⟩ := h; exact h.elim
  | d + 1 => implCores_step d (implCores d)
theorem implEqualBinds (d : Nat) (v1 v2 : Value) (ns : List ByteArray) (vs : List Co) (ms : List ByteArray) (us : List Co) (w : World) (h1 : CbsAt w d v1 ns vs) (h2 : CbsAt w d v2 ms us) :
    Calls Try.prog 57 #[v1, v2] w fun e w' => e = .returned (.bool (ebeq ns vs ms us)) ∧ Below w.heap.size w w' :=
  implBinds_step d (implCores d) v1 v2 ns vs ms us w h1 h2
end Go.Proofs.Ytajikfageppobaa
