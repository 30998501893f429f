/-
  Proved: a value of the kind Session that came in as an argument reads as one.
-/
import Derived.Test.YtmmnjdhmankieaaAtSes
import Derived.Test.YtmmnjdhmankieaaArgHis
import Derived.Test.YtmmnjdhmankieaaArgTsts
import Derived.Test.YtmmnjdhmankieaaRecOpen
namespace Go.Proofs.Ytmmnjdhmankieaa
open Go.ChangeShapes Go.WideShapes Go.ChangeAt Go.RowKit Go.WideMaps Go.WideElems

theorem und_ses : Try.prog.underlying 36 = some (.struct #[⟨"History", 33, 0, false, "", "", 0⟩, ⟨"Tests", 34, 9, false, "", "", 160⟩, ⟨"Base", 28, 10, false, "", "", 184⟩, ⟨"Ours", 28, 16, false, "", "", 272⟩]) := by kernel_rfl
theorem cells_ses : Try.prog.cellsOf 36 = 22 := by kernel_rfl
theorem list_ses {α : Type} : ∀ (l : List α), l.length = 22 → ∃ c0 c1 c2 c3 c4 c5 c6 c7 c8 c9 c10 c11 c12 c13 c14 c15 c16 c17 c18 c19 c20 c21, l = [c0, c1, c2, c3, c4, c5, c6, c7, c8, c9, c10, c11, c12, c13, c14, c15, c16, c17, c18, c19, c20, c21]
  | [c0, c1, c2, c3, c4, c5, c6, c7, c8, c9, c10, c11, c12, c13, c14, c15, c16, c17, c18, c19, c20, c21], _ => ⟨c0, c1, c2, c3, c4, c5, c6, c7, c8, c9, c10, c11, c12, c13, c14, c15, c16, c17, c18, c19, c20, c21, rfl⟩
set_option maxRecDepth 100000 in
set_option maxHeartbeats 4000000 in
theorem ses_open {H : Type} {enc : TypeId × Value → H} {W : World} {base : Nat} (fuel : Nat) (cs : List Value) (x : DataW H × List MemPlace) (h : DataW.trod enc Try.prog W base (fun _ => true) true fuel 36 cs = some x) :
    ∃ c0 c1 c2 c3 c4 c5 c6 c7 c8 c9 c10 c11 c12 c13 c14 c15 c16 c17 c18 c19 c20 c21 d t, cs = [c0, c1, c2, c3, c4, c5, c6, c7, c8, c9, c10, c11, c12, c13, c14, c15, c16, c17, c18, c19, c20, c21] ∧ SesAt W d (.agg #[c0, c1, c2, c3, c4, c5, c6, c7, c8, c9, c10, c11, c12, c13, c14, c15, c16, c17, c18, c19, c20, c21]) t := by
  obtain ⟨xs, n, rfl, _, hl, hlen, hf⟩ := DataW.trod_struct und_ses h
  rw [cells_ses] at hl
  obtain ⟨c0, c1, c2, c3, c4, c5, c6, c7, c8, c9, c10, c11, c12, c13, c14, c15, c16, c17, c18, c19, c20, c21, rfl⟩ := list_ses cs hl
  have g0 : DataW.trod enc Try.prog W base (fun _ => true) true n 33 (([c0, c1, c2, c3, c4, c5, c6, c7, c8, c9, c10, c11, c12, c13, c14, c15, c16, c17, c18, c19, c20, c21].drop 0).take (Try.prog.cellsOf 33)) = xs[0]? := hf 0 ⟨"History", 33, 0, false, "", "", 0⟩ rfl
  have g1 : DataW.trod enc Try.prog W base (fun _ => true) true n 34 (([c0, c1, c2, c3, c4, c5, c6, c7, c8, c9, c10, c11, c12, c13, c14, c15, c16, c17, c18, c19, c20, c21].drop 9).take (Try.prog.cellsOf 34)) = xs[1]? := hf 1 ⟨"Tests", 34, 9, false, "", "", 160⟩ rfl
  have g2 : DataW.trod enc Try.prog W base (fun _ => true) true n 28 (([c0, c1, c2, c3, c4, c5, c6, c7, c8, c9, c10, c11, c12, c13, c14, c15, c16, c17, c18, c19, c20, c21].drop 10).take (Try.prog.cellsOf 28)) = xs[2]? := hf 2 ⟨"Base", 28, 10, false, "", "", 184⟩ rfl
  have g3 : DataW.trod enc Try.prog W base (fun _ => true) true n 28 (([c0, c1, c2, c3, c4, c5, c6, c7, c8, c9, c10, c11, c12, c13, c14, c15, c16, c17, c18, c19, c20, c21].drop 16).take (Try.prog.cellsOf 28)) = xs[3]? := hf 3 ⟨"Ours", 28, 16, false, "", "", 272⟩ rfl
  rw [show Try.prog.cellsOf 33 = 9 from by kernel_rfl] at g0
  rw [show Try.prog.cellsOf 34 = 1 from by kernel_rfl] at g1
  rw [show Try.prog.cellsOf 28 = 6 from by kernel_rfl] at g2
  rw [show Try.prog.cellsOf 28 = 6 from by kernel_rfl] at g3
  have hlen2 : xs.length = 4 := hlen
  clear hf hlen
  simp only [List.drop_zero, List.take_succ_cons, List.take_zero, List.drop_succ_cons] at g0 g1 g2 g3
  obtain ⟨y0, hy0⟩ : ∃ y, xs[0]? = some y := ⟨_, List.getElem?_eq_getElem (by rw [hlen2]; decide)⟩
  rw [hy0] at g0
  obtain ⟨y1, hy1⟩ : ∃ y, xs[1]? = some y := ⟨_, List.getElem?_eq_getElem (by rw [hlen2]; decide)⟩
  rw [hy1] at g1
  obtain ⟨y2, hy2⟩ : ∃ y, xs[2]? = some y := ⟨_, List.getElem?_eq_getElem (by rw [hlen2]; decide)⟩
  rw [hy2] at g2
  obtain ⟨y3, hy3⟩ : ∃ y, xs[3]? = some y := ⟨_, List.getElem?_eq_getElem (by rw [hlen2]; decide)⟩
  rw [hy3] at g3
  obtain ⟨e0_0, e0_1, e0_2, e0_3, e0_4, e0_5, e0_6, e0_7, e0_8, d0, t0, hc, ht0⟩ := his_open n _ _ g0
  injection hc with q0 hc
  injection hc with q1 hc
  injection hc with q2 hc
  injection hc with q3 hc
  injection hc with q4 hc
  injection hc with q5 hc
  injection hc with q6 hc
  injection hc with q7 hc
  injection hc with q8 hc
  subst q0 q1 q2 q3 q4 q5 q6 q7 q8
  obtain ⟨z0ba, z0bn, z0bc, z0cbk, z0cbnm, z0cbm, z0cbtk, z0cbta, z0cbtn, z0cbtc, z0cbsa, z0cbsn, z0cbsc, z0cca, z0ccn, z0ccc, z0da, z0dn, z0dc, hv0⟩ := his_parts ht0
  injection hv0 with hv0
  injection hv0 with hv0
  simp only [List.cons.injEq, and_true] at hv0
  obtain ⟨rfl, rfl, rfl, rfl, rfl, rfl, rfl, rfl, rfl⟩ := hv0
  obtain ⟨e1_0, d1, t1, hc, ht1⟩ := tsts_open n _ _ g1
  injection hc with q0 hc
  subst q0
  obtain ⟨z1a, z1n, z1c, hv1⟩ := tsts_parts ht1
  subst hv1
  obtain ⟨e2_0, e2_1, e2_2, e2_3, e2_4, e2_5, d2, t2, hc, ht2⟩ := exr_open n _ _ g2
  injection hc with q0 hc
  injection hc with q1 hc
  injection hc with q2 hc
  injection hc with q3 hc
  injection hc with q4 hc
  injection hc with q5 hc
  subst q0 q1 q2 q3 q4 q5
  obtain ⟨z2k, z2nm, z2m, z2tk, z2ta, z2tn, z2tc, z2sa, z2sn, z2sc, hv2⟩ := ex_parts ht2
  injection hv2 with hv2
  injection hv2 with hv2
  simp only [List.cons.injEq, and_true] at hv2
  obtain ⟨rfl, rfl, rfl, rfl, rfl, rfl⟩ := hv2
  obtain ⟨e3_0, e3_1, e3_2, e3_3, e3_4, e3_5, d3, t3, hc, ht3⟩ := exr_open n _ _ g3
  injection hc with q0 hc
  injection hc with q1 hc
  injection hc with q2 hc
  injection hc with q3 hc
  injection hc with q4 hc
  injection hc with q5 hc
  subst q0 q1 q2 q3 q4 q5
  obtain ⟨z3k, z3nm, z3m, z3tk, z3ta, z3tn, z3tc, z3sa, z3sn, z3sc, hv3⟩ := ex_parts ht3
  injection hv3 with hv3
  injection hv3 with hv3
  simp only [List.cons.injEq, and_true] at hv3
  obtain ⟨rfl, rfl, rfl, rfl, rfl, rfl⟩ := hv3
  exact ⟨_, _, _, _, _, _, _, _, _, _, _, _, _, _, _, _, _, _, _, _, _, _, d0 + d1 + d2 + d3, ⟨t0, t1, t2, t3⟩, rfl, ⟨_, _, _, _, _, _, _, _, _, _, _, _, _, _, _, _, _, _, _, _, _, _, _, _, _, _, _, _, _, _, _, _, _, _, _, _, _, _, _, _, _, _, rfl, ht0.mono (by omega), ht1.mono (by omega), ht2.mono (by omega), ht3.mono (by omega)⟩⟩
set_option maxRecDepth 100000 in
set_option maxHeartbeats 4000000 in
theorem ses_of_arg {H : Type} {enc : TypeId × Value → H} {W : World} {base b0 : Nat} {v : Value} {x : DataW H} {ps : List MemPlace} (hval : Value.okWide Try.prog W .any b0 36 v)
    (h : DataW.Trod enc Try.prog W base (fun _ => true) true 36 v x ps) : ∃ d t, SesAt W d v t := by
  obtain ⟨cs, rfl, _⟩ := okWide_struct und_ses hval
  obtain ⟨fuel, hf⟩ := h
  have hf2 : DataW.trod enc Try.prog W base (fun _ => true) true fuel 36 cs.toList = some (x, ps) := hf
  obtain ⟨c0, c1, c2, c3, c4, c5, c6, c7, c8, c9, c10, c11, c12, c13, c14, c15, c16, c17, c18, c19, c20, c21, d, t, hcs, ht⟩ := ses_open fuel _ _ hf2
  have e : cs = #[c0, c1, c2, c3, c4, c5, c6, c7, c8, c9, c10, c11, c12, c13, c14, c15, c16, c17, c18, c19, c20, c21] := Array.toList_inj.1 hcs
  subst e
  exact ⟨d, t, ht⟩
end Go.Proofs.Ytmmnjdhmankieaa
