/-
  Proved: a value of the kind History that came in as an argument reads as one.
-/
import Derived.Test.YtmmnjdhmankieaaAtHis
import Derived.Test.YtmmnjdhmankieaaArgEdts
import Derived.Test.YtmmnjdhmankieaaArgEdt
namespace Go.Proofs.Ytmmnjdhmankieaa
open Go.ChangeShapes Go.WideShapes Go.ChangeAt Go.RowKit Go.WideMaps Go.WideElems

theorem und_his : Try.prog.underlying 33 = some (.struct #[⟨"Past", 22, 0, false, "", "", 0⟩, ⟨"Now", 31, 1, false, "", "", 24⟩, ⟨"Next", 22, 8, false, "", "", 136⟩]) := by kernel_rfl
theorem cells_his : Try.prog.cellsOf 33 = 9 := by kernel_rfl
theorem list_his {α : Type} : ∀ (l : List α), l.length = 9 → ∃ c0 c1 c2 c3 c4 c5 c6 c7 c8, l = [c0, c1, c2, c3, c4, c5, c6, c7, c8]
  | [c0, c1, c2, c3, c4, c5, c6, c7, c8], _ => ⟨c0, c1, c2, c3, c4, c5, c6, c7, c8, rfl⟩
set_option maxRecDepth 100000 in
set_option maxHeartbeats 4000000 in
theorem his_open {H : Type} {enc : TypeId × Value → H} {W : World} {base : Nat} (fuel : Nat) (cs : List Value) (x : DataW H × List MemPlace) (h : DataW.trod enc Try.prog W base (fun _ => true) true fuel 33 cs = some x) :
    ∃ c0 c1 c2 c3 c4 c5 c6 c7 c8 d t, cs = [c0, c1, c2, c3, c4, c5, c6, c7, c8] ∧ HisAt W d (.agg #[c0, c1, c2, c3, c4, c5, c6, c7, c8]) t := by
  obtain ⟨xs, n, rfl, _, hl, hlen, hf⟩ := DataW.trod_struct und_his h
  rw [cells_his] at hl
  obtain ⟨c0, c1, c2, c3, c4, c5, c6, c7, c8, rfl⟩ := list_his cs hl
  have g0 : DataW.trod enc Try.prog W base (fun _ => true) true n 22 (([c0, c1, c2, c3, c4, c5, c6, c7, c8].drop 0).take (Try.prog.cellsOf 22)) = xs[0]? := hf 0 ⟨"Past", 22, 0, false, "", "", 0⟩ rfl
  have g1 : DataW.trod enc Try.prog W base (fun _ => true) true n 31 (([c0, c1, c2, c3, c4, c5, c6, c7, c8].drop 1).take (Try.prog.cellsOf 31)) = xs[1]? := hf 1 ⟨"Now", 31, 1, false, "", "", 24⟩ rfl
  have g2 : DataW.trod enc Try.prog W base (fun _ => true) true n 22 (([c0, c1, c2, c3, c4, c5, c6, c7, c8].drop 8).take (Try.prog.cellsOf 22)) = xs[2]? := hf 2 ⟨"Next", 22, 8, false, "", "", 136⟩ rfl
  rw [show Try.prog.cellsOf 22 = 1 from by kernel_rfl] at g0
  rw [show Try.prog.cellsOf 31 = 7 from by kernel_rfl] at g1
  rw [show Try.prog.cellsOf 22 = 1 from by kernel_rfl] at g2
  have hlen2 : xs.length = 3 := hlen
  clear hf hlen
  simp only [List.drop_zero, List.take_succ_cons, List.take_zero, List.drop_succ_cons] at g0 g1 g2
  obtain ⟨y0, hy0⟩ : ∃ y, xs[0]? = some y := ⟨_, List.getElem?_eq_getElem (by rw [hlen2]; decide)⟩
  rw [hy0] at g0
  obtain ⟨y1, hy1⟩ : ∃ y, xs[1]? = some y := ⟨_, List.getElem?_eq_getElem (by rw [hlen2]; decide)⟩
  rw [hy1] at g1
  obtain ⟨y2, hy2⟩ : ∃ y, xs[2]? = some y := ⟨_, List.getElem?_eq_getElem (by rw [hlen2]; decide)⟩
  rw [hy2] at g2
  obtain ⟨e0_0, d0, t0, hc, ht0⟩ := edts_open n _ _ g0
  injection hc with q0 hc
  subst q0
  obtain ⟨z0a, z0n, z0c, hv0⟩ := edts_parts ht0
  subst hv0
  obtain ⟨e1_0, e1_1, e1_2, e1_3, e1_4, e1_5, e1_6, d1, t1, hc, ht1⟩ := edt_open n _ _ g1
  injection hc with q0 hc
  injection hc with q1 hc
  injection hc with q2 hc
  injection hc with q3 hc
  injection hc with q4 hc
  injection hc with q5 hc
  injection hc with q6 hc
  subst q0 q1 q2 q3 q4 q5 q6
  obtain ⟨z1bk, z1bnm, z1bm, z1btk, z1bta, z1btn, z1btc, z1bsa, z1bsn, z1bsc, z1ca, z1cn, z1cc, hv1⟩ := edt_parts ht1
  injection hv1 with hv1
  injection hv1 with hv1
  simp only [List.cons.injEq, and_true] at hv1
  obtain ⟨rfl, rfl, rfl, rfl, rfl, rfl, rfl⟩ := hv1
  obtain ⟨e2_0, d2, t2, hc, ht2⟩ := edts_open n _ _ g2
  injection hc with q0 hc
  subst q0
  obtain ⟨z2a, z2n, z2c, hv2⟩ := edts_parts ht2
  subst hv2
  exact ⟨_, _, _, _, _, _, _, _, _, d0 + d1 + d2, ⟨t0, t1, t2⟩, rfl, ⟨_, _, _, _, _, _, _, _, _, _, _, _, _, _, _, _, _, _, _, rfl, ht0.mono (by omega), ht1.mono (by omega), ht2.mono (by omega)⟩⟩
set_option maxRecDepth 100000 in
set_option maxHeartbeats 4000000 in
theorem his_of_arg {H : Type} {enc : TypeId × Value → H} {W : World} {base b0 : Nat} {v : Value} {x : DataW H} {ps : List MemPlace} (hval : Value.okWide Try.prog W .any b0 33 v)
    (h : DataW.Trod enc Try.prog W base (fun _ => true) true 33 v x ps) : ∃ d t, HisAt W d v t := by
  obtain ⟨cs, rfl, _⟩ := okWide_struct und_his hval
  obtain ⟨fuel, hf⟩ := h
  have hf2 : DataW.trod enc Try.prog W base (fun _ => true) true fuel 33 cs.toList = some (x, ps) := hf
  obtain ⟨c0, c1, c2, c3, c4, c5, c6, c7, c8, d, t, hcs, ht⟩ := his_open fuel _ _ hf2
  have e : cs = #[c0, c1, c2, c3, c4, c5, c6, c7, c8] := Array.toList_inj.1 hcs
  subst e
  exact ⟨d, t, ht⟩
end Go.Proofs.Ytmmnjdhmankieaa
