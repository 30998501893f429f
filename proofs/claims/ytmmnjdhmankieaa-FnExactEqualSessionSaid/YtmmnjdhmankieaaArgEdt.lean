/-
  Proved: a value of the kind Edit that came in as an argument reads as one.
-/
import Derived.Test.YtmmnjdhmankieaaAtEdt
import Derived.Test.YtmmnjdhmankieaaRecOpen
namespace Go.Proofs.Ytmmnjdhmankieaa
open Go.ChangeShapes Go.WideShapes Go.ChangeAt Go.RowKit Go.WideMaps Go.WideElems

theorem und_edt : Try.prog.underlying 31 = some (.struct #[⟨"Expr", 28, 0, false, "", "", 0⟩, ⟨"Path", 29, 6, false, "", "", 88⟩]) := by kernel_rfl
theorem cells_edt : Try.prog.cellsOf 31 = 7 := by kernel_rfl
theorem list_edt {α : Type} : ∀ (l : List α), l.length = 7 → ∃ c0 c1 c2 c3 c4 c5 c6, l = [c0, c1, c2, c3, c4, c5, c6]
  | [c0, c1, c2, c3, c4, c5, c6], _ => ⟨c0, c1, c2, c3, c4, c5, c6, rfl⟩
set_option maxRecDepth 100000 in
set_option maxHeartbeats 4000000 in
theorem edt_open {H : Type} {enc : TypeId × Value → H} {W : World} {base : Nat} (fuel : Nat) (cs : List Value) (x : DataW H × List MemPlace) (h : DataW.trod enc Try.prog W base (fun _ => true) true fuel 31 cs = some x) :
    ∃ c0 c1 c2 c3 c4 c5 c6 d t, cs = [c0, c1, c2, c3, c4, c5, c6] ∧ EdtAt W d (.agg #[c0, c1, c2, c3, c4, c5, c6]) t := by
  obtain ⟨xs, n, rfl, _, hl, hlen, hf⟩ := DataW.trod_struct und_edt h
  rw [cells_edt] at hl
  obtain ⟨c0, c1, c2, c3, c4, c5, c6, rfl⟩ := list_edt cs hl
  have g0 : DataW.trod enc Try.prog W base (fun _ => true) true n 28 (([c0, c1, c2, c3, c4, c5, c6].drop 0).take (Try.prog.cellsOf 28)) = xs[0]? := hf 0 ⟨"Expr", 28, 0, false, "", "", 0⟩ rfl
  have g1 : DataW.trod enc Try.prog W base (fun _ => true) true n 29 (([c0, c1, c2, c3, c4, c5, c6].drop 6).take (Try.prog.cellsOf 29)) = xs[1]? := hf 1 ⟨"Path", 29, 6, false, "", "", 88⟩ rfl
  rw [show Try.prog.cellsOf 28 = 6 from by kernel_rfl] at g0
  rw [show Try.prog.cellsOf 29 = 1 from by kernel_rfl] at g1
  have hlen2 : xs.length = 2 := hlen
  clear hf hlen
  simp only [List.drop_zero, List.take_succ_cons, List.take_zero, List.drop_succ_cons] at g0 g1
  obtain ⟨y0, hy0⟩ : ∃ y, xs[0]? = some y := ⟨_, List.getElem?_eq_getElem (by rw [hlen2]; decide)⟩
  rw [hy0] at g0
  obtain ⟨y1, hy1⟩ : ∃ y, xs[1]? = some y := ⟨_, List.getElem?_eq_getElem (by rw [hlen2]; decide)⟩
  rw [hy1] at g1
  obtain ⟨e0_0, e0_1, e0_2, e0_3, e0_4, e0_5, d0, t0, hc, ht0⟩ := exr_open n _ _ g0
  injection hc with q0 hc
  injection hc with q1 hc
  injection hc with q2 hc
  injection hc with q3 hc
  injection hc with q4 hc
  injection hc with q5 hc
  subst q0 q1 q2 q3 q4 q5
  obtain ⟨z0k, z0nm, z0m, z0tk, z0ta, z0tn, z0tc, z0sa, z0sn, z0sc, hv0⟩ := ex_parts ht0
  injection hv0 with hv0
  injection hv0 with hv0
  simp only [List.cons.injEq, and_true] at hv0
  obtain ⟨rfl, rfl, rfl, rfl, rfl, rfl⟩ := hv0
  obtain ⟨e1_0, d1, t1, hc, ht1⟩ := path_open n _ _ g1
  injection hc with q0 hc
  subst q0
  obtain ⟨z1a, z1n, z1c, hv1⟩ := path_parts ht1
  subst hv1
  exact ⟨_, _, _, _, _, _, _, d0 + d1, ⟨t0, t1⟩, rfl, ⟨_, _, _, _, _, _, _, _, _, _, _, _, _, rfl, ht0.mono (by omega), ht1.mono (by omega)⟩⟩
set_option maxRecDepth 100000 in
set_option maxHeartbeats 4000000 in
theorem edt_of_arg {H : Type} {enc : TypeId × Value → H} {W : World} {base b0 : Nat} {v : Value} {x : DataW H} {ps : List MemPlace} (hval : Value.okWide Try.prog W .any b0 31 v)
    (h : DataW.Trod enc Try.prog W base (fun _ => true) true 31 v x ps) : ∃ d t, EdtAt W d v t := by
  obtain ⟨cs, rfl, _⟩ := okWide_struct und_edt hval
  obtain ⟨fuel, hf⟩ := h
  have hf2 : DataW.trod enc Try.prog W base (fun _ => true) true fuel 31 cs.toList = some (x, ps) := hf
  obtain ⟨c0, c1, c2, c3, c4, c5, c6, d, t, hcs, ht⟩ := edt_open fuel _ _ hf2
  have e : cs = #[c0, c1, c2, c3, c4, c5, c6] := Array.toList_inj.1 hcs
  subst e
  exact ⟨d, t, ht⟩
end Go.Proofs.Ytmmnjdhmankieaa
