/-
  Proved: a value of the kind Conflict that came in as an argument reads as one.
-/
import Derived.Test.YtajikfageppobaaAtCfl
import Derived.Test.YtajikfageppobaaRecOpen
namespace Go.Proofs.Ytajikfageppobaa
open Go.ChangeShapes Go.WideShapes Go.ChangeAt Go.RowKit Go.WideMaps Go.WideElems

theorem und_cfl : Try.prog.underlying 100 = some (.struct #[⟨"Ours", 24, 0, false, "", "", 0⟩, ⟨"Theirs", 24, 1, false, "", "", 24⟩]) := by kernel_rfl
theorem cells_cfl : Try.prog.cellsOf 100 = 2 := by kernel_rfl
theorem list_cfl {α : Type} : ∀ (l : List α), l.length = 2 → ∃ c0 c1, l = [c0, c1]
  | [c0, c1], _ => ⟨c0, c1, rfl⟩
set_option maxRecDepth 100000 in
set_option maxHeartbeats 4000000 in
theorem cfl_open {H : Type} {enc : TypeId × Value → H} {W : World} {base : Nat} (fuel : Nat) (cs : List Value) (x : DataW H × List MemPlace) (h : DataW.trod enc Try.prog W base (fun _ => true) true fuel 100 cs = some x) :
    ∃ c0 c1 d t, cs = [c0, c1] ∧ CflAt W d (.agg #[c0, c1]) t := by
  obtain ⟨xs, n, rfl, _, hl, hlen, hf⟩ := DataW.trod_struct und_cfl h
  rw [cells_cfl] at hl
  obtain ⟨c0, c1, rfl⟩ := list_cfl cs hl
  have g0 : DataW.trod enc Try.prog W base (fun _ => true) true n 24 (([c0, c1].drop 0).take (Try.prog.cellsOf 24)) = xs[0]? := hf 0 ⟨"Ours", 24, 0, false, "", "", 0⟩ rfl
  have g1 : DataW.trod enc Try.prog W base (fun _ => true) true n 24 (([c0, c1].drop 1).take (Try.prog.cellsOf 24)) = xs[1]? := hf 1 ⟨"Theirs", 24, 1, false, "", "", 24⟩ rfl
  rw [show Try.prog.cellsOf 24 = 1 from by kernel_rfl] at g0
  rw [show Try.prog.cellsOf 24 = 1 from by kernel_rfl] at g1
  have hlen2 : xs.length = 2 := hlen
  clear hf hlen
  simp only [List.drop_zero, List.take_succ_cons, List.take_zero, List.drop_succ_cons] at g0 g1
  obtain ⟨y0, hy0⟩ : ∃ y, xs[0]? = some y := ⟨_, List.getElem?_eq_getElem (by rw [hlen2]; decide)⟩
  rw [hy0] at g0
  obtain ⟨y1, hy1⟩ : ∃ y, xs[1]? = some y := ⟨_, List.getElem?_eq_getElem (by rw [hlen2]; decide)⟩
  rw [hy1] at g1
  obtain ⟨e0_0, d0, t0, hc, ht0⟩ := path_open n _ _ g0
  injection hc with q0 hc
  subst q0
  obtain ⟨z0a, z0n, z0c, hv0⟩ := path_parts ht0
  subst hv0
  obtain ⟨e1_0, d1, t1, hc, ht1⟩ := path_open n _ _ g1
  injection hc with q0 hc
  subst q0
  obtain ⟨z1a, z1n, z1c, hv1⟩ := path_parts ht1
  subst hv1
  exact ⟨_, _, d0 + d1, ⟨t0, t1⟩, rfl, ⟨_, _, _, _, _, _, rfl, ht0.mono (by omega), ht1.mono (by omega)⟩⟩
set_option maxRecDepth 100000 in
set_option maxHeartbeats 4000000 in
theorem cfl_of_arg {H : Type} {enc : TypeId × Value → H} {W : World} {base b0 : Nat} {v : Value} {x : DataW H} {ps : List MemPlace} (hval : Value.okWide Try.prog W .any b0 100 v)
    (h : DataW.Trod enc Try.prog W base (fun _ => true) true 100 v x ps) : ∃ d t, CflAt W d v t := by
  obtain ⟨cs, rfl, _⟩ := okWide_struct und_cfl hval
  obtain ⟨fuel, hf⟩ := h
  have hf2 : DataW.trod enc Try.prog W base (fun _ => true) true fuel 100 cs.toList = some (x, ps) := hf
  obtain ⟨c0, c1, d, t, hcs, ht⟩ := cfl_open fuel _ _ hf2
  have e : cs = #[c0, c1] := Array.toList_inj.1 hcs
  subst e
  exact ⟨d, t, ht⟩
end Go.Proofs.Ytajikfageppobaa
