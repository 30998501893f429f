/-
  Proved: a value of the kind Closure that came in as an argument reads as one.
-/
import Derived.Test.YtajikfageppobaaAtClo
import Derived.Test.YtajikfageppobaaEnvOpen
namespace Go.Proofs.Ytajikfageppobaa
open Go.ChangeShapes Go.WideShapes Go.ChangeAt Go.RowKit Go.WideMaps Go.WideElems

theorem und_clo : Try.prog.underlying 48 = some (.struct #[⟨"N", 3, 0, false, "", "", 0⟩, ⟨"Mark", 4, 1, false, "", "", 8⟩, ⟨"Env", 46, 2, false, "", "", 16⟩]) := by kernel_rfl
theorem cells_clo : Try.prog.cellsOf 48 = 3 := by kernel_rfl
theorem list_clo {α : Type} : ∀ (l : List α), l.length = 3 → ∃ c0 c1 c2, l = [c0, c1, c2]
  | [c0, c1, c2], _ => ⟨c0, c1, c2, rfl⟩
set_option maxRecDepth 100000 in
set_option maxHeartbeats 4000000 in
theorem clo_open {H : Type} {enc : TypeId × Value → H} {W : World} {base : Nat} (fuel : Nat) (cs : List Value) (x : DataW H × List MemPlace) (h : DataW.trod enc Try.prog W base (fun _ => true) true fuel 48 cs = some x) :
    ∃ c0 c1 c2 d t, cs = [c0, c1, c2] ∧ CloAt W d (.agg #[c0, c1, c2]) t := by
  obtain ⟨xs, n, rfl, _, hl, hlen, hf⟩ := DataW.trod_struct und_clo h
  rw [cells_clo] at hl
  obtain ⟨c0, c1, c2, rfl⟩ := list_clo cs hl
  have g0 : DataW.trod enc Try.prog W base (fun _ => true) true n 3 (([c0, c1, c2].drop 0).take (Try.prog.cellsOf 3)) = xs[0]? := hf 0 ⟨"N", 3, 0, false, "", "", 0⟩ rfl
  have g1 : DataW.trod enc Try.prog W base (fun _ => true) true n 4 (([c0, c1, c2].drop 1).take (Try.prog.cellsOf 4)) = xs[1]? := hf 1 ⟨"Mark", 4, 1, false, "", "", 8⟩ rfl
  have g2 : DataW.trod enc Try.prog W base (fun _ => true) true n 46 (([c0, c1, c2].drop 2).take (Try.prog.cellsOf 46)) = xs[2]? := hf 2 ⟨"Env", 46, 2, false, "", "", 16⟩ rfl
  rw [show Try.prog.cellsOf 3 = 1 from by kernel_rfl] at g0
  rw [show Try.prog.cellsOf 4 = 1 from by kernel_rfl] at g1
  rw [show Try.prog.cellsOf 46 = 1 from by kernel_rfl] at g2
  have hlen2 : xs.length = 3 := hlen
  clear hf hlen
  simp only [List.drop_zero, List.take_succ_cons, List.take_zero, List.drop_succ_cons] at g0 g1 g2
  obtain ⟨y0, hy0⟩ : ∃ y, xs[0]? = some y := ⟨_, List.getElem?_eq_getElem (by rw [hlen2]; decide)⟩
  rw [hy0] at g0
  obtain ⟨y1, hy1⟩ : ∃ y, xs[1]? = some y := ⟨_, List.getElem?_eq_getElem (by rw [hlen2]; decide)⟩
  rw [hy1] at g1
  obtain ⟨y2, hy2⟩ : ∃ y, xs[2]? = some y := ⟨_, List.getElem?_eq_getElem (by rw [hlen2]; decide)⟩
  rw [hy2] at g2
  obtain ⟨e0_0, d0, t0, hc, ht0⟩ := int_open n _ _ g0
  injection hc with q0 hc
  subst q0
  obtain ⟨z0i, hv0⟩ := int_parts ht0
  subst hv0
  obtain ⟨e1_0, d1, t1, hc, ht1⟩ := bool_open n _ _ g1
  injection hc with q0 hc
  subst q0
  obtain ⟨z1b, hv1⟩ := bool_parts ht1
  subst hv1
  obtain ⟨e2_0, d2, t2, hc, ht2⟩ := env_open n _ _ g2
  injection hc with q0 hc
  subst q0
  obtain ⟨z2a, z2n, z2c, hv2⟩ := env_parts ht2
  subst hv2
  exact ⟨_, _, _, d0 + d1 + d2, ⟨t0, t1, t2⟩, rfl, ⟨_, _, _, _, _, rfl, ht0.mono (by omega), ht1.mono (by omega), ht2.mono (by omega)⟩⟩
set_option maxRecDepth 100000 in
set_option maxHeartbeats 4000000 in
theorem clo_of_arg {H : Type} {enc : TypeId × Value → H} {W : World} {base b0 : Nat} {v : Value} {x : DataW H} {ps : List MemPlace} (hval : Value.okWide Try.prog W .any b0 48 v)
    (h : DataW.Trod enc Try.prog W base (fun _ => true) true 48 v x ps) : ∃ d t, CloAt W d v t := by
  obtain ⟨cs, rfl, _⟩ := okWide_struct und_clo hval
  obtain ⟨fuel, hf⟩ := h
  have hf2 : DataW.trod enc Try.prog W base (fun _ => true) true fuel 48 cs.toList = some (x, ps) := hf
  obtain ⟨c0, c1, c2, d, t, hcs, ht⟩ := clo_open fuel _ _ hf2
  have e : cs = #[c0, c1, c2] := Array.toList_inj.1 hcs
  subst e
  exact ⟨d, t, ht⟩
end Go.Proofs.Ytajikfageppobaa
