/-
  Proved: a value of the kind Change that came in as an argument reads as one.
-/
import Derived.Test.YtdgfkmnnjhlpbaaDoorAtChr
import Derived.Test.YtdgfkmnnjhlpbaaDoorArgRPath
import Derived.Test.YtdgfkmnnjhlpbaaDoorRecOpen
namespace Go.Proofs.YtdgfkmnnjhlpbaaDoor
open Go.ChangeShapes Go.WideShapes Go.ChangeAt Go.RowKit Go.WideMaps Go.WideElems

theorem und_chr : Tryd.prog.underlying 94 = some (.struct #[⟨"Path", 73, 0, false, "", "", 0⟩, ⟨"To", 46, 1, false, "", "", 24⟩]) := by kernel_rfl
theorem cells_chr : Tryd.prog.cellsOf 94 = 7 := by kernel_rfl
theorem list_chr {α : Type} : ∀ (l : List α), l.length = 7 → ∃ c0 c1 c2 c3 c4 c5 c6, l = [c0, c1, c2, c3, c4, c5, c6]
  | [c0, c1, c2, c3, c4, c5, c6], _ => ⟨c0, c1, c2, c3, c4, c5, c6, rfl⟩
set_option maxRecDepth 100000 in
set_option maxHeartbeats 4000000 in
theorem chr_open {H : Type} {enc : TypeId × Value → H} {W : World} {base : Nat} (fuel : Nat) (cs : List Value) (x : DataW H × List MemPlace) (h : DataW.trod enc Tryd.prog W base (fun _ => true) true fuel 94 cs = some x) :
    ∃ c0 c1 c2 c3 c4 c5 c6 d t, cs = [c0, c1, c2, c3, c4, c5, c6] ∧ ChrAt W d (.agg #[c0, c1, c2, c3, c4, c5, c6]) t := by
  obtain ⟨xs, n, rfl, _, hl, hlen, hf⟩ := DataW.trod_struct und_chr h
  rw [cells_chr] at hl
  obtain ⟨c0, c1, c2, c3, c4, c5, c6, rfl⟩ := list_chr cs hl
  have g0 : DataW.trod enc Tryd.prog W base (fun _ => true) true n 73 (([c0, c1, c2, c3, c4, c5, c6].drop 0).take (Tryd.prog.cellsOf 73)) = xs[0]? := hf 0 ⟨"Path", 73, 0, false, "", "", 0⟩ rfl
  have g1 : DataW.trod enc Tryd.prog W base (fun _ => true) true n 46 (([c0, c1, c2, c3, c4, c5, c6].drop 1).take (Tryd.prog.cellsOf 46)) = xs[1]? := hf 1 ⟨"To", 46, 1, false, "", "", 24⟩ rfl
  rw [show Tryd.prog.cellsOf 73 = 1 from by kernel_rfl] at g0
  rw [show Tryd.prog.cellsOf 46 = 6 from by kernel_rfl] at g1
  have hlen2 : xs.length = 2 := hlen
  clear hf hlen
  simp only [List.drop_zero, List.take_succ_cons, List.take_zero, List.drop_succ_cons] at g0 g1
  obtain ⟨y0, hy0⟩ : ∃ y, xs[0]? = some y := ⟨_, List.getElem?_eq_getElem (by rw [hlen2]; decide)⟩
  rw [hy0] at g0
  obtain ⟨y1, hy1⟩ : ∃ y, xs[1]? = some y := ⟨_, List.getElem?_eq_getElem (by rw [hlen2]; decide)⟩
  rw [hy1] at g1
  obtain ⟨e0_0, d0, t0, hc, ht0⟩ := rpath_open n _ _ g0
  injection hc with q0 hc
  subst q0
  obtain ⟨z0a, z0n, z0c, hv0⟩ := rpath_parts ht0
  subst hv0
  obtain ⟨e1_0, e1_1, e1_2, e1_3, e1_4, e1_5, d1, t1, hc, ht1⟩ := exr_open n _ _ g1
  injection hc with q0 hc
  injection hc with q1 hc
  injection hc with q2 hc
  injection hc with q3 hc
  injection hc with q4 hc
  injection hc with q5 hc
  subst q0 q1 q2 q3 q4 q5
  obtain ⟨z1k, z1nm, z1m, z1tk, z1ta, z1tn, z1tc, z1sa, z1sn, z1sc, hv1⟩ := ex_parts ht1
  injection hv1 with hv1
  injection hv1 with hv1
  simp only [List.cons.injEq, and_true] at hv1
  obtain ⟨rfl, rfl, rfl, rfl, rfl, rfl⟩ := hv1
  exact ⟨_, _, _, _, _, _, _, d0 + d1, ⟨t0, t1⟩, rfl, ⟨_, _, _, _, _, _, _, _, _, _, _, _, _, rfl, ht0.mono (by omega), ht1.mono (by omega)⟩⟩
set_option maxRecDepth 100000 in
set_option maxHeartbeats 4000000 in
theorem chr_of_arg {H : Type} {enc : TypeId × Value → H} {W : World} {base b0 : Nat} {v : Value} {x : DataW H} {ps : List MemPlace} (hval : Value.okWide Tryd.prog W .any b0 94 v)
    (h : DataW.Trod enc Tryd.prog W base (fun _ => true) true 94 v x ps) : ∃ d t, ChrAt W d v t := by
  obtain ⟨cs, rfl, _⟩ := okWide_struct und_chr hval
  obtain ⟨fuel, hf⟩ := h
  have hf2 : DataW.trod enc Tryd.prog W base (fun _ => true) true fuel 94 cs.toList = some (x, ps) := hf
  obtain ⟨c0, c1, c2, c3, c4, c5, c6, d, t, hcs, ht⟩ := chr_open fuel _ _ hf2
  have e : cs = #[c0, c1, c2, c3, c4, c5, c6] := Array.toList_inj.1 hcs
  subst e
  exact ⟨d, t, ht⟩
end Go.Proofs.YtdgfkmnnjhlpbaaDoor
