/-
  Proved: paths and expressions that came in with an argument read as such.
-/
import Derived.Test.YtdgfkmnnjhlpbaaDoorRecBase
import Derived.Test.YtdgfkmnnjhlpbaaDoorExprArg
import Derived.Test.YtdgfkmnnjhlpbaaDoorIntsArg
namespace Go.Proofs.YtdgfkmnnjhlpbaaDoor
open Go.ChangeShapes Go.WideShapes Go.ChangeAt Go.RowKit Go.WideMaps Go.WideElems

theorem path_open {H : Type} {enc : TypeId × Value → H} {W : World} {base : Nat} (fuel : Nat) (cs : List Value) (x : DataW H × List MemPlace) (h : DataW.trod enc Tryd.prog W base (fun _ => true) true fuel 73 cs = some x) :
    ∃ c0 d t, cs = [c0] ∧ PathAt W d c0 t := by
  have cells : Tryd.prog.cellsOf 3 = 1 := by kernel_rfl
  rcases open_ints Tryd.underlying73 Tryd.underlying3 cells h with ⟨hcs, hx⟩ | ⟨a, len', cap', ss, hcs, _, hl, hm, hz, hx, hcell, hws⟩
  · exact ⟨_, 0, [], hcs, Ints.nil _ _, by simp⟩
  · simp at hz
    have hlen : (ss.take len').length = len' := by rw [List.length_take]; omega
    refine ⟨_, 0, ss.take len', hcs, ?_, by unfold maxLen at hm; omega⟩
    refine ⟨some a, cap', by rw [hlen], by omega, fun j hj => ?_⟩
    obtain ⟨b, off, spot⟩ := a
    have hspot : spot = none := by simpa [Addr.add] using World.cell?_spot (hcell 0 (by omega))
    subst hspot
    have hj' : j < ss.length := by omega
    have hc := hcell j hj'
    rw [addr_add] at hc
    refine ⟨b, off, rfl, ?_, ?_⟩
    · by_cases hlt : b < W.heap.size
      · exact hlt
      · exfalso
        simp [World.cell?, Array.getElem?_eq_none (Nat.le_of_not_lt hlt)] at hc
    · rw [hc]
      simp [List.getD, hj']
theorem exr_open {H : Type} {enc : TypeId × Value → H} {W : World} {base : Nat} (fuel : Nat) (cs : List Value) (x : DataW H × List MemPlace) (h : DataW.trod enc Tryd.prog W base (fun _ => true) true fuel 46 cs = some x) :
    ∃ c0 c1 c2 c3 c4 c5 d t, cs = [c0, c1, c2, c3, c4, c5] ∧ ExAt W d (.agg #[c0, c1, c2, c3, c4, c5]) t := by
  obtain ⟨c0, c1, c2, c3, c4, c5, t, hc, ht⟩ := lex_open fuel _ _ h
  exact ⟨_, _, _, _, _, _, fuel, t, hc, ht⟩
end Go.Proofs.YtdgfkmnnjhlpbaaDoor
