/-
  Proved: the two tables that the text of an action reads, and how a row's condition gives them.
-/
import Derived.Test.YtdgfkmnnjhlpbaaDoorActTab
import Derived.Test.YtdgfkmnnjhlpbaaDoorImplPathText
namespace Go.Proofs.YtdgfkmnnjhlpbaaDoor
open Go.RowKit Go.ChangeShapes Go.WideShapes Go.ChangeAt

def ActTabs (w : World) : Prop := WordsAt w ∧ Pow10At w
theorem ActTabs.below {w w' : World} (h : ActTabs w) (hb : Below w.heap.size w w') : ActTabs w' := ⟨h.1.below hb, h.2.below hb⟩
set_option maxRecDepth 100000 in
theorem words_of {W : World} (h : laidMet Tryd.prog [("loop.example/g00585/impl.actionWords", Rows.laid_loop_example_g00585_impl_actionWords)] W) : WordsAt W := by
  have hg : Tryd.prog.globalNamed "loop.example/g00585/impl.actionWords" = some 0 := by kernel_rfl
  have hty : (Tryd.prog.globals[0]?).map (·.type) = some 86 := by kernel_rfl
  obtain ⟨ps, ⟨g', t', cs, fuel, p, q, hg', ht', hvar, hd, _, _⟩, _⟩ := h
  obtain rfl := Option.some.inj (hg.symm.trans hg')
  obtain rfl := Option.some.inj (hty.symm.trans ht')
  have hc : ∀ off, W.cell? ⟨0, off, none⟩ = cs.toList[off]? := fun off => by have := World.var?_cell hg hvar off; simpa using this
  have key := cells_of_strs (zs := ⟨#[]⟩ :: actWords) Tryd.underlying86 Tryd.underlying9 (by kernel_rfl) (by kernel_rfl) hd
  have all : ∀ k : Nat, 1 ≤ k → k ≤ 20 → W.cell? ⟨0, k, none⟩ = some (.string (actWord k)) := fun k h1 h2 => by
    rw [hc]
    have hk : k < (⟨#[]⟩ :: actWords).length := by simp; omega
    rw [key k hk]
    obtain ⟨j, rfl⟩ : ∃ j, k = j + 1 := ⟨k - 1, by omega⟩
    have hj : j < actWords.length := by simp; omega
    unfold actWord
    rw [Nat.add_sub_cancel, List.getD_eq_getElem?_getD, List.getElem?_eq_getElem hj]
    rfl
  refine ⟨?_, all⟩
  have h1 := all 1 (by decide) (by decide)
  by_cases hlt : 0 < W.heap.size
  · exact hlt
  · exfalso
    rw [World.cell?] at h1
    simp [Array.getElem?_eq_none (Nat.le_of_not_lt hlt)] at h1
end Go.Proofs.YtdgfkmnnjhlpbaaDoor
