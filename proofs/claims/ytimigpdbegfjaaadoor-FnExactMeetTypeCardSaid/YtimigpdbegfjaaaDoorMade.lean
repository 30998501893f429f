/-
  Proved: plain facts on a variable that holds a new tree: its block was made before or after the tree's blocks.
-/
import Derived.Test.YtimigpdbegfjaaaDoorOwnIn
import Derived.Test.YtimigpdbegfjaaaDoorTwo
namespace Go.Proofs.YtimigpdbegfjaaaDoor
open Go.RowKit

theorem BoxAt.put {w : World} {p j : Nat} {u : Value} {cs : Array Value} (h : BoxAt w p cs) (hj : j < cs.size) : BoxAt (w.setCell ⟨p, j, none⟩ u) p (cs.setIfInBounds j u) := by
  refine ⟨by simpa using h.1, fun i => ?_⟩
  by_cases e : i = j
  · subst e
    have hi := h.2 i
    rw [Array.getElem?_eq_getElem hj] at hi
    simp [go_sem, hi, hj]
  · have hi := h.2 i
    rw [Array.getElem?_setIfInBounds_ne (fun h => e h.symm), ← hi]
    simp [go_sem]
/-- The variable s holds the tree t, all of it made since w. -/
def MadeAt (w : World) (D : Nat) (t : Ty) (s : Value) (wx : World) : Prop :=
  ∃ p k a n c, s = .pointer (some ⟨p, 0, none⟩) ∧ w.heap.size ≤ p ∧ BoxAt wx p #[.int .i64 k, .slice a n c] ∧ OwnIn wx D (.agg #[.int .i64 k, .slice a n c]) t w.heap.size wx.heap.size ∧ Below w.heap.size w wx
theorem OwnIn.wide {w : World} {d : Nat} {v : Value} {t : Ty} {lo hi lo2 hi2 : Nat} (h : OwnIn w d v t lo hi) (h1 : lo2 ≤ lo) (h2 : hi ≤ hi2) (h3 : hi2 ≤ w.heap.size) : OwnIn w d v t lo2 hi2 := by
  obtain ⟨fp, h, hf, _⟩ := h
  exact ⟨fp, h, hf.mono h1 h2, h3⟩
theorem made_new {w w8 : World} {D : Nat} {t : Ty} {k : Int} {a : Option Addr} {n c lo : Nat} {T : TypeId} (G : Below w.heap.size w w8) (Ho : OwnIn w8 D (.agg #[.int .i64 k, .slice a n c]) t lo w8.heap.size) (hlo : w.heap.size ≤ lo) :
    MadeAt w D t (.pointer (some ⟨w8.heap.size, 0, none⟩)) (w8.alloc (.cells #[.int .i64 k, .slice a n c] T)) :=
  ⟨w8.heap.size, k, a, n, c, rfl, G.size, BoxAt.new _ _ _, (Ho.below (below_alloc _ _)).wide hlo (by simp) (Nat.le_refl _), G.alloc G.size _⟩
theorem made_old {w w8 : World} {D : Nat} {t : Ty} {k : Int} {a : Option Addr} {n c lo p : Nat} (G : Below w.heap.size w w8) (Ho : OwnIn w8 D (.agg #[.int .i64 k, .slice a n c]) t lo w8.heap.size) (hlo : w.heap.size ≤ lo)
    (hP : w.heap.size ≤ p) (hp : p < lo) (X : BoxAt w8 p #[.int .i64 0, .slice none 0 0]) :
    MadeAt w D t (.pointer (some ⟨p, 0, none⟩)) ((w8.setCell ⟨p, 0, none⟩ (.int .i64 k)).setCell ⟨p, 1, none⟩ (.slice a n c)) := by
  refine ⟨p, k, a, n, c, rfl, hP, ?_, ?_, (G.setCell hP _).setCell hP _⟩
  · have h1 := X.put (j := 0) (u := .int .i64 k) (by simp)
    have h2 := h1.put (j := 1) (u := .slice a n c) (by simp)
    simpa using h2
  · obtain ⟨fp, h, hf, _⟩ := Ho
    refine ⟨fp, h.kept (by simp) fun b hb => ?_, hf.mono hlo (by simp), Nat.le_refl _⟩
    have := (hf.2 b hb).1
    rw [heap_setCell_other _ _ _ _ (by simp; omega), heap_setCell_other _ _ _ _ (by simp; omega)]
end Go.Proofs.YtimigpdbegfjaaaDoor
