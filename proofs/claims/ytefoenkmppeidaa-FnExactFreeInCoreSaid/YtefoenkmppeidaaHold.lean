/-
  Proved: plain facts on what a law carries through its calls: boxes, trees with blocks of their own.
-/
import Derived.Test.YtefoenkmppeidaaOwnTree
namespace Go.Proofs.Ytefoenkmppeidaa
open Go.RowKit

/-- Block p holds the cells cs from its beginning on. -/
def BoxAt (w : World) (p : Nat) (cs : Array Value) : Prop := p < w.heap.size ∧ ∀ j, w.cell? ⟨p, j, none⟩ = cs[j]?
theorem BoxAt.below {w w' : World} {p : Nat} {cs : Array Value} (h : BoxAt w p cs) (hb : Below w.heap.size w w') : BoxAt w' p cs :=
  ⟨Nat.lt_of_lt_of_le h.1 hb.size, fun j => (hb.cell (p := ⟨p, j, none⟩) h.1).trans (h.2 j)⟩
theorem BoxAt.kept {w w' : World} {p : Nat} {cs : Array Value} (h : BoxAt w p cs) (hz : w.heap.size ≤ w'.heap.size) (hk : w'.heap[p]? = w.heap[p]?) : BoxAt w' p cs :=
  ⟨Nat.lt_of_lt_of_le h.1 hz, fun j => (World.cell?_of_block hk).trans (h.2 j)⟩
theorem BoxAt.new (w : World) (cs : Array Value) (T : TypeId) : BoxAt (w.alloc (.cells cs T)) w.heap.size cs :=
  ⟨by simp, fun j => World.cell?_alloc_mark w cs T (0, 0) j⟩
theorem TyOwn.below {w w' : World} {d : Nat} {v : Value} {t : Ty} {fp : List Nat} (h : TyOwn w d v t fp) (hb : Below w.heap.size w w') : TyOwn w' d v t fp :=
  h.kept hb.size fun b hf => hb.block b (h.lt b hf)
theorem below_alloc (w : World) (o : Obj) : Below w.heap.size w (w.alloc o) := (Below.refl _ _).alloc (Nat.le_refl _) _
theorem below_drew (w : World) : Below w.heap.size w w.drew := (Below.refl _ _).drew
theorem below_thru {B : Nat} {w w1 w2 : World} (h : Below B w w1) (hB : B ≤ w.heap.size) (h2 : Below w1.heap.size w1 w2) : Below B w w2 :=
  h.trans (h2.mono (Nat.le_trans hB h.size))
theorem below_on {B : Nat} {w w1 w2 : World} (h : Below B w w1) (h2 : Below w1.heap.size w1 w2) (hB : B ≤ w1.heap.size) : Below B w w2 :=
  h.trans (h2.mono hB)
end Go.Proofs.Ytefoenkmppeidaa
