/-
  Proved: a statement whose order Go leaves open, whose operations only read old memory and whose calls leave old memory as it was and answer with plain values, may be walked once, in the order of the text.
-/
import Derived.Test.YtefoenkmppeidaaHold
import Derived.BigQuiet
namespace Go.Proofs.Ytefoenkmppeidaa
open Go.RowKit

/-- A world that has grown out of w: below B all is as it was. -/
structure Grown (B : Nat) (w : World) where
  val : World
  old : Below B w val
instance (B : Nat) (w : World) : Nonempty (Grown B w) := ⟨⟨w, Below.refl _ _⟩⟩
theorem wp_region_grown {P : Program} {id : Nat} {Q : Exit → Act → World → Prop} {a : Act} {w : World} {l : List Oper} (B : Nat) (hm : P.follows .mixedOrders = true) (hB : Region.lexB .any l.toArray = true)
    (h : wpQuiet P l.toArray (fun w' => ∃ n : Grown B w, w' = n.val) (fun a' => ∀ w', (∃ n : Grown B w, w' = n.val) → Q .normal a' w') l a) : (Code.region id l.toArray true).wp P Q a w :=
  wp_region_quiet (C := fun w' => ∃ n : Grown B w, w' = n.val) hm hB ⟨⟨{ w with drawn := w.drawn + 1 }, (Below.refl _ _).drew⟩, rfl⟩ (by simpa using h)
theorem grown_of {P : Program} {f : FuncId} {args : Array Value} {B : Nat} {w : World} {n : Grown B w} {v : Value} (hB : B ≤ w.heap.size)
    (h : Calls P f args n.val fun e w' => e = .returned v ∧ Below n.val.heap.size n.val w') : Calls P f args n.val fun e w'' => e = .returned v ∧ ∃ m : Grown B w, w'' = m.val :=
  h.mono fun _ w'' ⟨he, hb⟩ => ⟨he, ⟨w'', below_thru n.old hB hb⟩, rfl⟩
theorem BoxAt.grown {w : World} {p : Nat} {cs : Array Value} (h : BoxAt w p cs) (n : Grown w.heap.size w) : BoxAt n.val p cs := h.below n.old
end Go.Proofs.Ytefoenkmppeidaa
