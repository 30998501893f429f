/-
  Proved: plain facts on rows of numbers that own their block, with the block's bounds.
-/
import Derived.Test.YtcohfbdhdngplaaOnlyOwn
import Derived.Test.YtcohfbdhdngplaaHold
namespace Go.Proofs.Ytcohfbdhdngplaa
open Go.RowKit

def IntsIn (w : World) (v : Value) (ns : List Int) (lo hi : Nat) : Prop :=
  w.ownsRow lo 3 1 v ns.length (ns.map (Value.int IntKind.i64)) ∧ (∀ k, v.ownBlock = some k → k < hi) ∧ hi ≤ w.heap.size
theorem own_keeps {w w' : World} {B : Nat} {e : TypeId} {size : Nat} {v : Value} {n : Nat} {xs : List Value} (h : w.ownsRow B e size v n xs) (hk : ∀ k, v.ownBlock = some k → w'.heap[k]? = w.heap[k]?) : w'.ownsRow B e size v n xs := by
  refine ⟨h.1, ?_⟩
  rcases h.2 with h | ⟨g, cap, cur, rfl, r1, r2, r3⟩
  · exact Or.inl h
  · exact Or.inr ⟨g, cap, cur, rfl, r1, by rw [hk g rfl]; exact r2, r3⟩
theorem IntsIn.of {w0 w : World} {v : Value} {ns : List Int} (h : w.ownsRow w0.heap.size 3 1 v ns.length (ns.map (Value.int IntKind.i64))) {lo : Nat} (hlo : lo ≤ w0.heap.size) : IntsIn w v ns lo w.heap.size := by
  refine ⟨?_, fun k hk => (h.lt k hk).2, Nat.le_refl _⟩
  refine ⟨h.1, ?_⟩
  rcases h.2 with h | ⟨g, cap, cur, rfl, r1, r2⟩
  · exact Or.inl h
  · exact Or.inr ⟨g, cap, cur, rfl, Nat.le_trans hlo r1, r2⟩
theorem IntsIn.ints {w : World} {v : Value} {ns : List Int} {lo hi : Nat} (h : IntsIn w v ns lo hi) : Ints w v ns := Ints.of_own h.1
theorem IntsIn.below {w w' : World} {v : Value} {ns : List Int} {lo hi : Nat} (h : IntsIn w v ns lo hi) (hb : Below w.heap.size w w') : IntsIn w' v ns lo hi :=
  ⟨own_keeps h.1 fun k hk => hb.block k (h.1.lt k hk).2, h.2.1, Nat.le_trans h.2.2 hb.size⟩
end Go.Proofs.Ytcohfbdhdngplaa
