/-
  Proved: plain facts on rows of numbers that own their block, with the block's bounds; laws.markIntS on such rows.
-/
import Derived.Test.YtadjaclmgdmnbaaMarkInts
import Derived.Test.YtadjaclmgdmnbaaOwnIn
namespace Go.Proofs.Ytadjaclmgdmnbaa
open Go.RowKit

def IntsIn (w : World) (v : Value) (ns : List Int) (lo hi : Nat) : Prop :=
  w.ownsRow lo 3 1 v ns.length (ns.map (Value.int IntKind.i64)) ∧ (∀ k, v.ownBlock = some k → k < hi) ∧ hi ≤ w.heap.size
theorem own_keeps {w w' : World} {B : Nat} {e : TypeId} {size : Nat} {v : Value} {n : Nat} {xs : List Value} (h : w.ownsRow B e size v n xs) (hk : ∀ k, v.ownBlock = some k → w'.heap[k]? = w.heap[k]?) : w'.ownsRow B e size v n xs := by
  refine ⟨h.1, ?_⟩
  rcases h.2 with h | ⟨g, cap, cur, rfl, r1, r2, r3⟩
  · exact Or.inl h
  · exact Or.inr ⟨g, cap, cur, rfl, r1, by rw [hk g rfl]; exact r2, r3⟩
theorem IntsIn.of {w0 w : World} {v : Value} {ns : List Int} (h : w.ownsRow w0.heap.size 3 1 v ns.length (ns.map (Value.int IntKind.i64))) {lo : Nat} (hlo : lo ≤ w0.heap.size) : IntsIn w v ns lo w.heap.size := by
  refine ⟨?_, fun k hk => (h.lt k hk).2, Nat.le_refl _⟩
  refine ⟨h.1, ?_⟩
  rcases h.2 with h | ⟨g, cap, cur, rfl, r1, r2⟩
  · exact Or.inl h
  · exact Or.inr ⟨g, cap, cur, rfl, Nat.le_trans hlo r1, r2⟩
theorem IntsIn.ints {w : World} {v : Value} {ns : List Int} {lo hi : Nat} (h : IntsIn w v ns lo hi) : Ints w v ns := Ints.of_own h.1
theorem IntsIn.below {w w' : World} {v : Value} {ns : List Int} {lo hi : Nat} (h : IntsIn w v ns lo hi) (hb : Below w.heap.size w w') : IntsIn w' v ns lo hi :=
  ⟨own_keeps h.1 fun k hk => hb.block k (h.1.lt k hk).2, h.2.1, Nat.le_trans h.2.2 hb.size⟩
theorem IntsIn.beside {w w' : World} {v : Value} {ns : List Int} {lo hi lo2 hi2 : Nat} (h : IntsIn w v ns lo hi) (k : Kept lo2 hi2 w w') (hd : hi ≤ lo2 ∨ hi2 ≤ lo) : IntsIn w' v ns lo hi :=
  ⟨own_keeps h.1 fun b hb => k.2 b (h.1.lt b hb).2 (by have h1 := h.2.1 b hb; have h2 := (h.1.lt b hb).1; omega), h.2.1, Nat.le_trans h.2.2 k.1⟩
theorem markIntsIn (B : Nat) (v : Value) (ns : List Int) (lo hi : Nat) (k : Int) (w : World) (hB : B ≤ lo) (hk0 : 0 ≤ k) (hk1 : k ≤ 1099511627776) (hn : ns.length ≤ 4194304) (h : IntsIn w v ns lo hi) :
    Calls Try.prog 17 #[v, .int .i64 k] w fun e w' => e = .returned (.int .i64 (k + ns.length)) ∧ IntsIn w' v (imarks k ns.length) lo hi ∧ Below B w w' ∧ Kept lo hi w w' := by
  obtain ⟨ho, hu, hz⟩ := h
  refine (markInts lo v ns.length _ k hk0 hk1 hn w ho).mono ?_
  rintro e w' ⟨rfl, h1, h2, h3⟩
  refine ⟨rfl, ⟨by rw [imarks_length]; exact h1, hu, Nat.le_trans hz h2.size⟩, h2.mono hB, h3.1, fun b b1 b2 => h3.2 b b1 fun e => ?_⟩
  have q1 := hu b e
  have q2 := (ho.lt b e).1
  omega
theorem heldIntsIn (v : Value) (ns : List Int) (lo hi : Nat) (k : Int) (w : World) (hk0 : 0 ≤ k) (hk1 : k ≤ 1099511627776) (hn : ns.length ≤ 4194304) (h : IntsIn w v (imarks k ns.length) lo hi) :
    Calls Try.prog 18 #[v, .int .i64 k] w fun e w' => e = .returned (.int .i64 (k + ns.length)) ∧ Below w.heap.size w w' :=
  heldInts v ns.length k hk0 hk1 hn w h.ints
end Go.Proofs.Ytadjaclmgdmnbaa
