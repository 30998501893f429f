/-
  Proved: plain facts on rows of strings that own their block, with the block's bounds; laws.markStringS and heldStringS on such rows.
-/
import Derived.Test.YtefoenkmppeidaaMarkStrsO
import Derived.Test.YtefoenkmppeidaaOwnIn
namespace Go.Proofs.Ytefoenkmppeidaa
open Go.RowKit

def StrsIn (w : World) (v : Value) (ns : List ByteArray) (lo hi : Nat) : Prop :=
  w.ownsRow lo 9 1 v ns.length (ns.map Value.string) ∧ (∀ k, v.ownBlock = some k → k < hi) ∧ hi ≤ w.heap.size
theorem srow_keeps {w w' : World} {B : Nat} {e : TypeId} {size : Nat} {v : Value} {n : Nat} {xs : List Value} (h : w.ownsRow B e size v n xs) (hk : ∀ k, v.ownBlock = some k → w'.heap[k]? = w.heap[k]?) : w'.ownsRow B e size v n xs := by
  refine ⟨h.1, ?_⟩
  rcases h.2 with h | ⟨g, cap, cur, rfl, r1, r2, r3⟩
  · exact Or.inl h
  · exact Or.inr ⟨g, cap, cur, rfl, r1, by rw [hk g rfl]; exact r2, r3⟩
theorem StrsIn.of {w0 w : World} {v : Value} {ns : List ByteArray} (h : w.ownsRow w0.heap.size 9 1 v ns.length (ns.map Value.string)) {lo : Nat} (hlo : lo ≤ w0.heap.size) : StrsIn w v ns lo w.heap.size := by
  refine ⟨?_, fun k hk => (h.lt k hk).2, Nat.le_refl _⟩
  refine ⟨h.1, ?_⟩
  rcases h.2 with h | ⟨g, cap, cur, rfl, r1, r2⟩
  · exact Or.inl h
  · exact Or.inr ⟨g, cap, cur, rfl, Nat.le_trans hlo r1, r2⟩
theorem StrsIn.strs {w : World} {v : Value} {ns : List ByteArray} {lo hi : Nat} (h : StrsIn w v ns lo hi) : Strs w v ns := Strs.of_own h.1
theorem StrsIn.below {w w' : World} {v : Value} {ns : List ByteArray} {lo hi : Nat} (h : StrsIn w v ns lo hi) (hb : Below w.heap.size w w') : StrsIn w' v ns lo hi :=
  ⟨srow_keeps h.1 fun k hk => hb.block k (h.1.lt k hk).2, h.2.1, Nat.le_trans h.2.2 hb.size⟩
theorem StrsIn.beside {w w' : World} {v : Value} {ns : List ByteArray} {lo hi lo2 hi2 : Nat} (h : StrsIn w v ns lo hi) (k : Kept lo2 hi2 w w') (hd : hi ≤ lo2 ∨ hi2 ≤ lo) : StrsIn w' v ns lo hi :=
  ⟨srow_keeps h.1 fun b hb => k.2 b (h.1.lt b hb).2 (by have h1 := h.2.1 b hb; have h2 := (h.1.lt b hb).1; omega), h.2.1, Nat.le_trans h.2.2 k.1⟩
theorem markStrsIn (B : Nat) (v : Value) (ns : List ByteArray) (lo hi : Nat) (w : World) (hB : B ≤ lo) (hlo : lo ≤ w.heap.size) (hn : ns.length ≤ 4194304) (h : StrsIn w v ns lo hi) :
    Calls Try.prog 31 #[v, .int .i64 1] w fun e w' => e = .returned (.int .i64 (1 + ns.length)) ∧ StrsIn w' v (marks 1 ns.length) lo hi ∧ Below B w w' ∧ Kept lo hi w w' := by
  obtain ⟨ho, hu, hz⟩ := h
  refine (markStrsO lo v ns.length _ 1 (by omega) (by omega) hn w hlo ho).mono ?_
  rintro e w' ⟨rfl, h1, h2, h3⟩
  refine ⟨rfl, ⟨by rw [marks_length]; exact h1, hu, Nat.le_trans hz h2.size⟩, h2.mono hB, h3.1, fun b b1 b2 => h3.2 b b1 fun e => ?_⟩
  have q1 := hu b e
  have q2 := (ho.lt b e).1
  omega
theorem markStrsAt (B : Nat) (v : Value) (ns : List ByteArray) (lo hi : Nat) (k : Int) (w : World) (hB : B ≤ lo) (hlo : lo ≤ w.heap.size) (hk0 : 0 < k) (hk1 : k ≤ 4194304) (hn : ns.length ≤ 4194304) (h : StrsIn w v ns lo hi) :
    Calls Try.prog 31 #[v, .int .i64 k] w fun e w' => e = .returned (.int .i64 (k + ns.length)) ∧ StrsIn w' v (marks k ns.length) lo hi ∧ Below B w w' ∧ Kept lo hi w w' := by
  obtain ⟨ho, hu, hz⟩ := h
  refine (markStrsO lo v ns.length _ k hk0 hk1 hn w hlo ho).mono ?_
  rintro e w' ⟨rfl, h1, h2, h3⟩
  refine ⟨rfl, ⟨by rw [marks_length]; exact h1, hu, Nat.le_trans hz h2.size⟩, h2.mono hB, h3.1, fun b b1 b2 => h3.2 b b1 fun e => ?_⟩
  have q1 := hu b e
  have q2 := (ho.lt b e).1
  omega
theorem heldStrsIn (v : Value) (n : Nat) (lo hi : Nat) (w : World) (hn : n ≤ 4194304) (h : StrsIn w v (marks 1 n) lo hi) :
    Calls Try.prog 32 #[v, .int .i64 1] w fun e w' => e = .returned (.int .i64 (1 + n)) ∧ Below w.heap.size w w' :=
  heldStrs v n 1 (by omega) (by omega) hn w h.strs
end Go.Proofs.Ytefoenkmppeidaa
