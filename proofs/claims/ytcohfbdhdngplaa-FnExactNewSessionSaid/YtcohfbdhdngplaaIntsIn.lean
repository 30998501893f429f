/-
  Proved: plain facts on rows of numbers that own their block, with the block's bounds; laws.markIntS on such rows.
-/
import Derived.Test.YtcohfbdhdngplaaIntsRow
import Derived.Test.YtcohfbdhdngplaaMarkInts
import Derived.Test.YtcohfbdhdngplaaOwnIn
namespace Go.Proofs.Ytcohfbdhdngplaa
open Go.RowKit

theorem IntsIn.beside {w w' : World} {v : Value} {ns : List Int} {lo hi lo2 hi2 : Nat} (h : IntsIn w v ns lo hi) (k : Kept lo2 hi2 w w') (hd : hi ≤ lo2 ∨ hi2 ≤ lo) : IntsIn w' v ns lo hi :=
  ⟨own_keeps h.1 fun b hb => k.2 b (h.1.lt b hb).2 (by have h1 := h.2.1 b hb; have h2 := (h.1.lt b hb).1; omega), h.2.1, Nat.le_trans h.2.2 k.1⟩
theorem markIntsIn (B : Nat) (v : Value) (ns : List Int) (lo hi : Nat) (k : Int) (w : World) (hB : B ≤ lo) (hk0 : 0 ≤ k) (hk1 : k ≤ 1099511627776) (hn : ns.length ≤ 4194304) (h : IntsIn w v ns lo hi) :
    Calls Try.prog 97 #[v, .int .i64 k] w fun e w' => e = .returned (.int .i64 (k + ns.length)) ∧ IntsIn w' v (imarks k ns.length) lo hi ∧ Below B w w' ∧ Kept lo hi w w' := by
  obtain ⟨ho, hu, hz⟩ := h
  refine (markInts lo v ns.length _ k hk0 hk1 hn w ho).mono ?_
  rintro e w' ⟨rfl, h1, h2, h3⟩
  refine ⟨rfl, ⟨by rw [imarks_length]; exact h1, hu, Nat.le_trans hz h2.size⟩, h2.mono hB, h3.1, fun b b1 b2 => h3.2 b b1 fun e => ?_⟩
  have q1 := hu b e
  have q2 := (ho.lt b e).1
  omega
theorem heldIntsIn (v : Value) (ns : List Int) (lo hi : Nat) (k : Int) (w : World) (hk0 : 0 ≤ k) (hk1 : k ≤ 1099511627776) (hn : ns.length ≤ 4194304) (h : IntsIn w v (imarks k ns.length) lo hi) :
    Calls Try.prog 99 #[v, .int .i64 k] w fun e w' => e = .returned (.int .i64 (k + ns.length)) ∧ Below w.heap.size w w' :=
  heldInts v ns.length k hk0 hk1 hn w h.ints
end Go.Proofs.Ytcohfbdhdngplaa
