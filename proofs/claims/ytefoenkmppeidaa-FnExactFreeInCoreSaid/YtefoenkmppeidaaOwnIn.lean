/-
  Proved: laws.markType and laws.heldType on trees that own their blocks, with the blocks' bounds.
-/
import Derived.Test.YtefoenkmppeidaaOwnInD
import Derived.Test.YtefoenkmppeidaaHeldType
namespace Go.Proofs.Ytefoenkmppeidaa
open Go.RowKit

theorem markOwn (B d : Nat) (v : Value) (t : Ty) (lo hi : Nat) (k : Int) (w : World) (hB : B ≤ lo) (hBw : B ≤ w.heap.size) (hk0 : 0 ≤ k) (hk1 : k + t.size ≤ 1099511627776) (h : OwnIn w d v t lo hi) :
    Calls Try.prog 49 #[v, .int .i64 k] w fun e w' => e = .returned (.int .i64 (k + (t.size - 1 : Nat))) ∧ OwnIn w' d v (t.markIn k) lo hi ∧ Below B w w' ∧ Kept lo hi w w' := by
  obtain ⟨fp, h, hf, hz⟩ := h
  refine (markTy B d v t fp k w hBw (fun b hb => by have := (hf.2 b hb).1; omega) hf.1 hk0 hk1 h).mono ?_
  rintro e w' ⟨rfl, h1, h2, h3⟩
  exact ⟨rfl, ⟨fp, h1, hf, Nat.le_trans hz h2.size⟩, h2, h2.size, fun b h4 h5 => h3 b h4 fun hm => by have := hf.2 b hm; omega⟩
theorem heldOwn (d : Nat) (v : Value) (t : Ty) (lo hi : Nat) (k : Int) (w : World) (hk0 : 0 ≤ k) (hk1 : k + t.size ≤ 1099511627776) (h : OwnIn w d v (t.markIn k) lo hi) :
    Calls Try.prog 51 #[v, .int .i64 k] w fun e w' => e = .returned (.int .i64 (k + (t.size - 1 : Nat))) ∧ Below w.heap.size w w' :=
  (heldTy d v t k w hk0 hk1 h.at_).mono fun _ _ h => h
end Go.Proofs.Ytefoenkmppeidaa
