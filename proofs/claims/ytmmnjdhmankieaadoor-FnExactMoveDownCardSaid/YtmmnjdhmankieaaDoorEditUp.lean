/-
  Proved: an edit that lies in blocks of its own, also after cells of older memory are set.
-/
import Derived.Test.YtmmnjdhmankieaaDoorEditAt
import Derived.Test.YtmmnjdhmankieaaDoorHold
namespace Go.Proofs.YtmmnjdhmankieaaDoor
open Go.RowKit

/-- In each later world that keeps the blocks from B to the size of w, the value v reads as the edit a. -/
def EditUp (B : Nat) (w : World) (d : Nat) (v : Value) (a : Edi) : Prop :=
  ∀ w2 : World, w.heap.size ≤ w2.heap.size → (∀ b, B ≤ b → b < w.heap.size → w2.heap[b]? = w.heap[b]?) → EditAt w2 d v a
theorem EditUp.at_ {B : Nat} {w : World} {d : Nat} {v : Value} {a : Edi} (h : EditUp B w d v a) : EditAt w d v a := h w (Nat.le_refl _) fun _ _ _ => rfl
theorem EditUp.kept {B : Nat} {w w' : World} {d : Nat} {v : Value} {a : Edi} (h : EditUp B w d v a) (hs : w.heap.size ≤ w'.heap.size) (hk : ∀ b, B ≤ b → b < w.heap.size → w'.heap[b]? = w.heap[b]?) : EditUp B w' d v a :=
  fun w2 h1 h2 => h w2 (Nat.le_trans hs h1) fun b hb hl => by rw [h2 b hb (Nat.lt_of_lt_of_le hl hs), hk b hb hl]
theorem EditUp.below {B : Nat} {w w' : World} {d : Nat} {v : Value} {a : Edi} (h : EditUp B w d v a) (hb : Below w.heap.size w w') : EditUp B w' d v a :=
  h.kept hb.size fun b _ hl => hb.block b hl
theorem EditUp.cell {B : Nat} {w : World} {d : Nat} {v : Value} {a : Edi} (h : EditUp B w d v a) (c : Addr) (hc : c.block < B) (u : Value) : EditUp B (w.setCell c u) d v a :=
  h.kept (by simp) fun b hb _ => heap_setCell_other _ _ _ _ (by omega)
theorem EditUp.parts {B : Nat} {w : World} {d : Nat} {v : Value} {a : Edi} (h : EditUp B w d v a) : ∃ k nm n tk ta tn tc sa sn sc pa pn pc, v = .agg #[.int .i64 k, .string nm, .int .i64 n, .int .i64 tk, .slice ta tn tc, .slice sa sn sc, .slice pa pn pc] := edit_parts h.at_
end Go.Proofs.YtmmnjdhmankieaaDoor
