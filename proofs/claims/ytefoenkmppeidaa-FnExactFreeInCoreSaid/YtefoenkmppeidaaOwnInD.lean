/-
  Proved: plain facts on trees that own their blocks, with the blocks' bounds.
-/
import Derived.Test.YtefoenkmppeidaaHold
import Derived.Test.YtefoenkmppeidaaOwnTree
namespace Go.Proofs.Ytefoenkmppeidaa
open Go.RowKit

def OwnIn (w : World) (d : Nat) (v : Value) (t : Ty) (lo hi : Nat) : Prop := ∃ fp, TyOwn w d v t fp ∧ Fp lo hi fp ∧ hi ≤ w.heap.size
theorem OwnIn.at_ {w : World} {d : Nat} {v : Value} {t : Ty} {lo hi : Nat} (h : OwnIn w d v t lo hi) : TyAt w d v t := by obtain ⟨fp, h, _⟩ := h; exact TyOwn.at_ h
theorem OwnIn.below {w w' : World} {d : Nat} {v : Value} {t : Ty} {lo hi : Nat} (h : OwnIn w d v t lo hi) (hb : Below w.heap.size w w') : OwnIn w' d v t lo hi := by
  obtain ⟨fp, h, hf, hz⟩ := h
  exact ⟨fp, h.kept hb.size fun b hbf => hb.block b (Nat.lt_of_lt_of_le (hf.2 b hbf).2 hz), hf, Nat.le_trans hz hb.size⟩
theorem OwnIn.of {w0 w : World} {d : Nat} {v : Value} {t : Ty} {fp : List Nat} {lo : Nat} (h : TyOwn w d v t fp) (hf : Fp w0.heap.size w.heap.size fp) (hlo : lo ≤ w0.heap.size) : OwnIn w d v t lo w.heap.size :=
  ⟨fp, h, hf.mono hlo (Nat.le_refl _), Nat.le_refl _⟩
/-- All old blocks but those from lo up to hi are as they were. -/
def Kept (lo hi : Nat) (w w' : World) : Prop := w.heap.size ≤ w'.heap.size ∧ ∀ b, b < w.heap.size → (b < lo ∨ hi ≤ b) → w'.heap[b]? = w.heap[b]?
theorem OwnIn.beside {w w' : World} {d : Nat} {v : Value} {t : Ty} {lo hi lo2 hi2 : Nat} (h : OwnIn w d v t lo hi) (k : Kept lo2 hi2 w w') (hd : hi ≤ lo2 ∨ hi2 ≤ lo) : OwnIn w' d v t lo hi := by
  obtain ⟨fp, h, hf, hz⟩ := h
  exact ⟨fp, h.kept k.1 fun b hbf => k.2 b (by have := (hf.2 b hbf).2; omega) (by have := hf.2 b hbf; omega), hf, Nat.le_trans hz k.1⟩
theorem BoxAt.beside {w w' : World} {p lo hi : Nat} {cs : Array Value} (h : BoxAt w p cs) (k : Kept lo hi w w') (hd : p < lo ∨ hi ≤ p) : BoxAt w' p cs :=
  BoxAt.kept h k.1 (k.2 p h.1 hd)
end Go.Proofs.Ytefoenkmppeidaa
