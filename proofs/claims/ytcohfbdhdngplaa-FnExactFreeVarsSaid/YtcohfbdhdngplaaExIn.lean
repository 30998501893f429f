/-
  Proved: plain facts on expressions whose rows lie in blocks of their own, with the blocks' bounds; no program.
-/
import Derived.Test.YtcohfbdhdngplaaExTree
namespace Go.Proofs.Ytcohfbdhdngplaa
open Go.RowKit

def ExIn (w : World) (d : Nat) (v : Value) (t : Ex) (lo hi : Nat) : Prop := ∃ fp, ExOwn w d v t fp ∧ Fp lo hi fp ∧ hi ≤ w.heap.size
theorem ExIn.at_ {w : World} {d : Nat} {v : Value} {t : Ex} {lo hi : Nat} (h : ExIn w d v t lo hi) : ExAt w d v t := by obtain ⟨fp, h, _⟩ := h; exact ExOwn.at_ h
theorem ExIn.below {w w' : World} {d : Nat} {v : Value} {t : Ex} {lo hi : Nat} (h : ExIn w d v t lo hi) (hb : Below w.heap.size w w') : ExIn w' d v t lo hi := by
  obtain ⟨fp, h, hf, hz⟩ := h
  exact ⟨fp, h.kept hb.size fun b hbf => hb.block b (Nat.lt_of_lt_of_le (hf.2 b hbf).2 hz), hf, Nat.le_trans hz hb.size⟩
theorem ExIn.of {w0 w : World} {d : Nat} {v : Value} {t : Ex} {fp : List Nat} {lo : Nat} (h : ExOwn w d v t fp) (hf : Fp w0.heap.size w.heap.size fp) (hlo : lo ≤ w0.heap.size) : ExIn w d v t lo w.heap.size :=
  ⟨fp, h, hf.mono hlo (Nat.le_refl _), Nat.le_refl _⟩
end Go.Proofs.Ytcohfbdhdngplaa
