/-
  Proved: plain facts on looking a name up; no program.
-/
import Derived.Test.YtfidcblaabeaaaaLook
import Derived.Test.YtfidcblaabeaaaaMarkBis
namespace Go.Proofs.Ytfidcblaabeaaaa
open Go.RowKit

theorem look_size : ∀ (bs : List Bi) (nm : ByteArray), ((Bi.look bs nm).getD (.node 0 [])).size ≤ Bi.bulks bs + 1
  | [], _ => by simp [Bi.look, Ty.size, Ty.sizes]
  | b :: r, nm => by
    have ih := look_size r nm
    have hp := b.ty.size_pos
    simp only [Bi.look, Bi.bulks, Bi.bulk]
    cases hl : Bi.look r nm with
    | some t => rw [hl] at ih; simp only [Option.getD_some] at ih ⊢; omega
    | none =>
      rw [hl] at ih
      simp only [Option.getD_none] at ih
      by_cases e : b.name = nm
      · simp only [e, if_true, Option.getD_some]; omega
      · simp only [e, if_false, Option.getD_none]; omega
theorem BisIn.of {w0 w : World} {d : Nat} {v : Value} {ts : List Bi} {fp : List Nat} {lo : Nat} (h : BisOwn w d v ts fp) (hf : Fp w0.heap.size w.heap.size fp) (hlo : lo ≤ w0.heap.size) : BisIn w d v ts lo w.heap.size :=
  ⟨fp, h, hf.mono hlo (Nat.le_refl _), Nat.le_refl _⟩
end Go.Proofs.Ytfidcblaabeaaaa
