/-
  Proved: plain facts on typings whose rows lie in blocks of their own.
-/
import Derived.Test.YtfidcblaabeaaaaBindAt
namespace Go.Proofs.Ytfidcblaabeaaaa
open Go.RowKit

/-- Typings in a block of their own, each type in blocks of its own; the blocks' list goes along. -/
def BisOwn (w : World) (d : Nat) (v : Value) (bs : List Bi) (fp : List Nat) : Prop :=
  ∃ a cap hd fps, v = .slice a bs.length cap ∧ bs.length ≤ cap ∧ cap ≤ 9223372036854775807 ∧ fps.length = bs.length ∧ fp = hd ++ List.flatten fps ∧ (∀ b, b ∈ hd → b < w.heap.size) ∧
    ∀ j (h : j < bs.length), ∃ g off c0 c1 c2 f, a = some ⟨g, off, none⟩ ∧ hd = [g] ∧ g < w.heap.size ∧ w.cell? ⟨g, off + j * 3, none⟩ = some c0 ∧ w.cell? ⟨g, off + j * 3 + 1, none⟩ = some c1 ∧ w.cell? ⟨g, off + j * 3 + 2, none⟩ = some c2 ∧
      (∀ o, w.frozen? ⟨g, o, none⟩ = false) ∧ fps[j]? = some f ∧ BiOwn w d (.agg #[c0, c1, c2]) bs[j] f
theorem BisOwn.at_ {w : World} {d : Nat} {v : Value} {bs : List Bi} {fp : List Nat} (h : BisOwn w d v bs fp) : BisAt w d v bs := by
  obtain ⟨a, cap, hd, fps, hv, hc, hm, hl, hf, hlt, h⟩ := h
  refine ⟨a, cap, hv, hc, hm, fun j hj => ?_⟩
  obtain ⟨g, off, c0, c1, c2, f, ha, hh, hg, h0, h1, h2, hfr, hfj, hr⟩ := h j hj
  exact ⟨g, off, c0, c1, c2, ha, hg, h0, h1, h2, hr.at_⟩
theorem BisOwn.kept {w w' : World} {d : Nat} {v : Value} {bs : List Bi} {fp : List Nat} (h : BisOwn w d v bs fp) (hz : w.heap.size ≤ w'.heap.size) (hb : ∀ b, b ∈ fp → w'.heap[b]? = w.heap[b]?) : BisOwn w' d v bs fp := by
  obtain ⟨a, cap, hd, fps, hv, hc, hm, hl, hf, hlt, h⟩ := h
  refine ⟨a, cap, hd, fps, hv, hc, hm, hl, hf, fun b hb => Nat.lt_of_lt_of_le (hlt b hb) hz, fun j hj => ?_⟩
  obtain ⟨g, off, c0, c1, c2, f, ha, hh, hg, h0, h1, h2, hfr, hfj, hr⟩ := h j hj
  have hgb : w'.heap[g]? = w.heap[g]? := hb g (by rw [hf, hh]; simp)
  have hk : ∀ o, w'.cell? ⟨g, o, none⟩ = w.cell? ⟨g, o, none⟩ := fun o => World.cell?_of_block (a := ⟨g, o, none⟩) hgb
  refine ⟨g, off, c0, c1, c2, f, ha, hh, Nat.lt_of_lt_of_le hg hz, (hk _).trans h0, (hk _).trans h1, (hk _).trans h2, fun o => (World.frozen?_of_block (a := ⟨g, o, none⟩) hgb).trans (hfr o), hfj, hr.kept hz fun b hbf => hb b ?_⟩
  rw [hf]
  exact List.mem_append_right _ (List.mem_flatten.2 ⟨f, List.mem_of_getElem? hfj, hbf⟩)
end Go.Proofs.Ytfidcblaabeaaaa
