/-
  Proved: plain facts on the two parts of a type; no program.
-/
import Derived.Test.YtlpdgmgafabadaaMatch
namespace Go.Proofs.Ytlpdgmgafabadaa
open Go.RowKit

theorem parts_size (k : Int) (t : Ty) : (t.parts k).1.size ≤ t.size ∧ (t.parts k).2.1.size ≤ t.size := by
  have hp := t.size_pos
  cases t with
  | node kd ts =>
    by_cases hv : (Ty.node kd ts).valid = true
    · by_cases h1 : kd = 1
      · subst h1
        rw [parts_unknown_ hv]
        exact ⟨hp, hp⟩
      · by_cases h2 : kd = k
        · subst h2
          simp only [Ty.parts, hv, h1, ↓reduceIte]
          split
          · simp only [Ty.size, Ty.sizes]; omega
          · exact ⟨hp, hp⟩
        · rw [parts_else h1 h2]
          exact ⟨hp, hp⟩
    · rw [parts_bad (by simpa using hv)]
      exact ⟨hp, hp⟩
theorem match_any {w w' : World} {D lo mid mid2 hi : Nat} {p : Ty × Ty × Bool} {v1 v2 : Value} (h1 : OwnIn w' D v1 p.1 lo mid) (h2 : OwnIn w' D v2 p.2.1 mid2 hi) (hl : w.heap.size ≤ lo) (hlm : w.heap.size ≤ mid) (hm : mid ≤ mid2) (hb : Below w.heap.size w w') :
    MatchEnd D p w (.returned (.tuple #[v1, v2, .bool p.2.2])) w' := by
  obtain ⟨f1, o1, g1, _⟩ := h1
  obtain ⟨f2, o2, g2, z2⟩ := h2
  exact ⟨_, _, mid, rfl, hlm, ⟨f1, o1, g1.mono hl (Nat.le_refl _), by omega⟩, ⟨f2, o2, g2.mono hm z2, Nat.le_refl _⟩, hb⟩
end Go.Proofs.Ytlpdgmgafabadaa
