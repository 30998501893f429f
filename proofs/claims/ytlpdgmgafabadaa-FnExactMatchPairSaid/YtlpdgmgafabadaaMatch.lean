/-
  Proved: plain facts on what MatchArrow and MatchPair give; no program.
-/
import Derived.Test.YtlpdgmgafabadaaGround
import Derived.Test.YtlpdgmgafabadaaOwnIn
import Derived.Test.YtlpdgmgafabadaaTwo
namespace Go.Proofs.Ytlpdgmgafabadaa
open Go.RowKit

/-- The two parts of a valid type of kind k (of an unknown one: two unknown types), and whether there are any. -/
def Ty.parts (k : Int) : Ty → Ty × Ty × Bool
  | .node kd ts => if (Ty.node kd ts).valid = true then (if kd = 1 then (.node 1 [], .node 1 [], true) else if kd = k then (match ts with | [x, y] => (x, y, true) | _ => (.node 0 [], .node 0 [], false)) else (.node 0 [], .node 0 [], false)) else (.node 0 [], .node 0 [], false)
theorem parts_bad {k kd : Int} {ts : List Ty} (h : (Ty.node kd ts).valid = false) : (Ty.node kd ts).parts k = (.node 0 [], .node 0 [], false) := by
  simp [Ty.parts, h]
theorem parts_unknown_ {k : Int} {ts : List Ty} (h : (Ty.node 1 ts).valid = true) : (Ty.node 1 ts).parts k = (.node 1 [], .node 1 [], true) := by
  simp [Ty.parts, h]
theorem parts_two {k : Int} {x y : Ty} (h : (Ty.node k [x, y]).valid = true) (hk : k ≠ 1) : (Ty.node k [x, y]).parts k = (x, y, true) := by
  simp [Ty.parts, h, hk]
theorem parts_else {k kd : Int} {ts : List Ty} (h1 : kd ≠ 1) (h2 : kd ≠ k) : (Ty.node kd ts).parts k = (.node 0 [], .node 0 [], false) := by
  simp [Ty.parts, h1, h2]
def MatchEnd (D : Nat) (p : Ty × Ty × Bool) (w : World) (e : Ending) (w' : World) : Prop :=
  ∃ v1 v2 mid, e = .returned (.tuple #[v1, v2, .bool p.2.2]) ∧ w.heap.size ≤ mid ∧ OwnIn w' D v1 p.1 w.heap.size mid ∧ OwnIn w' D v2 p.2.1 mid w'.heap.size ∧ Below w.heap.size w w'
theorem match_leaf {w w' : World} {d : Nat} {p : Ty × Ty × Bool} {k : Int} {b : Bool} (hp : p = (.node k [], .node k [], b)) (h0 : -9223372036854775808 ≤ k) (h1 : k ≤ 9223372036854775807) (hb : Below w.heap.size w w') :
    MatchEnd (d + 1) p w (.returned (.tuple #[.agg #[.int .i64 k, .slice none 0 0], .agg #[.int .i64 k, .slice none 0 0], .bool b])) w' := by
  subst hp
  exact ⟨_, _, w.heap.size, rfl, Nat.le_refl _, ⟨[], own_zero _ _ _ h0 h1, Fp.nil _ _, hb.size⟩, ⟨[], own_zero _ _ _ h0 h1, Fp.nil _ _, Nat.le_refl _⟩, hb⟩
theorem match_two {w w' : World} {D lo mid mid2 hi : Nat} {p : Ty × Ty × Bool} {x y : Ty} {v1 v2 : Value} (hp : p = (x, y, true)) (h1 : OwnIn w' D v1 x lo mid) (h2 : OwnIn w' D v2 y mid2 hi) (hl : w.heap.size ≤ lo) (hlm : w.heap.size ≤ mid) (hm : mid ≤ mid2) (hb : Below w.heap.size w w') :
    MatchEnd D p w (.returned (.tuple #[v1, v2, .bool true])) w' := by
  subst hp
  obtain ⟨f1, o1, g1, _⟩ := h1
  obtain ⟨f2, o2, g2, z2⟩ := h2
  exact ⟨_, _, mid, rfl, hlm, ⟨f1, o1, g1.mono hl (Nat.le_refl _), by omega⟩, ⟨f2, o2, g2.mono hm z2, Nat.le_refl _⟩, hb⟩
end Go.Proofs.Ytlpdgmgafabadaa
