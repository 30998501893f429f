/-
  Proved: what the laws' small helpers on slices of numbers answer (copying, measuring, comparing), for every slice of numbers of at most 2^20 elements; memory that was there stays as it was.
-/
import Derived.Test.YtefoenkmppeidaaOwnB
import Derived.WalkKit
import Derived.WalkSpells
import Derived.WalkLawsBesides
import Derived.WalkSmall
import Derived.Lib.Hide
namespace Go.Proofs.Ytefoenkmppeidaa
open Go.RowKit

/-- In the world w the slice value v reads as the numbers ss. -/
def Ints (w : World) (v : Value) (ss : List Int) : Prop :=
  ∃ a cap, v = .slice a ss.length cap ∧ ss.length ≤ cap ∧ ∀ j (h : j < ss.length), ∃ b off, a = some ⟨b, off, none⟩ ∧ b < w.heap.size ∧ w.cell? ⟨b, off + j, none⟩ = some (.int .i64 ss[j])
theorem Ints.parts {w : World} {v : Value} {ss : List Int} (h : Ints w v ss) :
    (ss = [] ∧ ∃ a cap, v = .slice a 0 cap) ∨ (0 < ss.length ∧ ∃ b off cap, v = .slice (some ⟨b, off, none⟩) ss.length cap ∧ ss.length ≤ cap ∧ b < w.heap.size ∧ ∀ j (h : j < ss.length), w.cell? ⟨b, off + j, none⟩ = some (.int .i64 ss[j])) := by
  obtain ⟨a, cap, rfl, hc, h⟩ := h
  by_cases h0 : 0 < ss.length
  · obtain ⟨b, off, rfl, hb, _⟩ := h 0 h0
    refine Or.inr ⟨h0, b, off, cap, rfl, hc, hb, fun j hj => ?_⟩
    obtain ⟨b', off', e, _, hcell⟩ := h j hj
    cases e; exact hcell
  · have : ss = [] := List.length_eq_zero_iff.1 (by omega)
    subst this
    exact Or.inl ⟨rfl, a, cap, rfl⟩
theorem Ints.nil {w : World} (a : Option Addr) (cap : Nat) : Ints w (.slice a 0 cap) [] := ⟨a, cap, rfl, Nat.zero_le _, fun j h => by simp at h⟩
theorem Ints.mk {w : World} {ss : List Int} {b off cap : Nat} (hc : ss.length ≤ cap) (hb : b < w.heap.size) (h : ∀ j (h : j < ss.length), w.cell? ⟨b, off + j, none⟩ = some (.int .i64 ss[j])) : Ints w (.slice (some ⟨b, off, none⟩) ss.length cap) ss :=
  ⟨_, cap, rfl, hc, fun j hj => ⟨b, off, rfl, hb, h j hj⟩⟩
theorem Ints.below {w w' : World} {v : Value} {ss : List Int} (h : Ints w v ss) (hb : Below w.heap.size w w') : Ints w' v ss := by
  obtain ⟨a, cap, rfl, hc, h⟩ := h
  refine ⟨a, cap, rfl, hc, fun j hj => ?_⟩
  obtain ⟨b, off, rfl, hlt, hcell⟩ := h j hj
  exact ⟨b, off, rfl, Nat.lt_of_lt_of_le hlt hb.size, by rw [hb.cell (p := ⟨b, off + j, none⟩) hlt]; exact hcell⟩
theorem Ints.of_own {w : World} {base : Nat} {e : TypeId} {v : Value} {ss : List Int} (h : w.ownsRow base e 1 v ss.length (ss.map (Value.int IntKind.i64))) : Ints w v ss := by
  have hlt := h.lt
  have hcells := fun g (hg : v.ownBlock = some g) => h.cells hg
  rcases h.2 with ⟨rfl, hn⟩ | ⟨g, cap, cur, rfl, hb, hg, hnc, _⟩
  · have : ss = [] := List.length_eq_zero_iff.1 hn
    subst this; exact Ints.nil _ _
  · refine Ints.mk hnc (hlt g rfl).2 fun j hj => ?_
    have := hcells g rfl j (.int .i64 ss[j]) (by simp [hj])
    rw [addr_add] at this; exact this

theorem info_i : (Try.prog.info? 3).map (fun i => (i.zero, i.size, i.bytes)) = some (some (.int .i64 0), 1, 8) := by kernel_rfl

/-- What a copy of a slice of numbers ends in. -/
def CopyIEnd (ss : List Int) (w : World) (e : Ending) (w' : World) : Prop :=
  ∃ v', e = .returned v' ∧ w'.ownsRow w.heap.size 3 1 v' ss.length (ss.map (Value.int IntKind.i64)) ∧ Below w.heap.size w w'
end Go.Proofs.Ytefoenkmppeidaa
