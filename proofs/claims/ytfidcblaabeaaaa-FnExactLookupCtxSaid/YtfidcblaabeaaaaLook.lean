/-
  Proved: plain facts on the last typing of a name in a context.
-/
import Derived.Test.YtfidcblaabeaaaaBindAt
import Derived.Test.YtfidcblaabeaaaaOwnIn
import Derived.Test.YtfidcblaabeaaaaTypeArg
namespace Go.Proofs.Ytfidcblaabeaaaa
open Go.RowKit

def Bi.look : List Bi → ByteArray → Option Ty
  | [], _ => none
  | b :: r, nm => match Bi.look r nm with
    | some t => some t
    | none => if b.name = nm then some b.ty else none
theorem look_none : ∀ (bs : List Bi) (nm : ByteArray), (∀ j (h : j < bs.length), bs[j].name ≠ nm) → Bi.look bs nm = none
  | [], _, _ => rfl
  | b :: r, nm, h => by
    have h1 := look_none r nm fun j hj => by have := h (j + 1) (by simp; omega); simpa using this
    have h2 : b.name ≠ nm := by have := h 0 (by simp); simpa using this
    simp only [Bi.look, h1]
    rw [if_neg h2]
theorem look_at : ∀ (bs : List Bi) (nm : ByteArray) (k : Nat) (hk : k < bs.length), (∀ j (h : j < bs.length), k < j → bs[j].name ≠ nm) → bs[k].name = nm → Bi.look bs nm = some bs[k].ty
  | b :: r, nm, 0, _, h, e => by
    have h1 := look_none r nm fun j hj => by have := h (j + 1) (by simp; omega) (by omega); simpa using this
    have e2 : b.name = nm := by simpa using e
    simp only [Bi.look, h1]
    rw [if_pos e2]; rfl
  | b :: r, nm, k + 1, hk, h, e => by
    have h1 := look_at r nm k (by simpa using hk) (fun j hj hkj => by have := h (j + 1) (by simp; omega) (by omega); simpa using this) (by simpa using e)
    simp only [Bi.look, h1, List.getElem_cons_succ]
/-- The index of a loop that runs down. -/
def downIdx : Nat → Int
  | 0 => -1
  | j + 1 => j
theorem downIdx_eq (n : Nat) : downIdx n = (n : Int) - 1 := by cases n <;> simp [downIdx]
theorem look_zero (w : World) (d : Nat) (k : Int) (h0 : -9223372036854775808 ≤ k) (h1 : k ≤ 9223372036854775807) : TyOwn w (d + 1) (.agg #[.int .i64 k, .slice none 0 0]) (.node k []) [] :=
  ⟨_, rfl, h0, h1, none, 0, [], [], rfl, Nat.le_refl _, by omega, rfl, rfl, (fun b hb => by cases hb), fun j hj => by simp at hj⟩
theorem look_cells {w : World} {d : Nat} {c0 c1 c2 : Value} {b : Bi} (h : BiAt w d (.agg #[c0, c1, c2]) b) : ∃ tk ta tn tc, c0 = .string b.name ∧ c1 = .int .i64 tk ∧ c2 = .slice ta tn tc ∧ b.name.size ≤ 9223372036854775807 ∧ TyAt w d (.agg #[.int .i64 tk, .slice ta tn tc]) b.ty := by
  obtain ⟨tk, ta, tn, tc, hv, hn, ht⟩ := h
  injection hv with hv
  injection hv with hv
  simp at hv
  exact ⟨tk, ta, tn, tc, hv.1, hv.2.1, hv.2.2, hn, ht⟩
/-- What a look-up gives: a copy of the type, or none, and whether it is there. -/
def LookEnd (d : Nat) (r : Option Ty) (w : World) (e : Ending) (w' : World) : Prop :=
  ∃ s, e = .returned (.tuple #[s, .bool r.isSome]) ∧ OwnIn w' (d + 1) s (r.getD (.node 0 [])) w.heap.size w'.heap.size ∧ Below w.heap.size w w'
end Go.Proofs.Ytfidcblaabeaaaa
