/-
  Proved: small plain facts on names, types and boxes that the texts on core expressions want.
-/
import Derived.Test.YtcohfbdhdngplaaDoorName
import Derived.Test.YtcohfbdhdngplaaDoorTyEq
import Derived.Test.YtcohfbdhdngplaaDoorSpecValid
import Derived.Test.YtcohfbdhdngplaaDoorHold
namespace Go.Proofs.YtcohfbdhdngplaaDoor
open Go.RowKit

theorem co_beq_zero (k : Int) (ts : List Ty) : (Ty.node k ts).beq (.node 0 []) = (decide (k = 0) && decide (ts.length = 0)) := by
  cases ts with
  | nil => simp [Ty.beq, Ty.beqs]
  | cons a r => simp [Ty.beq, Ty.beqs]
theorem co_nameB_empty {s : ByteArray} (h : s.size = 0) : nameB s = false := by simp [nameB, h]
theorem co_ty_zero {w : World} {d : Nat} {tk : Int} {ta : Option Addr} {tn tc : Nat} {ty : Ty} (h : TyAt w d (.agg #[.int .i64 tk, .slice ta tn tc]) ty) : ty.beq (.node 0 []) = (decide (tk = 0) && decide (tn = 0)) := by
  cases d with
  | zero => exact h.elim
  | succ d =>
    cases ty with
    | node k ts =>
      obtain ⟨sl, hv, h0, h1, a, cap, rfl, h2⟩ := h
      injection hv with hv
      injection hv with hv
      simp at hv
      obtain ⟨rfl, rfl, rfl, rfl⟩ := hv
      exact co_beq_zero _ _
theorem co_name_some {s : ByteArray} (h : nameB s = true) : s.size ≠ 0 := fun e => by rw [co_nameB_empty e] at h; cases h
theorem co_text_zero {s : ByteArray} (h : s.size = 0) : (s.toList == []) = true := by
  have : s.toList = [] := List.eq_nil_of_length_eq_zero (by rw [size_of_toList]; exact h)
  rw [this]; rfl
theorem co_box_of {w wr : World} {cs : Array Value} {T : TypeId} (h : Below (w.heap.size + 1) (w.alloc (.cells cs T)) wr) : BoxAt wr w.heap.size cs :=
  (BoxAt.new w cs T).below (by simpa using h)
end Go.Proofs.YtcohfbdhdngplaaDoor
