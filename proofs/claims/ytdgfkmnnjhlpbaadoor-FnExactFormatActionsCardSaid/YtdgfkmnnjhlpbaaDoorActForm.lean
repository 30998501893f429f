/-
  Proved: plain facts on actions: which kinds have a name, a type, a number; no program.
-/
import Derived.Test.YtdgfkmnnjhlpbaaDoorActAt
import Derived.Test.YtdgfkmnnjhlpbaaDoorName
import Derived.Test.YtdgfkmnnjhlpbaaDoorSpecNote
import Derived.Test.YtdgfkmnnjhlpbaaDoorTyEq
namespace Go.Proofs.YtdgfkmnnjhlpbaaDoor
open Go.RowKit

def actNamed (k : Int) : Bool := decide (k = 6 ∨ k = 9 ∨ k = 20)
def actTyped (k : Int) : Bool := decide (k = 9 ∨ k = 17 ∨ k = 19)
def actMost (k : Int) : Int := if k = 2 ∨ k = 18 then 2 else if k = 7 then 999 else if k = 8 then 1 else 0
def actMost' (k : Int) : Int := if k = 2 ∨ k = 18 ∨ k = 7 ∨ k = 8 then actMost k else -1
theorem act_max (k : Int) : max 0 (actMost' k) = actMost k := by
  unfold actMost' actMost
  split <;> split <;> (try split) <;> (try split) <;> first | rfl | omega
def Ty.isNil : Ty → Bool
  | .node k ts => decide (k = 0) && decide (ts.length = 0)
/-- A valid action. -/
def Act.okB (a : Act) : Bool :=
  (decide (1 ≤ a.kind) && decide (a.kind ≤ 20)) && ((actNamed a.kind == nameB a.name) && (actNamed a.kind || decide (a.name.size = 0))) &&
    ((actTyped a.kind == a.ty.note) && (actTyped a.kind || a.ty.isNil)) && (decide (0 ≤ a.n) && decide (a.n ≤ actMost a.kind))
theorem okB_of (kd : Int) (nm : ByteArray) (n : Int) (ty : Ty) : (Act.mk kd nm n ty).okB = ((decide (1 ≤ kd) && decide (kd ≤ 20)) && ((actNamed kd == nameB nm) && (actNamed kd || decide (nm.size = 0))) &&
    ((actTyped kd == ty.note) && (actTyped kd || ty.isNil)) && (decide (0 ≤ n) && decide (n ≤ actMost kd))) := rfl
theorem below_q {B : Nat} {a w : World} (h : Below B a w) (n : Nat) : Below B a (w.drewN n) := ⟨h.os, h.tape, h.output, h.size, h.block⟩
theorem name_none {s : ByteArray} (h : s.size = 0) : nameB s = false := by simp [nameB, h]
theorem text_none {s : ByteArray} (h : s.size = 0) : (s.toList == []) = true := by
  have : s.toList = [] := List.eq_nil_of_length_eq_zero (by rw [size_of_toList]; exact h)
  rw [this]; rfl
theorem note_nil {t : Ty} (h : t.isNil = true) : t.note = false := by
  cases t with
  | node k ts =>
    simp only [Ty.isNil, Bool.and_eq_true, decide_eq_true_eq] at h
    obtain ⟨rfl, _⟩ := h
    simp [Ty.note, Ty.valid, Ty.form, kindOk]
theorem beq_nil (t : Ty) : t.beq (.node 0 []) = t.isNil := by
  cases t with
  | node k ts => cases ts with
    | nil => simp [Ty.beq, Ty.beqs, Ty.isNil]
    | cons a r => simp [Ty.beq, Ty.beqs, Ty.isNil]
theorem ty_isNil {w : World} {d : Nat} {tk : Int} {ta : Option Addr} {tn tc : Nat} {ty : Ty} (h : TyAt w d (.agg #[.int .i64 tk, .slice ta tn tc]) ty) : ty.isNil = (decide (tk = 0) && decide (tn = 0)) := by
  cases d with
  | zero => exact h.elim
  | succ d =>
    cases ty with
    | node k ts =>
      obtain ⟨sl, hv, h0, h1, a, cap, rfl, h2⟩ := h
      injection hv with hv
      injection hv with hv
      simp at hv
      obtain ⟨rfl, rfl, rfl, rfl⟩ := hv
      rfl
end Go.Proofs.YtdgfkmnnjhlpbaaDoor
