/-
  Proved: plain facts on a type with blocks of its own, as the copies give it.
-/
import Derived.Test.YtefoenkmppeidaaOwnTree
namespace Go.Proofs.Ytefoenkmppeidaa
open Go.RowKit

theorem info_ty : (Try.prog.info? 31).map (fun i => (i.zero, i.size, i.bytes)) = some (some (.agg #[.int .i64 0, .slice none 0 0]), 2, 32) := by kernel_rfl

def ToTyEnd (d : Nat) (t : Ty) (w : World) (e : Ending) (w' : World) : Prop :=
  ∃ v' fp, e = .returned v' ∧ TyOwn w' d v' t fp ∧ Fp w.heap.size w'.heap.size fp ∧ Below w.heap.size w w'
theorem ty_parts {w : World} {d : Nat} {v : Value} {t : Ty} {fp : List Nat} (h : TyOwn w d v t fp) : ∃ k a n cap, v = .agg #[.int .i64 k, .slice a n cap] ∧ Hid (TyOwn w d (.agg #[.int .i64 k, .slice a n cap]) t fp) := by
  cases d with
  | zero => exact h.elim
  | succ d =>
    cases t with
    | node k ts =>
      obtain ⟨sl, rfl, h0, h1, a, cap, hd, fps, rfl, h2⟩ := h
      exact ⟨_, _, _, _, rfl, _, rfl, h0, h1, _, _, hd, fps, rfl, h2⟩

end Go.Proofs.Ytefoenkmppeidaa
