/-
  Proved: what reads as a tree of some depth reads as one of any greater depth.
-/
import Derived.Test.YtefoenkmppeidaaTree
namespace Go.Proofs.Ytefoenkmppeidaa
open Go.RowKit

theorem RowAt.weaker {R S : Value → Ty → Prop} {w : World} {v : Value} {ts : List Ty} (hRS : ∀ v t, R v t → S v t) (h : RowAt R w v ts) : RowAt S w v ts :=
  h.imp (Below.refl _ _) hRS
theorem TyAt.succ {w : World} : ∀ {d : Nat} {v : Value} {t : Ty}, TyAt w d v t → TyAt w (d + 1) v t
  | 0, _, _, h => h.elim
  | d + 1, v, .node k ts, h => by
    obtain ⟨sl, hv, h0, h1, h⟩ := h
    exact ⟨sl, hv, h0, h1, h.weaker fun v t h => TyAt.succ h⟩
theorem TyAt.mono {w : World} {d d' : Nat} {v : Value} {t : Ty} (h : TyAt w d v t) (hd : d ≤ d') : TyAt w d' v t := by
  induction hd with
  | refl => exact h
  | step _ ih => exact ih.succ
theorem list_two {α : Type} : ∀ (l : List α), l.length = 2 → ∃ a b, l = [a, b]
  | [a, b], _ => ⟨a, b, rfl⟩
end Go.Proofs.Ytefoenkmppeidaa
