/-
  Proved: spec.IsAction says whether an action is valid; it leaves the memory that was there as it was.
-/
import Derived.Test.YtdgfkmnnjhlpbaaDoorSpecActionTT
import Derived.Test.YtdgfkmnnjhlpbaaDoorSpecActionTF
import Derived.Test.YtdgfkmnnjhlpbaaDoorSpecActionFT
import Derived.Test.YtdgfkmnnjhlpbaaDoorSpecActionFF
namespace Go.Proofs.YtdgfkmnnjhlpbaaDoor
open Go.RowKit

theorem specAction (d : Nat) (v : Value) (t : Act) (w : World) (h : ActAt w d v t) (hn : t.bulk ≤ 1048576) :
    Calls Tryd.prog 49 #[v] w fun e w' => e = .returned (.bool t.okB) ∧ Below w.heap.size w w' := by
  cases hN : actNamed t.kind with
  | true => cases hT : actTyped t.kind with
    | true => exact specActionTT d v t w h hn hN hT
    | false => exact specActionTF d v t w h hn hN hT
  | false => cases hT : actTyped t.kind with
    | true => exact specActionFT d v t w h hn hN hT
    | false => exact specActionFF d v t w h hn hN hT
end Go.Proofs.YtdgfkmnnjhlpbaaDoor
