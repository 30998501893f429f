/-
  Proved: an action among a list that came in as an argument reads as an action.
-/
import Derived.Test.YtdgfkmnnjhlpbaaDoorActArg
import Derived.Test.YtdgfkmnnjhlpbaaDoorActIn
namespace Go.Proofs.YtdgfkmnnjhlpbaaDoor
open Go.ChangeShapes Go.WideShapes Go.ChangeAt Go.RowKit Go.WideMaps Go.WideElems

theorem acx_open {H : Type} {enc : TypeId × Value → H} {W : World} {base : Nat} (fuel : Nat) (cs : List Value) (x : DataW H × List MemPlace) (h : DataW.trod enc Tryd.prog W base (fun _ => true) true fuel 26 cs = some x) :
    ∃ c0 c1 c2 c3 c4 d t, cs = [c0, c1, c2, c3, c4] ∧ ActAt W d (.agg #[c0, c1, c2, c3, c4]) t := lact_open fuel _ _ h
end Go.Proofs.YtdgfkmnnjhlpbaaDoor
