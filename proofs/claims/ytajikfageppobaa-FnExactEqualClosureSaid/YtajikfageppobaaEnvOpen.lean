/-
  Proved: scalars and environments that came in with an argument read as such.
-/
import Derived.Test.YtajikfageppobaaEnvBase
import Derived.Test.YtajikfageppobaaCoreArg
namespace Go.Proofs.Ytajikfageppobaa
open Go.ChangeShapes Go.WideShapes Go.ChangeAt Go.RowKit Go.WideMaps Go.WideElems

theorem int_open {H : Type} {enc : TypeId × Value → H} {W : World} {base : Nat} (fuel : Nat) (cs : List Value) (x : DataW H × List MemPlace) (h : DataW.trod enc Try.prog W base (fun _ => true) true fuel 3 cs = some x) :
    ∃ c0 d t, cs = [c0] ∧ IntAt W d c0 t := by
  obtain ⟨k, hk, _⟩ := DataW.trod_int Try.underlying3 h
  exact ⟨_, 0, k, hk, rfl⟩
theorem bool_open {H : Type} {enc : TypeId × Value → H} {W : World} {base : Nat} (fuel : Nat) (cs : List Value) (x : DataW H × List MemPlace) (h : DataW.trod enc Try.prog W base (fun _ => true) true fuel 4 cs = some x) :
    ∃ c0 d t, cs = [c0] ∧ BoolAt W d c0 t := by
  obtain ⟨k, hk, _⟩ := DataW.trod_bool Try.underlying4 h
  exact ⟨_, 0, k, hk, rfl⟩
theorem env_open {H : Type} {enc : TypeId × Value → H} {W : World} {base : Nat} (fuel : Nat) (cs : List Value) (x : DataW H × List MemPlace) (h : DataW.trod enc Try.prog W base (fun _ => true) true fuel 46 cs = some x) :
    ∃ c0 d t, cs = [c0] ∧ EnvAt W d c0 t := by
  have hv : ∃ v, cs = [v] := by
    rcases DataW.trod_slice und_lcbs h with ⟨hcs, _⟩ | ⟨a, len, cap, elems, rest, m, hm, hcs, _⟩
    · exact ⟨_, hcs⟩
    · exact ⟨_, hcs⟩
  obtain ⟨v, rfl⟩ := hv
  obtain ⟨ns, ts, hc⟩ := lcbs_open (fuel := fuel + 1) (fun m _ => lco_open m) fuel (by omega) _ _ h
  exact ⟨_, fuel, ⟨ns, ts⟩, rfl, hc⟩
end Go.Proofs.Ytajikfageppobaa
