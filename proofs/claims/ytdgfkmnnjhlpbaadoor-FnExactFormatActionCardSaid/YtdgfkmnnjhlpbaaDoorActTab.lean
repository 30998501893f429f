/-
  Proved: the pinned table of the words of actions holds what the program's text says.
-/
import Derived.Test.YtdgfkmnnjhlpbaaDoorActText
import Derived.Test.YtdgfkmnnjhlpbaaDoorLaw
import Derived.Test.YtdgfkmnnjhlpbaaDoorRows
import Derived.Lib.LaidTab
import Derived.LaidMore
import Derived.ChangeVars
namespace Go.Proofs.YtdgfkmnnjhlpbaaDoor
open Go.RowKit Go.ChangeShapes Go.WideShapes Go.ChangeAt

def strsData {H : Type} (zs : List ByteArray) : DataW H := .agg (zs.map fun z => .lit (.string z.data.toList))
theorem cells_of_strs {H : Type} {enc : TypeId × Value → H} {P : Program} {w : World} {base : Nat} {sp : Nat → Bool} {held : Bool} {fuel : Nat} {t e : TypeId} {n : Nat} {cs : List Value} {zs : List ByteArray} {p : List MemPlace}
    (ht : P.underlying t = some (.array n e)) (he : P.underlying e = some .string) (hce : P.cellsOf e = 1) (hct : P.cellsOf t = n)
    (h : DataW.trod enc P w base sp held fuel t cs = some (strsData zs, p)) : ∀ i (hi : i < zs.length), cs[i]? = some (.string zs[i]) := by
  cases fuel with
  | zero => simp [DataW.trod] at h
  | succ fuel =>
    simp only [DataW.trod, ht, hce, hct, Nat.mul_one] at h
    split at h
    · rename_i hl
      obtain ⟨xs, hm, hx⟩ := Option.map_eq_some_iff.1 h
      have hxs : xs.map (·.1) = zs.map fun z => (DataW.lit (.string z.data.toList) : DataW H) := by
        have := congrArg Prod.fst hx
        simpa [strsData] using this
      have hxl : xs.length = n := by simpa using Lib.mapM_length hm
      have hzl : zs.length = n := by
        have := congrArg List.length hxs
        simp at this
        omega
      intro i hi0
      have hi : i < n := by omega
      obtain ⟨b, hb, hf⟩ := Lib.mapM_at hm i i (by simp [hi])
      obtain ⟨s, hc, rfl, _⟩ := DataW.trod_string he hf
      have h1 : cs[i]? = some (.string s) := by
        have := congrArg (·[0]?) hc
        simpa [List.getElem?_take, List.getElem?_drop] using this
      have h2 : (xs.map (·.1))[i]? = some (DataW.lit (.string s.data.toList) : DataW H) := by simp [hb]
      rw [hxs] at h2
      rw [List.getElem?_map, List.getElem?_eq_getElem hi0] at h2
      simp only [Option.map_some, Option.some.injEq, DataW.lit.injEq, Lit.string.injEq] at h2
      rw [h1]
      have h3 : zs[i] = s := by
        apply ByteArray.ext
        exact Array.toList_inj.1 h2
      rw [h3]
    · cases h
/-- The cells of the table as the program reads them. -/
def WordsAt (w : World) : Prop := 0 < w.heap.size ∧ ∀ k : Nat, 1 ≤ k → k ≤ 20 → w.cell? ⟨0, k, none⟩ = some (.string (actWord k))
theorem WordsAt.below {w w' : World} (h : WordsAt w) (hb : Below w.heap.size w w') : WordsAt w' :=
  ⟨Nat.lt_of_lt_of_le h.1 hb.size, fun k h1 h2 => (hb.cell (p := ⟨0, k, none⟩) h.1).trans (h.2 k h1 h2)⟩
end Go.Proofs.YtdgfkmnnjhlpbaaDoor
