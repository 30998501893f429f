/-
  Proved: a look-up in a map that a call has made and uses as a set, behind '&&' or '||', where its guard wants it.
-/
import Derived.Test.YtefoenkmppeidaaSetAt
namespace Go.Proofs.Ytefoenkmppeidaa
open Go.RowKit Go.Maps

theorem set_lookup_w {α : Type} {P : Program} {K E : TypeId} {lit : α → Lit} {b n : Nat} {f : α → Bool} {ops : Array Oper} {rest : List Oper} {o : Oper} {a : Act} {Q : Exit → Act → World → Prop} (w : World)
    (hw : Region.wanted o (yielded ops a.tmps) = true) (m x : Operand) (t : TypeId) (hop : o.op = Op.lookup t m x false)
    (KD : Keyed P K) (ht : P.underlying t = some (.map K E)) (he : P.underlying E = some .bool) (hz : (zeroValue E).run P w = .ok (.bool false) w)
    (hm : a.eval m = .map (some b)) (hown : SetAt P K E lit w b n f) (key : Value) (s : α) (hx : a.eval x = key) (hkey : keyOf P K key = some (lit s))
    (hK : wpList P ops Q rest (a.put o.dst (.bool (f s))) w) :
    wpList P ops Q (o :: rest) a w := by
  refine wpList_step fun K' hK' => ?_
  rw [if_pos hw]
  obtain ⟨D, hown, hat⟩ := hown
  obtain ⟨v, ps, hrun, hv⟩ := hown.lookup KD ht hz (plainElem_bool he false) hkey
  obtain ⟨c, rfl, hc⟩ := plainElem_bool_inv he hv
  simp only [Prod.mk.injEq] at hc
  obtain rfl : c = f s := by
    have := (hat s).symm.trans hc.1
    injection this with this
    injection this with this
    exact this.symm
  unfold Oper.wp
  simp [execOp, hop, hm, hx, hrun, Result.andThen]
  exact hK' _ _ hK
end Go.Proofs.Ytefoenkmppeidaa
