/-
  Proved: a load of a whole struct out of a box, and the return of a result variable that is a struct: of any number of cells, without writing them out.
-/
import Derived.Test.YtmmnjdhmankieaaRecBase
import Derived.Deep.MidRow
import Derived.Deep.WholeRow
namespace Go.Proofs.Ytmmnjdhmankieaa
open Go.RowKit

theorem BoxAt.range {w : World} {p : Nat} {us : List Value} (h : BoxAt w p us.toArray) : w.rangeAt p 0 us := by
  intro j v hj
  rw [Nat.zero_add, h.2 j]
  simpa using hj
theorem wpList_load_box {P : Program} {ops : Array Oper} {rest : List Oper} {op : Oper} {a : Act} {w : World} {Q : Exit → Act → World → Prop} (hgd : op.guard = none) (ty : TypeId) (x : Operand) (ho : op.op = .load ty x)
    (p : Nat) (us : List Value) (hx : a.eval x = .pointer (some ⟨p, 0, none⟩)) (hb : BoxAt w p us.toArray) {d : TypeDesc} (hu : P.underlying ty = some d) (hd : d.isRow = true) (hi : (P.info? ty).map (·.size) = some us.length)
    (h : wpList P ops Q rest (a.put op.dst (.agg us.toArray)) w) : wpList P ops Q (op :: rest) a w :=
  wpList_load_mid hgd ty x ho p 0 hx us d hb.range hu hd hi h
theorem ret_box {P : Program} {fn : Func} {R : Ending → World → Prop} {a : Act} {w : World} {s : Tmp} {t : TypeId} (hf : fn.results = #[.cell s t]) (p : Nat) (us : List Value) (ha : a.tmps.getD s undef = .pointer (some ⟨p, 0, none⟩)) (hb : BoxAt w p us.toArray)
    {d : TypeDesc} (hu : P.underlying t = some d) (hd : d.isRow = true) (hi : (P.info? t).map (·.size) = some us.length) (hdf : a.defers = []) (hR : R (.returned (.agg us.toArray)) w) : bodyPost P fn R .ret a w := by
  refine bodyPost_ret (v := .agg us.toArray) ?_ hdf hR
  have hl := run_loadVar_mid w p 0 t us d hb.range hu hd hi
  rw [Array.getD_eq_getD_getElem?] at ha
  simp [results, hf, ha, asAddr, hl]
/-- A store of a whole struct into the block that was made last. -/
theorem wpList_store_last {P : Program} {ops : Array Oper} {rest : List Oper} {o : Oper} {a : Act} {Q : Exit → Act → World → Prop} (hgd : o.guard = none) (t : TypeId) (x v : Operand) (ho : o.op = .store t x v)
    (w0 : World) (c : Array Value) (us : List Value) (hx : a.eval x = .pointer (some ⟨w0.heap.size, 0, none⟩)) (hv : a.eval v = .agg us.toArray) (hi : (P.info? t).map (·.size) = some us.length) (hz : c.size = us.length) (h1 : ∀ u ∈ us, u.oneCell' = true)
    (h : wpList P ops Q rest (a.put o.dst undef) (w0.alloc (.cells us.toArray t))) : wpList P ops Q (o :: rest) a (w0.alloc (.cells c t)) :=
  wpList_plain hgd fun K hK => by
    have hr := run_storeAt_new (P := P) w0 t c us.toArray (by simpa using hi) (by simpa using hz) (all_oneCell_toArray h1)
    unfold Oper.wp execOp
    simp only [ho, Sem.run_bind, Sem.run_pure, Result.andThen_ok, hx, hv, hr]
    exact hK _ _ h
end Go.Proofs.Ytmmnjdhmankieaa
