/-
  Proved: the pinned table of the forms of core expressions holds, five cells a kind, what the program's text says.
-/
import Derived.Test.YteeojgefnoaajaaDoorCoreTab
namespace Go.Proofs.YteeojgefnoaajaaDoor
open Go.RowKit Go.ChangeShapes Go.WideShapes Go.ChangeAt

theorem und_types : Tryd.prog.underlying 138 = some (.struct #[⟨"source", 4, 0, false, "", "loop.example/g00585/impl", 0⟩, ⟨"target", 4, 1, false, "", "loop.example/g00585/impl", 1⟩]) := by kernel_rfl
theorem cells_fbool : Tryd.prog.cellsOf 4 = 1 := by kernel_rfl
theorem cells_ftypes : Tryd.prog.cellsOf 138 = 2 := by kernel_rfl
theorem bool_cell {H : Type} {enc : TypeId × Value → H} {w : World} {base : Nat} {sp : Nat → Bool} {held : Bool} {n : Nat} {l : List Value} {y : DataW H × List MemPlace} {z : Bool}
    (h : DataW.trod enc Tryd.prog w base sp held n 4 (l.take 1) = some y) (hy : y.1 = .lit (.bool z)) : l[0]? = some (.bool z) := by
  obtain ⟨b, hb, rfl⟩ := DataW.trod_bool Tryd.underlying4 h
  simp at hy; subst hy
  have := congrArg (·[0]?) hb
  simpa [List.getElem?_take] using this
theorem quadList_of {α : Type} {xs : List α} (h : xs.length = 4) : ∃ a b c d, xs = [a, b, c, d] := by
  match xs, h with
  | [a, b, c, d], _ => exact ⟨a, b, c, d, rfl⟩
theorem pairList_of {α : Type} {xs : List α} (h : xs.length = 2) : ∃ a b, xs = [a, b] := by
  match xs, h with
  | [a, b], _ => exact ⟨a, b, rfl⟩
set_option maxRecDepth 100000 in
theorem form_row {H : Type} {enc : TypeId × Value → H} {w : World} {base : Nat} {sp : Nat → Bool} {held : Bool} {fuel : Nat} {cs : List Value} {ds : List (DataW H)} {p : List MemPlace}
    (h : DataW.trod enc Tryd.prog w base sp held fuel 141 cs = some (.agg ds, p)) (i : Nat) (hi : i < 16) (n b s t : Bool) (z : DataW H)
    (hd : ds[i]? = some (.agg [z, .lit (.bool n), .lit (.bool b), .agg [.lit (.bool s), .lit (.bool t)]])) :
    cs[i * 5 + 1]? = some (.bool n) ∧ cs[i * 5 + 2]? = some (.bool b) ∧ cs[i * 5 + 3]? = some (.bool s) ∧ cs[i * 5 + 4]? = some (.bool t) := by
  obtain ⟨m, d, q, hm, hdd⟩ := forms_cells und_forms cells_form h i hi
  rw [hd] at hdd
  obtain rfl := Option.some.inj hdd
  obtain ⟨xs, n1, _, hx, hl, hlen, hf⟩ := DataW.trod_struct und_form hm
  obtain ⟨x0, x1, x2, x3, rfl⟩ := quadList_of (show xs.length = 4 from hlen)
  have hmap := congrArg Prod.fst hx
  simp only [List.map_cons, List.map_nil, DataW.agg.injEq, List.cons.injEq, and_true] at hmap
  obtain ⟨_, m1, m2, m3⟩ := hmap
  have g1 : DataW.trod enc Tryd.prog w base sp held n1 4 ((((cs.drop (i * 5)).take 5).drop 1).take (Tryd.prog.cellsOf 4)) = some x1 := hf 1 ⟨"named", 4, 1, false, "", "loop.example/g00585/impl", 8⟩ rfl
  have g2 : DataW.trod enc Tryd.prog w base sp held n1 4 ((((cs.drop (i * 5)).take 5).drop 2).take (Tryd.prog.cellsOf 4)) = some x2 := hf 2 ⟨"bound", 4, 2, false, "", "loop.example/g00585/impl", 9⟩ rfl
  have g3 : DataW.trod enc Tryd.prog w base sp held n1 138 ((((cs.drop (i * 5)).take 5).drop 3).take (Tryd.prog.cellsOf 138)) = some x3 := hf 3 ⟨"coreTypes", 138, 3, true, "", "loop.example/g00585/impl", 10⟩ rfl
  rw [cells_fbool] at g1 g2
  rw [cells_ftypes] at g3
  have r1 := bool_cell g1 m1.symm
  have r2 := bool_cell g2 m2.symm
  obtain ⟨x3a, x3b⟩ := x3
  simp only at m3
  subst m3
  obtain ⟨ys, n2, _, hy, hl2, hlen2, hf2⟩ := DataW.trod_struct und_types g3
  obtain ⟨y0, y1, rfl⟩ := pairList_of (show ys.length = 2 from hlen2)
  have hmap2 := congrArg Prod.fst hy
  simp only [List.map_cons, List.map_nil, DataW.agg.injEq, List.cons.injEq, and_true] at hmap2
  obtain ⟨m4, m5⟩ := hmap2
  have g4 : DataW.trod enc Tryd.prog w base sp held n2 4 (((((((cs.drop (i * 5)).take 5).drop 3).take 2)).drop 0).take (Tryd.prog.cellsOf 4)) = some y0 := hf2 0 ⟨"source", 4, 0, false, "", "loop.example/g00585/impl", 0⟩ rfl
  have g5 : DataW.trod enc Tryd.prog w base sp held n2 4 (((((((cs.drop (i * 5)).take 5).drop 3).take 2)).drop 1).take (Tryd.prog.cellsOf 4)) = some y1 := hf2 1 ⟨"target", 4, 1, false, "", "loop.example/g00585/impl", 1⟩ rfl
  rw [cells_fbool] at g4 g5
  have r3 := bool_cell g4 m4.symm
  have r4 := bool_cell g5 m5.symm
  refine ⟨?_, ?_, ?_, ?_⟩
  · simpa [List.getElem?_take, List.getElem?_drop] using r1
  · simpa [List.getElem?_take, List.getElem?_drop] using r2
  · simpa [List.getElem?_take, List.getElem?_drop] using r3
  · simpa [List.getElem?_take, List.getElem?_drop, Nat.add_assoc] using r4
abbrev rowNamed : List Bool := [false, false, false, true, true, false, false, false, false, false, false, false, false, false, false, false]
abbrev rowBound : List Bool := [false, true, true, false, false, false, false, false, false, false, false, false, false, false, false, false]
abbrev rowSrc : List Bool := [false, false, false, false, false, false, false, false, false, false, false, false, false, false, true, true]
abbrev rowTgt : List Bool := [false, false, false, false, true, false, false, false, false, false, false, false, false, false, true, true]
/-- All cells of the table as the program reads them. -/
def CoreFull (w : World) : Prop := CoreTab w ∧ ∀ i, i < 16 → w.cell? ⟨0, i * 5 + 1, none⟩ = some (.bool (rowNamed.getD i false)) ∧ w.cell? ⟨0, i * 5 + 2, none⟩ = some (.bool (rowBound.getD i false)) ∧ w.cell? ⟨0, i * 5 + 3, none⟩ = some (.bool (rowSrc.getD i false)) ∧ w.cell? ⟨0, i * 5 + 4, none⟩ = some (.bool (rowTgt.getD i false))
theorem CoreFull.below {w w' : World} (h : CoreFull w) (hb : Below w.heap.size w w') : CoreFull w' := by
  have hk : ∀ o, w'.cell? ⟨0, o, none⟩ = w.cell? ⟨0, o, none⟩ := fun o => hb.cell (p := ⟨0, o, none⟩) h.1.1
  refine ⟨h.1.below hb, fun i hi => ?_⟩
  obtain ⟨h1, h2, h3, h4⟩ := h.2 i hi
  exact ⟨(hk _).trans h1, (hk _).trans h2, (hk _).trans h3, (hk _).trans h4⟩
set_option maxRecDepth 100000 in
theorem coreFull_of {W : World} (h : laidMet Tryd.prog [("loop.example/g00585/impl.coreForms", Rows.laid_loop_example_g00585_impl_coreForms)] W) : CoreFull W := by
  refine ⟨coreTab_of h, ?_⟩
  have hg : Tryd.prog.globalNamed "loop.example/g00585/impl.coreForms" = some 0 := by kernel_rfl
  have hty : (Tryd.prog.globals[0]?).map (·.type) = some 141 := by kernel_rfl
  obtain ⟨ps, ⟨g', t', cs, fuel, p, q, hg', ht', hvar, hd, _, _⟩, _⟩ := h
  obtain rfl := Option.some.inj (hg.symm.trans hg')
  obtain rfl := Option.some.inj (hty.symm.trans ht')
  have hc : ∀ off, W.cell? ⟨0, off, none⟩ = cs.toList[off]? := fun off => by have := World.var?_cell hg hvar off; simpa using this
  intro i hi
  simp only [hc]
  match i, hi with
  | 0, _ => exact form_row hd 0 (by decide) _ _ _ _ _ rfl
  | 1, _ => exact form_row hd 1 (by decide) _ _ _ _ _ rfl
  | 2, _ => exact form_row hd 2 (by decide) _ _ _ _ _ rfl
  | 3, _ => exact form_row hd 3 (by decide) _ _ _ _ _ rfl
  | 4, _ => exact form_row hd 4 (by decide) _ _ _ _ _ rfl
  | 5, _ => exact form_row hd 5 (by decide) _ _ _ _ _ rfl
  | 6, _ => exact form_row hd 6 (by decide) _ _ _ _ _ rfl
  | 7, _ => exact form_row hd 7 (by decide) _ _ _ _ _ rfl
  | 8, _ => exact form_row hd 8 (by decide) _ _ _ _ _ rfl
  | 9, _ => exact form_row hd 9 (by decide) _ _ _ _ _ rfl
  | 10, _ => exact form_row hd 10 (by decide) _ _ _ _ _ rfl
  | 11, _ => exact form_row hd 11 (by decide) _ _ _ _ _ rfl
  | 12, _ => exact form_row hd 12 (by decide) _ _ _ _ _ rfl
  | 13, _ => exact form_row hd 13 (by decide) _ _ _ _ _ rfl
  | 14, _ => exact form_row hd 14 (by decide) _ _ _ _ _ rfl
  | 15, _ => exact form_row hd 15 (by decide) _ _ _ _ _ rfl
  | _ + 16, h => exact absurd h (by omega)
end Go.Proofs.YteeojgefnoaajaaDoor
