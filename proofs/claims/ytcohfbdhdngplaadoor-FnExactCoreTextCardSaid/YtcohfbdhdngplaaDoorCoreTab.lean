/-
  Proved: the pinned table of the forms of core expressions holds the numbers of Args, five cells a kind.
-/
import Derived.Test.YtcohfbdhdngplaaDoorLaw
import Derived.Test.YtcohfbdhdngplaaDoorRows
import Derived.Lib.LaidTab
import Derived.LaidMore
namespace Go.Proofs.YtcohfbdhdngplaaDoor
open Go.RowKit Go.ChangeShapes Go.WideShapes Go.ChangeAt

/-- The numbers of Args, by kind. -/
abbrev coTab : List Int := [0, 0, 1, 0, 1, 2, 0, 2, 2, 0, 3, 2, 1, 1, 1, 1]
def coArity (n : Int) : Int := if 1 ≤ n ∧ n ≤ 15 then coTab.getD n.toNat 0 else -1
theorem coArity_out {n : Int} (h : ¬ (1 ≤ n ∧ n ≤ 15)) : coArity n = -1 := if_neg h
theorem forms_cells {H : Type} {enc : TypeId × Value → H} {P : Program} {w : World} {base : Nat} {sp : Nat → Bool} {held : Bool} {fuel : Nat} {t e : TypeId} {n c : Nat} {cs : List Value} {ds : List (DataW H)} {p : List MemPlace}
    (ht : P.underlying t = some (.array n e)) (hce : P.cellsOf e = c) (h : DataW.trod enc P w base sp held fuel t cs = some (.agg ds, p)) (i : Nat) (hi : i < n) :
    ∃ m d q, DataW.trod enc P w base sp held m e ((cs.drop (i * c)).take c) = some (d, q) ∧ ds[i]? = some d := by
  cases fuel with
  | zero => simp [DataW.trod] at h
  | succ fuel =>
    simp only [DataW.trod, ht, hce] at h
    split at h
    · obtain ⟨xs, hm, hx⟩ := Option.map_eq_some_iff.1 h
      obtain ⟨b, hb, hf⟩ := Lib.mapM_at hm i i (by simp [hi])
      have hxs : xs.map (·.1) = ds := by have := congrArg Prod.fst hx; simpa using this
      exact ⟨fuel, b.1, b.2, hf, by rw [← hxs]; simp [hb]⟩
    · cases h
theorem und_forms : Tryd.prog.underlying 150 = some (.array 16 149) := by kernel_rfl
theorem und_form : Tryd.prog.underlying 149 = some (.struct #[⟨"arity", 3, 0, false, "", "loop.example/g00585/impl", 0⟩, ⟨"named", 4, 1, false, "", "loop.example/g00585/impl", 8⟩, ⟨"bound", 4, 2, false, "", "loop.example/g00585/impl", 9⟩, ⟨"coreTypes", 147, 3, true, "", "loop.example/g00585/impl", 10⟩]) := by kernel_rfl
theorem cells_form : Tryd.prog.cellsOf 149 = 5 := by kernel_rfl
theorem cells_fint : Tryd.prog.cellsOf 3 = 1 := by kernel_rfl
set_option maxRecDepth 100000 in
theorem form_arity {H : Type} {enc : TypeId × Value → H} {w : World} {base : Nat} {sp : Nat → Bool} {held : Bool} {fuel : Nat} {cs : List Value} {ds : List (DataW H)} {p : List MemPlace}
    (h : DataW.trod enc Tryd.prog w base sp held fuel 150 cs = some (.agg ds, p)) (i : Nat) (hi : i < 16) (z : Int) (rest : List (DataW H)) (hd : ds[i]? = some (.agg (.lit (.int .i64 z) :: rest))) : cs[i * 5]? = some (.int .i64 z) := by
  obtain ⟨m, d, q, hm, hdd⟩ := forms_cells und_forms cells_form h i hi
  rw [hd] at hdd
  obtain rfl := Option.some.inj hdd
  obtain ⟨xs, n, _, hx, hl, hlen, hf⟩ := DataW.trod_struct und_form hm
  have g0 : DataW.trod enc Tryd.prog w base sp held n 3 ((((cs.drop (i * 5)).take 5).drop 0).take (Tryd.prog.cellsOf 3)) = xs[0]? := hf 0 ⟨"arity", 3, 0, false, "", "loop.example/g00585/impl", 0⟩ rfl
  rw [cells_fint] at g0
  have hlen2 : xs.length = 4 := hlen
  obtain ⟨y0, hy0⟩ : ∃ y, xs[0]? = some y := ⟨_, List.getElem?_eq_getElem (by rw [hlen2]; decide)⟩
  rw [hy0] at g0
  obtain ⟨k, hk, hy, _⟩ := DataW.trod_int Tryd.underlying3 g0
  have hxs : (xs.map (·.1))[0]? = some (DataW.lit (.int .i64 z) : DataW H) := by
    have := congrArg Prod.fst hx
    have e : (DataW.agg (.lit (.int .i64 z) :: rest) : DataW H) = .agg (xs.map (·.1)) := by simpa using this
    injection e with e
    rw [← e]; rfl
  rw [List.getElem?_map, hy0, hy] at hxs
  simp at hxs
  subst hxs
  have := congrArg (·[0]?) hk
  simpa [List.getElem?_take, List.getElem?_drop] using this
/-- The table's cells as the program reads them. -/
def CoreTab (w : World) : Prop := 0 < w.heap.size ∧ ∀ i, i < 16 → w.cell? ⟨0, i * 5, none⟩ = some (.int .i64 (coTab.getD i 0))
theorem CoreTab.below {w w' : World} (h : CoreTab w) (hb : Below w.heap.size w w') : CoreTab w' :=
  ⟨Nat.lt_of_lt_of_le h.1 hb.size, fun i hi => by rw [hb.cell (p := ⟨0, i * 5, none⟩) h.1]; exact h.2 i hi⟩
set_option maxRecDepth 100000 in
theorem coreTab_of {W : World} (h : laidMet Tryd.prog [("loop.example/g00585/impl.coreForms", Rows.laid_loop_example_g00585_impl_coreForms)] W) : CoreTab W := by
  have hg : Tryd.prog.globalNamed "loop.example/g00585/impl.coreForms" = some 0 := by kernel_rfl
  have hty : (Tryd.prog.globals[0]?).map (·.type) = some 150 := by kernel_rfl
  obtain ⟨ps, ⟨g', t', cs, fuel, p, q, hg', ht', hvar, hd, _, _⟩, _⟩ := h
  obtain rfl := Option.some.inj (hg.symm.trans hg')
  obtain rfl := Option.some.inj (hty.symm.trans ht')
  have hc : ∀ off, W.cell? ⟨0, off, none⟩ = cs.toList[off]? := fun off => by have := World.var?_cell hg hvar off; simpa using this
  have all : ∀ i, i < 16 → W.cell? ⟨0, i * 5, none⟩ = some (.int .i64 (coTab.getD i 0)) := by
    intro i hi
    rw [hc]
    match i, hi with
    | 0, _ => exact form_arity hd 0 (by decide) _ _ rfl
    | 1, _ => exact form_arity hd 1 (by decide) _ _ rfl
    | 2, _ => exact form_arity hd 2 (by decide) _ _ rfl
    | 3, _ => exact form_arity hd 3 (by decide) _ _ rfl
    | 4, _ => exact form_arity hd 4 (by decide) _ _ rfl
    | 5, _ => exact form_arity hd 5 (by decide) _ _ rfl
    | 6, _ => exact form_arity hd 6 (by decide) _ _ rfl
    | 7, _ => exact form_arity hd 7 (by decide) _ _ rfl
    | 8, _ => exact form_arity hd 8 (by decide) _ _ rfl
    | 9, _ => exact form_arity hd 9 (by decide) _ _ rfl
    | 10, _ => exact form_arity hd 10 (by decide) _ _ rfl
    | 11, _ => exact form_arity hd 11 (by decide) _ _ rfl
    | 12, _ => exact form_arity hd 12 (by decide) _ _ rfl
    | 13, _ => exact form_arity hd 13 (by decide) _ _ rfl
    | 14, _ => exact form_arity hd 14 (by decide) _ _ rfl
    | 15, _ => exact form_arity hd 15 (by decide) _ _ rfl
    | _ + 16, h => exact absurd h (by omega)
  refine ⟨?_, all⟩
  have h0 := all 0 (by decide)
  by_cases hlt : 0 < W.heap.size
  · exact hlt
  · exfalso
    simp [World.cell?, Array.getElem?_eq_none (Nat.le_of_not_lt hlt)] at h0
end Go.Proofs.YtcohfbdhdngplaaDoor
