/-
  Proved: an action that came in as an argument reads as an action.
-/
import Derived.Test.YtdgfkmnnjhlpbaaDoorTypeArg
import Derived.Test.YtdgfkmnnjhlpbaaDoorPart
import Derived.Test.YtdgfkmnnjhlpbaaDoorActAt
namespace Go.Proofs.YtdgfkmnnjhlpbaaDoor
open Go.ChangeShapes Go.WideShapes Go.ChangeAt Go.RowKit Go.WideMaps Go.WideElems

theorem und_lact : Tryd.prog.underlying 26 = some (.struct #[⟨"Kind", 3, 0, false, "", "", 0⟩, ⟨"Name", 9, 1, false, "", "", 8⟩, ⟨"N", 3, 2, false, "", "", 24⟩, ⟨"Type", 24, 3, false, "", "", 32⟩]) := by kernel_rfl
theorem cells_lact : Tryd.prog.cellsOf 26 = 5 := by kernel_rfl
theorem cells_str : Tryd.prog.cellsOf 9 = 1 := by kernel_rfl
theorem list_five {α : Type} : ∀ (l : List α), l.length = 5 → ∃ a b c d e, l = [a, b, c, d, e]
  | [a, b, c, d, e], _ => ⟨a, b, c, d, e, rfl⟩
set_option maxRecDepth 100000 in
set_option maxHeartbeats 1000000 in
theorem lact_open {H : Type} {enc : TypeId × Value → H} {W : World} {base : Nat} {sp : Nat → Bool} {held : Bool} (fuel : Nat) (cs : List Value) (x : DataW H × List MemPlace) (h : DataW.trod enc Tryd.prog W base sp held fuel 26 cs = some x) :
    ∃ c0 c1 c2 c3 c4 n t, cs = [c0, c1, c2, c3, c4] ∧ ActAt W n (.agg #[c0, c1, c2, c3, c4]) t := by
  obtain ⟨xs, n, rfl, _, hl, hlen, hf⟩ := DataW.trod_struct und_lact h
  rw [cells_lact] at hl
  obtain ⟨c0, c1, c2, c3, c4, rfl⟩ := list_five cs hl
  have g0 : DataW.trod enc Tryd.prog W base sp held n 3 (([c0, c1, c2, c3, c4].drop 0).take (Tryd.prog.cellsOf 3)) = xs[0]? := hf 0 ⟨"Kind", 3, 0, false, "", "", 0⟩ rfl
  have g1 : DataW.trod enc Tryd.prog W base sp held n 9 (([c0, c1, c2, c3, c4].drop 1).take (Tryd.prog.cellsOf 9)) = xs[1]? := hf 1 ⟨"Name", 9, 1, false, "", "", 8⟩ rfl
  have g2 : DataW.trod enc Tryd.prog W base sp held n 3 (([c0, c1, c2, c3, c4].drop 2).take (Tryd.prog.cellsOf 3)) = xs[2]? := hf 2 ⟨"N", 3, 2, false, "", "", 24⟩ rfl
  have g3 : DataW.trod enc Tryd.prog W base sp held n 24 (([c0, c1, c2, c3, c4].drop 3).take (Tryd.prog.cellsOf 24)) = xs[3]? := hf 3 ⟨"Type", 24, 3, false, "", "", 32⟩ rfl
  rw [cells_int] at g0 g2
  rw [cells_str] at g1
  rw [cells_lty] at g3
  have hlen2 : xs.length = 4 := hlen
  clear hf hlen
  simp only [List.drop_zero, List.take_succ_cons, List.take_zero, List.drop_succ_cons] at g0 g1 g2 g3
  obtain ⟨y0, hy0⟩ : ∃ y, xs[0]? = some y := ⟨_, List.getElem?_eq_getElem (by rw [hlen2]; decide)⟩
  obtain ⟨y1, hy1⟩ : ∃ y, xs[1]? = some y := ⟨_, List.getElem?_eq_getElem (by rw [hlen2]; decide)⟩
  obtain ⟨y2, hy2⟩ : ∃ y, xs[2]? = some y := ⟨_, List.getElem?_eq_getElem (by rw [hlen2]; decide)⟩
  obtain ⟨y3, hy3⟩ : ∃ y, xs[3]? = some y := ⟨_, List.getElem?_eq_getElem (by rw [hlen2]; decide)⟩
  rw [hy0] at g0
  rw [hy1] at g1
  rw [hy2] at g2
  rw [hy3] at g3
  have e1 : IntKind.i64.min = -9223372036854775808 := by kernel_rfl
  have e2 : IntKind.i64.max = 9223372036854775807 := by kernel_rfl
  obtain ⟨k, hk, _, hwf⟩ := DataW.trod_int Tryd.underlying3 g0
  cases hk
  have hkb : -9223372036854775808 ≤ k ∧ k ≤ 9223372036854775807 := by
    simp only [Lit.wf, Bool.and_eq_true, decide_eq_true_eq] at hwf
    rw [e1, e2] at hwf
    exact hwf
  obtain ⟨nn, hnn, _, hwf2⟩ := DataW.trod_int Tryd.underlying3 g2
  cases hnn
  have hnb : -9223372036854775808 ≤ nn ∧ nn ≤ 9223372036854775807 := by
    simp only [Lit.wf, Bool.and_eq_true, decide_eq_true_eq] at hwf2
    rw [e1, e2] at hwf2
    exact hwf2
  obtain ⟨nm, hnm, _, hnml⟩ := DataW.trod_string Tryd.underlying9 g1
  cases hnm
  obtain ⟨d0, d1, ty, hty, htya⟩ := lty_open n _ _ g3
  cases hty
  have hnm2 : nm.size ≤ 9223372036854775807 := by unfold maxLen at hnml; omega
  obtain ⟨tk, ta, tn, tc, hv⟩ := agg_parts htya
  injection hv with hv
  injection hv with hv
  simp at hv
  obtain ⟨rfl, rfl⟩ := hv
  exact ⟨_, _, _, _, _, n, ⟨k, nm, nn, ty⟩, rfl, ⟨_, _, _, _, rfl, hkb.1, hkb.2, hnb.1, hnb.2, hnm2, htya⟩⟩
set_option maxRecDepth 100000 in
theorem act_of_arg {H : Type} {enc : TypeId × Value → H} {W : World} {base b0 : Nat} {v : Value} {x : DataW H} {ps : List MemPlace} (hval : Value.okWide Tryd.prog W .any b0 26 v)
    (h : DataW.Trod enc Tryd.prog W base (fun _ => true) true 26 v x ps) : ∃ d t, ActAt W d v t := by
  obtain ⟨cs, rfl, _⟩ := okWide_struct und_lact hval
  obtain ⟨fuel, hf⟩ := h
  obtain ⟨c0, c1, c2, c3, c4, n, t, hc, ht⟩ := lact_open fuel _ _ hf
  have hcs : cs.toList = [c0, c1, c2, c3, c4] := hc
  have e : cs = #[c0, c1, c2, c3, c4] := Array.toList_inj.1 hcs
  subst e
  exact ⟨n, t, ht⟩
end Go.Proofs.YtdgfkmnnjhlpbaaDoor
