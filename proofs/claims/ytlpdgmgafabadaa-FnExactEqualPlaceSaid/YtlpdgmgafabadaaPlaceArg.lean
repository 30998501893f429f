/-
  Proved: a place that came in as an argument reads as a place.
-/
import Derived.Test.YtlpdgmgafabadaaBindsArg
import Derived.Test.YtlpdgmgafabadaaPlMem
namespace Go.Proofs.Ytlpdgmgafabadaa
open Go.ChangeShapes Go.WideShapes Go.ChangeAt Go.RowKit Go.WideMaps Go.WideElems

theorem und_lpl : Try.prog.underlying 47 = some (.struct #[⟨"Ctx", 35, 0, false, "", "", 0⟩, ⟨"Ana", 4, 1, false, "", "", 24⟩, ⟨"Type", 24, 2, false, "", "", 32⟩]) := by kernel_rfl
theorem cells_lpl : Try.prog.cellsOf 47 = 4 := by kernel_rfl
theorem cells_lpb : Try.prog.cellsOf 35 = 1 := by kernel_rfl
theorem cells_pbool : Try.prog.cellsOf 4 = 1 := by kernel_rfl
theorem list_quad {α : Type} : ∀ (l : List α), l.length = 4 → ∃ a b c d, l = [a, b, c, d]
  | [a, b, c, d], _ => ⟨a, b, c, d, rfl⟩
theorem PlAt.mono {w : World} {d d' : Nat} {v : Value} {p : Pl} (h : PlAt w d v p) (hd : d ≤ d') : PlAt w d' v p := by
  obtain ⟨ca, cn, cc, tk, ta, tn, tc, hv, hc, ht⟩ := h
  exact ⟨ca, cn, cc, tk, ta, tn, tc, hv, hc.mono hd, ht.mono hd⟩
set_option maxRecDepth 100000 in
set_option maxHeartbeats 1000000 in
theorem pl_of_arg {H : Type} {enc : TypeId × Value → H} {W : World} {base b0 : Nat} {v : Value} {x : DataW H} {ps : List MemPlace} (hval : Value.okWide Try.prog W .any b0 47 v)
    (h : DataW.Trod enc Try.prog W base (fun _ => true) true 47 v x ps) : ∃ d t, PlAt W d v t := by
  obtain ⟨cs, rfl, _⟩ := okWide_struct und_lpl hval
  obtain ⟨fuel, hf⟩ := h
  have hf2 : DataW.trod enc Try.prog W base (fun _ => true) true fuel 47 cs.toList = some (x, ps) := hf
  obtain ⟨xs, n, _, _, hl, hlen, hg⟩ := DataW.trod_struct und_lpl hf2
  rw [cells_lpl] at hl
  obtain ⟨c0, c1, c2, c3, hcs⟩ := list_quad cs.toList hl
  rw [hcs] at hg
  have g0 : DataW.trod enc Try.prog W base (fun _ => true) true n 35 (([c0, c1, c2, c3].drop 0).take (Try.prog.cellsOf 35)) = xs[0]? := hg 0 ⟨"Ctx", 35, 0, false, "", "", 0⟩ rfl
  have g1 : DataW.trod enc Try.prog W base (fun _ => true) true n 4 (([c0, c1, c2, c3].drop 1).take (Try.prog.cellsOf 4)) = xs[1]? := hg 1 ⟨"Ana", 4, 1, false, "", "", 24⟩ rfl
  have g2 : DataW.trod enc Try.prog W base (fun _ => true) true n 24 (([c0, c1, c2, c3].drop 2).take (Try.prog.cellsOf 24)) = xs[2]? := hg 2 ⟨"Type", 24, 2, false, "", "", 32⟩ rfl
  rw [cells_lpb] at g0
  rw [cells_pbool] at g1
  rw [cells_lty] at g2
  have hlen2 : xs.length = 3 := hlen
  clear hg hlen
  simp only [List.drop_zero, List.take_succ_cons, List.take_zero, List.drop_succ_cons] at g0 g1 g2
  obtain ⟨y0, hy0⟩ : ∃ y, xs[0]? = some y := ⟨_, List.getElem?_eq_getElem (by rw [hlen2]; decide)⟩
  obtain ⟨y1, hy1⟩ : ∃ y, xs[1]? = some y := ⟨_, List.getElem?_eq_getElem (by rw [hlen2]; decide)⟩
  obtain ⟨y2, hy2⟩ : ∃ y, xs[2]? = some y := ⟨_, List.getElem?_eq_getElem (by rw [hlen2]; decide)⟩
  rw [hy0] at g0
  rw [hy1] at g1
  rw [hy2] at g2
  obtain ⟨db, bs, hbs⟩ := lbis_open g0
  obtain ⟨ana, hana, _⟩ := DataW.trod_bool Try.underlying4 g1
  cases hana
  obtain ⟨d0, d1, ty, hty, htya⟩ := lty_open n _ _ g2
  cases hty
  obtain ⟨ca, cc, rfl, _⟩ := id hbs
  obtain ⟨tk, ta, tn, tc, hv⟩ := agg_parts htya
  injection hv with hv
  injection hv with hv
  simp at hv
  obtain ⟨rfl, rfl⟩ := hv
  have e : cs = #[.slice ca bs.length cc, .bool ana, .int .i64 tk, .slice ta tn tc] := Array.toList_inj.1 hcs
  subst e
  exact ⟨max db n, ⟨bs, ana, ty⟩, ⟨_, _, _, _, _, _, _, rfl, hbs.mono (Nat.le_max_left _ _), htya.mono (Nat.le_max_right _ _)⟩⟩
end Go.Proofs.Ytlpdgmgafabadaa
