/-
  Proved: an edit that came in as an argument reads as an edit.
-/
import Derived.Test.YtimigpdbegfjaaaGreatDoorExprArg
import Derived.Test.YtimigpdbegfjaaaGreatDoorIntsArg
import Derived.Test.YtimigpdbegfjaaaGreatDoorEditAt
namespace Go.Proofs.YtimigpdbegfjaaaGreatDoor
open Go.ChangeShapes Go.WideShapes Go.ChangeAt Go.RowKit Go.WideMaps Go.WideElems

theorem und_led : Tryz.prog.underlying 30 = some (.struct #[⟨"Expr", 27, 0, false, "", "", 0⟩, ⟨"Path", 28, 6, false, "", "", 88⟩]) := by kernel_rfl
theorem cells_led : Tryz.prog.cellsOf 30 = 7 := by kernel_rfl
theorem cells_ints : Tryz.prog.cellsOf 28 = 1 := by kernel_rfl
theorem list_seven {α : Type} : ∀ (l : List α), l.length = 7 → ∃ a b c d e f g, l = [a, b, c, d, e, f, g]
  | [a, b, c, d, e, f, g], _ => ⟨a, b, c, d, e, f, g, rfl⟩
set_option maxRecDepth 100000 in
theorem ints_open {H : Type} {enc : TypeId × Value → H} {W : World} {base : Nat} {fuel : Nat} {v : Value} {x : DataW H × List MemPlace} (h : DataW.trod enc Tryz.prog W base (fun _ => true) true fuel 28 [v] = some x) :
    ∃ a n c ss, v = .slice a n c ∧ Ints W v ss ∧ ss.length ≤ 9223372036854775807 := by
  have cells : Tryz.prog.cellsOf 3 = 1 := by kernel_rfl
  obtain ⟨x1, x2⟩ := x
  rcases open_ints Tryz.underlying28 Tryz.underlying3 cells h with ⟨hcs, hx⟩ | ⟨a, len', cap', ss, hcs, _, hl, hm, hz, hx, hcell, hws⟩
  · simp at hcs
    subst hcs
    exact ⟨_, _, _, [], rfl, Ints.nil _ _, by simp⟩
  · simp at hcs
    subst hcs
    simp at hz
    have hlen : (ss.take len').length = len' := by rw [List.length_take]; omega
    refine ⟨_, _, _, ss.take len', rfl, ?_, by unfold maxLen at hm; omega⟩
    refine ⟨some a, cap', by rw [hlen], by omega, fun j hj => ?_⟩
    obtain ⟨b, off, spot⟩ := a
    have hspot : spot = none := by simpa [Addr.add] using World.cell?_spot (hcell 0 (by omega))
    subst hspot
    have hj' : j < ss.length := by omega
    have hc := hcell j hj'
    rw [addr_add] at hc
    refine ⟨b, off, rfl, ?_, ?_⟩
    · by_cases hlt : b < W.heap.size
      · exact hlt
      · exfalso
        simp [World.cell?, Array.getElem?_eq_none (Nat.le_of_not_lt hlt)] at hc
    · rw [hc]
      simp [List.getD, hj']
set_option maxRecDepth 100000 in
set_option maxHeartbeats 1000000 in
theorem ed_of_arg {H : Type} {enc : TypeId × Value → H} {W : World} {base b0 : Nat} {v : Value} {x : DataW H} {ps : List MemPlace} (hval : Value.okWide Tryz.prog W .any b0 30 v)
    (h : DataW.Trod enc Tryz.prog W base (fun _ => true) true 30 v x ps) : ∃ d t, EditAt W d v t := by
  obtain ⟨cs, rfl, _⟩ := okWide_struct und_led hval
  obtain ⟨fuel, hf⟩ := h
  have hf2 : DataW.trod enc Tryz.prog W base (fun _ => true) true fuel 30 cs.toList = some (x, ps) := hf
  obtain ⟨xs, n, _, _, hl, hlen, hg⟩ := DataW.trod_struct und_led hf2
  rw [cells_led] at hl
  obtain ⟨c0, c1, c2, c3, c4, c5, c6, hcs⟩ := list_seven cs.toList hl
  rw [hcs] at hg
  have g0 : DataW.trod enc Tryz.prog W base (fun _ => true) true n 27 (([c0, c1, c2, c3, c4, c5, c6].drop 0).take (Tryz.prog.cellsOf 27)) = xs[0]? := hg 0 ⟨"Expr", 27, 0, false, "", "", 0⟩ rfl
  have g1 : DataW.trod enc Tryz.prog W base (fun _ => true) true n 28 (([c0, c1, c2, c3, c4, c5, c6].drop 6).take (Tryz.prog.cellsOf 28)) = xs[1]? := hg 1 ⟨"Path", 28, 6, false, "", "", 88⟩ rfl
  rw [cells_lex] at g0
  rw [cells_ints] at g1
  have hlen2 : xs.length = 2 := hlen
  clear hg hlen
  simp only [List.drop_zero, List.take_succ_cons, List.take_zero, List.drop_succ_cons] at g0 g1
  obtain ⟨y0, hy0⟩ : ∃ y, xs[0]? = some y := ⟨_, List.getElem?_eq_getElem (by rw [hlen2]; decide)⟩
  obtain ⟨y1, hy1⟩ : ∃ y, xs[1]? = some y := ⟨_, List.getElem?_eq_getElem (by rw [hlen2]; decide)⟩
  rw [hy0] at g0
  rw [hy1] at g1
  obtain ⟨d0, d1, d2, d3, d4, d5, t, hc, ht⟩ := lex_open n _ _ g0
  injection hc with e0 hc
  injection hc with e1 hc
  injection hc with e2 hc
  injection hc with e3 hc
  injection hc with e4 hc
  injection hc with e5 hc
  subst e0 e1 e2 e3 e4 e5
  obtain ⟨pa, pn, pc, ss, rfl, hi, hsl⟩ := ints_open g1
  obtain ⟨k, nm, n', tk, ta, tn, tc, a, m, c, rfl, rfl, rfl, rfl, rfl, rfl⟩ := ex_cells ht
  have e : cs = #[.int .i64 k, .string nm, .int .i64 n', .int .i64 tk, .slice ta tn tc, .slice a m c, .slice pa pn pc] := Array.toList_inj.1 hcs
  subst e
  exact ⟨n, ⟨t, ss⟩, ⟨_, _, _, _, _, _, _, _, _, _, _, _, _, rfl, ht, hi, hsl⟩⟩
theorem EditAt.mono {w : World} {d d' : Nat} {v : Value} {t : Edi} (h : EditAt w d v t) (hd : d ≤ d') : EditAt w d' v t := by
  obtain ⟨k, nm, n, tk, ta, tn, tc, sa, sn, sc, pa, pn, pc, rfl, he, hi, hl⟩ := h
  exact ⟨_, _, _, _, _, _, _, _, _, _, _, _, _, rfl, he.mono hd, hi, hl⟩
end Go.Proofs.YtimigpdbegfjaaaGreatDoor
