/-
  Proved: an expression's tree that came in as an argument reads as a tree.
-/
import Derived.Test.YtcohfbdhdngplaaTypeArg
import Derived.Test.YtcohfbdhdngplaaExTree
namespace Go.Proofs.Ytcohfbdhdngplaa
open Go.ChangeShapes Go.WideShapes Go.ChangeAt Go.RowKit Go.WideMaps Go.WideElems

theorem und_lex : Try.prog.underlying 27 = some (.struct #[⟨"Kind", 3, 0, false, "", "", 0⟩, ⟨"Name", 9, 1, false, "", "", 8⟩, ⟨"N", 3, 2, false, "", "", 24⟩, ⟨"Type", 24, 3, false, "", "", 32⟩, ⟨"Args", 25, 5, false, "", "", 64⟩]) := by kernel_rfl
theorem und_lexs : Try.prog.underlying 25 = some (.slice 27) := by kernel_rfl
theorem cells_lex : Try.prog.cellsOf 27 = 6 := by kernel_rfl
theorem cells_lexs : Try.prog.cellsOf 25 = 1 := by kernel_rfl
theorem cells_string : Try.prog.cellsOf 9 = 1 := by kernel_rfl
theorem RowEx.mono {w : World} {R S : Value → Ex → Prop} {v : Value} {es : List Ex} (h : RowEx R w v es) (hRS : ∀ v e, R v e → S v e) : RowEx S w v es := h.weaker hRS
theorem ExAt.succ {w : World} : ∀ {d : Nat} {v : Value} {e : Ex}, ExAt w d v e → ExAt w (d + 1) v e
  | 0, _, _, h => h.elim
  | d + 1, v, .node k nm n ty es, h => by
    obtain ⟨c3, c4, sl, hv, h0, h1, h2, h3, h4, ht, h⟩ := h
    exact ⟨c3, c4, sl, hv, h0, h1, h2, h3, h4, ht.succ, h.weaker fun v e h => ExAt.succ h⟩
theorem ExAt.mono {w : World} {d d' : Nat} {v : Value} {e : Ex} (h : ExAt w d v e) (hd : d ≤ d') : ExAt w d' v e := by
  induction hd with
  | refl => exact h
  | step _ ih => exact ih.succ
theorem list_six {α : Type} : ∀ (l : List α), l.length = 6 → ∃ a b c d e f, l = [a, b, c, d, e, f]
  | [a, b, c, d, e, f], _ => ⟨a, b, c, d, e, f, rfl⟩

set_option maxRecDepth 100000 in
set_option maxHeartbeats 1000000 in
theorem lex_open {H : Type} {enc : TypeId × Value → H} {W : World} {base : Nat} {sp : Nat → Bool} {held : Bool} (fuel : Nat) : ∀ (cs : List Value) (x : DataW H × List MemPlace), DataW.trod enc Try.prog W base sp held fuel 27 cs = some x →
    ∃ c0 c1 c2 c3 c4 c5 t, cs = [c0, c1, c2, c3, c4, c5] ∧ ExAt W fuel (.agg #[c0, c1, c2, c3, c4, c5]) t := by
  induction fuel using Nat.strongRecOn with
  | ind fuel ih =>
    intro cs x h
    obtain ⟨xs, n, rfl, _, hl, hlen, hf⟩ := DataW.trod_struct und_lex h
    rw [cells_lex] at hl
    obtain ⟨c0, c1, c2, c3, c4, c5, rfl⟩ := list_six cs hl
    have g0 : DataW.trod enc Try.prog W base sp held n 3 (([c0, c1, c2, c3, c4, c5].drop 0).take (Try.prog.cellsOf 3)) = xs[0]? := hf 0 ⟨"Kind", 3, 0, false, "", "", 0⟩ rfl
    have g1 : DataW.trod enc Try.prog W base sp held n 9 (([c0, c1, c2, c3, c4, c5].drop 1).take (Try.prog.cellsOf 9)) = xs[1]? := hf 1 ⟨"Name", 9, 1, false, "", "", 8⟩ rfl
    have g2 : DataW.trod enc Try.prog W base sp held n 3 (([c0, c1, c2, c3, c4, c5].drop 2).take (Try.prog.cellsOf 3)) = xs[2]? := hf 2 ⟨"N", 3, 2, false, "", "", 24⟩ rfl
    have g3 : DataW.trod enc Try.prog W base sp held n 24 (([c0, c1, c2, c3, c4, c5].drop 3).take (Try.prog.cellsOf 24)) = xs[3]? := hf 3 ⟨"Type", 24, 3, false, "", "", 32⟩ rfl
    have g4 : DataW.trod enc Try.prog W base sp held n 25 (([c0, c1, c2, c3, c4, c5].drop 5).take (Try.prog.cellsOf 25)) = xs[4]? := hf 4 ⟨"Args", 25, 5, false, "", "", 64⟩ rfl
    rw [cells_int] at g0 g2
    rw [cells_string] at g1
    rw [cells_lty] at g3
    rw [cells_lexs] at g4
    have hlen2 : xs.length = 5 := hlen
    clear hf hlen
    simp only [List.drop_zero, List.take_succ_cons, List.take_zero, List.drop_succ_cons] at g0 g1 g2 g3 g4
    obtain ⟨y0, hy0⟩ : ∃ y, xs[0]? = some y := ⟨_, List.getElem?_eq_getElem (by rw [hlen2]; decide)⟩
    obtain ⟨y1, hy1⟩ : ∃ y, xs[1]? = some y := ⟨_, List.getElem?_eq_getElem (by rw [hlen2]; decide)⟩
    obtain ⟨y2, hy2⟩ : ∃ y, xs[2]? = some y := ⟨_, List.getElem?_eq_getElem (by rw [hlen2]; decide)⟩
    obtain ⟨y3, hy3⟩ : ∃ y, xs[3]? = some y := ⟨_, List.getElem?_eq_getElem (by rw [hlen2]; decide)⟩
    obtain ⟨y4, hy4⟩ : ∃ y, xs[4]? = some y := ⟨_, List.getElem?_eq_getElem (by rw [hlen2]; decide)⟩
    rw [hy0] at g0
    rw [hy1] at g1
    rw [hy2] at g2
    rw [hy3] at g3
    rw [hy4] at g4
    have e1 : IntKind.i64.min = -9223372036854775808 := by kernel_rfl
    have e2 : IntKind.i64.max = 9223372036854775807 := by kernel_rfl
    obtain ⟨k, hk, _, hwf⟩ := DataW.trod_int Try.underlying3 g0
    cases hk
    have hkb : -9223372036854775808 ≤ k ∧ k ≤ 9223372036854775807 := by
      simp only [Lit.wf, Bool.and_eq_true, decide_eq_true_eq] at hwf
      rw [e1, e2] at hwf
      exact hwf
    obtain ⟨nn, hnn, _, hwf2⟩ := DataW.trod_int Try.underlying3 g2
    cases hnn
    have hnb : -9223372036854775808 ≤ nn ∧ nn ≤ 9223372036854775807 := by
      simp only [Lit.wf, Bool.and_eq_true, decide_eq_true_eq] at hwf2
      rw [e1, e2] at hwf2
      exact hwf2
    obtain ⟨nm, hnm, _, hnml⟩ := DataW.trod_string Try.underlying9 g1
    cases hnm
    obtain ⟨d0, d1, ty, hty, htya⟩ := lty_open n _ _ g3
    cases hty
    have hnm2 : nm.size ≤ 9223372036854775807 := by unfold maxLen at hnml; omega
    rcases DataW.trod_slice und_lexs g4 with ⟨hcs, _⟩ | ⟨a, len, cap, elems, rest, m, hm, hcs, _, hb, hlc, hcm, hel, hget, _, _⟩
    · cases hcs
      exact ⟨_, _, _, _, _, _, .node k nm nn ty [], rfl, ⟨_, _, _, rfl, hkb.1, hkb.2, hnb.1, hnb.2, hnm2, htya, none, 0, rfl, Nat.le_refl _, by omega, fun j hj => by simp at hj⟩⟩
    · cases hcs
      have first : 0 < len → a.spot = none := by
        intro h0
        have hg0 := hget 0 h0
        rw [cells_lex, List.getElem?_eq_getElem (by omega)] at hg0
        obtain ⟨cs2, hc2, ht2⟩ := Option.bind_eq_some_iff.1 hg0
        obtain ⟨d0, d1, d2, d3, d4, d5, t, rfl, _⟩ := ih m (by omega) cs2 _ ht2
        obtain ⟨_, _, hc⟩ := World.cells?_some hc2
        have e0 := hc 0 (by omega)
        exact World.cell?_spot (show W.cell? a = some d0 from e0)
      obtain ⟨b, off, spot⟩ := a
      have each : ∀ j, j < len → ∃ t, ∃ c0 c1 c2 c3 c4 c5, spot = none ∧ b < W.heap.size ∧ W.cell? ⟨b, off + j * 6, none⟩ = some c0 ∧ W.cell? ⟨b, off + j * 6 + 1, none⟩ = some c1 ∧ W.cell? ⟨b, off + j * 6 + 2, none⟩ = some c2 ∧
          W.cell? ⟨b, off + j * 6 + 3, none⟩ = some c3 ∧ W.cell? ⟨b, off + j * 6 + 4, none⟩ = some c4 ∧ W.cell? ⟨b, off + j * 6 + 5, none⟩ = some c5 ∧ ExAt W m (.agg #[c0, c1, c2, c3, c4, c5]) t := by
        intro j hj
        have hgj := hget j hj
        have hspot : spot = none := first (by omega)
        subst hspot
        rw [cells_lex, List.getElem?_eq_getElem (by omega), ty_addr] at hgj
        obtain ⟨cs2, hc2, ht2⟩ := Option.bind_eq_some_iff.1 hgj
        obtain ⟨d0, d1, d2, d3, d4, d5, t, rfl, hty⟩ := ih m (by omega) cs2 _ ht2
        obtain ⟨_, _, hc⟩ := World.cells?_some hc2
        have e0 := hc 0 (by omega)
        have e1 := hc 1 (by omega)
        have e2 := hc 2 (by omega)
        have e3 := hc 3 (by omega)
        have e4 := hc 4 (by omega)
        have e5 := hc 5 (by omega)
        rw [ty_addr] at e0 e1 e2 e3 e4 e5
        exact ⟨t, d0, d1, d2, d3, d4, d5, rfl, World.cells?_block hc2 (by omega), e0, e1, e2, e3, e4, e5, hty⟩
      obtain ⟨ts, hts, hp⟩ := list_choose len each
      refine ⟨_, _, _, _, _, _, .node k nm nn ty ts, rfl, ⟨_, _, _, rfl, hkb.1, hkb.2, hnb.1, hnb.2, hnm2, htya, some ⟨b, off, spot⟩, cap, by rw [hts], by omega, by unfold maxLen at hcm; omega, fun j hj => ?_⟩⟩
      obtain ⟨c0, c1, c2, c3, c4, c5, rfl, h1, h2, h3, h4, h5, h6, h7, h8⟩ := hp j hj
      exact ⟨b, off, c0, c1, c2, c3, c4, c5, rfl, h1, h2, h3, h4, h5, h6, h7, h8.mono (by omega)⟩
set_option maxRecDepth 100000 in
theorem ex_of_arg {H : Type} {enc : TypeId × Value → H} {W : World} {base b0 : Nat} {v : Value} {x : DataW H} {ps : List MemPlace} (hval : Value.okWide Try.prog W .any b0 27 v)
    (h : DataW.Trod enc Try.prog W base (fun _ => true) true 27 v x ps) : ∃ d t, ExAt W d v t := by
  obtain ⟨cs, rfl, _⟩ := okWide_struct und_lex hval
  obtain ⟨fuel, hf⟩ := h
  obtain ⟨c0, c1, c2, c3, c4, c5, t, hc, ht⟩ := lex_open fuel _ _ hf
  have hcs : cs.toList = [c0, c1, c2, c3, c4, c5] := hc
  have e : cs = #[c0, c1, c2, c3, c4, c5] := Array.toList_inj.1 hcs
  subst e
  exact ⟨fuel, t, ht⟩
end Go.Proofs.Ytcohfbdhdngplaa
