/-
  Proved: a type's tree that came in as an argument reads as a tree.
-/
import Derived.Test.YtefoenkmppeidaaTyMono
import Derived.Test.YtefoenkmppeidaaLaw
import Derived.SliceStrings
namespace Go.Proofs.Ytefoenkmppeidaa
open Go.ChangeShapes Go.WideShapes Go.ChangeAt Go.RowKit Go.WideMaps Go.WideElems

theorem und_lty : Try.prog.underlying 24 = some (.struct #[⟨"Kind", 3, 0, false, "", "", 0⟩, ⟨"Args", 22, 1, false, "", "", 8⟩]) := by kernel_rfl
theorem und_ltys : Try.prog.underlying 22 = some (.slice 24) := by kernel_rfl
theorem cells_lty : Try.prog.cellsOf 24 = 2 := by kernel_rfl
theorem cells_ltys : Try.prog.cellsOf 22 = 1 := by kernel_rfl
theorem cells_int : Try.prog.cellsOf 3 = 1 := by kernel_rfl

theorem ty_addr (g o j : Nat) : (⟨g, o, none⟩ : Addr).add j = ⟨g, o + j, none⟩ := by
  unfold Addr.add; split <;> simp_all
theorem list_choose {α : Type} {P : Nat → α → Prop} : ∀ n, (∀ j, j < n → ∃ t, P j t) → ∃ ts : List α, ts.length = n ∧ ∀ j (h : j < ts.length), P j ts[j]
  | 0, _ => ⟨[], rfl, fun j h => by simp at h⟩
  | n + 1, h => by
    obtain ⟨ts, hl, hp⟩ := list_choose n fun j hj => h j (by omega)
    obtain ⟨t, ht⟩ := h n (by omega)
    refine ⟨ts ++ [t], by simp [hl], fun j hj => ?_⟩
    by_cases hlt : j < ts.length
    · rw [List.getElem_append_left hlt]; exact hp j hlt
    · have : j = n := by simp at hj; omega
      subst this
      rw [List.getElem_append_right (by omega)]
      simpa [hl] using ht

set_option maxRecDepth 100000 in
theorem lty_open {H : Type} {enc : TypeId × Value → H} {W : World} {base : Nat} {sp : Nat → Bool} {held : Bool} (fuel : Nat) : ∀ (cs : List Value) (x : DataW H × List MemPlace), DataW.trod enc Try.prog W base sp held fuel 24 cs = some x →
    ∃ c0 c1 t, cs = [c0, c1] ∧ TyAt W fuel (.agg #[c0, c1]) t := by
  induction fuel using Nat.strongRecOn with
  | ind fuel ih =>
    intro cs x h
    obtain ⟨xs, n, rfl, _, hl, hlen, hf⟩ := DataW.trod_struct und_lty h
    rw [cells_lty] at hl
    obtain ⟨c0, c1, rfl⟩ := list_two cs hl
    have g0 : DataW.trod enc Try.prog W base sp held n 3 (([c0, c1].drop 0).take (Try.prog.cellsOf 3)) = xs[0]? := hf 0 ⟨"Kind", 3, 0, false, "", "", 0⟩ rfl
    have g1 : DataW.trod enc Try.prog W base sp held n 22 (([c0, c1].drop 1).take (Try.prog.cellsOf 22)) = xs[1]? := hf 1 ⟨"Args", 22, 1, false, "", "", 8⟩ rfl
    rw [cells_int] at g0
    rw [cells_ltys] at g1
    have hlen2 : xs.length = 2 := hlen
    clear hf hlen
    simp only [List.drop_zero, List.take_succ_cons, List.take_zero, List.drop_succ_cons] at g0 g1
    obtain ⟨y0, hy0⟩ : ∃ y, xs[0]? = some y := ⟨_, List.getElem?_eq_getElem (by rw [hlen2]; decide)⟩
    obtain ⟨y1, hy1⟩ : ∃ y, xs[1]? = some y := ⟨_, List.getElem?_eq_getElem (by rw [hlen2]; decide)⟩
    rw [hy0] at g0
    rw [hy1] at g1
    obtain ⟨k, hk, _, hwf⟩ := DataW.trod_int Try.underlying3 g0
    cases hk
    have hkb : -9223372036854775808 ≤ k ∧ k ≤ 9223372036854775807 := by
      simp only [Lit.wf, Bool.and_eq_true, decide_eq_true_eq] at hwf
      have e1 : IntKind.i64.min = -9223372036854775808 := by kernel_rfl
      have e2 : IntKind.i64.max = 9223372036854775807 := by kernel_rfl
      rw [e1, e2] at hwf
      exact hwf
    rcases DataW.trod_slice und_ltys g1 with ⟨hcs, _⟩ | ⟨a, len, cap, elems, rest, m, hm, hcs, _, hb, hlc, hcm, hel, hget, _, _⟩
    · cases hcs
      exact ⟨_, _, .node k [], rfl, ⟨_, rfl, hkb.1, hkb.2, none, 0, rfl, Nat.le_refl _, by omega, fun j hj => by simp at hj⟩⟩
    · cases hcs
      have first : 0 < len → a.spot = none := by
        intro h0
        have hg0 := hget 0 h0
        rw [cells_lty, List.getElem?_eq_getElem (by omega)] at hg0
        obtain ⟨cs2, hc2, ht2⟩ := Option.bind_eq_some_iff.1 hg0
        obtain ⟨d0, d1, t, rfl, _⟩ := ih m (by omega) cs2 _ ht2
        obtain ⟨_, _, hc⟩ := World.cells?_some hc2
        have e0 := hc 0 (by omega)
        exact World.cell?_spot (show W.cell? a = some d0 from e0)
      obtain ⟨b, off, spot⟩ := a
      have each : ∀ j, j < len → ∃ t, ∃ c0 c1, spot = none ∧ b < W.heap.size ∧ W.cell? ⟨b, off + j * 2, none⟩ = some c0 ∧ W.cell? ⟨b, off + j * 2 + 1, none⟩ = some c1 ∧ TyAt W m (.agg #[c0, c1]) t := by
        intro j hj
        have hgj := hget j hj
        have hspot : spot = none := first (by omega)
        subst hspot
        rw [cells_lty, List.getElem?_eq_getElem (by omega), ty_addr] at hgj
        obtain ⟨cs2, hc2, ht2⟩ := Option.bind_eq_some_iff.1 hgj
        obtain ⟨d0, d1, t, rfl, hty⟩ := ih m (by omega) cs2 _ ht2
        obtain ⟨_, _, hc⟩ := World.cells?_some hc2
        have e0 := hc 0 (by omega)
        have e1 := hc 1 (by omega)
        rw [ty_addr] at e0 e1
        exact ⟨t, d0, d1, rfl, World.cells?_block hc2 (by omega), e0, e1, hty⟩
      obtain ⟨ts, hts, hp⟩ := list_choose len each
      refine ⟨_, _, .node k ts, rfl, ⟨_, rfl, hkb.1, hkb.2, some ⟨b, off, spot⟩, cap, by rw [hts], by omega, by unfold maxLen at hcm; omega, fun j hj => ?_⟩⟩
      obtain ⟨c0, c1, rfl, h1, h2, h3, h4⟩ := hp j hj
      exact ⟨b, off, c0, c1, rfl, h1, h2, h3, h4.mono (by omega)⟩
set_option maxRecDepth 100000 in
theorem ty_of_arg {H : Type} {enc : TypeId × Value → H} {W : World} {base b0 : Nat} {v : Value} {x : DataW H} {ps : List MemPlace} (hval : Value.okWide Try.prog W .any b0 24 v)
    (h : DataW.Trod enc Try.prog W base (fun _ => true) true 24 v x ps) : ∃ d t, TyAt W d v t := by
  obtain ⟨cs, rfl, _⟩ := okWide_struct und_lty hval
  obtain ⟨fuel, hf⟩ := h
  obtain ⟨c0, c1, t, hc, ht⟩ := lty_open fuel _ _ hf
  have hcs : cs.toList = [c0, c1] := hc
  have e : cs = #[c0, c1] := Array.toList_inj.1 hcs
  subst e
  exact ⟨fuel, t, ht⟩
end Go.Proofs.Ytefoenkmppeidaa
