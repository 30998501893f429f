/-
  Proved: a list of typings that came in as an argument reads as typings.
-/
import Derived.Test.YtfidcblaabeaaaaTypeArg
import Derived.Test.YtfidcblaabeaaaaPart
import Derived.Test.YtfidcblaabeaaaaBindAt
namespace Go.Proofs.Ytfidcblaabeaaaa
open Go.ChangeShapes Go.WideShapes Go.ChangeAt Go.RowKit Go.WideMaps Go.WideElems

theorem und_lbi : Try.prog.underlying 109 = some (.struct #[⟨"Name", 9, 0, false, "", "", 0⟩, ⟨"Type", 24, 1, false, "", "", 16⟩]) := by kernel_rfl
theorem und_lbis : Try.prog.underlying 45 = some (.slice 109) := by kernel_rfl
theorem cells_lbi : Try.prog.cellsOf 109 = 3 := by kernel_rfl
theorem cells_bstr : Try.prog.cellsOf 9 = 1 := by kernel_rfl
theorem BiAt.mono {w : World} {d d' : Nat} {v : Value} {b : Bi} (h : BiAt w d v b) (hd : d ≤ d') : BiAt w d' v b := by
  obtain ⟨tk, ta, tn, tc, hv, hn, ht⟩ := h
  exact ⟨tk, ta, tn, tc, hv, hn, ht.mono hd⟩
theorem BisAt.mono {w : World} {d d' : Nat} {v : Value} {bs : List Bi} (h : BisAt w d v bs) (hd : d ≤ d') : BisAt w d' v bs := by
  obtain ⟨a, cap, hv, hc, hm, h⟩ := h
  refine ⟨a, cap, hv, hc, hm, fun j hj => ?_⟩
  obtain ⟨b, off, c0, c1, c2, ha, hlt, h0, h1, h2, hr⟩ := h j hj
  exact ⟨b, off, c0, c1, c2, ha, hlt, h0, h1, h2, hr.mono hd⟩
theorem list_tri {α : Type} : ∀ (l : List α), l.length = 3 → ∃ a b c, l = [a, b, c]
  | [a, b, c], _ => ⟨a, b, c, rfl⟩
set_option maxRecDepth 100000 in
set_option maxHeartbeats 1000000 in
theorem lbi_open {H : Type} {enc : TypeId × Value → H} {W : World} {base : Nat} {sp : Nat → Bool} {held : Bool} (fuel : Nat) (cs : List Value) (x : DataW H × List MemPlace) (h : DataW.trod enc Try.prog W base sp held fuel 109 cs = some x) :
    ∃ c0 c1 c2 t, cs = [c0, c1, c2] ∧ BiAt W fuel (.agg #[c0, c1, c2]) t := by
  obtain ⟨xs, n, rfl, _, hl, hlen, hf⟩ := DataW.trod_struct und_lbi h
  rw [cells_lbi] at hl
  obtain ⟨c0, c1, c2, rfl⟩ := list_tri cs hl
  have g0 : DataW.trod enc Try.prog W base sp held n 9 (([c0, c1, c2].drop 0).take (Try.prog.cellsOf 9)) = xs[0]? := hf 0 ⟨"Name", 9, 0, false, "", "", 0⟩ rfl
  have g1 : DataW.trod enc Try.prog W base sp held n 24 (([c0, c1, c2].drop 1).take (Try.prog.cellsOf 24)) = xs[1]? := hf 1 ⟨"Type", 24, 1, false, "", "", 16⟩ rfl
  rw [cells_bstr] at g0
  rw [cells_lty] at g1
  have hlen2 : xs.length = 2 := hlen
  clear hf hlen
  simp only [List.drop_zero, List.take_succ_cons, List.take_zero, List.drop_succ_cons] at g0 g1
  obtain ⟨y0, hy0⟩ : ∃ y, xs[0]? = some y := ⟨_, List.getElem?_eq_getElem (by rw [hlen2]; decide)⟩
  obtain ⟨y1, hy1⟩ : ∃ y, xs[1]? = some y := ⟨_, List.getElem?_eq_getElem (by rw [hlen2]; decide)⟩
  rw [hy0] at g0
  rw [hy1] at g1
  obtain ⟨nm, hnm, _, hnml⟩ := DataW.trod_string Try.underlying9 g0
  cases hnm
  obtain ⟨d0, d1, ty, hty, htya⟩ := lty_open n _ _ g1
  cases hty
  have hnm2 : nm.size ≤ 9223372036854775807 := by unfold maxLen at hnml; omega
  obtain ⟨tk, ta, tn, tc, hv⟩ := agg_parts htya
  injection hv with hv
  injection hv with hv
  simp at hv
  obtain ⟨rfl, rfl⟩ := hv
  exact ⟨_, _, _, ⟨nm, ty⟩, rfl, ⟨_, _, _, _, rfl, hnm2, htya.succ⟩⟩
set_option maxRecDepth 100000 in
set_option maxHeartbeats 1000000 in
theorem lbis_open {H : Type} {enc : TypeId × Value → H} {W : World} {base : Nat} {sp : Nat → Bool} {held : Bool} {fuel : Nat} {v : Value} {x : DataW H × List MemPlace} (h : DataW.trod enc Try.prog W base sp held fuel 45 [v] = some x) :
    ∃ d bs, BisAt W d v bs := by
  rcases DataW.trod_slice und_lbis h with ⟨hcs, _⟩ | ⟨a, len, cap, elems, rest, m, hm, hcs, _, hb, hlc, hcm, hel, hget, _, _⟩
  · cases hcs
    exact ⟨0, [], none, 0, rfl, Nat.le_refl _, by omega, fun j hj => by simp at hj⟩
  · cases hcs
    have first : 0 < len → a.spot = none := by
      intro h0
      have hg0 := hget 0 h0
      rw [cells_lbi, List.getElem?_eq_getElem (by omega)] at hg0
      obtain ⟨cs2, hc2, ht2⟩ := Option.bind_eq_some_iff.1 hg0
      obtain ⟨d0, d1, d2, t, rfl, _⟩ := lbi_open m cs2 _ ht2
      obtain ⟨_, _, hc⟩ := World.cells?_some hc2
      have e0 := hc 0 (by omega)
      exact World.cell?_spot (show W.cell? a = some d0 from e0)
    obtain ⟨b, off, spot⟩ := a
    have each : ∀ j, j < len → ∃ t, ∃ c0 c1 c2, spot = none ∧ b < W.heap.size ∧ W.cell? ⟨b, off + j * 3, none⟩ = some c0 ∧ W.cell? ⟨b, off + j * 3 + 1, none⟩ = some c1 ∧ W.cell? ⟨b, off + j * 3 + 2, none⟩ = some c2 ∧ BiAt W m (.agg #[c0, c1, c2]) t := by
      intro j hj
      have hgj := hget j hj
      have hspot : spot = none := first (by omega)
      subst hspot
      rw [cells_lbi, List.getElem?_eq_getElem (by omega), ty_addr] at hgj
      obtain ⟨cs2, hc2, ht2⟩ := Option.bind_eq_some_iff.1 hgj
      obtain ⟨d0, d1, d2, t, rfl, hty⟩ := lbi_open m cs2 _ ht2
      obtain ⟨_, _, hc⟩ := World.cells?_some hc2
      have e0 := hc 0 (by omega)
      have e1 := hc 1 (by omega)
      have e2 := hc 2 (by omega)
      rw [ty_addr] at e0 e1 e2
      exact ⟨t, d0, d1, d2, rfl, World.cells?_block hc2 (by omega), e0, e1, e2, hty⟩
    obtain ⟨ts, hts, hp⟩ := list_choose len each
    refine ⟨m, ts, some ⟨b, off, spot⟩, cap, by rw [hts], by omega, by unfold maxLen at hcm; omega, fun j hj => ?_⟩
    obtain ⟨c0, c1, c2, rfl, h1, h2, h3, h4, h5⟩ := hp j hj
    exact ⟨b, off, c0, c1, c2, rfl, h1, h2, h3, h4, h5⟩
set_option maxRecDepth 100000 in
theorem bis_of_arg {H : Type} {enc : TypeId × Value → H} {W : World} {base b0 : Nat} {v : Value} {x : DataW H} {ps : List MemPlace} (hval : Value.okWide Try.prog W .any b0 45 v)
    (h : DataW.Trod enc Try.prog W base (fun _ => true) true 45 v x ps) : ∃ d bs, BisAt W d v bs := by
  obtain ⟨a0, len, cap, rfl⟩ := okWide_slice und_lbis hval
  obtain ⟨fuel, hf⟩ := h
  exact lbis_open hf
end Go.Proofs.Ytfidcblaabeaaaa
