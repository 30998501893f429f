/-
  Proved: a core expression that came in as an argument reads as a tree.
-/
import Derived.Test.YtefoenkmppeidaaTypeArg
import Derived.Test.YtefoenkmppeidaaCoTree
namespace Go.Proofs.Ytefoenkmppeidaa
open Go.ChangeShapes Go.WideShapes Go.ChangeAt Go.RowKit Go.WideMaps Go.WideElems

theorem und_lco : Try.prog.underlying 61 = some (.struct #[⟨"Kind", 3, 0, false, "", "", 0⟩, ⟨"Name", 9, 1, false, "", "", 8⟩, ⟨"N", 3, 2, false, "", "", 24⟩, ⟨"From", 24, 3, false, "", "", 32⟩, ⟨"Type", 24, 5, false, "", "", 64⟩, ⟨"Args", 58, 7, false, "", "", 96⟩, ⟨"Env", 59, 8, false, "", "", 120⟩]) := by kernel_rfl
theorem und_lcb : Try.prog.underlying 154 = some (.struct #[⟨"Name", 9, 0, false, "", "", 0⟩, ⟨"Value", 61, 1, false, "", "", 16⟩]) := by kernel_rfl
theorem und_lcos : Try.prog.underlying 58 = some (.slice 61) := by kernel_rfl
theorem und_lcbs : Try.prog.underlying 59 = some (.slice 154) := by kernel_rfl
theorem cells_cstr : Try.prog.cellsOf 9 = 1 := by kernel_rfl
theorem cells_lco : Try.prog.cellsOf 61 = 9 := by kernel_rfl
theorem cells_lcb : Try.prog.cellsOf 154 = 10 := by kernel_rfl
theorem cells_lcos : Try.prog.cellsOf 58 = 1 := by kernel_rfl
theorem cells_lcbs : Try.prog.cellsOf 59 = 1 := by kernel_rfl
theorem list_nine {α : Type} : ∀ (l : List α), l.length = 9 → ∃ c0 c1 c2 c3 c4 c5 c6 c7 c8, l = [c0, c1, c2, c3, c4, c5, c6, c7, c8]
  | [a, b, c, d, e, f, g, h, i], _ => ⟨a, b, c, d, e, f, g, h, i, rfl⟩
theorem list_ten {α : Type} : ∀ (l : List α), l.length = 10 → ∃ c c0 c1 c2 c3 c4 c5 c6 c7 c8, l = [c, c0, c1, c2, c3, c4, c5, c6, c7, c8]
  | [z, a, b, c, d, e, f, g, h, i], _ => ⟨z, a, b, c, d, e, f, g, h, i, rfl⟩
theorem CoAt.succ {w : World} : ∀ {d : Nat} {v : Value} {e : Co}, CoAt w d v e → CoAt w (d + 1) v e
  | 0, _, _, h => h.elim
  | d + 1, v, .node k nm n fr ty es ns vs, h => by
    obtain ⟨c3, c4, c5, c6, sl, el, hv, h0, h1, h2, h3, h4, hf, ht, h, he⟩ := h
    exact ⟨c3, c4, c5, c6, sl, el, hv, h0, h1, h2, h3, h4, hf.succ, ht.succ, h.imp (Below.refl _ _) fun v e h => CoAt.succ h, he.imp (Below.refl _ _) fun v e h => CoAt.succ h⟩
theorem CoAt.mono {w : World} {d d' : Nat} {v : Value} {e : Co} (h : CoAt w d v e) (hd : d ≤ d') : CoAt w d' v e := by
  induction hd with
  | refl => exact h
  | step _ ih => exact ih.succ
theorem CbsAt.mono {w : World} {d d' : Nat} {v : Value} {ns : List ByteArray} {es : List Co} (h : CbsAt w d v ns es) (hd : d ≤ d') : CbsAt w d' v ns es :=
  RowCb.imp (Below.refl _ _) (fun _ _ h => h.mono hd) h

theorem lcb_open {H : Type} {enc : TypeId × Value → H} {W : World} {base : Nat} {sp : Nat → Bool} {held : Bool} {fuel : Nat} (ih : ∀ m, m < fuel → ∀ (cs : List Value) (x : DataW H × List MemPlace), DataW.trod enc Try.prog W base sp held m 61 cs = some x → ∃ c0 c1 c2 c3 c4 c5 c6 c7 c8 t, cs = [c0, c1, c2, c3, c4, c5, c6, c7, c8] ∧ CoAt W m (.agg #[c0, c1, c2, c3, c4, c5, c6, c7, c8]) t)
    (m : Nat) (hm : m < fuel) (cs : List Value) (x : DataW H × List MemPlace) (h : DataW.trod enc Try.prog W base sp held m 154 cs = some x) :
    ∃ nm c0 c1 c2 c3 c4 c5 c6 c7 c8 t, cs = [.string nm, c0, c1, c2, c3, c4, c5, c6, c7, c8] ∧ nm.size ≤ 9223372036854775807 ∧ CoAt W m (.agg #[c0, c1, c2, c3, c4, c5, c6, c7, c8]) t := by
  obtain ⟨xs, n, rfl, _, hl, hlen, hf⟩ := DataW.trod_struct und_lcb h
  rw [cells_lcb] at hl
  obtain ⟨c, c0, c1, c2, c3, c4, c5, c6, c7, c8, rfl⟩ := list_ten cs hl
  have g0 : DataW.trod enc Try.prog W base sp held n 9 (([c, c0, c1, c2, c3, c4, c5, c6, c7, c8].drop 0).take (Try.prog.cellsOf 9)) = xs[0]? := hf 0 ⟨"Name", 9, 0, false, "", "", 0⟩ rfl
  have g1 : DataW.trod enc Try.prog W base sp held n 61 (([c, c0, c1, c2, c3, c4, c5, c6, c7, c8].drop 1).take (Try.prog.cellsOf 61)) = xs[1]? := hf 1 ⟨"Value", 61, 1, false, "", "", 16⟩ rfl
  rw [cells_cstr] at g0
  rw [cells_lco] at g1
  have hlen2 : xs.length = 2 := hlen
  clear hf hlen
  simp only [List.drop_zero, List.take_succ_cons, List.take_zero, List.drop_succ_cons] at g0 g1
  obtain ⟨y0, hy0⟩ : ∃ y, xs[0]? = some y := ⟨_, List.getElem?_eq_getElem (by rw [hlen2]; decide)⟩
  obtain ⟨y1, hy1⟩ : ∃ y, xs[1]? = some y := ⟨_, List.getElem?_eq_getElem (by rw [hlen2]; decide)⟩
  rw [hy0] at g0
  rw [hy1] at g1
  obtain ⟨nm, hnm, _, hnml⟩ := DataW.trod_string Try.underlying9 g0
  cases hnm
  obtain ⟨d0, d1, d2, d3, d4, d5, d6, d7, d8, t, hc, ht⟩ := ih n (by omega) _ _ g1
  cases hc
  exact ⟨nm, _, _, _, _, _, _, _, _, _, t, rfl, by unfold maxLen at hnml; omega, ht.succ⟩

theorem lcos_open {H : Type} {enc : TypeId × Value → H} {W : World} {base : Nat} {sp : Nat → Bool} {held : Bool} {fuel : Nat} (ih : ∀ m, m < fuel → ∀ (cs : List Value) (x : DataW H × List MemPlace), DataW.trod enc Try.prog W base sp held m 61 cs = some x → ∃ c0 c1 c2 c3 c4 c5 c6 c7 c8 t, cs = [c0, c1, c2, c3, c4, c5, c6, c7, c8] ∧ CoAt W m (.agg #[c0, c1, c2, c3, c4, c5, c6, c7, c8]) t)
    (n : Nat) (hn : n < fuel) (v : Value) (x : DataW H × List MemPlace) (h : DataW.trod enc Try.prog W base sp held n 58 [v] = some x) :
    ∃ es, CosAt W n v es := by
  rcases DataW.trod_slice und_lcos h with ⟨hcs, _⟩ | ⟨a, len, cap, elems, rest, m, hm, hcs, _, hb, hlc, hcm, hel, hget, _, _⟩
  · cases hcs
    exact ⟨[], none, 0, rfl, Nat.le_refl _, by omega, fun j hj => by simp at hj⟩
  · cases hcs
    have first : 0 < len → a.spot = none := by
      intro h0
      have hg0 := hget 0 h0
      rw [cells_lco, List.getElem?_eq_getElem (by omega)] at hg0
      obtain ⟨cs2, hc2, ht2⟩ := Option.bind_eq_some_iff.1 hg0
      obtain ⟨d0, d1, d2, d3, d4, d5, d6, d7, d8, t, rfl, _⟩ := ih m (by omega) cs2 _ ht2
      obtain ⟨_, _, hc⟩ := World.cells?_some hc2
      have e0 := hc 0 (by omega)
      exact World.cell?_spot (show W.cell? a = some (d0) from e0)
    obtain ⟨b, off, spot⟩ := a
    have each : ∀ j, j < len → ∃ t : Co, ∃ c0 c1 c2 c3 c4 c5 c6 c7 c8, spot = none ∧ b < W.heap.size ∧ W.cell? ⟨b, off + j * 9, none⟩ = some c0 ∧ W.cell? ⟨b, off + j * 9 + 1, none⟩ = some c1 ∧ W.cell? ⟨b, off + j * 9 + 2, none⟩ = some c2 ∧ W.cell? ⟨b, off + j * 9 + 3, none⟩ = some c3 ∧ W.cell? ⟨b, off + j * 9 + 4, none⟩ = some c4 ∧ W.cell? ⟨b, off + j * 9 + 5, none⟩ = some c5 ∧ W.cell? ⟨b, off + j * 9 + 6, none⟩ = some c6 ∧ W.cell? ⟨b, off + j * 9 + 7, none⟩ = some c7 ∧ W.cell? ⟨b, off + j * 9 + 8, none⟩ = some c8 ∧ CoAt W m (.agg #[c0, c1, c2, c3, c4, c5, c6, c7, c8]) t := by
      intro j hj
      have hgj := hget j hj
      have hspot : spot = none := first (by omega)
      subst hspot
      rw [cells_lco, List.getElem?_eq_getElem (by omega), ty_addr] at hgj
      obtain ⟨cs2, hc2, ht2⟩ := Option.bind_eq_some_iff.1 hgj
      obtain ⟨d0, d1, d2, d3, d4, d5, d6, d7, d8, t, rfl, hty⟩ := ih m (by omega) cs2 _ ht2
      obtain ⟨_, _, hc⟩ := World.cells?_some hc2
      have e0 := hc 0 (by omega)
      have e1 := hc 1 (by omega)
      have e2 := hc 2 (by omega)
      have e3 := hc 3 (by omega)
      have e4 := hc 4 (by omega)
      have e5 := hc 5 (by omega)
      have e6 := hc 6 (by omega)
      have e7 := hc 7 (by omega)
      have e8 := hc 8 (by omega)
      rw [ty_addr] at e0 e1 e2 e3 e4 e5 e6 e7 e8
      exact ⟨t, d0, d1, d2, d3, d4, d5, d6, d7, d8, rfl, World.cells?_block hc2 (by omega), e0, e1, e2, e3, e4, e5, e6, e7, e8, hty⟩
    obtain ⟨ts, hts, hp⟩ := list_choose len each
    refine ⟨ts, some ⟨b, off, spot⟩, cap, by rw [hts], by omega, by unfold maxLen at hcm; omega, fun j hj => ?_⟩
    obtain ⟨c0, c1, c2, c3, c4, c5, c6, c7, c8, rfl, h1, g0, g1, g2, g3, g4, g5, g6, g7, g8, h8⟩ := hp j hj
    exact ⟨b, off, c0, c1, c2, c3, c4, c5, c6, c7, c8, rfl, h1, g0, g1, g2, g3, g4, g5, g6, g7, g8, h8.mono (by omega)⟩

theorem lcbs_open {H : Type} {enc : TypeId × Value → H} {W : World} {base : Nat} {sp : Nat → Bool} {held : Bool} {fuel : Nat} (ih : ∀ m, m < fuel → ∀ (cs : List Value) (x : DataW H × List MemPlace), DataW.trod enc Try.prog W base sp held m 61 cs = some x → ∃ c0 c1 c2 c3 c4 c5 c6 c7 c8 t, cs = [c0, c1, c2, c3, c4, c5, c6, c7, c8] ∧ CoAt W m (.agg #[c0, c1, c2, c3, c4, c5, c6, c7, c8]) t)
    (n : Nat) (hn : n < fuel) (v : Value) (x : DataW H × List MemPlace) (h : DataW.trod enc Try.prog W base sp held n 59 [v] = some x) :
    ∃ ns es, CbsAt W n v ns es := by
  rcases DataW.trod_slice und_lcbs h with ⟨hcs, _⟩ | ⟨a, len, cap, elems, rest, m, hm, hcs, _, hb, hlc, hcm, hel, hget, _, _⟩
  · cases hcs
    exact ⟨[], [], rfl, none, 0, rfl, Nat.le_refl _, by omega, fun j hj _ => by simp at hj⟩
  · cases hcs
    have first : 0 < len → a.spot = none := by
      intro h0
      have hg0 := hget 0 h0
      rw [cells_lcb, List.getElem?_eq_getElem (by omega)] at hg0
      obtain ⟨cs2, hc2, ht2⟩ := Option.bind_eq_some_iff.1 hg0
      obtain ⟨nm, d0, d1, d2, d3, d4, d5, d6, d7, d8, t, rfl, _⟩ := lcb_open ih m (by omega) cs2 _ ht2
      obtain ⟨_, _, hc⟩ := World.cells?_some hc2
      have e0 := hc 0 (by omega)
      exact World.cell?_spot (show W.cell? a = some (.string nm) from e0)
    obtain ⟨b, off, spot⟩ := a
    have each : ∀ j, j < len → ∃ t : ByteArray × Co, ∃ c0 c1 c2 c3 c4 c5 c6 c7 c8, spot = none ∧ b < W.heap.size ∧ t.1.size ≤ 9223372036854775807 ∧ W.cell? ⟨b, off + j * 10, none⟩ = some (.string t.1) ∧ W.cell? ⟨b, off + j * 10 + 1, none⟩ = some c0 ∧ W.cell? ⟨b, off + j * 10 + 2, none⟩ = some c1 ∧ W.cell? ⟨b, off + j * 10 + 3, none⟩ = some c2 ∧ W.cell? ⟨b, off + j * 10 + 4, none⟩ = some c3 ∧ W.cell? ⟨b, off + j * 10 + 5, none⟩ = some c4 ∧ W.cell? ⟨b, off + j * 10 + 6, none⟩ = some c5 ∧ W.cell? ⟨b, off + j * 10 + 7, none⟩ = some c6 ∧ W.cell? ⟨b, off + j * 10 + 8, none⟩ = some c7 ∧ W.cell? ⟨b, off + j * 10 + 9, none⟩ = some c8 ∧ CoAt W m (.agg #[c0, c1, c2, c3, c4, c5, c6, c7, c8]) t.2 := by
      intro j hj
      have hgj := hget j hj
      have hspot : spot = none := first (by omega)
      subst hspot
      rw [cells_lcb, List.getElem?_eq_getElem (by omega), ty_addr] at hgj
      obtain ⟨cs2, hc2, ht2⟩ := Option.bind_eq_some_iff.1 hgj
      obtain ⟨nm, d0, d1, d2, d3, d4, d5, d6, d7, d8, t, rfl, hnz, hty⟩ := lcb_open ih m (by omega) cs2 _ ht2
      obtain ⟨_, _, hc⟩ := World.cells?_some hc2
      have e0 := hc 0 (by omega)
      have e1 := hc 1 (by omega)
      have e2 := hc 2 (by omega)
      have e3 := hc 3 (by omega)
      have e4 := hc 4 (by omega)
      have e5 := hc 5 (by omega)
      have e6 := hc 6 (by omega)
      have e7 := hc 7 (by omega)
      have e8 := hc 8 (by omega)
      have e9 := hc 9 (by omega)
      rw [ty_addr] at e0 e1 e2 e3 e4 e5 e6 e7 e8 e9
      exact ⟨(nm, t), d0, d1, d2, d3, d4, d5, d6, d7, d8, rfl, World.cells?_block hc2 (by omega), hnz, e0, e1, e2, e3, e4, e5, e6, e7, e8, e9, hty⟩
    obtain ⟨ts, hts, hp⟩ := list_choose len each
    refine ⟨ts.map Prod.fst, ts.map Prod.snd, by simp, some ⟨b, off, spot⟩, cap, by simp [hts], by simp; omega, by unfold maxLen at hcm; omega, fun j hj hj2 => ?_⟩
    have hj3 : j < ts.length := by simpa using hj
    obtain ⟨c0, c1, c2, c3, c4, c5, c6, c7, c8, rfl, h1, h2, h3, g0, g1, g2, g3, g4, g5, g6, g7, g8, h8⟩ := hp j hj3
    have q1 : (ts.map Prod.fst)[j] = ts[j].1 := by simp
    have q2 : (ts.map Prod.snd)[j] = ts[j].2 := by simp
    exact ⟨b, off, c0, c1, c2, c3, c4, c5, c6, c7, c8, rfl, h1, by rw [q1]; exact h2, by rw [q1]; exact h3, g0, g1, g2, g3, g4, g5, g6, g7, g8, by rw [q2]; exact h8.mono (by omega)⟩

set_option maxRecDepth 100000 in
set_option maxHeartbeats 1000000 in
theorem lco_open {H : Type} {enc : TypeId × Value → H} {W : World} {base : Nat} {sp : Nat → Bool} {held : Bool} (fuel : Nat) : ∀ (cs : List Value) (x : DataW H × List MemPlace), DataW.trod enc Try.prog W base sp held fuel 61 cs = some x →
    ∃ c0 c1 c2 c3 c4 c5 c6 c7 c8 t, cs = [c0, c1, c2, c3, c4, c5, c6, c7, c8] ∧ CoAt W fuel (.agg #[c0, c1, c2, c3, c4, c5, c6, c7, c8]) t := by
  induction fuel using Nat.strongRecOn with
  | ind fuel ih =>
    intro cs x h
    obtain ⟨xs, n, rfl, _, hl, hlen, hf⟩ := DataW.trod_struct und_lco h
    rw [cells_lco] at hl
    obtain ⟨c0, c1, c2, c3, c4, c5, c6, c7, c8, rfl⟩ := list_nine cs hl
    have g0 : DataW.trod enc Try.prog W base sp held n 3 (([c0, c1, c2, c3, c4, c5, c6, c7, c8].drop 0).take (Try.prog.cellsOf 3)) = xs[0]? := hf 0 ⟨"Kind", 3, 0, false, "", "", 0⟩ rfl
    have g1 : DataW.trod enc Try.prog W base sp held n 9 (([c0, c1, c2, c3, c4, c5, c6, c7, c8].drop 1).take (Try.prog.cellsOf 9)) = xs[1]? := hf 1 ⟨"Name", 9, 1, false, "", "", 8⟩ rfl
    have g2 : DataW.trod enc Try.prog W base sp held n 3 (([c0, c1, c2, c3, c4, c5, c6, c7, c8].drop 2).take (Try.prog.cellsOf 3)) = xs[2]? := hf 2 ⟨"N", 3, 2, false, "", "", 24⟩ rfl
    have g3 : DataW.trod enc Try.prog W base sp held n 24 (([c0, c1, c2, c3, c4, c5, c6, c7, c8].drop 3).take (Try.prog.cellsOf 24)) = xs[3]? := hf 3 ⟨"From", 24, 3, false, "", "", 32⟩ rfl
    have g4 : DataW.trod enc Try.prog W base sp held n 24 (([c0, c1, c2, c3, c4, c5, c6, c7, c8].drop 5).take (Try.prog.cellsOf 24)) = xs[4]? := hf 4 ⟨"Type", 24, 5, false, "", "", 64⟩ rfl
    have g5 : DataW.trod enc Try.prog W base sp held n 58 (([c0, c1, c2, c3, c4, c5, c6, c7, c8].drop 7).take (Try.prog.cellsOf 58)) = xs[5]? := hf 5 ⟨"Args", 58, 7, false, "", "", 96⟩ rfl
    have g6 : DataW.trod enc Try.prog W base sp held n 59 (([c0, c1, c2, c3, c4, c5, c6, c7, c8].drop 8).take (Try.prog.cellsOf 59)) = xs[6]? := hf 6 ⟨"Env", 59, 8, false, "", "", 120⟩ rfl
    rw [cells_int] at g0 g2
    rw [cells_cstr] at g1
    rw [cells_lty] at g3 g4
    rw [cells_lcos] at g5
    rw [cells_lcbs] at g6
    have hlen2 : xs.length = 7 := hlen
    clear hf hlen
    simp only [List.drop_zero, List.take_succ_cons, List.take_zero, List.drop_succ_cons] at g0 g1 g2 g3 g4 g5 g6
    obtain ⟨y0, hy0⟩ : ∃ y, xs[0]? = some y := ⟨_, List.getElem?_eq_getElem (by rw [hlen2]; decide)⟩
    rw [hy0] at g0
    obtain ⟨y1, hy1⟩ : ∃ y, xs[1]? = some y := ⟨_, List.getElem?_eq_getElem (by rw [hlen2]; decide)⟩
    rw [hy1] at g1
    obtain ⟨y2, hy2⟩ : ∃ y, xs[2]? = some y := ⟨_, List.getElem?_eq_getElem (by rw [hlen2]; decide)⟩
    rw [hy2] at g2
    obtain ⟨y3, hy3⟩ : ∃ y, xs[3]? = some y := ⟨_, List.getElem?_eq_getElem (by rw [hlen2]; decide)⟩
    rw [hy3] at g3
    obtain ⟨y4, hy4⟩ : ∃ y, xs[4]? = some y := ⟨_, List.getElem?_eq_getElem (by rw [hlen2]; decide)⟩
    rw [hy4] at g4
    obtain ⟨y5, hy5⟩ : ∃ y, xs[5]? = some y := ⟨_, List.getElem?_eq_getElem (by rw [hlen2]; decide)⟩
    rw [hy5] at g5
    obtain ⟨y6, hy6⟩ : ∃ y, xs[6]? = some y := ⟨_, List.getElem?_eq_getElem (by rw [hlen2]; decide)⟩
    rw [hy6] at g6
    have e1 : IntKind.i64.min = -9223372036854775808 := by kernel_rfl
    have e2 : IntKind.i64.max = 9223372036854775807 := by kernel_rfl
    obtain ⟨k, hk, _, hwf⟩ := DataW.trod_int Try.underlying3 g0
    cases hk
    have hkb : -9223372036854775808 ≤ k ∧ k ≤ 9223372036854775807 := by
      simp only [Lit.wf, Bool.and_eq_true, decide_eq_true_eq] at hwf
      rw [e1, e2] at hwf
      exact hwf
    obtain ⟨nn, hnn, _, hwf2⟩ := DataW.trod_int Try.underlying3 g2
    cases hnn
    have hnb : -9223372036854775808 ≤ nn ∧ nn ≤ 9223372036854775807 := by
      simp only [Lit.wf, Bool.and_eq_true, decide_eq_true_eq] at hwf2
      rw [e1, e2] at hwf2
      exact hwf2
    obtain ⟨nm, hnm, _, hnml⟩ := DataW.trod_string Try.underlying9 g1
    cases hnm
    have hnm2 : nm.size ≤ 9223372036854775807 := by unfold maxLen at hnml; omega
    obtain ⟨d0, d1, fr, hfr, hfra⟩ := lty_open n _ _ g3
    cases hfr
    obtain ⟨d0, d1, ty, hty, htya⟩ := lty_open n _ _ g4
    cases hty
    obtain ⟨es, hes⟩ := lcos_open ih n (by omega) _ _ g5
    obtain ⟨ns, vs, hvs⟩ := lcbs_open ih n (by omega) _ _ g6
    exact ⟨_, _, _, _, _, _, _, _, _, .node k nm nn fr ty es ns vs, rfl, ⟨_, _, _, _, _, _, rfl, hkb.1, hkb.2, hnb.1, hnb.2, hnm2, hfra, htya, hes, hvs⟩⟩
set_option maxRecDepth 100000 in
theorem co_of_arg {H : Type} {enc : TypeId × Value → H} {W : World} {base b0 : Nat} {v : Value} {x : DataW H} {ps : List MemPlace} (hval : Value.okWide Try.prog W .any b0 61 v)
    (h : DataW.Trod enc Try.prog W base (fun _ => true) true 61 v x ps) : ∃ d t, CoAt W d v t := by
  obtain ⟨cs, rfl, _⟩ := okWide_struct und_lco hval
  obtain ⟨fuel, hf⟩ := h
  obtain ⟨c0, c1, c2, c3, c4, c5, c6, c7, c8, t, hc, ht⟩ := lco_open fuel _ _ hf
  have hcs : cs.toList = [c0, c1, c2, c3, c4, c5, c6, c7, c8] := hc
  have e : cs = #[c0, c1, c2, c3, c4, c5, c6, c7, c8] := Array.toList_inj.1 hcs
  subst e
  exact ⟨fuel, t, ht⟩
set_option maxRecDepth 100000 in
theorem cbs_of_arg {H : Type} {enc : TypeId × Value → H} {W : World} {base b0 : Nat} {v : Value} {x : DataW H} {ps : List MemPlace} (hval : Value.okWide Try.prog W .any b0 59 v)
    (h : DataW.Trod enc Try.prog W base (fun _ => true) true 59 v x ps) : ∃ d ns ts, CbsAt W d v ns ts := by
  obtain ⟨a, n, c, rfl⟩ := okWide_slice und_lcbs hval
  obtain ⟨fuel, hf⟩ := h
  obtain ⟨ns, ts, hc⟩ := lcbs_open (fuel := fuel + 1) (fun m _ => lco_open m) fuel (by omega) _ _ hf
  exact ⟨fuel, ns, ts, hc⟩
end Go.Proofs.Ytefoenkmppeidaa
