/-
  Proved: the law FnExactFormOf: for every core expression, impl.FormOf returns the same as the reference and changes no argument; the program's table holds what its text lays (the card ties it).
-/
import Derived.Test.YtnggkcgifjfnfaaDoorTypeArg
import Derived.Test.YtnggkcgifjfnfaaDoorCoTree
import Derived.Test.YtnggkcgifjfnfaaDoorTwo
import Derived.Test.YtnggkcgifjfnfaaDoorToType
import Derived.Test.YtnggkcgifjfnfaaDoorTree
import Derived.StillTailTactics
import Derived.Test.YtnggkcgifjfnfaaDoorTyEq
import Derived.Test.YtnggkcgifjfnfaaDoorHold
import Derived.Test.YtnggkcgifjfnfaaDoorSzCore
import Derived.Test.YtnggkcgifjfnfaaDoorExactFormOfMI2
import Derived.Test.YtnggkcgifjfnfaaDoorSpecFmTop
import Derived.Deep.RegionHeld3
import Derived.Test.YtnggkcgifjfnfaaDoorLaw
import Derived.OpenVars
import Derived.Test.YtnggkcgifjfnfaaDoorCards
import Derived.Test.YtnggkcgifjfnfaaDoorTie
import Derived.Deep.DeepHandedRow
import Derived.Lib.LaidTab
import Derived.LaidMore
import Derived.ChangeVars
/-
  Proved: a core expression that came in as an argument reads as a tree.
-/
namespace Go.Proofs.YtnggkcgifjfnfaaDoor
open Go.ChangeShapes Go.WideShapes Go.ChangeAt Go.RowKit Go.WideMaps Go.WideElems

theorem und_lco : Tryd.prog.underlying 28 = some (.struct #[⟨"Kind", 3, 0, false, "", "", 0⟩, ⟨"Name", 9, 1, false, "", "", 8⟩, ⟨"N", 3, 2, false, "", "", 24⟩, ⟨"From", 24, 3, false, "", "", 32⟩, ⟨"Type", 24, 5, false, "", "", 64⟩, ⟨"Args", 25, 7, false, "", "", 96⟩, ⟨"Env", 26, 8, false, "", "", 120⟩]) := by kernel_rfl
theorem und_lcb : Tryd.prog.underlying 58 = some (.struct #[⟨"Name", 9, 0, false, "", "", 0⟩, ⟨"Value", 28, 1, false, "", "", 16⟩]) := by kernel_rfl
theorem und_lcos : Tryd.prog.underlying 25 = some (.slice 28) := by kernel_rfl
theorem und_lcbs : Tryd.prog.underlying 26 = some (.slice 58) := by kernel_rfl
theorem cells_cstr : Tryd.prog.cellsOf 9 = 1 := by kernel_rfl
theorem cells_lco : Tryd.prog.cellsOf 28 = 9 := by kernel_rfl
theorem cells_lcb : Tryd.prog.cellsOf 58 = 10 := by kernel_rfl
theorem cells_lcos : Tryd.prog.cellsOf 25 = 1 := by kernel_rfl
theorem cells_lcbs : Tryd.prog.cellsOf 26 = 1 := by kernel_rfl
theorem list_nine {α : Type} : ∀ (l : List α), l.length = 9 → ∃ c0 c1 c2 c3 c4 c5 c6 c7 c8, l = [c0, c1, c2, c3, c4, c5, c6, c7, c8]
  | [a, b, c, d, e, f, g, h, i], _ => ⟨a, b, c, d, e, f, g, h, i, rfl⟩
theorem list_ten {α : Type} : ∀ (l : List α), l.length = 10 → ∃ c c0 c1 c2 c3 c4 c5 c6 c7 c8, l = [c, c0, c1, c2, c3, c4, c5, c6, c7, c8]
  | [z, a, b, c, d, e, f, g, h, i], _ => ⟨z, a, b, c, d, e, f, g, h, i, rfl⟩
theorem CoAt.succ {w : World} : ∀ {d : Nat} {v : Value} {e : Co}, CoAt w d v e → CoAt w (d + 1) v e
  | 0, _, _, h => h.elim
  | d + 1, v, .node k nm n fr ty es ns vs, h => by
    obtain ⟨c3, c4, c5, c6, sl, el, hv, h0, h1, h2, h3, h4, hf, ht, h, he⟩ := h
    exact ⟨c3, c4, c5, c6, sl, el, hv, h0, h1, h2, h3, h4, hf.succ, ht.succ, h.imp (Below.refl _ _) fun v e h => CoAt.succ h, he.imp (Below.refl _ _) fun v e h => CoAt.succ h⟩
theorem CoAt.mono {w : World} {d d' : Nat} {v : Value} {e : Co} (h : CoAt w d v e) (hd : d ≤ d') : CoAt w d' v e := by
  induction hd with
  | refl => exact h
  | step _ ih => exact ih.succ
theorem CbsAt.mono {w : World} {d d' : Nat} {v : Value} {ns : List ByteArray} {es : List Co} (h : CbsAt w d v ns es) (hd : d ≤ d') : CbsAt w d' v ns es :=
  RowCb.imp (Below.refl _ _) (fun _ _ h => h.mono hd) h

theorem lcb_open {H : Type} {enc : TypeId × Value → H} {W : World} {base : Nat} {sp : Nat → Bool} {held : Bool} {fuel : Nat} (ih : ∀ m, m < fuel → ∀ (cs : List Value) (x : DataW H × List MemPlace), DataW.trod enc Tryd.prog W base sp held m 28 cs = some x → ∃ c0 c1 c2 c3 c4 c5 c6 c7 c8 t, cs = [c0, c1, c2, c3, c4, c5, c6, c7, c8] ∧ CoAt W m (.agg #[c0, c1, c2, c3, c4, c5, c6, c7, c8]) t)
    (m : Nat) (hm : m < fuel) (cs : List Value) (x : DataW H × List MemPlace) (h : DataW.trod enc Tryd.prog W base sp held m 58 cs = some x) :
    ∃ nm c0 c1 c2 c3 c4 c5 c6 c7 c8 t, cs = [.string nm, c0, c1, c2, c3, c4, c5, c6, c7, c8] ∧ nm.size ≤ 9223372036854775807 ∧ CoAt W m (.agg #[c0, c1, c2, c3, c4, c5, c6, c7, c8]) t := by
  obtain ⟨xs, n, rfl, _, hl, hlen, hf⟩ := DataW.trod_struct und_lcb h
  rw [cells_lcb] at hl
  obtain ⟨c, c0, c1, c2, c3, c4, c5, c6, c7, c8, rfl⟩ := list_ten cs hl
  have g0 : DataW.trod enc Tryd.prog W base sp held n 9 (([c, c0, c1, c2, c3, c4, c5, c6, c7, c8].drop 0).take (Tryd.prog.cellsOf 9)) = xs[0]? := hf 0 ⟨"Name", 9, 0, false, "", "", 0⟩ rfl
  have g1 : DataW.trod enc Tryd.prog W base sp held n 28 (([c, c0, c1, c2, c3, c4, c5, c6, c7, c8].drop 1).take (Tryd.prog.cellsOf 28)) = xs[1]? := hf 1 ⟨"Value", 28, 1, false, "", "", 16⟩ rfl
  rw [cells_cstr] at g0
  rw [cells_lco] at g1
  have hlen2 : xs.length = 2 := hlen
  clear hf hlen
  simp only [List.drop_zero, List.take_succ_cons, List.take_zero, List.drop_succ_cons] at g0 g1
  obtain ⟨y0, hy0⟩ : ∃ y, xs[0]? = some y := ⟨_, List.getElem?_eq_getElem (by rw [hlen2]; decide)⟩
  obtain ⟨y1, hy1⟩ : ∃ y, xs[1]? = some y := ⟨_, List.getElem?_eq_getElem (by rw [hlen2]; decide)⟩
  rw [hy0] at g0
  rw [hy1] at g1
  obtain ⟨nm, hnm, _, hnml⟩ := DataW.trod_string Tryd.underlying9 g0
  cases hnm
  obtain ⟨d0, d1, d2, d3, d4, d5, d6, d7, d8, t, hc, ht⟩ := ih n (by omega) _ _ g1
  cases hc
  exact ⟨nm, _, _, _, _, _, _, _, _, _, t, rfl, by unfold maxLen at hnml; omega, ht.succ⟩

theorem lcos_open {H : Type} {enc : TypeId × Value → H} {W : World} {base : Nat} {sp : Nat → Bool} {held : Bool} {fuel : Nat} (ih : ∀ m, m < fuel → ∀ (cs : List Value) (x : DataW H × List MemPlace), DataW.trod enc Tryd.prog W base sp held m 28 cs = some x → ∃ c0 c1 c2 c3 c4 c5 c6 c7 c8 t, cs = [c0, c1, c2, c3, c4, c5, c6, c7, c8] ∧ CoAt W m (.agg #[c0, c1, c2, c3, c4, c5, c6, c7, c8]) t)
    (n : Nat) (hn : n < fuel) (v : Value) (x : DataW H × List MemPlace) (h : DataW.trod enc Tryd.prog W base sp held n 25 [v] = some x) :
    ∃ es, CosAt W n v es := by
  rcases DataW.trod_slice und_lcos h with ⟨hcs, _⟩ | ⟨a, len, cap, elems, rest, m, hm, hcs, _, hb, hlc, hcm, hel, hget, _, _⟩
  · cases hcs
    exact ⟨[], none, 0, rfl, Nat.le_refl _, by omega, fun j hj => by simp at hj⟩
  · cases hcs
    have first : 0 < len → a.spot = none := by
      intro h0
      have hg0 := hget 0 h0
      rw [cells_lco, List.getElem?_eq_getElem (by omega)] at hg0
      obtain ⟨cs2, hc2, ht2⟩ := Option.bind_eq_some_iff.1 hg0
      obtain ⟨d0, d1, d2, d3, d4, d5, d6, d7, d8, t, rfl, _⟩ := ih m (by omega) cs2 _ ht2
      obtain ⟨_, _, hc⟩ := World.cells?_some hc2
      have e0 := hc 0 (by omega)
      exact World.cell?_spot (show W.cell? a = some (d0) from e0)
    obtain ⟨b, off, spot⟩ := a
    have each : ∀ j, j < len → ∃ t : Co, ∃ c0 c1 c2 c3 c4 c5 c6 c7 c8, spot = none ∧ b < W.heap.size ∧ W.cell? ⟨b, off + j * 9, none⟩ = some c0 ∧ W.cell? ⟨b, off + j * 9 + 1, none⟩ = some c1 ∧ W.cell? ⟨b, off + j * 9 + 2, none⟩ = some c2 ∧ W.cell? ⟨b, off + j * 9 + 3, none⟩ = some c3 ∧ W.cell? ⟨b, off + j * 9 + 4, none⟩ = some c4 ∧ W.cell? ⟨b, off + j * 9 + 5, none⟩ = some c5 ∧ W.cell? ⟨b, off + j * 9 + 6, none⟩ = some c6 ∧ W.cell? ⟨b, off + j * 9 + 7, none⟩ = some c7 ∧ W.cell? ⟨b, off + j * 9 + 8, none⟩ = some c8 ∧ CoAt W m (.agg #[c0, c1, c2, c3, c4, c5, c6, c7, c8]) t := by
      intro j hj
      have hgj := hget j hj
      have hspot : spot = none := first (by omega)
      subst hspot
      rw [cells_lco, List.getElem?_eq_getElem (by omega), ty_addr] at hgj
      obtain ⟨cs2, hc2, ht2⟩ := Option.bind_eq_some_iff.1 hgj
      obtain ⟨d0, d1, d2, d3, d4, d5, d6, d7, d8, t, rfl, hty⟩ := ih m (by omega) cs2 _ ht2
      obtain ⟨_, _, hc⟩ := World.cells?_some hc2
      have e0 := hc 0 (by omega)
      have e1 := hc 1 (by omega)
      have e2 := hc 2 (by omega)
      have e3 := hc 3 (by omega)
      have e4 := hc 4 (by omega)
      have e5 := hc 5 (by omega)
      have e6 := hc 6 (by omega)
      have e7 := hc 7 (by omega)
      have e8 := hc 8 (by omega)
      rw [ty_addr] at e0 e1 e2 e3 e4 e5 e6 e7 e8
      exact ⟨t, d0, d1, d2, d3, d4, d5, d6, d7, d8, rfl, World.cells?_block hc2 (by omega), e0, e1, e2, e3, e4, e5, e6, e7, e8, hty⟩
    obtain ⟨ts, hts, hp⟩ := list_choose len each
    refine ⟨ts, some ⟨b, off, spot⟩, cap, by rw [hts], by omega, by unfold maxLen at hcm; omega, fun j hj => ?_⟩
    obtain ⟨c0, c1, c2, c3, c4, c5, c6, c7, c8, rfl, h1, g0, g1, g2, g3, g4, g5, g6, g7, g8, h8⟩ := hp j hj
    exact ⟨b, off, c0, c1, c2, c3, c4, c5, c6, c7, c8, rfl, h1, g0, g1, g2, g3, g4, g5, g6, g7, g8, h8.mono (by omega)⟩

theorem lcbs_open {H : Type} {enc : TypeId × Value → H} {W : World} {base : Nat} {sp : Nat → Bool} {held : Bool} {fuel : Nat} (ih : ∀ m, m < fuel → ∀ (cs : List Value) (x : DataW H × List MemPlace), DataW.trod enc Tryd.prog W base sp held m 28 cs = some x → ∃ c0 c1 c2 c3 c4 c5 c6 c7 c8 t, cs = [c0, c1, c2, c3, c4, c5, c6, c7, c8] ∧ CoAt W m (.agg #[c0, c1, c2, c3, c4, c5, c6, c7, c8]) t)
    (n : Nat) (hn : n < fuel) (v : Value) (x : DataW H × List MemPlace) (h : DataW.trod enc Tryd.prog W base sp held n 26 [v] = some x) :
    ∃ ns es, CbsAt W n v ns es := by
  rcases DataW.trod_slice und_lcbs h with ⟨hcs, _⟩ | ⟨a, len, cap, elems, rest, m, hm, hcs, _, hb, hlc, hcm, hel, hget, _, _⟩
  · cases hcs
    exact ⟨[], [], rfl, none, 0, rfl, Nat.le_refl _, by omega, fun j hj _ => by simp at hj⟩
  · cases hcs
    have first : 0 < len → a.spot = none := by
      intro h0
      have hg0 := hget 0 h0
      rw [cells_lcb, List.getElem?_eq_getElem (by omega)] at hg0
      obtain ⟨cs2, hc2, ht2⟩ := Option.bind_eq_some_iff.1 hg0
      obtain ⟨nm, d0, d1, d2, d3, d4, d5, d6, d7, d8, t, rfl, _⟩ := lcb_open ih m (by omega) cs2 _ ht2
      obtain ⟨_, _, hc⟩ := World.cells?_some hc2
      have e0 := hc 0 (by omega)
      exact World.cell?_spot (show W.cell? a = some (.string nm) from e0)
    obtain ⟨b, off, spot⟩ := a
    have each : ∀ j, j < len → ∃ t : ByteArray × Co, ∃ c0 c1 c2 c3 c4 c5 c6 c7 c8, spot = none ∧ b < W.heap.size ∧ t.1.size ≤ 9223372036854775807 ∧ W.cell? ⟨b, off + j * 10, none⟩ = some (.string t.1) ∧ W.cell? ⟨b, off + j * 10 + 1, none⟩ = some c0 ∧ W.cell? ⟨b, off + j * 10 + 2, none⟩ = some c1 ∧ W.cell? ⟨b, off + j * 10 + 3, none⟩ = some c2 ∧ W.cell? ⟨b, off + j * 10 + 4, none⟩ = some c3 ∧ W.cell? ⟨b, off + j * 10 + 5, none⟩ = some c4 ∧ W.cell? ⟨b, off + j * 10 + 6, none⟩ = some c5 ∧ W.cell? ⟨b, off + j * 10 + 7, none⟩ = some c6 ∧ W.cell? ⟨b, off + j * 10 + 8, none⟩ = some c7 ∧ W.cell? ⟨b, off + j * 10 + 9, none⟩ = some c8 ∧ CoAt W m (.agg #[c0, c1, c2, c3, c4, c5, c6, c7, c8]) t.2 := by
      intro j hj
      have hgj := hget j hj
      have hspot : spot = none := first (by omega)
      subst hspot
      rw [cells_lcb, List.getElem?_eq_getElem (by omega), ty_addr] at hgj
      obtain ⟨cs2, hc2, ht2⟩ := Option.bind_eq_some_iff.1 hgj
      obtain ⟨nm, d0, d1, d2, d3, d4, d5, d6, d7, d8, t, rfl, hnz, hty⟩ := lcb_open ih m (by omega) cs2 _ ht2
      obtain ⟨_, _, hc⟩ := World.cells?_some hc2
      have e0 := hc 0 (by omega)
      have e1 := hc 1 (by omega)
      have e2 := hc 2 (by omega)
      have e3 := hc 3 (by omega)
      have e4 := hc 4 (by omega)
      have e5 := hc 5 (by omega)
      have e6 := hc 6 (by omega)
      have e7 := hc 7 (by omega)
      have e8 := hc 8 (by omega)
      have e9 := hc 9 (by omega)
      rw [ty_addr] at e0 e1 e2 e3 e4 e5 e6 e7 e8 e9
      exact ⟨(nm, t), d0, d1, d2, d3, d4, d5, d6, d7, d8, rfl, World.cells?_block hc2 (by omega), hnz, e0, e1, e2, e3, e4, e5, e6, e7, e8, e9, hty⟩
    obtain ⟨ts, hts, hp⟩ := list_choose len each
    refine ⟨ts.map Prod.fst, ts.map Prod.snd, by simp, some ⟨b, off, spot⟩, cap, by simp [hts], by simp; omega, by unfold maxLen at hcm; omega, fun j hj hj2 => ?_⟩
    have hj3 : j < ts.length := by simpa using hj
    obtain ⟨c0, c1, c2, c3, c4, c5, c6, c7, c8, rfl, h1, h2, h3, g0, g1, g2, g3, g4, g5, g6, g7, g8, h8⟩ := hp j hj3
    have q1 : (ts.map Prod.fst)[j] = ts[j].1 := by simp
    have q2 : (ts.map Prod.snd)[j] = ts[j].2 := by simp
    exact ⟨b, off, c0, c1, c2, c3, c4, c5, c6, c7, c8, rfl, h1, by rw [q1]; exact h2, by rw [q1]; exact h3, g0, g1, g2, g3, g4, g5, g6, g7, g8, by rw [q2]; exact h8.mono (by omega)⟩

set_option maxRecDepth 100000 in
set_option maxHeartbeats 1000000 in
theorem lco_open {H : Type} {enc : TypeId × Value → H} {W : World} {base : Nat} {sp : Nat → Bool} {held : Bool} (fuel : Nat) : ∀ (cs : List Value) (x : DataW H × List MemPlace), DataW.trod enc Tryd.prog W base sp held fuel 28 cs = some x →
    ∃ c0 c1 c2 c3 c4 c5 c6 c7 c8 t, cs = [c0, c1, c2, c3, c4, c5, c6, c7, c8] ∧ CoAt W fuel (.agg #[c0, c1, c2, c3, c4, c5, c6, c7, c8]) t := by
  induction fuel using Nat.strongRecOn with
  | ind fuel ih =>
    intro cs x h
    obtain ⟨xs, n, rfl, _, hl, hlen, hf⟩ := DataW.trod_struct und_lco h
    rw [cells_lco] at hl
    obtain ⟨c0, c1, c2, c3, c4, c5, c6, c7, c8, rfl⟩ := list_nine cs hl
    have g0 : DataW.trod enc Tryd.prog W base sp held n 3 (([c0, c1, c2, c3, c4, c5, c6, c7, c8].drop 0).take (Tryd.prog.cellsOf 3)) = xs[0]? := hf 0 ⟨"Kind", 3, 0, false, "", "", 0⟩ rfl
    have g1 : DataW.trod enc Tryd.prog W base sp held n 9 (([c0, c1, c2, c3, c4, c5, c6, c7, c8].drop 1).take (Tryd.prog.cellsOf 9)) = xs[1]? := hf 1 ⟨"Name", 9, 1, false, "", "", 8⟩ rfl
    have g2 : DataW.trod enc Tryd.prog W base sp held n 3 (([c0, c1, c2, c3, c4, c5, c6, c7, c8].drop 2).take (Tryd.prog.cellsOf 3)) = xs[2]? := hf 2 ⟨"N", 3, 2, false, "", "", 24⟩ rfl
    have g3 : DataW.trod enc Tryd.prog W base sp held n 24 (([c0, c1, c2, c3, c4, c5, c6, c7, c8].drop 3).take (Tryd.prog.cellsOf 24)) = xs[3]? := hf 3 ⟨"From", 24, 3, false, "", "", 32⟩ rfl
    have g4 : DataW.trod enc Tryd.prog W base sp held n 24 (([c0, c1, c2, c3, c4, c5, c6, c7, c8].drop 5).take (Tryd.prog.cellsOf 24)) = xs[4]? := hf 4 ⟨"Type", 24, 5, false, "", "", 64⟩ rfl
    have g5 : DataW.trod enc Tryd.prog W base sp held n 25 (([c0, c1, c2, c3, c4, c5, c6, c7, c8].drop 7).take (Tryd.prog.cellsOf 25)) = xs[5]? := hf 5 ⟨"Args", 25, 7, false, "", "", 96⟩ rfl
    have g6 : DataW.trod enc Tryd.prog W base sp held n 26 (([c0, c1, c2, c3, c4, c5, c6, c7, c8].drop 8).take (Tryd.prog.cellsOf 26)) = xs[6]? := hf 6 ⟨"Env", 26, 8, false, "", "", 120⟩ rfl
    rw [cells_int] at g0 g2
    rw [cells_cstr] at g1
    rw [cells_lty] at g3 g4
    rw [cells_lcos] at g5
    rw [cells_lcbs] at g6
    have hlen2 : xs.length = 7 := hlen
    clear hf hlen
    simp only [List.drop_zero, List.take_succ_cons, List.take_zero, List.drop_succ_cons] at g0 g1 g2 g3 g4 g5 g6
    obtain ⟨y0, hy0⟩ : ∃ y, xs[0]? = some y := ⟨_, List.getElem?_eq_getElem (by rw [hlen2]; decide)⟩
    rw [hy0] at g0
    obtain ⟨y1, hy1⟩ : ∃ y, xs[1]? = some y := ⟨_, List.getElem?_eq_getElem (by rw [hlen2]; decide)⟩
    rw [hy1] at g1
    obtain ⟨y2, hy2⟩ : ∃ y, xs[2]? = some y := ⟨_, List.getElem?_eq_getElem (by rw [hlen2]; decide)⟩
    rw [hy2] at g2
    obtain ⟨y3, hy3⟩ : ∃ y, xs[3]? = some y := ⟨_, List.getElem?_eq_getElem (by rw [hlen2]; decide)⟩
    rw [hy3] at g3
    obtain ⟨y4, hy4⟩ : ∃ y, xs[4]? = some y := ⟨_, List.getElem?_eq_getElem (by rw [hlen2]; decide)⟩
    rw [hy4] at g4
    obtain ⟨y5, hy5⟩ : ∃ y, xs[5]? = some y := ⟨_, List.getElem?_eq_getElem (by rw [hlen2]; decide)⟩
    rw [hy5] at g5
    obtain ⟨y6, hy6⟩ : ∃ y, xs[6]? = some y := ⟨_, List.getElem?_eq_getElem (by rw [hlen2]; decide)⟩
    rw [hy6] at g6
    have e1 : IntKind.i64.min = -9223372036854775808 := by kernel_rfl
    have e2 : IntKind.i64.max = 9223372036854775807 := by kernel_rfl
    obtain ⟨k, hk, _, hwf⟩ := DataW.trod_int Tryd.underlying3 g0
    cases hk
    have hkb : -9223372036854775808 ≤ k ∧ k ≤ 9223372036854775807 := by
      simp only [Lit.wf, Bool.and_eq_true, decide_eq_true_eq] at hwf
      rw [e1, e2] at hwf
      exact hwf
    obtain ⟨nn, hnn, _, hwf2⟩ := DataW.trod_int Tryd.underlying3 g2
    cases hnn
    have hnb : -9223372036854775808 ≤ nn ∧ nn ≤ 9223372036854775807 := by
      simp only [Lit.wf, Bool.and_eq_true, decide_eq_true_eq] at hwf2
      rw [e1, e2] at hwf2
      exact hwf2
    obtain ⟨nm, hnm, _, hnml⟩ := DataW.trod_string Tryd.underlying9 g1
    cases hnm
    have hnm2 : nm.size ≤ 9223372036854775807 := by unfold maxLen at hnml; omega
    obtain ⟨d0, d1, fr, hfr, hfra⟩ := lty_open n _ _ g3
    cases hfr
    obtain ⟨d0, d1, ty, hty, htya⟩ := lty_open n _ _ g4
    cases hty
    obtain ⟨es, hes⟩ := lcos_open ih n (by omega) _ _ g5
    obtain ⟨ns, vs, hvs⟩ := lcbs_open ih n (by omega) _ _ g6
    exact ⟨_, _, _, _, _, _, _, _, _, .node k nm nn fr ty es ns vs, rfl, ⟨_, _, _, _, _, _, rfl, hkb.1, hkb.2, hnb.1, hnb.2, hnm2, hfra, htya, hes, hvs⟩⟩
set_option maxRecDepth 100000 in
theorem co_of_arg {H : Type} {enc : TypeId × Value → H} {W : World} {base b0 : Nat} {v : Value} {x : DataW H} {ps : List MemPlace} (hval : Value.okWide Tryd.prog W .any b0 28 v)
    (h : DataW.Trod enc Tryd.prog W base (fun _ => true) true 28 v x ps) : ∃ d t, CoAt W d v t := by
  obtain ⟨cs, rfl, _⟩ := okWide_struct und_lco hval
  obtain ⟨fuel, hf⟩ := h
  obtain ⟨c0, c1, c2, c3, c4, c5, c6, c7, c8, t, hc, ht⟩ := lco_open fuel _ _ hf
  have hcs : cs.toList = [c0, c1, c2, c3, c4, c5, c6, c7, c8] := hc
  have e : cs = #[c0, c1, c2, c3, c4, c5, c6, c7, c8] := Array.toList_inj.1 hcs
  subst e
  exact ⟨fuel, t, ht⟩
set_option maxRecDepth 100000 in
theorem cbs_of_arg {H : Type} {enc : TypeId × Value → H} {W : World} {base b0 : Nat} {v : Value} {x : DataW H} {ps : List MemPlace} (hval : Value.okWide Tryd.prog W .any b0 26 v)
    (h : DataW.Trod enc Tryd.prog W base (fun _ => true) true 26 v x ps) : ∃ d ns ts, CbsAt W d v ns ts := by
  obtain ⟨a, n, c, rfl⟩ := okWide_slice und_lcbs hval
  obtain ⟨fuel, hf⟩ := h
  obtain ⟨ns, ts, hc⟩ := lcbs_open (fuel := fuel + 1) (fun m _ => lco_open m) fuel (by omega) _ _ hf
  exact ⟨fuel, ns, ts, hc⟩
end Go.Proofs.YtnggkcgifjfnfaaDoor
/-
  Proved: plain facts on a cell that is written in a box.
-/
namespace Go.Proofs.YtnggkcgifjfnfaaDoor
open Go.RowKit

theorem BoxAt.put {w : World} {p j : Nat} {u : Value} {cs : Array Value} (h : BoxAt w p cs) (hj : j < cs.size) : BoxAt (w.setCell ⟨p, j, none⟩ u) p (cs.setIfInBounds j u) := by
  refine ⟨by simpa using h.1, fun i => ?_⟩
  by_cases e : i = j
  · subst e
    have hi := h.2 i
    rw [Array.getElem?_eq_getElem hj] at hi
    simp [go_sem, hi, hj]
  · have hi := h.2 i
    rw [Array.getElem?_setIfInBounds_ne (fun h => e h.symm), ← hi]
    simp [go_sem]
theorem FreeAt.put {w : World} {p q j : Nat} {u : Value} (h : FreeAt w p) : FreeAt (w.setCell ⟨q, j, none⟩ u) p :=
  ⟨by simpa using h.1, fun i => by have := h.2 i; simpa [go_sem] using this⟩
end Go.Proofs.YtnggkcgifjfnfaaDoor
/-
  Proved: laws.toCore, toCoreS, toCoreBind and toCoreBindS copy a core expression into new memory; they leave the memory that was there as it was.
-/
namespace Go.Proofs.YtnggkcgifjfnfaaDoor
open Go.RowKit

/-- Cells written one after another into block p, from cell j on. -/
def putAll (p : Nat) : Nat → List Value → World → World
  | _, [], w => w
  | j, u :: r, w => putAll p (j + 1) r (w.setCell ⟨p, j, none⟩ u)
theorem BoxAt.puts {p : Nat} : ∀ (us old pre : List Value) (w : World), BoxAt w p (pre ++ old).toArray → us.length = old.length → BoxAt (putAll p pre.length us w) p (pre ++ us).toArray
  | [], [], pre, w, h, _ => h
  | [], _ :: _, _, _, _, h => by simp at h
  | _ :: _, [], _, _, _, h => by simp at h
  | u :: r, o :: s, pre, w, h, hl => by
    have h1 := h.put (j := pre.length) (u := u) (by simp)
    have e1 : (pre ++ o :: s).toArray.setIfInBounds pre.length u = ((pre ++ [u]) ++ s).toArray := by simp
    rw [e1] at h1
    have h2 := BoxAt.puts r s (pre ++ [u]) _ h1 (by simpa using hl)
    rw [List.append_assoc, List.length_append] at h2
    exact h2
theorem info_cb : (Tryd.prog.info? 65).map (fun i => (i.zero, i.size, i.bytes)) = some (some (.agg #[.string ⟨#[]⟩, .int .i64 0, .string ⟨#[]⟩, .int .i64 0, .int .i64 0, .slice none 0 0, .int .i64 0, .slice none 0 0, .slice none 0 0, .slice none 0 0]), 10, 160) := by kernel_rfl
def ToCoEnd (d : Nat) (t : Co) (w : World) (e : Ending) (w' : World) : Prop :=
  ∃ v' fp, e = .returned v' ∧ CoOwn w' d v' t fp ∧ Fp w.heap.size w'.heap.size fp ∧ Below w.heap.size w w'
def ToCosEnd (d : Nat) (ts : List Co) (w : World) (e : Ending) (w' : World) : Prop :=
  ∃ v' fp, e = .returned v' ∧ CosOwn w' d v' ts fp ∧ Fp w.heap.size w'.heap.size fp ∧ Below w.heap.size w w'
def ToCbEnd (d : Nat) (nm : ByteArray) (t : Co) (w : World) (e : Ending) (w' : World) : Prop :=
  ∃ v' fp, e = .returned v' ∧ CbOwn w' d v' nm t fp ∧ Fp w.heap.size w'.heap.size fp ∧ Below w.heap.size w w'
def ToCbsEnd (d : Nat) (ns : List ByteArray) (ts : List Co) (w : World) (e : Ending) (w' : World) : Prop :=
  ∃ v' fp, e = .returned v' ∧ CbsOwn w' d v' ns ts fp ∧ Fp w.heap.size w'.heap.size fp ∧ Below w.heap.size w w'
def ToCoSaid (d : Nat) : Prop := ∀ (v : Value) (t : Co) (w : World), t.bulk ≤ 1048576 → CoAt w d v t →
  Calls Tryd.prog 7 #[v] w (ToCoEnd d t w)
def ToCosSaid (d : Nat) : Prop := ∀ (v : Value) (ts : List Co) (w : World), Co.bulks ts ≤ 1048576 → CosAt w d v ts →
  Calls Tryd.prog 18 #[v] w (ToCosEnd d ts w)
def ToCbSaid (d : Nat) : Prop := ∀ (v : Value) (nm : ByteArray) (t : Co) (w : World), t.bulk ≤ 1048576 → CbAt w d v nm t →
  Calls Tryd.prog 37 #[v] w (ToCbEnd d nm t w)
def ToCbsSaid (d : Nat) : Prop := ∀ (v : Value) (ns : List ByteArray) (ts : List Co) (w : World), Co.bulks ts ≤ 1048576 → CbsAt w d v ns ts →
  Calls Tryd.prog 19 #[v] w (ToCbsEnd d ns ts w)

set_option maxRecDepth 100000 in
set_option maxHeartbeats 4000000 in
theorem toCos_step (d : Nat) (ih : ToCoSaid d) : ToCosSaid d := by
  intro v ts w hn h
  have IH := Lib.hid ih; clear ih
  obtain ⟨i0, hi, hz0, hz1, hz2⟩ := info_parts info_co
  have hlen := Co.length_le ts
  obtain ⟨a, cap, rfl, hcap, hcap2, hat⟩ := h
  have HAT := Lib.hid hat; clear hat
  go_enter Tryd.func18, Tryd.ntmps18
  go_wp2_with (at_make; refine wpList_make_full _ rfl _ _ 34 rfl w.heap.size 37 i0 (.agg #[.int .i64 0, .string ⟨#[]⟩, .int .i64 0, .int .i64 0, .slice none 0 0, .int .i64 0, .slice none 0 0, .slice none 0 0, .slice none 0 0]) 9 Tryd.underlying34 hi hz0 hz1 .i64 .i64 _ _ ts.length rfl rfl rfl rfl (by rw [hz2]; omega) (by unfold maxLen; omega) (Nat.le_refl _) ?_; intro w0 hown0 hg0; refine Hid.out ?_)
  refine Lib.hid ?_
  have HB0 := Lib.hid ((Below.refl w.heap.size w).grown hg0 (Nat.le_refl _) (fun k hk => by cases hk))
  have HO0 := Lib.hid hown0
  clear hown0 hg0 hi hz0 hz1 hz2
  go_wp2_with fail
  go_loopw [4] (fun i wr => ∃ (k : Nat) (cs : List Value) (fps : List (List Nat)), k ≤ ts.length ∧ i = .int .i64 k ∧ wr.ownsRow w.heap.size 37 9 (.slice (some ⟨w.heap.size, 0, none⟩) ts.length ts.length) ts.length cs ∧
      fps.length = k ∧ Fp (w.heap.size + 1) wr.heap.size (List.flatten fps) ∧ (∀ j (h : j < ts.length), j < k → ∃ c0 c1 c2 c3 c4 c5 c6 c7 c8 f, cs[j * 9]? = some (c0) ∧ cs[j * 9 + 1]? = some (c1) ∧ cs[j * 9 + 2]? = some (c2) ∧ cs[j * 9 + 3]? = some (c3) ∧ cs[j * 9 + 4]? = some (c4) ∧ cs[j * 9 + 5]? = some (c5) ∧ cs[j * 9 + 6]? = some (c6) ∧ cs[j * 9 + 7]? = some (c7) ∧ cs[j * 9 + 8]? = some (c8) ∧ fps[j]? = some f ∧ CoOwn wr d (.agg #[c0, c1, c2, c3, c4, c5, c6, c7, c8]) ts[j] f) ∧ Below w.heap.size w wr) (fun i _ => ts.length - (intOf i).toNat)
  case atStart => exact ⟨0, _, [], by omega, rfl, HO0.out, rfl, Fp.nil _ _, fun j h h2 => by omega, HB0.out⟩
  case round =>
    obtain ⟨k, cs, fps, hk, rfl, hown, hfl, hfp, hdone, hb⟩ := hrel
    have HF := Lib.hid hfp; clear hfp
    have HL := Lib.hid hfl; clear hfl
    have HO := Lib.hid hown
    have HD := Lib.hid hdone; clear hdone
    have HB := Lib.hid hb; clear hb
    have hgl := (hown.lt w.heap.size rfl).2
    clear hown
    by_cases hlt : k < ts.length
    · obtain ⟨b, off, x0, x1, x2, x3, x4, x5, x6, x7, x8, rfl, hbl, hc0, hc1, hc2, hc3, hc4, hc5, hc6, hc7, hc8, ht⟩ := HAT.out k hlt
      have hg := Co.bulk_get ts k hlt
      have e0 : wr.cell? ⟨b, off + k * 9, none⟩ = some x0 := by rw [HB.out.cell (p := ⟨b, off + k * 9, none⟩) hbl]; exact hc0
      have e1 : wr.cell? ⟨b, off + k * 9 + 1, none⟩ = some x1 := by rw [HB.out.cell (p := ⟨b, off + k * 9 + 1, none⟩) hbl]; exact hc1
      have e2 : wr.cell? ⟨b, off + k * 9 + 2, none⟩ = some x2 := by rw [HB.out.cell (p := ⟨b, off + k * 9 + 2, none⟩) hbl]; exact hc2
      have e3 : wr.cell? ⟨b, off + k * 9 + 3, none⟩ = some x3 := by rw [HB.out.cell (p := ⟨b, off + k * 9 + 3, none⟩) hbl]; exact hc3
      have e4 : wr.cell? ⟨b, off + k * 9 + 4, none⟩ = some x4 := by rw [HB.out.cell (p := ⟨b, off + k * 9 + 4, none⟩) hbl]; exact hc4
      have e5 : wr.cell? ⟨b, off + k * 9 + 5, none⟩ = some x5 := by rw [HB.out.cell (p := ⟨b, off + k * 9 + 5, none⟩) hbl]; exact hc5
      have e6 : wr.cell? ⟨b, off + k * 9 + 6, none⟩ = some x6 := by rw [HB.out.cell (p := ⟨b, off + k * 9 + 6, none⟩) hbl]; exact hc6
      have e7 : wr.cell? ⟨b, off + k * 9 + 7, none⟩ = some x7 := by rw [HB.out.cell (p := ⟨b, off + k * 9 + 7, none⟩) hbl]; exact hc7
      have e8 : wr.cell? ⟨b, off + k * 9 + 8, none⟩ = some x8 := by rw [HB.out.cell (p := ⟨b, off + k * 9 + 8, none⟩) hbl]; exact hc8
      have HT := Lib.hid (ht.below HB.out)
      clear ht hc0 hc1 hc2 hc3 hc4 hc5 hc6 hc7 hc8
      go_wp2_with fail
      refine (IH.out _ _ wr (by omega) HT.out).mono ?_
      rintro e w' ⟨v2, fp, rfl, ht, hfp, hb1⟩
      have HF1 := Lib.hid hfp; clear hfp
      have HO1 := Lib.hid (own_below HO.out hb1); clear HO
      have hz1 := hb1.size
      obtain ⟨zk, znm, zn, zfk, zfa, zfn, zfc, ztk, zta, ztn, ztc, zsa, zsn, zsc, zea, zen, zec, rfl⟩ := co_parts ht.at_
      have HY := Lib.hid ht
      clear ht
      have hcs : cs.length = ts.length * 9 := HO1.out.1
      obtain ⟨u0v, p0⟩ : ∃ u, w'.cell? ⟨w.heap.size, k * 9, none⟩ = some u := by
        rw [HO1.out.cellAt (k * 9) (by omega)]
        exact ⟨_, List.getElem?_eq_getElem (by rw [HO1.out.1]; omega)⟩
      have f0 := HO1.out.frozenAt (k * 9)
      obtain ⟨u1v, p1⟩ : ∃ u, w'.cell? ⟨w.heap.size, k * 9 + 1, none⟩ = some u := by
        rw [HO1.out.cellAt (k * 9 + 1) (by omega)]
        exact ⟨_, List.getElem?_eq_getElem (by rw [HO1.out.1]; omega)⟩
      have f1 := HO1.out.frozenAt (k * 9 + 1)
      obtain ⟨u2v, p2⟩ : ∃ u, w'.cell? ⟨w.heap.size, k * 9 + 2, none⟩ = some u := by
        rw [HO1.out.cellAt (k * 9 + 2) (by omega)]
        exact ⟨_, List.getElem?_eq_getElem (by rw [HO1.out.1]; omega)⟩
      have f2 := HO1.out.frozenAt (k * 9 + 2)
      obtain ⟨u3v, p3⟩ : ∃ u, w'.cell? ⟨w.heap.size, k * 9 + 3, none⟩ = some u := by
        rw [HO1.out.cellAt (k * 9 + 3) (by omega)]
        exact ⟨_, List.getElem?_eq_getElem (by rw [HO1.out.1]; omega)⟩
      have f3 := HO1.out.frozenAt (k * 9 + 3)
      obtain ⟨u4v, p4⟩ : ∃ u, w'.cell? ⟨w.heap.size, k * 9 + 4, none⟩ = some u := by
        rw [HO1.out.cellAt (k * 9 + 4) (by omega)]
        exact ⟨_, List.getElem?_eq_getElem (by rw [HO1.out.1]; omega)⟩
      have f4 := HO1.out.frozenAt (k * 9 + 4)
      obtain ⟨u5v, p5⟩ : ∃ u, w'.cell? ⟨w.heap.size, k * 9 + 5, none⟩ = some u := by
        rw [HO1.out.cellAt (k * 9 + 5) (by omega)]
        exact ⟨_, List.getElem?_eq_getElem (by rw [HO1.out.1]; omega)⟩
      have f5 := HO1.out.frozenAt (k * 9 + 5)
      obtain ⟨u6v, p6⟩ : ∃ u, w'.cell? ⟨w.heap.size, k * 9 + 6, none⟩ = some u := by
        rw [HO1.out.cellAt (k * 9 + 6) (by omega)]
        exact ⟨_, List.getElem?_eq_getElem (by rw [HO1.out.1]; omega)⟩
      have f6 := HO1.out.frozenAt (k * 9 + 6)
      obtain ⟨u7v, p7⟩ : ∃ u, w'.cell? ⟨w.heap.size, k * 9 + 7, none⟩ = some u := by
        rw [HO1.out.cellAt (k * 9 + 7) (by omega)]
        exact ⟨_, List.getElem?_eq_getElem (by rw [HO1.out.1]; omega)⟩
      have f7 := HO1.out.frozenAt (k * 9 + 7)
      obtain ⟨u8v, p8⟩ : ∃ u, w'.cell? ⟨w.heap.size, k * 9 + 8, none⟩ = some u := by
        rw [HO1.out.cellAt (k * 9 + 8) (by omega)]
        exact ⟨_, List.getElem?_eq_getElem (by rw [HO1.out.1]; omega)⟩
      have f8 := HO1.out.frozenAt (k * 9 + 8)
      have HB1 := Lib.hid hb1; clear hb1
      have HCS := Lib.hid hcs; clear hcs
      go_wp2_with fail
      have hcs := HCS.out
      have hs0 := HO1.out.stored (k * 9) (.int .i64 zk)
      have hs1 := hs0.1.stored (k * 9 + 1) (.string znm)
      have hs2 := hs1.1.stored (k * 9 + 2) (.int .i64 zn)
      have hs3 := hs2.1.stored (k * 9 + 3) (.int .i64 zfk)
      have hs4 := hs3.1.stored (k * 9 + 4) (.slice zfa zfn zfc)
      have hs5 := hs4.1.stored (k * 9 + 5) (.int .i64 ztk)
      have hs6 := hs5.1.stored (k * 9 + 6) (.slice zta ztn ztc)
      have hs7 := hs6.1.stored (k * 9 + 7) (.slice zsa zsn zsc)
      have hs8 := hs7.1.stored (k * 9 + 8) (.slice zea zen zec)
      have hkeep : ∀ b, w.heap.size + 1 ≤ b → (((((((((w'.setCell ⟨w.heap.size, k * 9, none⟩ (.int .i64 zk)).setCell ⟨w.heap.size, k * 9 + 1, none⟩ (.string znm)).setCell ⟨w.heap.size, k * 9 + 2, none⟩ (.int .i64 zn)).setCell ⟨w.heap.size, k * 9 + 3, none⟩ (.int .i64 zfk)).setCell ⟨w.heap.size, k * 9 + 4, none⟩ (.slice zfa zfn zfc)).setCell ⟨w.heap.size, k * 9 + 5, none⟩ (.int .i64 ztk)).setCell ⟨w.heap.size, k * 9 + 6, none⟩ (.slice zta ztn ztc)).setCell ⟨w.heap.size, k * 9 + 7, none⟩ (.slice zsa zsn zsc)).setCell ⟨w.heap.size, k * 9 + 8, none⟩ (.slice zea zen zec)).heap[b]? = w'.heap[b]? := fun b h1 => by
        rw [heap_setCell_other _ _ _ _ (by simp; omega), heap_setCell_other _ _ _ _ (by simp; omega), heap_setCell_other _ _ _ _ (by simp; omega), heap_setCell_other _ _ _ _ (by simp; omega), heap_setCell_other _ _ _ _ (by simp; omega), heap_setCell_other _ _ _ _ (by simp; omega), heap_setCell_other _ _ _ _ (by simp; omega), heap_setCell_other _ _ _ _ (by simp; omega), heap_setCell_other _ _ _ _ (by simp; omega)]
      have hF := HF.out
      have hF1 := HF1.out
      have hL := HL.out
      have hzz : (((((((((w'.setCell ⟨w.heap.size, k * 9, none⟩ (.int .i64 zk)).setCell ⟨w.heap.size, k * 9 + 1, none⟩ (.string znm)).setCell ⟨w.heap.size, k * 9 + 2, none⟩ (.int .i64 zn)).setCell ⟨w.heap.size, k * 9 + 3, none⟩ (.int .i64 zfk)).setCell ⟨w.heap.size, k * 9 + 4, none⟩ (.slice zfa zfn zfc)).setCell ⟨w.heap.size, k * 9 + 5, none⟩ (.int .i64 ztk)).setCell ⟨w.heap.size, k * 9 + 6, none⟩ (.slice zta ztn ztc)).setCell ⟨w.heap.size, k * 9 + 7, none⟩ (.slice zsa zsn zsc)).setCell ⟨w.heap.size, k * 9 + 8, none⟩ (.slice zea zen zec)).heap.size = w'.heap.size := by simp
      refine ⟨⟨k + 1, _, fps ++ [fp], by omega, by go_num, hs8.1, by simp [hL], ?_, ?_, ((((((((((HB.out.trans (HB1.out.mono HB.out.size)).setCell (Nat.le_refl _) _).setCell (Nat.le_refl _) _).setCell (Nat.le_refl _) _).setCell (Nat.le_refl _) _).setCell (Nat.le_refl _) _).setCell (Nat.le_refl _) _).setCell (Nat.le_refl _) _).setCell (Nat.le_refl _) _).setCell (Nat.le_refl _) _)⟩, by simp [intOf]; omega⟩
      · rw [hzz, List.flatten_append, List.flatten_cons, List.flatten_nil, List.append_nil]
        exact hF.join hF1 (by omega) hz1
      · intro j hj hjk
        by_cases hjk2 : j = k
        · subst hjk2
          refine ⟨_, _, _, _, _, _, _, _, _, fp, (by rw [List.getElem?_set_ne (by omega), List.getElem?_set_ne (by omega), List.getElem?_set_ne (by omega), List.getElem?_set_ne (by omega), List.getElem?_set_ne (by omega), List.getElem?_set_ne (by omega), List.getElem?_set_ne (by omega), List.getElem?_set_ne (by omega), List.getElem?_set_self (by first | omega | (simp only [List.length_set]; omega))]), (by rw [List.getElem?_set_ne (by omega), List.getElem?_set_ne (by omega), List.getElem?_set_ne (by omega), List.getElem?_set_ne (by omega), List.getElem?_set_ne (by omega), List.getElem?_set_ne (by omega), List.getElem?_set_ne (by omega), List.getElem?_set_self (by first | omega | (simp only [List.length_set]; omega))]), (by rw [List.getElem?_set_ne (by omega), List.getElem?_set_ne (by omega), List.getElem?_set_ne (by omega), List.getElem?_set_ne (by omega), List.getElem?_set_ne (by omega), List.getElem?_set_ne (by omega), List.getElem?_set_self (by first | omega | (simp only [List.length_set]; omega))]), (by rw [List.getElem?_set_ne (by omega), List.getElem?_set_ne (by omega), List.getElem?_set_ne (by omega), List.getElem?_set_ne (by omega), List.getElem?_set_ne (by omega), List.getElem?_set_self (by first | omega | (simp only [List.length_set]; omega))]), (by rw [List.getElem?_set_ne (by omega), List.getElem?_set_ne (by omega), List.getElem?_set_ne (by omega), List.getElem?_set_ne (by omega), List.getElem?_set_self (by first | omega | (simp only [List.length_set]; omega))]), (by rw [List.getElem?_set_ne (by omega), List.getElem?_set_ne (by omega), List.getElem?_set_ne (by omega), List.getElem?_set_self (by first | omega | (simp only [List.length_set]; omega))]), (by rw [List.getElem?_set_ne (by omega), List.getElem?_set_ne (by omega), List.getElem?_set_self (by first | omega | (simp only [List.length_set]; omega))]), (by rw [List.getElem?_set_ne (by omega), List.getElem?_set_self (by first | omega | (simp only [List.length_set]; omega))]), (by rw [List.getElem?_set_self (by first | omega | (simp only [List.length_set]; omega))]), ?_, HY.out.kept (by simp) fun b hb => hkeep b ?_⟩
          · rw [List.getElem?_append_right (by omega), hL]; simp
          · have := (hF1.2 b hb).1; omega
        · obtain ⟨c0, c1, c2, c3, c4, c5, c6, c7, c8, f, hc0, hc1, hc2, hc3, hc4, hc5, hc6, hc7, hc8, hfj, hty⟩ := HD.out j hj (by omega)
          have hsub : ∀ b, b ∈ f → b ∈ fps.flatten := fun b hb => List.mem_flatten.2 ⟨f, List.mem_of_getElem? hfj, hb⟩
          refine ⟨c0, c1, c2, c3, c4, c5, c6, c7, c8, f, (by rw [List.getElem?_set_ne (by omega), List.getElem?_set_ne (by omega), List.getElem?_set_ne (by omega), List.getElem?_set_ne (by omega), List.getElem?_set_ne (by omega), List.getElem?_set_ne (by omega), List.getElem?_set_ne (by omega), List.getElem?_set_ne (by omega), List.getElem?_set_ne (by omega)]; exact hc0), (by rw [List.getElem?_set_ne (by omega), List.getElem?_set_ne (by omega), List.getElem?_set_ne (by omega), List.getElem?_set_ne (by omega), List.getElem?_set_ne (by omega), List.getElem?_set_ne (by omega), List.getElem?_set_ne (by omega), List.getElem?_set_ne (by omega), List.getElem?_set_ne (by omega)]; exact hc1), (by rw [List.getElem?_set_ne (by omega), List.getElem?_set_ne (by omega), List.getElem?_set_ne (by omega), List.getElem?_set_ne (by omega), List.getElem?_set_ne (by omega), List.getElem?_set_ne (by omega), List.getElem?_set_ne (by omega), List.getElem?_set_ne (by omega), List.getElem?_set_ne (by omega)]; exact hc2), (by rw [List.getElem?_set_ne (by omega), List.getElem?_set_ne (by omega), List.getElem?_set_ne (by omega), List.getElem?_set_ne (by omega), List.getElem?_set_ne (by omega), List.getElem?_set_ne (by omega), List.getElem?_set_ne (by omega), List.getElem?_set_ne (by omega), List.getElem?_set_ne (by omega)]; exact hc3), (by rw [List.getElem?_set_ne (by omega), List.getElem?_set_ne (by omega), List.getElem?_set_ne (by omega), List.getElem?_set_ne (by omega), List.getElem?_set_ne (by omega), List.getElem?_set_ne (by omega), List.getElem?_set_ne (by omega), List.getElem?_set_ne (by omega), List.getElem?_set_ne (by omega)]; exact hc4), (by rw [List.getElem?_set_ne (by omega), List.getElem?_set_ne (by omega), List.getElem?_set_ne (by omega), List.getElem?_set_ne (by omega), List.getElem?_set_ne (by omega), List.getElem?_set_ne (by omega), List.getElem?_set_ne (by omega), List.getElem?_set_ne (by omega), List.getElem?_set_ne (by omega)]; exact hc5), (by rw [List.getElem?_set_ne (by omega), List.getElem?_set_ne (by omega), List.getElem?_set_ne (by omega), List.getElem?_set_ne (by omega), List.getElem?_set_ne (by omega), List.getElem?_set_ne (by omega), List.getElem?_set_ne (by omega), List.getElem?_set_ne (by omega), List.getElem?_set_ne (by omega)]; exact hc6), (by rw [List.getElem?_set_ne (by omega), List.getElem?_set_ne (by omega), List.getElem?_set_ne (by omega), List.getElem?_set_ne (by omega), List.getElem?_set_ne (by omega), List.getElem?_set_ne (by omega), List.getElem?_set_ne (by omega), List.getElem?_set_ne (by omega), List.getElem?_set_ne (by omega)]; exact hc7), (by rw [List.getElem?_set_ne (by omega), List.getElem?_set_ne (by omega), List.getElem?_set_ne (by omega), List.getElem?_set_ne (by omega), List.getElem?_set_ne (by omega), List.getElem?_set_ne (by omega), List.getElem?_set_ne (by omega), List.getElem?_set_ne (by omega), List.getElem?_set_ne (by omega)]; exact hc8), ?_, hty.kept (by simp; omega) fun b hb => ?_⟩
          · rw [List.getElem?_append_left (by omega)]; exact hfj
          · have hb2 := hF.2 b (hsub b hb)
            rw [hkeep b hb2.1]; exact HB1.out.block b hb2.2
    · have hkk : k = ts.length := by omega
      subst hkk
      go_wp2_with fail
      go_ret
      refine ⟨_, [w.heap.size] ++ fps.flatten, rfl, ⟨_, _, [w.heap.size], fps, rfl, Nat.le_refl _, by omega, HL.out, rfl, fun b hb => by cases List.mem_singleton.1 hb; exact hgl, fun j hj => ?_⟩, (Fp.one (Nat.le_refl _) (Nat.lt_succ_self _)).join HF.out (by omega) (by omega), HB.out⟩
      obtain ⟨c0, c1, c2, c3, c4, c5, c6, c7, c8, f, hc0, hc1, hc2, hc3, hc4, hc5, hc6, hc7, hc8, hfj, hty⟩ := HD.out j hj hj
      refine ⟨w.heap.size, 0, c0, c1, c2, c3, c4, c5, c6, c7, c8, f, rfl, rfl, hgl, (by rw [Nat.zero_add, HO.out.cellAt (j * 9) (by omega)]; exact hc0), (by rw [Nat.zero_add, HO.out.cellAt (j * 9 + 1) (by omega)]; exact hc1), (by rw [Nat.zero_add, HO.out.cellAt (j * 9 + 2) (by omega)]; exact hc2), (by rw [Nat.zero_add, HO.out.cellAt (j * 9 + 3) (by omega)]; exact hc3), (by rw [Nat.zero_add, HO.out.cellAt (j * 9 + 4) (by omega)]; exact hc4), (by rw [Nat.zero_add, HO.out.cellAt (j * 9 + 5) (by omega)]; exact hc5), (by rw [Nat.zero_add, HO.out.cellAt (j * 9 + 6) (by omega)]; exact hc6), (by rw [Nat.zero_add, HO.out.cellAt (j * 9 + 7) (by omega)]; exact hc7), (by rw [Nat.zero_add, HO.out.cellAt (j * 9 + 8) (by omega)]; exact hc8), fun o => HO.out.frozenAt o, hfj, hty⟩

set_option maxRecDepth 100000 in
set_option maxHeartbeats 4000000 in
theorem toCbs_step (d : Nat) (ih : ToCbSaid d) : ToCbsSaid d := by
  intro v ns ts w hn h
  have IH := Lib.hid ih; clear ih
  obtain ⟨i0, hi, hz0, hz1, hz2⟩ := info_parts info_cb
  have hlen := Co.length_le ts
  obtain ⟨hln, a, cap, rfl, hcap, hcap2, hat⟩ := h
  have HAT := Lib.hid hat; clear hat
  go_enter Tryd.func19, Tryd.ntmps19
  go_wp2_with (at_make; refine wpList_make_full _ rfl _ _ 35 rfl w.heap.size 65 i0 (.agg #[.string ⟨#[]⟩, .int .i64 0, .string ⟨#[]⟩, .int .i64 0, .int .i64 0, .slice none 0 0, .int .i64 0, .slice none 0 0, .slice none 0 0, .slice none 0 0]) 10 Tryd.underlying35 hi hz0 hz1 .i64 .i64 _ _ ts.length rfl rfl rfl rfl (by rw [hz2]; omega) (by unfold maxLen; omega) (Nat.le_refl _) ?_; intro w0 hown0 hg0; refine Hid.out ?_)
  refine Lib.hid ?_
  have HB0 := Lib.hid ((Below.refl w.heap.size w).grown hg0 (Nat.le_refl _) (fun k hk => by cases hk))
  have HO0 := Lib.hid hown0
  clear hown0 hg0 hi hz0 hz1 hz2
  go_wp2_with fail
  go_loopw [4] (fun i wr => ∃ (k : Nat) (cs : List Value) (fps : List (List Nat)), k ≤ ts.length ∧ i = .int .i64 k ∧ wr.ownsRow w.heap.size 65 10 (.slice (some ⟨w.heap.size, 0, none⟩) ts.length ts.length) ts.length cs ∧
      fps.length = k ∧ Fp (w.heap.size + 1) wr.heap.size (List.flatten fps) ∧ (∀ j (h : j < ts.length) (h2 : j < ns.length), j < k → ∃ c0 c1 c2 c3 c4 c5 c6 c7 c8 f, ns[j].size ≤ 9223372036854775807 ∧ cs[j * 10]? = some (.string ns[j]) ∧ cs[j * 10 + 1]? = some (c0) ∧ cs[j * 10 + 2]? = some (c1) ∧ cs[j * 10 + 3]? = some (c2) ∧ cs[j * 10 + 4]? = some (c3) ∧ cs[j * 10 + 5]? = some (c4) ∧ cs[j * 10 + 6]? = some (c5) ∧ cs[j * 10 + 7]? = some (c6) ∧ cs[j * 10 + 8]? = some (c7) ∧ cs[j * 10 + 9]? = some (c8) ∧ fps[j]? = some f ∧ CoOwn wr d (.agg #[c0, c1, c2, c3, c4, c5, c6, c7, c8]) ts[j] f) ∧ Below w.heap.size w wr) (fun i _ => ts.length - (intOf i).toNat)
  case atStart => exact ⟨0, _, [], by omega, rfl, HO0.out, rfl, Fp.nil _ _, fun j h h3 h2 => by omega, HB0.out⟩
  case round =>
    obtain ⟨k, cs, fps, hk, rfl, hown, hfl, hfp, hdone, hb⟩ := hrel
    have HF := Lib.hid hfp; clear hfp
    have HL := Lib.hid hfl; clear hfl
    have HO := Lib.hid hown
    have HD := Lib.hid hdone; clear hdone
    have HB := Lib.hid hb; clear hb
    have hgl := (hown.lt w.heap.size rfl).2
    clear hown
    by_cases hlt : k < ts.length
    · have hlt2 : k < ns.length := by omega
      obtain ⟨b, off, x0, x1, x2, x3, x4, x5, x6, x7, x8, rfl, hbl, hnz, hcn, hc0, hc1, hc2, hc3, hc4, hc5, hc6, hc7, hc8, ht⟩ := HAT.out k hlt hlt2
      have hg := Co.bulk_get ts k hlt
      have e0 : wr.cell? ⟨b, off + k * 10, none⟩ = some (.string ns[k]) := by rw [HB.out.cell (p := ⟨b, off + k * 10, none⟩) hbl]; exact hcn
      have e1 : wr.cell? ⟨b, off + k * 10 + 1, none⟩ = some x0 := by rw [HB.out.cell (p := ⟨b, off + k * 10 + 1, none⟩) hbl]; exact hc0
      have e2 : wr.cell? ⟨b, off + k * 10 + 2, none⟩ = some x1 := by rw [HB.out.cell (p := ⟨b, off + k * 10 + 2, none⟩) hbl]; exact hc1
      have e3 : wr.cell? ⟨b, off + k * 10 + 3, none⟩ = some x2 := by rw [HB.out.cell (p := ⟨b, off + k * 10 + 3, none⟩) hbl]; exact hc2
      have e4 : wr.cell? ⟨b, off + k * 10 + 4, none⟩ = some x3 := by rw [HB.out.cell (p := ⟨b, off + k * 10 + 4, none⟩) hbl]; exact hc3
      have e5 : wr.cell? ⟨b, off + k * 10 + 5, none⟩ = some x4 := by rw [HB.out.cell (p := ⟨b, off + k * 10 + 5, none⟩) hbl]; exact hc4
      have e6 : wr.cell? ⟨b, off + k * 10 + 6, none⟩ = some x5 := by rw [HB.out.cell (p := ⟨b, off + k * 10 + 6, none⟩) hbl]; exact hc5
      have e7 : wr.cell? ⟨b, off + k * 10 + 7, none⟩ = some x6 := by rw [HB.out.cell (p := ⟨b, off + k * 10 + 7, none⟩) hbl]; exact hc6
      have e8 : wr.cell? ⟨b, off + k * 10 + 8, none⟩ = some x7 := by rw [HB.out.cell (p := ⟨b, off + k * 10 + 8, none⟩) hbl]; exact hc7
      have e9 : wr.cell? ⟨b, off + k * 10 + 9, none⟩ = some x8 := by rw [HB.out.cell (p := ⟨b, off + k * 10 + 9, none⟩) hbl]; exact hc8
      have HT := Lib.hid (ht.below HB.out)
      clear ht hcn hc0 hc1 hc2 hc3 hc4 hc5 hc6 hc7 hc8
      go_wp2_with fail
      refine (IH.out _ ns[k] _ wr (by omega) ⟨hnz, _, _, _, _, _, _, _, _, _, rfl, HT.out⟩).mono ?_
      rintro e w' ⟨v2, fp, rfl, ht, hfp, hb1⟩
      have HF1 := Lib.hid hfp; clear hfp
      have HO1 := Lib.hid (own_below HO.out hb1); clear HO
      have hz1 := hb1.size
      obtain ⟨hny, y0, y1, y2, y3, y4, y5, y6, y7, y8, rfl, ht⟩ := ht
      obtain ⟨zk, znm, zn, zfk, zfa, zfn, zfc, ztk, zta, ztn, ztc, zsa, zsn, zsc, zea, zen, zec, rfl, rfl, rfl, rfl, rfl, rfl, rfl, rfl, rfl⟩ := co_cells ht.at_
      have HY := Lib.hid ht
      clear ht
      have hcs : cs.length = ts.length * 10 := HO1.out.1
      obtain ⟨u0v, p0⟩ : ∃ u, w'.cell? ⟨w.heap.size, k * 10, none⟩ = some u := by
        rw [HO1.out.cellAt (k * 10) (by omega)]
        exact ⟨_, List.getElem?_eq_getElem (by rw [HO1.out.1]; omega)⟩
      have f0 := HO1.out.frozenAt (k * 10)
      obtain ⟨u1v, p1⟩ : ∃ u, w'.cell? ⟨w.heap.size, k * 10 + 1, none⟩ = some u := by
        rw [HO1.out.cellAt (k * 10 + 1) (by omega)]
        exact ⟨_, List.getElem?_eq_getElem (by rw [HO1.out.1]; omega)⟩
      have f1 := HO1.out.frozenAt (k * 10 + 1)
      obtain ⟨u2v, p2⟩ : ∃ u, w'.cell? ⟨w.heap.size, k * 10 + 2, none⟩ = some u := by
        rw [HO1.out.cellAt (k * 10 + 2) (by omega)]
        exact ⟨_, List.getElem?_eq_getElem (by rw [HO1.out.1]; omega)⟩
      have f2 := HO1.out.frozenAt (k * 10 + 2)
      obtain ⟨u3v, p3⟩ : ∃ u, w'.cell? ⟨w.heap.size, k * 10 + 3, none⟩ = some u := by
        rw [HO1.out.cellAt (k * 10 + 3) (by omega)]
        exact ⟨_, List.getElem?_eq_getElem (by rw [HO1.out.1]; omega)⟩
      have f3 := HO1.out.frozenAt (k * 10 + 3)
      obtain ⟨u4v, p4⟩ : ∃ u, w'.cell? ⟨w.heap.size, k * 10 + 4, none⟩ = some u := by
        rw [HO1.out.cellAt (k * 10 + 4) (by omega)]
        exact ⟨_, List.getElem?_eq_getElem (by rw [HO1.out.1]; omega)⟩
      have f4 := HO1.out.frozenAt (k * 10 + 4)
      obtain ⟨u5v, p5⟩ : ∃ u, w'.cell? ⟨w.heap.size, k * 10 + 5, none⟩ = some u := by
        rw [HO1.out.cellAt (k * 10 + 5) (by omega)]
        exact ⟨_, List.getElem?_eq_getElem (by rw [HO1.out.1]; omega)⟩
      have f5 := HO1.out.frozenAt (k * 10 + 5)
      obtain ⟨u6v, p6⟩ : ∃ u, w'.cell? ⟨w.heap.size, k * 10 + 6, none⟩ = some u := by
        rw [HO1.out.cellAt (k * 10 + 6) (by omega)]
        exact ⟨_, List.getElem?_eq_getElem (by rw [HO1.out.1]; omega)⟩
      have f6 := HO1.out.frozenAt (k * 10 + 6)
      obtain ⟨u7v, p7⟩ : ∃ u, w'.cell? ⟨w.heap.size, k * 10 + 7, none⟩ = some u := by
        rw [HO1.out.cellAt (k * 10 + 7) (by omega)]
        exact ⟨_, List.getElem?_eq_getElem (by rw [HO1.out.1]; omega)⟩
      have f7 := HO1.out.frozenAt (k * 10 + 7)
      obtain ⟨u8v, p8⟩ : ∃ u, w'.cell? ⟨w.heap.size, k * 10 + 8, none⟩ = some u := by
        rw [HO1.out.cellAt (k * 10 + 8) (by omega)]
        exact ⟨_, List.getElem?_eq_getElem (by rw [HO1.out.1]; omega)⟩
      have f8 := HO1.out.frozenAt (k * 10 + 8)
      obtain ⟨u9v, p9⟩ : ∃ u, w'.cell? ⟨w.heap.size, k * 10 + 9, none⟩ = some u := by
        rw [HO1.out.cellAt (k * 10 + 9) (by omega)]
        exact ⟨_, List.getElem?_eq_getElem (by rw [HO1.out.1]; omega)⟩
      have f9 := HO1.out.frozenAt (k * 10 + 9)
      have HB1 := Lib.hid hb1; clear hb1
      have HCS := Lib.hid hcs; clear hcs
      go_wp2_with fail
      have hcs := HCS.out
      have hs0 := HO1.out.stored (k * 10) (.string ns[k])
      have hs1 := hs0.1.stored (k * 10 + 1) (.int .i64 zk)
      have hs2 := hs1.1.stored (k * 10 + 2) (.string znm)
      have hs3 := hs2.1.stored (k * 10 + 3) (.int .i64 zn)
      have hs4 := hs3.1.stored (k * 10 + 4) (.int .i64 zfk)
      have hs5 := hs4.1.stored (k * 10 + 5) (.slice zfa zfn zfc)
      have hs6 := hs5.1.stored (k * 10 + 6) (.int .i64 ztk)
      have hs7 := hs6.1.stored (k * 10 + 7) (.slice zta ztn ztc)
      have hs8 := hs7.1.stored (k * 10 + 8) (.slice zsa zsn zsc)
      have hs9 := hs8.1.stored (k * 10 + 9) (.slice zea zen zec)
      have hkeep : ∀ b, w.heap.size + 1 ≤ b → ((((((((((w'.setCell ⟨w.heap.size, k * 10, none⟩ (.string ns[k])).setCell ⟨w.heap.size, k * 10 + 1, none⟩ (.int .i64 zk)).setCell ⟨w.heap.size, k * 10 + 2, none⟩ (.string znm)).setCell ⟨w.heap.size, k * 10 + 3, none⟩ (.int .i64 zn)).setCell ⟨w.heap.size, k * 10 + 4, none⟩ (.int .i64 zfk)).setCell ⟨w.heap.size, k * 10 + 5, none⟩ (.slice zfa zfn zfc)).setCell ⟨w.heap.size, k * 10 + 6, none⟩ (.int .i64 ztk)).setCell ⟨w.heap.size, k * 10 + 7, none⟩ (.slice zta ztn ztc)).setCell ⟨w.heap.size, k * 10 + 8, none⟩ (.slice zsa zsn zsc)).setCell ⟨w.heap.size, k * 10 + 9, none⟩ (.slice zea zen zec)).heap[b]? = w'.heap[b]? := fun b h1 => by
        rw [heap_setCell_other _ _ _ _ (by simp; omega), heap_setCell_other _ _ _ _ (by simp; omega), heap_setCell_other _ _ _ _ (by simp; omega), heap_setCell_other _ _ _ _ (by simp; omega), heap_setCell_other _ _ _ _ (by simp; omega), heap_setCell_other _ _ _ _ (by simp; omega), heap_setCell_other _ _ _ _ (by simp; omega), heap_setCell_other _ _ _ _ (by simp; omega), heap_setCell_other _ _ _ _ (by simp; omega), heap_setCell_other _ _ _ _ (by simp; omega)]
      have hF := HF.out
      have hF1 := HF1.out
      have hL := HL.out
      have hzz : ((((((((((w'.setCell ⟨w.heap.size, k * 10, none⟩ (.string ns[k])).setCell ⟨w.heap.size, k * 10 + 1, none⟩ (.int .i64 zk)).setCell ⟨w.heap.size, k * 10 + 2, none⟩ (.string znm)).setCell ⟨w.heap.size, k * 10 + 3, none⟩ (.int .i64 zn)).setCell ⟨w.heap.size, k * 10 + 4, none⟩ (.int .i64 zfk)).setCell ⟨w.heap.size, k * 10 + 5, none⟩ (.slice zfa zfn zfc)).setCell ⟨w.heap.size, k * 10 + 6, none⟩ (.int .i64 ztk)).setCell ⟨w.heap.size, k * 10 + 7, none⟩ (.slice zta ztn ztc)).setCell ⟨w.heap.size, k * 10 + 8, none⟩ (.slice zsa zsn zsc)).setCell ⟨w.heap.size, k * 10 + 9, none⟩ (.slice zea zen zec)).heap.size = w'.heap.size := by simp
      refine ⟨⟨k + 1, _, fps ++ [fp], by omega, by go_num, hs9.1, by simp [hL], ?_, ?_, (((((((((((HB.out.trans (HB1.out.mono HB.out.size)).setCell (Nat.le_refl _) _).setCell (Nat.le_refl _) _).setCell (Nat.le_refl _) _).setCell (Nat.le_refl _) _).setCell (Nat.le_refl _) _).setCell (Nat.le_refl _) _).setCell (Nat.le_refl _) _).setCell (Nat.le_refl _) _).setCell (Nat.le_refl _) _).setCell (Nat.le_refl _) _)⟩, by simp [intOf]; omega⟩
      · rw [hzz, List.flatten_append, List.flatten_cons, List.flatten_nil, List.append_nil]
        exact hF.join hF1 (by omega) hz1
      · intro j hj hj2 hjk
        by_cases hjk2 : j = k
        · subst hjk2
          refine ⟨_, _, _, _, _, _, _, _, _, fp, hnz, (by rw [List.getElem?_set_ne (by omega), List.getElem?_set_ne (by omega), List.getElem?_set_ne (by omega), List.getElem?_set_ne (by omega), List.getElem?_set_ne (by omega), List.getElem?_set_ne (by omega), List.getElem?_set_ne (by omega), List.getElem?_set_ne (by omega), List.getElem?_set_ne (by omega), List.getElem?_set_self (by first | omega | (simp only [List.length_set]; omega))]), (by rw [List.getElem?_set_ne (by omega), List.getElem?_set_ne (by omega), List.getElem?_set_ne (by omega), List.getElem?_set_ne (by omega), List.getElem?_set_ne (by omega), List.getElem?_set_ne (by omega), List.getElem?_set_ne (by omega), List.getElem?_set_ne (by omega), List.getElem?_set_self (by first | omega | (simp only [List.length_set]; omega))]), (by rw [List.getElem?_set_ne (by omega), List.getElem?_set_ne (by omega), List.getElem?_set_ne (by omega), List.getElem?_set_ne (by omega), List.getElem?_set_ne (by omega), List.getElem?_set_ne (by omega), List.getElem?_set_ne (by omega), List.getElem?_set_self (by first | omega | (simp only [List.length_set]; omega))]), (by rw [List.getElem?_set_ne (by omega), List.getElem?_set_ne (by omega), List.getElem?_set_ne (by omega), List.getElem?_set_ne (by omega), List.getElem?_set_ne (by omega), List.getElem?_set_ne (by omega), List.getElem?_set_self (by first | omega | (simp only [List.length_set]; omega))]), (by rw [List.getElem?_set_ne (by omega), List.getElem?_set_ne (by omega), List.getElem?_set_ne (by omega), List.getElem?_set_ne (by omega), List.getElem?_set_ne (by omega), List.getElem?_set_self (by first | omega | (simp only [List.length_set]; omega))]), (by rw [List.getElem?_set_ne (by omega), List.getElem?_set_ne (by omega), List.getElem?_set_ne (by omega), List.getElem?_set_ne (by omega), List.getElem?_set_self (by first | omega | (simp only [List.length_set]; omega))]), (by rw [List.getElem?_set_ne (by omega), List.getElem?_set_ne (by omega), List.getElem?_set_ne (by omega), List.getElem?_set_self (by first | omega | (simp only [List.length_set]; omega))]), (by rw [List.getElem?_set_ne (by omega), List.getElem?_set_ne (by omega), List.getElem?_set_self (by first | omega | (simp only [List.length_set]; omega))]), (by rw [List.getElem?_set_ne (by omega), List.getElem?_set_self (by first | omega | (simp only [List.length_set]; omega))]), (by rw [List.getElem?_set_self (by first | omega | (simp only [List.length_set]; omega))]), ?_, HY.out.kept (by simp) fun b hb => hkeep b ?_⟩
          · rw [List.getElem?_append_right (by omega), hL]; simp
          · have := (hF1.2 b hb).1; omega
        · obtain ⟨c0, c1, c2, c3, c4, c5, c6, c7, c8, f, hnz, hcn, hc0, hc1, hc2, hc3, hc4, hc5, hc6, hc7, hc8, hfj, hty⟩ := HD.out j hj hj2 (by omega)
          have hsub : ∀ b, b ∈ f → b ∈ fps.flatten := fun b hb => List.mem_flatten.2 ⟨f, List.mem_of_getElem? hfj, hb⟩
          refine ⟨c0, c1, c2, c3, c4, c5, c6, c7, c8, f, hnz, (by rw [List.getElem?_set_ne (by omega), List.getElem?_set_ne (by omega), List.getElem?_set_ne (by omega), List.getElem?_set_ne (by omega), List.getElem?_set_ne (by omega), List.getElem?_set_ne (by omega), List.getElem?_set_ne (by omega), List.getElem?_set_ne (by omega), List.getElem?_set_ne (by omega), List.getElem?_set_ne (by omega)]; exact hcn), (by rw [List.getElem?_set_ne (by omega), List.getElem?_set_ne (by omega), List.getElem?_set_ne (by omega), List.getElem?_set_ne (by omega), List.getElem?_set_ne (by omega), List.getElem?_set_ne (by omega), List.getElem?_set_ne (by omega), List.getElem?_set_ne (by omega), List.getElem?_set_ne (by omega), List.getElem?_set_ne (by omega)]; exact hc0), (by rw [List.getElem?_set_ne (by omega), List.getElem?_set_ne (by omega), List.getElem?_set_ne (by omega), List.getElem?_set_ne (by omega), List.getElem?_set_ne (by omega), List.getElem?_set_ne (by omega), List.getElem?_set_ne (by omega), List.getElem?_set_ne (by omega), List.getElem?_set_ne (by omega), List.getElem?_set_ne (by omega)]; exact hc1), (by rw [List.getElem?_set_ne (by omega), List.getElem?_set_ne (by omega), List.getElem?_set_ne (by omega), List.getElem?_set_ne (by omega), List.getElem?_set_ne (by omega), List.getElem?_set_ne (by omega), List.getElem?_set_ne (by omega), List.getElem?_set_ne (by omega), List.getElem?_set_ne (by omega), List.getElem?_set_ne (by omega)]; exact hc2), (by rw [List.getElem?_set_ne (by omega), List.getElem?_set_ne (by omega), List.getElem?_set_ne (by omega), List.getElem?_set_ne (by omega), List.getElem?_set_ne (by omega), List.getElem?_set_ne (by omega), List.getElem?_set_ne (by omega), List.getElem?_set_ne (by omega), List.getElem?_set_ne (by omega), List.getElem?_set_ne (by omega)]; exact hc3), (by rw [List.getElem?_set_ne (by omega), List.getElem?_set_ne (by omega), List.getElem?_set_ne (by omega), List.getElem?_set_ne (by omega), List.getElem?_set_ne (by omega), List.getElem?_set_ne (by omega), List.getElem?_set_ne (by omega), List.getElem?_set_ne (by omega), List.getElem?_set_ne (by omega), List.getElem?_set_ne (by omega)]; exact hc4), (by rw [List.getElem?_set_ne (by omega), List.getElem?_set_ne (by omega), List.getElem?_set_ne (by omega), List.getElem?_set_ne (by omega), List.getElem?_set_ne (by omega), List.getElem?_set_ne (by omega), List.getElem?_set_ne (by omega), List.getElem?_set_ne (by omega), List.getElem?_set_ne (by omega), List.getElem?_set_ne (by omega)]; exact hc5), (by rw [List.getElem?_set_ne (by omega), List.getElem?_set_ne (by omega), List.getElem?_set_ne (by omega), List.getElem?_set_ne (by omega), List.getElem?_set_ne (by omega), List.getElem?_set_ne (by omega), List.getElem?_set_ne (by omega), List.getElem?_set_ne (by omega), List.getElem?_set_ne (by omega), List.getElem?_set_ne (by omega)]; exact hc6), (by rw [List.getElem?_set_ne (by omega), List.getElem?_set_ne (by omega), List.getElem?_set_ne (by omega), List.getElem?_set_ne (by omega), List.getElem?_set_ne (by omega), List.getElem?_set_ne (by omega), List.getElem?_set_ne (by omega), List.getElem?_set_ne (by omega), List.getElem?_set_ne (by omega), List.getElem?_set_ne (by omega)]; exact hc7), (by rw [List.getElem?_set_ne (by omega), List.getElem?_set_ne (by omega), List.getElem?_set_ne (by omega), List.getElem?_set_ne (by omega), List.getElem?_set_ne (by omega), List.getElem?_set_ne (by omega), List.getElem?_set_ne (by omega), List.getElem?_set_ne (by omega), List.getElem?_set_ne (by omega), List.getElem?_set_ne (by omega)]; exact hc8), ?_, hty.kept (by simp; omega) fun b hb => ?_⟩
          · rw [List.getElem?_append_left (by omega)]; exact hfj
          · have hb2 := hF.2 b (hsub b hb)
            rw [hkeep b hb2.1]; exact HB1.out.block b hb2.2
    · have hkk : k = ts.length := by omega
      subst hkk
      go_wp2_with fail
      go_ret
      refine ⟨_, [w.heap.size] ++ fps.flatten, rfl, ⟨hln, _, _, [w.heap.size], fps, rfl, Nat.le_refl _, by omega, HL.out, rfl, fun b hb => by cases List.mem_singleton.1 hb; exact hgl, fun j hj hj2 => ?_⟩, (Fp.one (Nat.le_refl _) (Nat.lt_succ_self _)).join HF.out (by omega) (by omega), HB.out⟩
      obtain ⟨c0, c1, c2, c3, c4, c5, c6, c7, c8, f, hnz, hcn, hc0, hc1, hc2, hc3, hc4, hc5, hc6, hc7, hc8, hfj, hty⟩ := HD.out j hj hj2 hj
      refine ⟨w.heap.size, 0, c0, c1, c2, c3, c4, c5, c6, c7, c8, f, rfl, rfl, hgl, hnz, (by rw [Nat.zero_add, HO.out.cellAt (j * 10) (by omega)]; exact hcn), (by rw [Nat.zero_add, HO.out.cellAt (j * 10 + 1) (by omega)]; exact hc0), (by rw [Nat.zero_add, HO.out.cellAt (j * 10 + 2) (by omega)]; exact hc1), (by rw [Nat.zero_add, HO.out.cellAt (j * 10 + 3) (by omega)]; exact hc2), (by rw [Nat.zero_add, HO.out.cellAt (j * 10 + 4) (by omega)]; exact hc3), (by rw [Nat.zero_add, HO.out.cellAt (j * 10 + 5) (by omega)]; exact hc4), (by rw [Nat.zero_add, HO.out.cellAt (j * 10 + 6) (by omega)]; exact hc5), (by rw [Nat.zero_add, HO.out.cellAt (j * 10 + 7) (by omega)]; exact hc6), (by rw [Nat.zero_add, HO.out.cellAt (j * 10 + 8) (by omega)]; exact hc7), (by rw [Nat.zero_add, HO.out.cellAt (j * 10 + 9) (by omega)]; exact hc8), fun o => HO.out.frozenAt o, hfj, hty⟩

set_option maxRecDepth 100000 in
set_option maxHeartbeats 4000000 in
theorem toCo_step (d : Nat) (ih : ToCosSaid d) (ih2 : ToCbsSaid d) : ToCoSaid (d + 1) := by
  intro v t w hn h
  have IH := Lib.hid ih; clear ih
  have IH2 := Lib.hid ih2; clear ih2
  have HV := co_parts h
  cases t with
  | node kd nm0 n0 fr ty ts ns vs =>
    obtain ⟨c3, c4, c5, c6, sl, el, rfl, hk0, hk1, hn0, hn1, hnm, hfr, hty, h, he⟩ := h
    obtain ⟨k, nm, n, fk, fa, fn, fc, tk, ta, tn, tc, sa, sn, sc, ea, en, ec, hv⟩ := HV
    injection hv with hv
    injection hv with hv
    simp at hv
    obtain ⟨rfl, rfl, rfl, rfl, rfl, rfl, rfl, rfl, rfl⟩ := hv
    have hbk : (Co.node kd nm0 n0 fr ty ts ns vs).bulk = nm0.size + (fr.size - 1) + (ty.size - 1) + Co.bulks ts + (txs ns + Co.bulks vs) := rfl
    have hsz1 : fr.size ≤ 1048577 := by omega
    have hsz2 : ty.size ≤ 1048577 := by omega
    have hsz3 : Co.bulks ts ≤ 1048576 := by omega
    have hsz4 : Co.bulks vs ≤ 1048576 := by omega
    clear hn hbk
    have B : Hid (Below w.heap.size w (((w.alloc (.cells #[.int .i64 kd, .string nm0, .int .i64 n0, .int .i64 fk, .slice fa fn fc, .int .i64 tk, .slice ta tn tc, .slice sa sn sc, .slice ea en ec] 28)).alloc (.cells #[.int .i64 0, .string ⟨#[]⟩, .int .i64 0, .int .i64 0, .slice none 0 0, .int .i64 0, .slice none 0 0, .slice none 0 0, .slice none 0 0] 37)).alloc (.cells #[.int .i64 kd, .string nm0, .int .i64 n0, .int .i64 0, .slice none 0 0, .int .i64 0, .slice none 0 0, .slice none 0 0, .slice none 0 0] 37))) := (((Below.refl _ _).alloc (Nat.le_refl _) _).alloc (by simp) _).alloc (by simp; omega) _
    have HFR := Lib.hid (hfr.below B.out)
    have HTW := Lib.hid hty
    have HSW : Hid (CosAt w d (.slice sa sn sc) ts) := h
    have HEW : Hid (CbsAt w d (.slice ea en ec) ns vs) := he
    have XA : Hid (BoxAt (((w.alloc (.cells #[.int .i64 kd, .string nm0, .int .i64 n0, .int .i64 fk, .slice fa fn fc, .int .i64 tk, .slice ta tn tc, .slice sa sn sc, .slice ea en ec] 28)).alloc (.cells #[.int .i64 0, .string ⟨#[]⟩, .int .i64 0, .int .i64 0, .slice none 0 0, .int .i64 0, .slice none 0 0, .slice none 0 0, .slice none 0 0] 37)).alloc (.cells #[.int .i64 kd, .string nm0, .int .i64 n0, .int .i64 0, .slice none 0 0, .int .i64 0, .slice none 0 0, .slice none 0 0, .slice none 0 0] 37)) w.heap.size #[.int .i64 kd, .string nm0, .int .i64 n0, .int .i64 fk, .slice fa fn fc, .int .i64 tk, .slice ta tn tc, .slice sa sn sc, .slice ea en ec]) := ((BoxAt.new _ _ _).below (below_alloc _ _)).below (below_alloc _ _)
    have XR : Hid (BoxAt (((w.alloc (.cells #[.int .i64 kd, .string nm0, .int .i64 n0, .int .i64 fk, .slice fa fn fc, .int .i64 tk, .slice ta tn tc, .slice sa sn sc, .slice ea en ec] 28)).alloc (.cells #[.int .i64 0, .string ⟨#[]⟩, .int .i64 0, .int .i64 0, .slice none 0 0, .int .i64 0, .slice none 0 0, .slice none 0 0, .slice none 0 0] 37)).alloc (.cells #[.int .i64 kd, .string nm0, .int .i64 n0, .int .i64 0, .slice none 0 0, .int .i64 0, .slice none 0 0, .slice none 0 0, .slice none 0 0] 37)) (w.heap.size + 1) #[.int .i64 0, .string ⟨#[]⟩, .int .i64 0, .int .i64 0, .slice none 0 0, .int .i64 0, .slice none 0 0, .slice none 0 0, .slice none 0 0]) := (box_at (BoxAt.new _ _ _) (by simp)).below (below_alloc _ _)
    have XO : Hid (BoxAt (((w.alloc (.cells #[.int .i64 kd, .string nm0, .int .i64 n0, .int .i64 fk, .slice fa fn fc, .int .i64 tk, .slice ta tn tc, .slice sa sn sc, .slice ea en ec] 28)).alloc (.cells #[.int .i64 0, .string ⟨#[]⟩, .int .i64 0, .int .i64 0, .slice none 0 0, .int .i64 0, .slice none 0 0, .slice none 0 0, .slice none 0 0] 37)).alloc (.cells #[.int .i64 kd, .string nm0, .int .i64 n0, .int .i64 0, .slice none 0 0, .int .i64 0, .slice none 0 0, .slice none 0 0, .slice none 0 0] 37)) (w.heap.size + 1 + 1) #[.int .i64 kd, .string nm0, .int .i64 n0, .int .i64 0, .slice none 0 0, .int .i64 0, .slice none 0 0, .slice none 0 0, .slice none 0 0]) := box_at (BoxAt.new _ _ _) (by simp)
    have FR : Hid (FreeAt (((w.alloc (.cells #[.int .i64 kd, .string nm0, .int .i64 n0, .int .i64 fk, .slice fa fn fc, .int .i64 tk, .slice ta tn tc, .slice sa sn sc, .slice ea en ec] 28)).alloc (.cells #[.int .i64 0, .string ⟨#[]⟩, .int .i64 0, .int .i64 0, .slice none 0 0, .int .i64 0, .slice none 0 0, .slice none 0 0, .slice none 0 0] 37)).alloc (.cells #[.int .i64 kd, .string nm0, .int .i64 n0, .int .i64 0, .slice none 0 0, .int .i64 0, .slice none 0 0, .slice none 0 0, .slice none 0 0] 37)) (w.heap.size + 1)) := (free_at (FreeAt.new _ _ _) (by simp)).below (below_alloc _ _)
    have FO : Hid (FreeAt (((w.alloc (.cells #[.int .i64 kd, .string nm0, .int .i64 n0, .int .i64 fk, .slice fa fn fc, .int .i64 tk, .slice ta tn tc, .slice sa sn sc, .slice ea en ec] 28)).alloc (.cells #[.int .i64 0, .string ⟨#[]⟩, .int .i64 0, .int .i64 0, .slice none 0 0, .int .i64 0, .slice none 0 0, .slice none 0 0, .slice none 0 0] 37)).alloc (.cells #[.int .i64 kd, .string nm0, .int .i64 n0, .int .i64 0, .slice none 0 0, .int .i64 0, .slice none 0 0, .slice none 0 0, .slice none 0 0] 37)) (w.heap.size + 1 + 1)) := free_at (FreeAt.new _ _ _) (by simp)
    have hz0 : (((w.alloc (.cells #[.int .i64 kd, .string nm0, .int .i64 n0, .int .i64 fk, .slice fa fn fc, .int .i64 tk, .slice ta tn tc, .slice sa sn sc, .slice ea en ec] 28)).alloc (.cells #[.int .i64 0, .string ⟨#[]⟩, .int .i64 0, .int .i64 0, .slice none 0 0, .int .i64 0, .slice none 0 0, .slice none 0 0, .slice none 0 0] 37)).alloc (.cells #[.int .i64 kd, .string nm0, .int .i64 n0, .int .i64 0, .slice none 0 0, .int .i64 0, .slice none 0 0, .slice none 0 0, .slice none 0 0] 37)).heap.size = w.heap.size + 3 := by simp
    clear hfr hty h he
    go_enter Tryd.func7, Tryd.ntmps7
    go_wp2_with fail
    refine ((toTy_all d).1 _ fr _ hsz1 HFR.out).mono ?_
    rintro e w1 ⟨v1, f1, rfl, ht, hf, hb⟩
    have hz1 := hb.size
    rw [hz0] at hz1 hf
    obtain ⟨gk, ga, gn, gc, rfl, HG⟩ := ty_parts ht
    have F1 := Lib.hid hf
    clear HFR
    have B0 := Lib.hid (below_thru B.out (Nat.le_refl _) hb)
    have XA0 := Lib.hid (XA.out.below hb)
    have XR0 := Lib.hid (XR.out.below hb)
    have XO0 := Lib.hid (XO.out.below hb)
    have FR0 := Lib.hid (FR.out.below hb)
    have FO0 := Lib.hid (FO.out.below hb)
    clear hb ht hf
    clear B
    have B := B0
    clear B0
    clear XA
    have XA := XA0
    clear XA0
    clear XR
    have XR := XR0
    clear XR0
    clear XO
    have XO := XO0
    clear XO0
    clear FR
    have FR := FR0
    clear FR0
    clear FO
    have FO := FO0
    clear FO0
    have BS : Hid (Below w.heap.size w ((w1.setCell ⟨w.heap.size + 1 + 1, 3, none⟩ (.int .i64 gk)).setCell ⟨w.heap.size + 1 + 1, 4, none⟩ (.slice ga gn gc))) := ((B.out.setCell (by simp; omega) _).setCell (by simp; omega) _)
    have XOS : Hid (BoxAt ((w1.setCell ⟨w.heap.size + 1 + 1, 3, none⟩ (.int .i64 gk)).setCell ⟨w.heap.size + 1 + 1, 4, none⟩ (.slice ga gn gc)) (w.heap.size + 1 + 1) #[.int .i64 kd, .string nm0, .int .i64 n0, .int .i64 gk, .slice ga gn gc, .int .i64 0, .slice none 0 0, .slice none 0 0, .slice none 0 0]) := by
      have := ((XO.out.put (j := 3) (u := .int .i64 gk) (by simp)).put (j := 4) (u := .slice ga gn gc) (by simp))
      exact this
    have XRS : Hid (BoxAt ((w1.setCell ⟨w.heap.size + 1 + 1, 3, none⟩ (.int .i64 gk)).setCell ⟨w.heap.size + 1 + 1, 4, none⟩ (.slice ga gn gc)) (w.heap.size + 1) #[.int .i64 0, .string ⟨#[]⟩, .int .i64 0, .int .i64 0, .slice none 0 0, .int .i64 0, .slice none 0 0, .slice none 0 0, .slice none 0 0]) := (XR.out.stored (by omega)).stored (by omega)
    have XAS : Hid (BoxAt ((w1.setCell ⟨w.heap.size + 1 + 1, 3, none⟩ (.int .i64 gk)).setCell ⟨w.heap.size + 1 + 1, 4, none⟩ (.slice ga gn gc)) w.heap.size #[.int .i64 kd, .string nm0, .int .i64 n0, .int .i64 fk, .slice fa fn fc, .int .i64 tk, .slice ta tn tc, .slice sa sn sc, .slice ea en ec]) := (XA.out.stored (by omega)).stored (by omega)
    have FRS : Hid (FreeAt ((w1.setCell ⟨w.heap.size + 1 + 1, 3, none⟩ (.int .i64 gk)).setCell ⟨w.heap.size + 1 + 1, 4, none⟩ (.slice ga gn gc)) (w.heap.size + 1)) := FR.out.put.put
    have FOS : Hid (FreeAt ((w1.setCell ⟨w.heap.size + 1 + 1, 3, none⟩ (.int .i64 gk)).setCell ⟨w.heap.size + 1 + 1, 4, none⟩ (.slice ga gn gc)) (w.heap.size + 1 + 1)) := FO.out.put.put
    have hsz : ((w1.setCell ⟨w.heap.size + 1 + 1, 3, none⟩ (.int .i64 gk)).setCell ⟨w.heap.size + 1 + 1, 4, none⟩ (.slice ga gn gc)).heap.size = w1.heap.size := by simp
    have K1 : Hid (∀ b, w.heap.size + 3 ≤ b → ((w1.setCell ⟨w.heap.size + 1 + 1, 3, none⟩ (.int .i64 gk)).setCell ⟨w.heap.size + 1 + 1, 4, none⟩ (.slice ga gn gc)).heap[b]? = w1.heap[b]?) := fun b hb => by rw [heap_setCell_other _ _ _ _ (by simp; omega), heap_setCell_other _ _ _ _ (by simp; omega)]
    have HTS := Lib.hid (HTW.out.below BS.out)
    have a5 := XA.out.2 5
    have a5s := XAS.out.2 5
    have a6 := XA.out.2 6
    have a6s := XAS.out.2 6
    have o3 := XO.out.2 3
    have u3 := FO.out.2 3
    have o4 := XO.out.2 4
    have u4 := FO.out.2 4
    go_wp2_with fail
    clear a5 a5s a6 a6s o3 u3 o4 u4 XA XR XO FR FO B
    refine ((toTy_all d).1 _ ty _ hsz2 HTS.out).mono ?_
    rintro e w2 ⟨v2, f2, rfl, ht, hf, hb⟩
    have hz2 := hb.size
    rw [hsz] at hz2 hf
    obtain ⟨qk, qa, qn, qc, rfl, HQ⟩ := ty_parts ht
    have F2 := Lib.hid hf
    clear HTS
    have B0 := Lib.hid (below_thru BS.out (Nat.le_refl _) hb)
    have XA0 := Lib.hid (XAS.out.below hb)
    have XR0 := Lib.hid (XRS.out.below hb)
    have XO0 := Lib.hid (XOS.out.below hb)
    have FR0 := Lib.hid (FRS.out.below hb)
    have FO0 := Lib.hid (FOS.out.below hb)
    have L1 : Hid (∀ b, b < w1.heap.size → w2.heap[b]? = ((w1.setCell ⟨w.heap.size + 1 + 1, 3, none⟩ (.int .i64 gk)).setCell ⟨w.heap.size + 1 + 1, 4, none⟩ (.slice ga gn gc)).heap[b]?) := fun b h1 => hb.block b (by rw [hsz]; exact h1)
    clear hb ht hf hsz BS
    have B := B0
    clear B0
    clear XAS
    have XA := XA0
    clear XA0
    clear XRS
    have XR := XR0
    clear XR0
    clear XOS
    have XO := XO0
    clear XO0
    clear FRS
    have FR := FR0
    clear FR0
    clear FOS
    have FO := FO0
    clear FO0
    have BS : Hid (Below w.heap.size w ((w2.setCell ⟨w.heap.size + 1 + 1, 5, none⟩ (.int .i64 qk)).setCell ⟨w.heap.size + 1 + 1, 6, none⟩ (.slice qa qn qc))) := ((B.out.setCell (by simp; omega) _).setCell (by simp; omega) _)
    have XOS : Hid (BoxAt ((w2.setCell ⟨w.heap.size + 1 + 1, 5, none⟩ (.int .i64 qk)).setCell ⟨w.heap.size + 1 + 1, 6, none⟩ (.slice qa qn qc)) (w.heap.size + 1 + 1) #[.int .i64 kd, .string nm0, .int .i64 n0, .int .i64 gk, .slice ga gn gc, .int .i64 qk, .slice qa qn qc, .slice none 0 0, .slice none 0 0]) := by
      have := ((XO.out.put (j := 5) (u := .int .i64 qk) (by simp)).put (j := 6) (u := .slice qa qn qc) (by simp))
      exact this
    have XRS : Hid (BoxAt ((w2.setCell ⟨w.heap.size + 1 + 1, 5, none⟩ (.int .i64 qk)).setCell ⟨w.heap.size + 1 + 1, 6, none⟩ (.slice qa qn qc)) (w.heap.size + 1) #[.int .i64 0, .string ⟨#[]⟩, .int .i64 0, .int .i64 0, .slice none 0 0, .int .i64 0, .slice none 0 0, .slice none 0 0, .slice none 0 0]) := (XR.out.stored (by omega)).stored (by omega)
    have XAS : Hid (BoxAt ((w2.setCell ⟨w.heap.size + 1 + 1, 5, none⟩ (.int .i64 qk)).setCell ⟨w.heap.size + 1 + 1, 6, none⟩ (.slice qa qn qc)) w.heap.size #[.int .i64 kd, .string nm0, .int .i64 n0, .int .i64 fk, .slice fa fn fc, .int .i64 tk, .slice ta tn tc, .slice sa sn sc, .slice ea en ec]) := (XA.out.stored (by omega)).stored (by omega)
    have FRS : Hid (FreeAt ((w2.setCell ⟨w.heap.size + 1 + 1, 5, none⟩ (.int .i64 qk)).setCell ⟨w.heap.size + 1 + 1, 6, none⟩ (.slice qa qn qc)) (w.heap.size + 1)) := FR.out.put.put
    have FOS : Hid (FreeAt ((w2.setCell ⟨w.heap.size + 1 + 1, 5, none⟩ (.int .i64 qk)).setCell ⟨w.heap.size + 1 + 1, 6, none⟩ (.slice qa qn qc)) (w.heap.size + 1 + 1)) := FO.out.put.put
    have hsz : ((w2.setCell ⟨w.heap.size + 1 + 1, 5, none⟩ (.int .i64 qk)).setCell ⟨w.heap.size + 1 + 1, 6, none⟩ (.slice qa qn qc)).heap.size = w2.heap.size := by simp
    have K2 : Hid (∀ b, w.heap.size + 3 ≤ b → ((w2.setCell ⟨w.heap.size + 1 + 1, 5, none⟩ (.int .i64 qk)).setCell ⟨w.heap.size + 1 + 1, 6, none⟩ (.slice qa qn qc)).heap[b]? = w2.heap[b]?) := fun b hb => by rw [heap_setCell_other _ _ _ _ (by simp; omega), heap_setCell_other _ _ _ _ (by simp; omega)]
    have HSS := Lib.hid (HSW.out.below BS.out)
    have a7 := XA.out.2 7
    have a7s := XAS.out.2 7
    have o5 := XO.out.2 5
    have u5 := FO.out.2 5
    have o6 := XO.out.2 6
    have u6 := FO.out.2 6
    go_wp2_with fail
    clear a7 a7s o5 u5 o6 u6 XA XR XO FR FO B
    refine (IH.out _ ts _ hsz3 HSS.out).mono ?_
    rintro e w3 ⟨v3, f3, rfl, ht, hf, hb⟩
    have hz3 := hb.size
    rw [hsz] at hz3 hf
    have HR := Lib.hid ht
    obtain ⟨ra, rc, hd9, fps9, rfl, _⟩ := ht
    have F3 := Lib.hid hf
    clear HSS
    have B0 := Lib.hid (below_thru BS.out (Nat.le_refl _) hb)
    have XA0 := Lib.hid (XAS.out.below hb)
    have XR0 := Lib.hid (XRS.out.below hb)
    have XO0 := Lib.hid (XOS.out.below hb)
    have FR0 := Lib.hid (FRS.out.below hb)
    have FO0 := Lib.hid (FOS.out.below hb)
    have L2 : Hid (∀ b, b < w2.heap.size → w3.heap[b]? = ((w2.setCell ⟨w.heap.size + 1 + 1, 5, none⟩ (.int .i64 qk)).setCell ⟨w.heap.size + 1 + 1, 6, none⟩ (.slice qa qn qc)).heap[b]?) := fun b h1 => hb.block b (by rw [hsz]; exact h1)
    clear hb hf hsz BS
    have B := B0
    clear B0
    clear XAS
    have XA := XA0
    clear XA0
    clear XRS
    have XR := XR0
    clear XR0
    clear XOS
    have XO := XO0
    clear XO0
    clear FRS
    have FR := FR0
    clear FR0
    clear FOS
    have FO := FO0
    clear FO0
    have BS : Hid (Below w.heap.size w (w3.setCell ⟨w.heap.size + 1 + 1, 7, none⟩ (.slice ra ts.length rc))) := (B.out.setCell (by simp; omega) _)
    have XOS : Hid (BoxAt (w3.setCell ⟨w.heap.size + 1 + 1, 7, none⟩ (.slice ra ts.length rc)) (w.heap.size + 1 + 1) #[.int .i64 kd, .string nm0, .int .i64 n0, .int .i64 gk, .slice ga gn gc, .int .i64 qk, .slice qa qn qc, .slice ra ts.length rc, .slice none 0 0]) := by
      have := (XO.out.put (j := 7) (u := .slice ra ts.length rc) (by simp))
      exact this
    have XRS : Hid (BoxAt (w3.setCell ⟨w.heap.size + 1 + 1, 7, none⟩ (.slice ra ts.length rc)) (w.heap.size + 1) #[.int .i64 0, .string ⟨#[]⟩, .int .i64 0, .int .i64 0, .slice none 0 0, .int .i64 0, .slice none 0 0, .slice none 0 0, .slice none 0 0]) := XR.out.stored (by omega)
    have XAS : Hid (BoxAt (w3.setCell ⟨w.heap.size + 1 + 1, 7, none⟩ (.slice ra ts.length rc)) w.heap.size #[.int .i64 kd, .string nm0, .int .i64 n0, .int .i64 fk, .slice fa fn fc, .int .i64 tk, .slice ta tn tc, .slice sa sn sc, .slice ea en ec]) := XA.out.stored (by omega)
    have FRS : Hid (FreeAt (w3.setCell ⟨w.heap.size + 1 + 1, 7, none⟩ (.slice ra ts.length rc)) (w.heap.size + 1)) := FR.out.put
    have FOS : Hid (FreeAt (w3.setCell ⟨w.heap.size + 1 + 1, 7, none⟩ (.slice ra ts.length rc)) (w.heap.size + 1 + 1)) := FO.out.put
    have hsz : (w3.setCell ⟨w.heap.size + 1 + 1, 7, none⟩ (.slice ra ts.length rc)).heap.size = w3.heap.size := by simp
    have K3 : Hid (∀ b, w.heap.size + 3 ≤ b → (w3.setCell ⟨w.heap.size + 1 + 1, 7, none⟩ (.slice ra ts.length rc)).heap[b]? = w3.heap[b]?) := fun b hb => by rw [heap_setCell_other _ _ _ _ (by simp; omega)]
    have HES := Lib.hid (HEW.out.below BS.out)
    have a8 := XA.out.2 8
    have a8s := XAS.out.2 8
    have o7 := XO.out.2 7
    have u7 := FO.out.2 7
    go_wp2_with fail
    clear a8 a8s o7 u7 XA XR XO FR FO B
    refine (IH2.out _ ns vs _ hsz4 HES.out).mono ?_
    rintro e w4 ⟨v4, f4, rfl, ht, hf, hb⟩
    have hz4 := hb.size
    rw [hsz] at hz4 hf
    have HX := Lib.hid ht
    obtain ⟨hln9, xa, xc, hd8, fps8, rfl, _⟩ := ht
    have F4 := Lib.hid hf
    clear HES
    have B0 := Lib.hid (below_thru BS.out (Nat.le_refl _) hb)
    have XA0 := Lib.hid (XAS.out.below hb)
    have XR0 := Lib.hid (XRS.out.below hb)
    have XO0 := Lib.hid (XOS.out.below hb)
    have FR0 := Lib.hid (FRS.out.below hb)
    have FO0 := Lib.hid (FOS.out.below hb)
    have L3 : Hid (∀ b, b < w3.heap.size → w4.heap[b]? = (w3.setCell ⟨w.heap.size + 1 + 1, 7, none⟩ (.slice ra ts.length rc)).heap[b]?) := fun b h1 => hb.block b (by rw [hsz]; exact h1)
    clear hb hf hsz BS
    have B := B0
    clear B0
    clear XAS
    have XA := XA0
    clear XA0
    clear XRS
    have XR := XR0
    clear XR0
    clear XOS
    have XO := XO0
    clear XO0
    clear FRS
    have FR := FR0
    clear FR0
    clear FOS
    have FO := FO0
    clear FO0
    have o0 := XO.out.2 0
    have u0 := FO.out.2 0
    have r0 := XR.out.2 0
    have s0 := FR.out.2 0
    have o1 := XO.out.2 1
    have u1 := FO.out.2 1
    have r1 := XR.out.2 1
    have s1 := FR.out.2 1
    have o2 := XO.out.2 2
    have u2 := FO.out.2 2
    have r2 := XR.out.2 2
    have s2 := FR.out.2 2
    have o3 := XO.out.2 3
    have u3 := FO.out.2 3
    have r3 := XR.out.2 3
    have s3 := FR.out.2 3
    have o4 := XO.out.2 4
    have u4 := FO.out.2 4
    have r4 := XR.out.2 4
    have s4 := FR.out.2 4
    have o5 := XO.out.2 5
    have u5 := FO.out.2 5
    have r5 := XR.out.2 5
    have s5 := FR.out.2 5
    have o6 := XO.out.2 6
    have u6 := FO.out.2 6
    have r6 := XR.out.2 6
    have s6 := FR.out.2 6
    have o7 := XO.out.2 7
    have u7 := FO.out.2 7
    have r7 := XR.out.2 7
    have s7 := FR.out.2 7
    have o8 := XO.out.2 8
    have u8 := FO.out.2 8
    have r8 := XR.out.2 8
    have s8 := FR.out.2 8
    go_wp2_with fail
    have XRF : BoxAt ((((((((((w4.setCell ⟨w.heap.size + 1 + 1, 8, none⟩ (.slice xa vs.length xc)).setCell ⟨w.heap.size + 1, 0, none⟩ (.int .i64 kd)).setCell ⟨w.heap.size + 1, 1, none⟩ (.string nm0)).setCell ⟨w.heap.size + 1, 2, none⟩ (.int .i64 n0)).setCell ⟨w.heap.size + 1, 3, none⟩ (.int .i64 gk)).setCell ⟨w.heap.size + 1, 4, none⟩ (.slice ga gn gc)).setCell ⟨w.heap.size + 1, 5, none⟩ (.int .i64 qk)).setCell ⟨w.heap.size + 1, 6, none⟩ (.slice qa qn qc)).setCell ⟨w.heap.size + 1, 7, none⟩ (.slice ra ts.length rc)).setCell ⟨w.heap.size + 1, 8, none⟩ (.slice xa vs.length xc)) (w.heap.size + 1) #[.int .i64 kd, .string nm0, .int .i64 n0, .int .i64 gk, .slice ga gn gc, .int .i64 qk, .slice qa qn qc, .slice ra ts.length rc, .slice xa vs.length xc] := by
      have := BoxAt.puts [.int .i64 kd, .string nm0, .int .i64 n0, .int .i64 gk, .slice ga gn gc, .int .i64 qk, .slice qa qn qc, .slice ra ts.length rc, .slice xa vs.length xc] [.int .i64 0, .string ⟨#[]⟩, .int .i64 0, .int .i64 0, .slice none 0 0, .int .i64 0, .slice none 0 0, .slice none 0 0, .slice none 0 0] [] _ (XR.out.stored (q := w.heap.size + 1 + 1) (j := 8) (u := .slice xa vs.length xc) (by omega)) rfl
      exact this
    have K4 : ∀ b, w.heap.size + 3 ≤ b → ((((((((((w4.setCell ⟨w.heap.size + 1 + 1, 8, none⟩ (.slice xa vs.length xc)).setCell ⟨w.heap.size + 1, 0, none⟩ (.int .i64 kd)).setCell ⟨w.heap.size + 1, 1, none⟩ (.string nm0)).setCell ⟨w.heap.size + 1, 2, none⟩ (.int .i64 n0)).setCell ⟨w.heap.size + 1, 3, none⟩ (.int .i64 gk)).setCell ⟨w.heap.size + 1, 4, none⟩ (.slice ga gn gc)).setCell ⟨w.heap.size + 1, 5, none⟩ (.int .i64 qk)).setCell ⟨w.heap.size + 1, 6, none⟩ (.slice qa qn qc)).setCell ⟨w.heap.size + 1, 7, none⟩ (.slice ra ts.length rc)).setCell ⟨w.heap.size + 1, 8, none⟩ (.slice xa vs.length xc)).heap[b]? = w4.heap[b]? := fun b hb => by
      rw [heap_setCell_other _ _ _ _ (by simp; omega), heap_setCell_other _ _ _ _ (by simp; omega), heap_setCell_other _ _ _ _ (by simp; omega), heap_setCell_other _ _ _ _ (by simp; omega), heap_setCell_other _ _ _ _ (by simp; omega), heap_setCell_other _ _ _ _ (by simp; omega), heap_setCell_other _ _ _ _ (by simp; omega), heap_setCell_other _ _ _ _ (by simp; omega), heap_setCell_other _ _ _ _ (by simp; omega), heap_setCell_other _ _ _ _ (by simp; omega)]
    have hzf : ((((((((((w4.setCell ⟨w.heap.size + 1 + 1, 8, none⟩ (.slice xa vs.length xc)).setCell ⟨w.heap.size + 1, 0, none⟩ (.int .i64 kd)).setCell ⟨w.heap.size + 1, 1, none⟩ (.string nm0)).setCell ⟨w.heap.size + 1, 2, none⟩ (.int .i64 n0)).setCell ⟨w.heap.size + 1, 3, none⟩ (.int .i64 gk)).setCell ⟨w.heap.size + 1, 4, none⟩ (.slice ga gn gc)).setCell ⟨w.heap.size + 1, 5, none⟩ (.int .i64 qk)).setCell ⟨w.heap.size + 1, 6, none⟩ (.slice qa qn qc)).setCell ⟨w.heap.size + 1, 7, none⟩ (.slice ra ts.length rc)).setCell ⟨w.heap.size + 1, 8, none⟩ (.slice xa vs.length xc)).heap.size = w4.heap.size := by simp
    have hbF : Below w.heap.size w ((((((((((w4.setCell ⟨w.heap.size + 1 + 1, 8, none⟩ (.slice xa vs.length xc)).setCell ⟨w.heap.size + 1, 0, none⟩ (.int .i64 kd)).setCell ⟨w.heap.size + 1, 1, none⟩ (.string nm0)).setCell ⟨w.heap.size + 1, 2, none⟩ (.int .i64 n0)).setCell ⟨w.heap.size + 1, 3, none⟩ (.int .i64 gk)).setCell ⟨w.heap.size + 1, 4, none⟩ (.slice ga gn gc)).setCell ⟨w.heap.size + 1, 5, none⟩ (.int .i64 qk)).setCell ⟨w.heap.size + 1, 6, none⟩ (.slice qa qn qc)).setCell ⟨w.heap.size + 1, 7, none⟩ (.slice ra ts.length rc)).setCell ⟨w.heap.size + 1, 8, none⟩ (.slice xa vs.length xc)) := ((((((((((B.out.setCell (by simp; omega) _).setCell (by simp) _).setCell (by simp) _).setCell (by simp) _).setCell (by simp) _).setCell (by simp) _).setCell (by simp) _).setCell (by simp) _).setCell (by simp) _).setCell (by simp) _)
    have g0 := XRF.2 0
    have g1 := XRF.2 1
    have g2 := XRF.2 2
    have g3 := XRF.2 3
    have g4 := XRF.2 4
    have g5 := XRF.2 5
    have g6 := XRF.2 6
    have g7 := XRF.2 7
    have g8 := XRF.2 8
    clear XRF
    have q1 := F1.out.2
    have q2 := F2.out.2
    have q3 := F3.out.2
    have HGF : TyOwn ((((((((((w4.setCell ⟨w.heap.size + 1 + 1, 8, none⟩ (.slice xa vs.length xc)).setCell ⟨w.heap.size + 1, 0, none⟩ (.int .i64 kd)).setCell ⟨w.heap.size + 1, 1, none⟩ (.string nm0)).setCell ⟨w.heap.size + 1, 2, none⟩ (.int .i64 n0)).setCell ⟨w.heap.size + 1, 3, none⟩ (.int .i64 gk)).setCell ⟨w.heap.size + 1, 4, none⟩ (.slice ga gn gc)).setCell ⟨w.heap.size + 1, 5, none⟩ (.int .i64 qk)).setCell ⟨w.heap.size + 1, 6, none⟩ (.slice qa qn qc)).setCell ⟨w.heap.size + 1, 7, none⟩ (.slice ra ts.length rc)).setCell ⟨w.heap.size + 1, 8, none⟩ (.slice xa vs.length xc)) d (.agg #[.int .i64 gk, .slice ga gn gc]) fr f1 := HG.out.kept (by rw [hzf]; omega) fun b hb => by
      have hq := q1 b hb
      rw [K4 b hq.1, L3.out b (by omega), K3.out b hq.1, L2.out b (by omega), K2.out b hq.1, L1.out b hq.2, K1.out b hq.1]
    have HQF : TyOwn ((((((((((w4.setCell ⟨w.heap.size + 1 + 1, 8, none⟩ (.slice xa vs.length xc)).setCell ⟨w.heap.size + 1, 0, none⟩ (.int .i64 kd)).setCell ⟨w.heap.size + 1, 1, none⟩ (.string nm0)).setCell ⟨w.heap.size + 1, 2, none⟩ (.int .i64 n0)).setCell ⟨w.heap.size + 1, 3, none⟩ (.int .i64 gk)).setCell ⟨w.heap.size + 1, 4, none⟩ (.slice ga gn gc)).setCell ⟨w.heap.size + 1, 5, none⟩ (.int .i64 qk)).setCell ⟨w.heap.size + 1, 6, none⟩ (.slice qa qn qc)).setCell ⟨w.heap.size + 1, 7, none⟩ (.slice ra ts.length rc)).setCell ⟨w.heap.size + 1, 8, none⟩ (.slice xa vs.length xc)) d (.agg #[.int .i64 qk, .slice qa qn qc]) ty f2 := HQ.out.kept (by rw [hzf]; omega) fun b hb => by
      have hq := q2 b hb
      rw [K4 b (by omega), L3.out b (by omega), K3.out b (by omega), L2.out b hq.2, K2.out b (by omega)]
    have HRF : CosOwn ((((((((((w4.setCell ⟨w.heap.size + 1 + 1, 8, none⟩ (.slice xa vs.length xc)).setCell ⟨w.heap.size + 1, 0, none⟩ (.int .i64 kd)).setCell ⟨w.heap.size + 1, 1, none⟩ (.string nm0)).setCell ⟨w.heap.size + 1, 2, none⟩ (.int .i64 n0)).setCell ⟨w.heap.size + 1, 3, none⟩ (.int .i64 gk)).setCell ⟨w.heap.size + 1, 4, none⟩ (.slice ga gn gc)).setCell ⟨w.heap.size + 1, 5, none⟩ (.int .i64 qk)).setCell ⟨w.heap.size + 1, 6, none⟩ (.slice qa qn qc)).setCell ⟨w.heap.size + 1, 7, none⟩ (.slice ra ts.length rc)).setCell ⟨w.heap.size + 1, 8, none⟩ (.slice xa vs.length xc)) d (.slice ra ts.length rc) ts f3 := CosOwn.kept HR.out (by rw [hzf]; omega) fun b hb => by
      have hq := q3 b hb
      rw [K4 b (by omega), L3.out b hq.2, K3.out b (by omega)]
    have HXF : CbsOwn ((((((((((w4.setCell ⟨w.heap.size + 1 + 1, 8, none⟩ (.slice xa vs.length xc)).setCell ⟨w.heap.size + 1, 0, none⟩ (.int .i64 kd)).setCell ⟨w.heap.size + 1, 1, none⟩ (.string nm0)).setCell ⟨w.heap.size + 1, 2, none⟩ (.int .i64 n0)).setCell ⟨w.heap.size + 1, 3, none⟩ (.int .i64 gk)).setCell ⟨w.heap.size + 1, 4, none⟩ (.slice ga gn gc)).setCell ⟨w.heap.size + 1, 5, none⟩ (.int .i64 qk)).setCell ⟨w.heap.size + 1, 6, none⟩ (.slice qa qn qc)).setCell ⟨w.heap.size + 1, 7, none⟩ (.slice ra ts.length rc)).setCell ⟨w.heap.size + 1, 8, none⟩ (.slice xa vs.length xc)) d (.slice xa vs.length xc) ns vs f4 := CbsOwn.kept HX.out (by rw [hzf]; omega) fun b hb => K4 b (by have := (F4.out.2 b hb).1; omega)
    have hfp : Fp w.heap.size ((((((((((w4.setCell ⟨w.heap.size + 1 + 1, 8, none⟩ (.slice xa vs.length xc)).setCell ⟨w.heap.size + 1, 0, none⟩ (.int .i64 kd)).setCell ⟨w.heap.size + 1, 1, none⟩ (.string nm0)).setCell ⟨w.heap.size + 1, 2, none⟩ (.int .i64 n0)).setCell ⟨w.heap.size + 1, 3, none⟩ (.int .i64 gk)).setCell ⟨w.heap.size + 1, 4, none⟩ (.slice ga gn gc)).setCell ⟨w.heap.size + 1, 5, none⟩ (.int .i64 qk)).setCell ⟨w.heap.size + 1, 6, none⟩ (.slice qa qn qc)).setCell ⟨w.heap.size + 1, 7, none⟩ (.slice ra ts.length rc)).setCell ⟨w.heap.size + 1, 8, none⟩ (.slice xa vs.length xc)).heap.size (f1 ++ (f2 ++ (f3 ++ f4))) := by
      rw [hzf]
      exact (F1.out.join (F2.out.join (F3.out.join F4.out (by omega) (by omega)) (by omega) (by omega)) (by omega) (by omega)).mono (by omega) (Nat.le_refl _)
    generalize ((((((((((w4.setCell ⟨w.heap.size + 1 + 1, 8, none⟩ (.slice xa vs.length xc)).setCell ⟨w.heap.size + 1, 0, none⟩ (.int .i64 kd)).setCell ⟨w.heap.size + 1, 1, none⟩ (.string nm0)).setCell ⟨w.heap.size + 1, 2, none⟩ (.int .i64 n0)).setCell ⟨w.heap.size + 1, 3, none⟩ (.int .i64 gk)).setCell ⟨w.heap.size + 1, 4, none⟩ (.slice ga gn gc)).setCell ⟨w.heap.size + 1, 5, none⟩ (.int .i64 qk)).setCell ⟨w.heap.size + 1, 6, none⟩ (.slice qa qn qc)).setCell ⟨w.heap.size + 1, 7, none⟩ (.slice ra ts.length rc)).setCell ⟨w.heap.size + 1, 8, none⟩ (.slice xa vs.length xc)) = WX at g0 g1 g2 g3 g4 g5 g6 g7 g8 HGF HQF HRF HXF hfp hbF ⊢
    refine bodyPost_ret (v := .agg #[.int .i64 kd, .string nm0, .int .i64 n0, .int .i64 gk, .slice ga gn gc, .int .i64 qk, .slice qa qn qc, .slice ra ts.length rc, .slice xa vs.length xc]) (by simp [results, Tryd.results7, go_sem, g0, g1, g2, g3, g4, g5, g6, g7, g8]) rfl ?_
    exact ⟨_, _, rfl, ⟨_, _, _, _, _, _, f1, f2, f3, f4, rfl, hk0, hk1, hn0, hn1, hnm, rfl, HGF, HQF, HRF, HXF⟩, hfp, hbF⟩

set_option maxRecDepth 100000 in
set_option maxHeartbeats 4000000 in
theorem toCb_step (d : Nat) (ih : ToCoSaid d) : ToCbSaid d := by
  intro v nm0 t w hn h
  have IH := Lib.hid ih; clear ih
  obtain ⟨k, nm, n, fk, fa, fn, fc, tk, ta, tn, tc, sa, sn, sc, ea, en, ec, rfl⟩ := cb_parts h
  obtain ⟨hnz, c0, c1, c2, c3, c4, c5, c6, c7, c8, hv, h⟩ := h
  have hv2 : .int .i64 k = c0 ∧ .string nm = c1 ∧ .int .i64 n = c2 ∧ .int .i64 fk = c3 ∧ .slice fa fn fc = c4 ∧ .int .i64 tk = c5 ∧ .slice ta tn tc = c6 ∧ .slice sa sn sc = c7 ∧ .slice ea en ec = c8 := by injection hv with hv; injection hv with hv; simpa using hv
  obtain ⟨rfl, rfl, rfl, rfl, rfl, rfl, rfl, rfl, rfl⟩ := hv2
  clear hv
  have B : Hid (Below w.heap.size w (((w.alloc (.cells #[.string nm0, .int .i64 k, .string nm, .int .i64 n, .int .i64 fk, .slice fa fn fc, .int .i64 tk, .slice ta tn tc, .slice sa sn sc, .slice ea en ec] 58)).alloc (.cells #[.string ⟨#[]⟩, .int .i64 0, .string ⟨#[]⟩, .int .i64 0, .int .i64 0, .slice none 0 0, .int .i64 0, .slice none 0 0, .slice none 0 0, .slice none 0 0] 65)).alloc (.cells #[.string nm0, .int .i64 0, .string ⟨#[]⟩, .int .i64 0, .int .i64 0, .slice none 0 0, .int .i64 0, .slice none 0 0, .slice none 0 0, .slice none 0 0] 65))) := (((Below.refl _ _).alloc (Nat.le_refl _) _).alloc (by simp) _).alloc (by simp; omega) _
  have HT := Lib.hid (h.below B.out)
  have XA : Hid (BoxAt (((w.alloc (.cells #[.string nm0, .int .i64 k, .string nm, .int .i64 n, .int .i64 fk, .slice fa fn fc, .int .i64 tk, .slice ta tn tc, .slice sa sn sc, .slice ea en ec] 58)).alloc (.cells #[.string ⟨#[]⟩, .int .i64 0, .string ⟨#[]⟩, .int .i64 0, .int .i64 0, .slice none 0 0, .int .i64 0, .slice none 0 0, .slice none 0 0, .slice none 0 0] 65)).alloc (.cells #[.string nm0, .int .i64 0, .string ⟨#[]⟩, .int .i64 0, .int .i64 0, .slice none 0 0, .int .i64 0, .slice none 0 0, .slice none 0 0, .slice none 0 0] 65)) w.heap.size #[.string nm0, .int .i64 k, .string nm, .int .i64 n, .int .i64 fk, .slice fa fn fc, .int .i64 tk, .slice ta tn tc, .slice sa sn sc, .slice ea en ec]) := ((BoxAt.new _ _ _).below (below_alloc _ _)).below (below_alloc _ _)
  have XR : Hid (BoxAt (((w.alloc (.cells #[.string nm0, .int .i64 k, .string nm, .int .i64 n, .int .i64 fk, .slice fa fn fc, .int .i64 tk, .slice ta tn tc, .slice sa sn sc, .slice ea en ec] 58)).alloc (.cells #[.string ⟨#[]⟩, .int .i64 0, .string ⟨#[]⟩, .int .i64 0, .int .i64 0, .slice none 0 0, .int .i64 0, .slice none 0 0, .slice none 0 0, .slice none 0 0] 65)).alloc (.cells #[.string nm0, .int .i64 0, .string ⟨#[]⟩, .int .i64 0, .int .i64 0, .slice none 0 0, .int .i64 0, .slice none 0 0, .slice none 0 0, .slice none 0 0] 65)) (w.heap.size + 1) #[.string ⟨#[]⟩, .int .i64 0, .string ⟨#[]⟩, .int .i64 0, .int .i64 0, .slice none 0 0, .int .i64 0, .slice none 0 0, .slice none 0 0, .slice none 0 0]) := (box_at (BoxAt.new _ _ _) (by simp)).below (below_alloc _ _)
  have XO : Hid (BoxAt (((w.alloc (.cells #[.string nm0, .int .i64 k, .string nm, .int .i64 n, .int .i64 fk, .slice fa fn fc, .int .i64 tk, .slice ta tn tc, .slice sa sn sc, .slice ea en ec] 58)).alloc (.cells #[.string ⟨#[]⟩, .int .i64 0, .string ⟨#[]⟩, .int .i64 0, .int .i64 0, .slice none 0 0, .int .i64 0, .slice none 0 0, .slice none 0 0, .slice none 0 0] 65)).alloc (.cells #[.string nm0, .int .i64 0, .string ⟨#[]⟩, .int .i64 0, .int .i64 0, .slice none 0 0, .int .i64 0, .slice none 0 0, .slice none 0 0, .slice none 0 0] 65)) (w.heap.size + 1 + 1) #[.string nm0, .int .i64 0, .string ⟨#[]⟩, .int .i64 0, .int .i64 0, .slice none 0 0, .int .i64 0, .slice none 0 0, .slice none 0 0, .slice none 0 0]) := box_at (BoxAt.new _ _ _) (by simp)
  have FR : Hid (FreeAt (((w.alloc (.cells #[.string nm0, .int .i64 k, .string nm, .int .i64 n, .int .i64 fk, .slice fa fn fc, .int .i64 tk, .slice ta tn tc, .slice sa sn sc, .slice ea en ec] 58)).alloc (.cells #[.string ⟨#[]⟩, .int .i64 0, .string ⟨#[]⟩, .int .i64 0, .int .i64 0, .slice none 0 0, .int .i64 0, .slice none 0 0, .slice none 0 0, .slice none 0 0] 65)).alloc (.cells #[.string nm0, .int .i64 0, .string ⟨#[]⟩, .int .i64 0, .int .i64 0, .slice none 0 0, .int .i64 0, .slice none 0 0, .slice none 0 0, .slice none 0 0] 65)) (w.heap.size + 1)) := (free_at (FreeAt.new _ _ _) (by simp)).below (below_alloc _ _)
  have FO : Hid (FreeAt (((w.alloc (.cells #[.string nm0, .int .i64 k, .string nm, .int .i64 n, .int .i64 fk, .slice fa fn fc, .int .i64 tk, .slice ta tn tc, .slice sa sn sc, .slice ea en ec] 58)).alloc (.cells #[.string ⟨#[]⟩, .int .i64 0, .string ⟨#[]⟩, .int .i64 0, .int .i64 0, .slice none 0 0, .int .i64 0, .slice none 0 0, .slice none 0 0, .slice none 0 0] 65)).alloc (.cells #[.string nm0, .int .i64 0, .string ⟨#[]⟩, .int .i64 0, .int .i64 0, .slice none 0 0, .int .i64 0, .slice none 0 0, .slice none 0 0, .slice none 0 0] 65)) (w.heap.size + 1 + 1)) := free_at (FreeAt.new _ _ _) (by simp)
  have hz0 : (((w.alloc (.cells #[.string nm0, .int .i64 k, .string nm, .int .i64 n, .int .i64 fk, .slice fa fn fc, .int .i64 tk, .slice ta tn tc, .slice sa sn sc, .slice ea en ec] 58)).alloc (.cells #[.string ⟨#[]⟩, .int .i64 0, .string ⟨#[]⟩, .int .i64 0, .int .i64 0, .slice none 0 0, .int .i64 0, .slice none 0 0, .slice none 0 0, .slice none 0 0] 65)).alloc (.cells #[.string nm0, .int .i64 0, .string ⟨#[]⟩, .int .i64 0, .int .i64 0, .slice none 0 0, .int .i64 0, .slice none 0 0, .slice none 0 0, .slice none 0 0] 65)).heap.size = w.heap.size + 3 := by simp
  clear h
  go_enter Tryd.func37, Tryd.ntmps37
  go_wp2_with fail
  refine (IH.out _ t _ hn HT.out).mono ?_
  rintro e w1 ⟨v1, f1, rfl, ht, hf, hb⟩
  have hz1 := hb.size
  rw [hz0] at hz1 hf
  obtain ⟨zk, znm, zn, zfk, zfa, zfn, zfc, ztk, zta, ztn, ztc, zsa, zsn, zsc, zea, zen, zec, rfl⟩ := co_parts ht.at_
  have HG := Lib.hid ht
  have F1 := Lib.hid hf
  replace B := Lib.hid (below_thru B.out (Nat.le_refl _) hb)
  replace XR := Lib.hid (XR.out.below hb)
  replace XO := Lib.hid (XO.out.below hb)
  replace FR := Lib.hid (FR.out.below hb)
  replace FO := Lib.hid (FO.out.below hb)
  clear hb ht hf HT XA
  have o0 := XO.out.2 0
  have u0 := FO.out.2 0
  have r0 := XR.out.2 0
  have s0 := FR.out.2 0
  have o1 := XO.out.2 1
  have u1 := FO.out.2 1
  have r1 := XR.out.2 1
  have s1 := FR.out.2 1
  have o2 := XO.out.2 2
  have u2 := FO.out.2 2
  have r2 := XR.out.2 2
  have s2 := FR.out.2 2
  have o3 := XO.out.2 3
  have u3 := FO.out.2 3
  have r3 := XR.out.2 3
  have s3 := FR.out.2 3
  have o4 := XO.out.2 4
  have u4 := FO.out.2 4
  have r4 := XR.out.2 4
  have s4 := FR.out.2 4
  have o5 := XO.out.2 5
  have u5 := FO.out.2 5
  have r5 := XR.out.2 5
  have s5 := FR.out.2 5
  have o6 := XO.out.2 6
  have u6 := FO.out.2 6
  have r6 := XR.out.2 6
  have s6 := FR.out.2 6
  have o7 := XO.out.2 7
  have u7 := FO.out.2 7
  have r7 := XR.out.2 7
  have s7 := FR.out.2 7
  have o8 := XO.out.2 8
  have u8 := FO.out.2 8
  have r8 := XR.out.2 8
  have s8 := FR.out.2 8
  have o9 := XO.out.2 9
  have u9 := FO.out.2 9
  have r9 := XR.out.2 9
  have s9 := FR.out.2 9
  go_wp2_with fail
  have XRF : BoxAt (((((((((((((((((((w1.setCell ⟨w.heap.size + 1 + 1, 1, none⟩ (.int .i64 zk)).setCell ⟨w.heap.size + 1 + 1, 2, none⟩ (.string znm)).setCell ⟨w.heap.size + 1 + 1, 3, none⟩ (.int .i64 zn)).setCell ⟨w.heap.size + 1 + 1, 4, none⟩ (.int .i64 zfk)).setCell ⟨w.heap.size + 1 + 1, 5, none⟩ (.slice zfa zfn zfc)).setCell ⟨w.heap.size + 1 + 1, 6, none⟩ (.int .i64 ztk)).setCell ⟨w.heap.size + 1 + 1, 7, none⟩ (.slice zta ztn ztc)).setCell ⟨w.heap.size + 1 + 1, 8, none⟩ (.slice zsa zsn zsc)).setCell ⟨w.heap.size + 1 + 1, 9, none⟩ (.slice zea zen zec)).setCell ⟨w.heap.size + 1, 0, none⟩ (.string nm0)).setCell ⟨w.heap.size + 1, 1, none⟩ (.int .i64 zk)).setCell ⟨w.heap.size + 1, 2, none⟩ (.string znm)).setCell ⟨w.heap.size + 1, 3, none⟩ (.int .i64 zn)).setCell ⟨w.heap.size + 1, 4, none⟩ (.int .i64 zfk)).setCell ⟨w.heap.size + 1, 5, none⟩ (.slice zfa zfn zfc)).setCell ⟨w.heap.size + 1, 6, none⟩ (.int .i64 ztk)).setCell ⟨w.heap.size + 1, 7, none⟩ (.slice zta ztn ztc)).setCell ⟨w.heap.size + 1, 8, none⟩ (.slice zsa zsn zsc)).setCell ⟨w.heap.size + 1, 9, none⟩ (.slice zea zen zec)) (w.heap.size + 1) #[.string nm0, .int .i64 zk, .string znm, .int .i64 zn, .int .i64 zfk, .slice zfa zfn zfc, .int .i64 ztk, .slice zta ztn ztc, .slice zsa zsn zsc, .slice zea zen zec] := by
    have := BoxAt.puts [.string nm0, .int .i64 zk, .string znm, .int .i64 zn, .int .i64 zfk, .slice zfa zfn zfc, .int .i64 ztk, .slice zta ztn ztc, .slice zsa zsn zsc, .slice zea zen zec] [.string ⟨#[]⟩, .int .i64 0, .string ⟨#[]⟩, .int .i64 0, .int .i64 0, .slice none 0 0, .int .i64 0, .slice none 0 0, .slice none 0 0, .slice none 0 0] [] _ (((((((((XR.out.stored (q := w.heap.size + 1 + 1) (j := 1) (u := .int .i64 zk) (by omega)).stored (q := w.heap.size + 1 + 1) (j := 2) (u := .string znm) (by omega)).stored (q := w.heap.size + 1 + 1) (j := 3) (u := .int .i64 zn) (by omega)).stored (q := w.heap.size + 1 + 1) (j := 4) (u := .int .i64 zfk) (by omega)).stored (q := w.heap.size + 1 + 1) (j := 5) (u := .slice zfa zfn zfc) (by omega)).stored (q := w.heap.size + 1 + 1) (j := 6) (u := .int .i64 ztk) (by omega)).stored (q := w.heap.size + 1 + 1) (j := 7) (u := .slice zta ztn ztc) (by omega)).stored (q := w.heap.size + 1 + 1) (j := 8) (u := .slice zsa zsn zsc) (by omega)).stored (q := w.heap.size + 1 + 1) (j := 9) (u := .slice zea zen zec) (by omega)) rfl
    exact this
  have K1 : ∀ b, w.heap.size + 3 ≤ b → (((((((((((((((((((w1.setCell ⟨w.heap.size + 1 + 1, 1, none⟩ (.int .i64 zk)).setCell ⟨w.heap.size + 1 + 1, 2, none⟩ (.string znm)).setCell ⟨w.heap.size + 1 + 1, 3, none⟩ (.int .i64 zn)).setCell ⟨w.heap.size + 1 + 1, 4, none⟩ (.int .i64 zfk)).setCell ⟨w.heap.size + 1 + 1, 5, none⟩ (.slice zfa zfn zfc)).setCell ⟨w.heap.size + 1 + 1, 6, none⟩ (.int .i64 ztk)).setCell ⟨w.heap.size + 1 + 1, 7, none⟩ (.slice zta ztn ztc)).setCell ⟨w.heap.size + 1 + 1, 8, none⟩ (.slice zsa zsn zsc)).setCell ⟨w.heap.size + 1 + 1, 9, none⟩ (.slice zea zen zec)).setCell ⟨w.heap.size + 1, 0, none⟩ (.string nm0)).setCell ⟨w.heap.size + 1, 1, none⟩ (.int .i64 zk)).setCell ⟨w.heap.size + 1, 2, none⟩ (.string znm)).setCell ⟨w.heap.size + 1, 3, none⟩ (.int .i64 zn)).setCell ⟨w.heap.size + 1, 4, none⟩ (.int .i64 zfk)).setCell ⟨w.heap.size + 1, 5, none⟩ (.slice zfa zfn zfc)).setCell ⟨w.heap.size + 1, 6, none⟩ (.int .i64 ztk)).setCell ⟨w.heap.size + 1, 7, none⟩ (.slice zta ztn ztc)).setCell ⟨w.heap.size + 1, 8, none⟩ (.slice zsa zsn zsc)).setCell ⟨w.heap.size + 1, 9, none⟩ (.slice zea zen zec)).heap[b]? = w1.heap[b]? := fun b hb => by
    rw [heap_setCell_other _ _ _ _ (by simp; omega), heap_setCell_other _ _ _ _ (by simp; omega), heap_setCell_other _ _ _ _ (by simp; omega), heap_setCell_other _ _ _ _ (by simp; omega), heap_setCell_other _ _ _ _ (by simp; omega), heap_setCell_other _ _ _ _ (by simp; omega), heap_setCell_other _ _ _ _ (by simp; omega), heap_setCell_other _ _ _ _ (by simp; omega), heap_setCell_other _ _ _ _ (by simp; omega), heap_setCell_other _ _ _ _ (by simp; omega), heap_setCell_other _ _ _ _ (by simp; omega), heap_setCell_other _ _ _ _ (by simp; omega), heap_setCell_other _ _ _ _ (by simp; omega), heap_setCell_other _ _ _ _ (by simp; omega), heap_setCell_other _ _ _ _ (by simp; omega), heap_setCell_other _ _ _ _ (by simp; omega), heap_setCell_other _ _ _ _ (by simp; omega), heap_setCell_other _ _ _ _ (by simp; omega), heap_setCell_other _ _ _ _ (by simp; omega)]
  have hzf : (((((((((((((((((((w1.setCell ⟨w.heap.size + 1 + 1, 1, none⟩ (.int .i64 zk)).setCell ⟨w.heap.size + 1 + 1, 2, none⟩ (.string znm)).setCell ⟨w.heap.size + 1 + 1, 3, none⟩ (.int .i64 zn)).setCell ⟨w.heap.size + 1 + 1, 4, none⟩ (.int .i64 zfk)).setCell ⟨w.heap.size + 1 + 1, 5, none⟩ (.slice zfa zfn zfc)).setCell ⟨w.heap.size + 1 + 1, 6, none⟩ (.int .i64 ztk)).setCell ⟨w.heap.size + 1 + 1, 7, none⟩ (.slice zta ztn ztc)).setCell ⟨w.heap.size + 1 + 1, 8, none⟩ (.slice zsa zsn zsc)).setCell ⟨w.heap.size + 1 + 1, 9, none⟩ (.slice zea zen zec)).setCell ⟨w.heap.size + 1, 0, none⟩ (.string nm0)).setCell ⟨w.heap.size + 1, 1, none⟩ (.int .i64 zk)).setCell ⟨w.heap.size + 1, 2, none⟩ (.string znm)).setCell ⟨w.heap.size + 1, 3, none⟩ (.int .i64 zn)).setCell ⟨w.heap.size + 1, 4, none⟩ (.int .i64 zfk)).setCell ⟨w.heap.size + 1, 5, none⟩ (.slice zfa zfn zfc)).setCell ⟨w.heap.size + 1, 6, none⟩ (.int .i64 ztk)).setCell ⟨w.heap.size + 1, 7, none⟩ (.slice zta ztn ztc)).setCell ⟨w.heap.size + 1, 8, none⟩ (.slice zsa zsn zsc)).setCell ⟨w.heap.size + 1, 9, none⟩ (.slice zea zen zec)).heap.size = w1.heap.size := by simp
  have hbF : Below w.heap.size w (((((((((((((((((((w1.setCell ⟨w.heap.size + 1 + 1, 1, none⟩ (.int .i64 zk)).setCell ⟨w.heap.size + 1 + 1, 2, none⟩ (.string znm)).setCell ⟨w.heap.size + 1 + 1, 3, none⟩ (.int .i64 zn)).setCell ⟨w.heap.size + 1 + 1, 4, none⟩ (.int .i64 zfk)).setCell ⟨w.heap.size + 1 + 1, 5, none⟩ (.slice zfa zfn zfc)).setCell ⟨w.heap.size + 1 + 1, 6, none⟩ (.int .i64 ztk)).setCell ⟨w.heap.size + 1 + 1, 7, none⟩ (.slice zta ztn ztc)).setCell ⟨w.heap.size + 1 + 1, 8, none⟩ (.slice zsa zsn zsc)).setCell ⟨w.heap.size + 1 + 1, 9, none⟩ (.slice zea zen zec)).setCell ⟨w.heap.size + 1, 0, none⟩ (.string nm0)).setCell ⟨w.heap.size + 1, 1, none⟩ (.int .i64 zk)).setCell ⟨w.heap.size + 1, 2, none⟩ (.string znm)).setCell ⟨w.heap.size + 1, 3, none⟩ (.int .i64 zn)).setCell ⟨w.heap.size + 1, 4, none⟩ (.int .i64 zfk)).setCell ⟨w.heap.size + 1, 5, none⟩ (.slice zfa zfn zfc)).setCell ⟨w.heap.size + 1, 6, none⟩ (.int .i64 ztk)).setCell ⟨w.heap.size + 1, 7, none⟩ (.slice zta ztn ztc)).setCell ⟨w.heap.size + 1, 8, none⟩ (.slice zsa zsn zsc)).setCell ⟨w.heap.size + 1, 9, none⟩ (.slice zea zen zec)) := (((((((((((((((((((B.out.setCell (by simp; omega) _).setCell (by simp; omega) _).setCell (by simp; omega) _).setCell (by simp; omega) _).setCell (by simp; omega) _).setCell (by simp; omega) _).setCell (by simp; omega) _).setCell (by simp; omega) _).setCell (by simp; omega) _).setCell (by simp) _).setCell (by simp) _).setCell (by simp) _).setCell (by simp) _).setCell (by simp) _).setCell (by simp) _).setCell (by simp) _).setCell (by simp) _).setCell (by simp) _).setCell (by simp) _)
  have g0 := XRF.2 0
  have g1 := XRF.2 1
  have g2 := XRF.2 2
  have g3 := XRF.2 3
  have g4 := XRF.2 4
  have g5 := XRF.2 5
  have g6 := XRF.2 6
  have g7 := XRF.2 7
  have g8 := XRF.2 8
  have g9 := XRF.2 9
  clear XRF
  have HGF : CoOwn (((((((((((((((((((w1.setCell ⟨w.heap.size + 1 + 1, 1, none⟩ (.int .i64 zk)).setCell ⟨w.heap.size + 1 + 1, 2, none⟩ (.string znm)).setCell ⟨w.heap.size + 1 + 1, 3, none⟩ (.int .i64 zn)).setCell ⟨w.heap.size + 1 + 1, 4, none⟩ (.int .i64 zfk)).setCell ⟨w.heap.size + 1 + 1, 5, none⟩ (.slice zfa zfn zfc)).setCell ⟨w.heap.size + 1 + 1, 6, none⟩ (.int .i64 ztk)).setCell ⟨w.heap.size + 1 + 1, 7, none⟩ (.slice zta ztn ztc)).setCell ⟨w.heap.size + 1 + 1, 8, none⟩ (.slice zsa zsn zsc)).setCell ⟨w.heap.size + 1 + 1, 9, none⟩ (.slice zea zen zec)).setCell ⟨w.heap.size + 1, 0, none⟩ (.string nm0)).setCell ⟨w.heap.size + 1, 1, none⟩ (.int .i64 zk)).setCell ⟨w.heap.size + 1, 2, none⟩ (.string znm)).setCell ⟨w.heap.size + 1, 3, none⟩ (.int .i64 zn)).setCell ⟨w.heap.size + 1, 4, none⟩ (.int .i64 zfk)).setCell ⟨w.heap.size + 1, 5, none⟩ (.slice zfa zfn zfc)).setCell ⟨w.heap.size + 1, 6, none⟩ (.int .i64 ztk)).setCell ⟨w.heap.size + 1, 7, none⟩ (.slice zta ztn ztc)).setCell ⟨w.heap.size + 1, 8, none⟩ (.slice zsa zsn zsc)).setCell ⟨w.heap.size + 1, 9, none⟩ (.slice zea zen zec)) d (.agg #[.int .i64 zk, .string znm, .int .i64 zn, .int .i64 zfk, .slice zfa zfn zfc, .int .i64 ztk, .slice zta ztn ztc, .slice zsa zsn zsc, .slice zea zen zec]) t f1 := HG.out.kept (by rw [hzf]; omega) fun b hb => K1 b (F1.out.2 b hb).1
  have hfp : Fp w.heap.size (((((((((((((((((((w1.setCell ⟨w.heap.size + 1 + 1, 1, none⟩ (.int .i64 zk)).setCell ⟨w.heap.size + 1 + 1, 2, none⟩ (.string znm)).setCell ⟨w.heap.size + 1 + 1, 3, none⟩ (.int .i64 zn)).setCell ⟨w.heap.size + 1 + 1, 4, none⟩ (.int .i64 zfk)).setCell ⟨w.heap.size + 1 + 1, 5, none⟩ (.slice zfa zfn zfc)).setCell ⟨w.heap.size + 1 + 1, 6, none⟩ (.int .i64 ztk)).setCell ⟨w.heap.size + 1 + 1, 7, none⟩ (.slice zta ztn ztc)).setCell ⟨w.heap.size + 1 + 1, 8, none⟩ (.slice zsa zsn zsc)).setCell ⟨w.heap.size + 1 + 1, 9, none⟩ (.slice zea zen zec)).setCell ⟨w.heap.size + 1, 0, none⟩ (.string nm0)).setCell ⟨w.heap.size + 1, 1, none⟩ (.int .i64 zk)).setCell ⟨w.heap.size + 1, 2, none⟩ (.string znm)).setCell ⟨w.heap.size + 1, 3, none⟩ (.int .i64 zn)).setCell ⟨w.heap.size + 1, 4, none⟩ (.int .i64 zfk)).setCell ⟨w.heap.size + 1, 5, none⟩ (.slice zfa zfn zfc)).setCell ⟨w.heap.size + 1, 6, none⟩ (.int .i64 ztk)).setCell ⟨w.heap.size + 1, 7, none⟩ (.slice zta ztn ztc)).setCell ⟨w.heap.size + 1, 8, none⟩ (.slice zsa zsn zsc)).setCell ⟨w.heap.size + 1, 9, none⟩ (.slice zea zen zec)).heap.size f1 := by
    rw [hzf]
    exact F1.out.mono (by omega) (Nat.le_refl _)
  generalize (((((((((((((((((((w1.setCell ⟨w.heap.size + 1 + 1, 1, none⟩ (.int .i64 zk)).setCell ⟨w.heap.size + 1 + 1, 2, none⟩ (.string znm)).setCell ⟨w.heap.size + 1 + 1, 3, none⟩ (.int .i64 zn)).setCell ⟨w.heap.size + 1 + 1, 4, none⟩ (.int .i64 zfk)).setCell ⟨w.heap.size + 1 + 1, 5, none⟩ (.slice zfa zfn zfc)).setCell ⟨w.heap.size + 1 + 1, 6, none⟩ (.int .i64 ztk)).setCell ⟨w.heap.size + 1 + 1, 7, none⟩ (.slice zta ztn ztc)).setCell ⟨w.heap.size + 1 + 1, 8, none⟩ (.slice zsa zsn zsc)).setCell ⟨w.heap.size + 1 + 1, 9, none⟩ (.slice zea zen zec)).setCell ⟨w.heap.size + 1, 0, none⟩ (.string nm0)).setCell ⟨w.heap.size + 1, 1, none⟩ (.int .i64 zk)).setCell ⟨w.heap.size + 1, 2, none⟩ (.string znm)).setCell ⟨w.heap.size + 1, 3, none⟩ (.int .i64 zn)).setCell ⟨w.heap.size + 1, 4, none⟩ (.int .i64 zfk)).setCell ⟨w.heap.size + 1, 5, none⟩ (.slice zfa zfn zfc)).setCell ⟨w.heap.size + 1, 6, none⟩ (.int .i64 ztk)).setCell ⟨w.heap.size + 1, 7, none⟩ (.slice zta ztn ztc)).setCell ⟨w.heap.size + 1, 8, none⟩ (.slice zsa zsn zsc)).setCell ⟨w.heap.size + 1, 9, none⟩ (.slice zea zen zec)) = WX at g0 g1 g2 g3 g4 g5 g6 g7 g8 g9 HGF hfp hbF ⊢
  refine bodyPost_ret (v := .agg #[.string nm0, .int .i64 zk, .string znm, .int .i64 zn, .int .i64 zfk, .slice zfa zfn zfc, .int .i64 ztk, .slice zta ztn ztc, .slice zsa zsn zsc, .slice zea zen zec]) (by simp [results, Tryd.results37, go_sem, g0, g1, g2, g3, g4, g5, g6, g7, g8, g9]) rfl ?_
  exact ⟨_, _, rfl, ⟨hnz, _, _, _, _, _, _, _, _, _, rfl, HGF⟩, hfp, hbF⟩

theorem toCo_all (d : Nat) : ToCoSaid d ∧ ToCosSaid d ∧ ToCbsSaid d := by
  induction d with
  | zero =>
    have h0 : ToCoSaid 0 := fun v t w _ h => h.elim
    exact ⟨h0, toCos_step 0 h0, toCbs_step 0 (toCb_step 0 h0)⟩
  | succ d ih =>
    have h1 := toCo_step d ih.2.1 ih.2.2
    exact ⟨h1, toCos_step (d + 1) h1, toCbs_step (d + 1) (toCb_step (d + 1) h1)⟩
end Go.Proofs.YtnggkcgifjfnfaaDoor
/-
  Proved: laws.eqType and eqTypeS answer true for two readings of the same tree, and change no memory that was there.
-/
namespace Go.Proofs.YtnggkcgifjfnfaaDoor
open Go.RowKit

def EqTrueEnd (w : World) (e : Ending) (w' : World) : Prop := e = .returned (.bool true) ∧ Below w.heap.size w w'
def EqTySaid (d : Nat) : Prop := ∀ (v1 v2 : Value) (t : Ty) (w : World), TyAt w d v1 t → TyAt w d v2 t →
  Calls Tryd.prog 22 #[v1, v2] w (EqTrueEnd w)
def EqTysSaid (d : Nat) : Prop := ∀ (v1 v2 : Value) (ts : List Ty) (w : World), TysAt w d v1 ts → TysAt w d v2 ts →
  Calls Tryd.prog 45 #[v1, v2] w (EqTrueEnd w)

set_option maxRecDepth 100000 in
set_option maxHeartbeats 1000000 in
theorem eqTys_step (d : Nat) (ih : EqTySaid d) : EqTysSaid d := by
  intro v1 v2 ts w h1 h2
  have IH := Lib.hid ih; clear ih
  obtain ⟨a1, cap1, rfl, hcap1, hm1, hat1⟩ := h1
  obtain ⟨a2, cap2, rfl, hcap2, hm2, hat2⟩ := h2
  have HA1 := Lib.hid hat1; clear hat1
  have HA2 := Lib.hid hat2; clear hat2
  go_enter Tryd.func45, Tryd.ntmps45
  go_wp2_with fail
  go_loopw [5] (fun i wr => ∃ k : Nat, k ≤ ts.length ∧ i = .int .i64 k ∧ Below w.heap.size w wr) (fun i _ => ts.length - (intOf i).toNat)
  case atStart => exact ⟨0, by omega, rfl, Below.refl _ _⟩
  case round =>
    obtain ⟨k, hk, rfl, hb⟩ := hrel
    have HB := Lib.hid hb; clear hb
    by_cases hlt : k < ts.length
    · obtain ⟨b1, off1, x0, x1, rfl, hbl1, hc10, hc11, ht1⟩ := HA1.out k hlt
      obtain ⟨b2, off2, y0, y1, rfl, hbl2, hc20, hc21, ht2⟩ := HA2.out k hlt
      have c10 : wr.cell? ⟨b1, off1 + k * 2, none⟩ = some x0 := by rw [HB.out.cell (p := ⟨b1, off1 + k * 2, none⟩) hbl1]; exact hc10
      have c11 : wr.cell? ⟨b1, off1 + k * 2 + 1, none⟩ = some x1 := by rw [HB.out.cell (p := ⟨b1, off1 + k * 2 + 1, none⟩) hbl1]; exact hc11
      have c20 : wr.cell? ⟨b2, off2 + k * 2, none⟩ = some y0 := by rw [HB.out.cell (p := ⟨b2, off2 + k * 2, none⟩) hbl2]; exact hc20
      have c21 : wr.cell? ⟨b2, off2 + k * 2 + 1, none⟩ = some y1 := by rw [HB.out.cell (p := ⟨b2, off2 + k * 2 + 1, none⟩) hbl2]; exact hc21
      have HT1 := Lib.hid (ht1.below HB.out.drew)
      have HT2 := Lib.hid (ht2.below HB.out.drew)
      clear ht1 ht2 hc10 hc11 hc20 hc21
      go_wp2_with fail
      go_still_tail 8, (by kernel_rfl)
      change wpList _ _ _ _ _ wr.drew
      go_wp2_with fail
      refine (IH.out _ _ _ wr.drew HT1.out HT2.out).mono ?_
      rintro e w' ⟨rfl, hb1⟩
      have HB2 := Lib.hid (HB.out.drew.trans (hb1.mono HB.out.drew.size)); clear hb1
      go_wp2_with fail
      exact ⟨⟨k + 1, by omega, by go_num, HB2.out⟩, by simp [intOf]; omega⟩
    · go_wp2_with fail
      go_ret
      exact ⟨rfl, HB.out⟩

set_option maxRecDepth 100000 in
set_option maxHeartbeats 1000000 in
theorem eqTy_step (d : Nat) (ih : EqTysSaid d) : EqTySaid (d + 1) := by
  intro v1 v2 t w h1 h2
  have IH := Lib.hid ih; clear ih
  cases t with
  | node kd ts =>
    obtain ⟨s1, rfl, hk0, hk1, h1⟩ := h1
    obtain ⟨s2, rfl, _, _, h2⟩ := h2
    have e2 : Below w.heap.size w ((w.alloc (.cells #[.int .i64 kd, s1] 33)).alloc (.cells #[.int .i64 kd, s2] 33)) :=
      ((Below.refl _ _).alloc (Nat.le_refl _) _).alloc (by simp) _
    have HT1 : Hid (TysAt ((w.alloc (.cells #[.int .i64 kd, s1] 33)).alloc (.cells #[.int .i64 kd, s2] 33)) d s1 ts) := TysAt.below h1 e2
    have HT2 : Hid (TysAt ((w.alloc (.cells #[.int .i64 kd, s1] 33)).alloc (.cells #[.int .i64 kd, s2] 33)) d s2 ts) := TysAt.below h2 e2
    have HE := Lib.hid e2; clear e2
    obtain ⟨a1, cap1, rfl, _⟩ := h1
    obtain ⟨a2, cap2, rfl, _⟩ := h2
    go_enter Tryd.func22, Tryd.ntmps22
    go_wp2_with fail
    refine (IH.out _ _ _ _ HT1.out HT2.out).mono ?_
    rintro e w' ⟨rfl, hb1⟩
    have HB2 := Lib.hid (HE.out.trans (hb1.mono HE.out.size)); clear hb1
    go_wp2_with fail
    go_ret
    exact ⟨rfl, HB2.out⟩
theorem eqTy_all : ∀ d, EqTySaid d
  | 0 => fun _ _ _ _ h => h.elim
  | d + 1 => eqTy_step d (eqTys_step d (eqTy_all d))
end Go.Proofs.YtnggkcgifjfnfaaDoor
/-
  Proved: laws.eqCore, eqCoreS, eqCoreBind and eqCoreBindS answer true for two readings of the same core expression, and change no memory that was there.
-/
namespace Go.Proofs.YtnggkcgifjfnfaaDoor
open Go.RowKit

def EqCoSaid (d : Nat) : Prop := ∀ (v1 v2 : Value) (t : Co) (w : World), CoAt w d v1 t → CoAt w d v2 t →
  Calls Tryd.prog 9 #[v1, v2] w (EqTrueEnd w)
def EqCosSaid (d : Nat) : Prop := ∀ (v1 v2 : Value) (ts : List Co) (w : World), CosAt w d v1 ts → CosAt w d v2 ts →
  Calls Tryd.prog 23 #[v1, v2] w (EqTrueEnd w)
def EqCbSaid (d : Nat) : Prop := ∀ (v1 v2 : Value) (nm : ByteArray) (t : Co) (w : World), CbAt w d v1 nm t → CbAt w d v2 nm t →
  Calls Tryd.prog 46 #[v1, v2] w (EqTrueEnd w)
def EqCbsSaid (d : Nat) : Prop := ∀ (v1 v2 : Value) (ns : List ByteArray) (ts : List Co) (w : World), CbsAt w d v1 ns ts → CbsAt w d v2 ns ts →
  Calls Tryd.prog 24 #[v1, v2] w (EqTrueEnd w)

set_option maxRecDepth 100000 in
set_option maxHeartbeats 2000000 in
theorem eqCos_step (d : Nat) (ih : EqCoSaid d) : EqCosSaid d := by
  intro v1 v2 ts w h1 h2
  have IH := Lib.hid ih; clear ih
  obtain ⟨a1, cap1, rfl, hcap1, hm1, hat1⟩ := h1
  obtain ⟨a2, cap2, rfl, hcap2, hm2, hat2⟩ := h2
  have HA1 := Lib.hid hat1; clear hat1
  have HA2 := Lib.hid hat2; clear hat2
  go_enter Tryd.func23, Tryd.ntmps23
  go_wp2_with fail
  go_loopw [5] (fun i wr => ∃ k : Nat, k ≤ ts.length ∧ i = .int .i64 k ∧ Below w.heap.size w wr) (fun i _ => ts.length - (intOf i).toNat)
  case atStart => exact ⟨0, by omega, rfl, Below.refl _ _⟩
  case round =>
    obtain ⟨k, hk, rfl, hb⟩ := hrel
    have HB := Lib.hid hb; clear hb
    by_cases hlt : k < ts.length
    · obtain ⟨b1, off1, x0, x1, x2, x3, x4, x5, x6, x7, x8, rfl, hbl1, hc10, hc11, hc12, hc13, hc14, hc15, hc16, hc17, hc18, ht1⟩ := HA1.out k hlt
      obtain ⟨b2, off2, y0, y1, y2, y3, y4, y5, y6, y7, y8, rfl, hbl2, hc20, hc21, hc22, hc23, hc24, hc25, hc26, hc27, hc28, ht2⟩ := HA2.out k hlt
      have c10 : wr.cell? ⟨b1, off1 + k * 9, none⟩ = some x0 := by rw [HB.out.cell (p := ⟨b1, off1 + k * 9, none⟩) hbl1]; exact hc10
      have c11 : wr.cell? ⟨b1, off1 + k * 9 + 1, none⟩ = some x1 := by rw [HB.out.cell (p := ⟨b1, off1 + k * 9 + 1, none⟩) hbl1]; exact hc11
      have c12 : wr.cell? ⟨b1, off1 + k * 9 + 2, none⟩ = some x2 := by rw [HB.out.cell (p := ⟨b1, off1 + k * 9 + 2, none⟩) hbl1]; exact hc12
      have c13 : wr.cell? ⟨b1, off1 + k * 9 + 3, none⟩ = some x3 := by rw [HB.out.cell (p := ⟨b1, off1 + k * 9 + 3, none⟩) hbl1]; exact hc13
      have c14 : wr.cell? ⟨b1, off1 + k * 9 + 4, none⟩ = some x4 := by rw [HB.out.cell (p := ⟨b1, off1 + k * 9 + 4, none⟩) hbl1]; exact hc14
      have c15 : wr.cell? ⟨b1, off1 + k * 9 + 5, none⟩ = some x5 := by rw [HB.out.cell (p := ⟨b1, off1 + k * 9 + 5, none⟩) hbl1]; exact hc15
      have c16 : wr.cell? ⟨b1, off1 + k * 9 + 6, none⟩ = some x6 := by rw [HB.out.cell (p := ⟨b1, off1 + k * 9 + 6, none⟩) hbl1]; exact hc16
      have c17 : wr.cell? ⟨b1, off1 + k * 9 + 7, none⟩ = some x7 := by rw [HB.out.cell (p := ⟨b1, off1 + k * 9 + 7, none⟩) hbl1]; exact hc17
      have c18 : wr.cell? ⟨b1, off1 + k * 9 + 8, none⟩ = some x8 := by rw [HB.out.cell (p := ⟨b1, off1 + k * 9 + 8, none⟩) hbl1]; exact hc18
      have c20 : wr.cell? ⟨b2, off2 + k * 9, none⟩ = some y0 := by rw [HB.out.cell (p := ⟨b2, off2 + k * 9, none⟩) hbl2]; exact hc20
      have c21 : wr.cell? ⟨b2, off2 + k * 9 + 1, none⟩ = some y1 := by rw [HB.out.cell (p := ⟨b2, off2 + k * 9 + 1, none⟩) hbl2]; exact hc21
      have c22 : wr.cell? ⟨b2, off2 + k * 9 + 2, none⟩ = some y2 := by rw [HB.out.cell (p := ⟨b2, off2 + k * 9 + 2, none⟩) hbl2]; exact hc22
      have c23 : wr.cell? ⟨b2, off2 + k * 9 + 3, none⟩ = some y3 := by rw [HB.out.cell (p := ⟨b2, off2 + k * 9 + 3, none⟩) hbl2]; exact hc23
      have c24 : wr.cell? ⟨b2, off2 + k * 9 + 4, none⟩ = some y4 := by rw [HB.out.cell (p := ⟨b2, off2 + k * 9 + 4, none⟩) hbl2]; exact hc24
      have c25 : wr.cell? ⟨b2, off2 + k * 9 + 5, none⟩ = some y5 := by rw [HB.out.cell (p := ⟨b2, off2 + k * 9 + 5, none⟩) hbl2]; exact hc25
      have c26 : wr.cell? ⟨b2, off2 + k * 9 + 6, none⟩ = some y6 := by rw [HB.out.cell (p := ⟨b2, off2 + k * 9 + 6, none⟩) hbl2]; exact hc26
      have c27 : wr.cell? ⟨b2, off2 + k * 9 + 7, none⟩ = some y7 := by rw [HB.out.cell (p := ⟨b2, off2 + k * 9 + 7, none⟩) hbl2]; exact hc27
      have c28 : wr.cell? ⟨b2, off2 + k * 9 + 8, none⟩ = some y8 := by rw [HB.out.cell (p := ⟨b2, off2 + k * 9 + 8, none⟩) hbl2]; exact hc28
      have HT1 := Lib.hid (ht1.below HB.out.drew)
      have HT2 := Lib.hid (ht2.below HB.out.drew)
      clear ht1 ht2 hc10 hc11 hc12 hc13 hc14 hc15 hc16 hc17 hc18 hc20 hc21 hc22 hc23 hc24 hc25 hc26 hc27 hc28
      go_wp2_with fail
      go_still_tail 8, (by kernel_rfl)
      change wpList _ _ _ _ _ wr.drew
      go_wp2_with fail
      refine (IH.out _ _ _ wr.drew HT1.out HT2.out).mono ?_
      rintro e w' ⟨rfl, hb1⟩
      have HB2 := Lib.hid (HB.out.drew.trans (hb1.mono HB.out.drew.size)); clear hb1
      go_wp2_with fail
      exact ⟨⟨k + 1, by omega, by go_num, HB2.out⟩, by simp [intOf]; omega⟩
    · go_wp2_with fail
      go_ret
      exact ⟨rfl, HB.out⟩

set_option maxRecDepth 100000 in
set_option maxHeartbeats 2000000 in
theorem eqCbs_step (d : Nat) (ih : EqCbSaid d) : EqCbsSaid d := by
  intro v1 v2 ns ts w h1 h2
  have IH := Lib.hid ih; clear ih
  obtain ⟨hln1, a1, cap1, rfl, hcap1, hm1, hat1⟩ := h1
  obtain ⟨hln2, a2, cap2, rfl, hcap2, hm2, hat2⟩ := h2
  have HA1 := Lib.hid hat1; clear hat1
  have HA2 := Lib.hid hat2; clear hat2
  go_enter Tryd.func24, Tryd.ntmps24
  go_wp2_with fail
  go_loopw [5] (fun i wr => ∃ k : Nat, k ≤ ts.length ∧ i = .int .i64 k ∧ Below w.heap.size w wr) (fun i _ => ts.length - (intOf i).toNat)
  case atStart => exact ⟨0, by omega, rfl, Below.refl _ _⟩
  case round =>
    obtain ⟨k, hk, rfl, hb⟩ := hrel
    have HB := Lib.hid hb; clear hb
    by_cases hlt : k < ts.length
    · have hlt2 : k < ns.length := by omega
      obtain ⟨b1, off1, x0, x1, x2, x3, x4, x5, x6, x7, x8, rfl, hbl1, hnz1, hcn1, hc10, hc11, hc12, hc13, hc14, hc15, hc16, hc17, hc18, ht1⟩ := HA1.out k hlt hlt2
      obtain ⟨b2, off2, y0, y1, y2, y3, y4, y5, y6, y7, y8, rfl, hbl2, hnz2, hcn2, hc20, hc21, hc22, hc23, hc24, hc25, hc26, hc27, hc28, ht2⟩ := HA2.out k hlt hlt2
      have c10 : wr.cell? ⟨b1, off1 + k * 10, none⟩ = some (.string ns[k]) := by rw [HB.out.cell (p := ⟨b1, off1 + k * 10, none⟩) hbl1]; exact hcn1
      have c11 : wr.cell? ⟨b1, off1 + k * 10 + 1, none⟩ = some x0 := by rw [HB.out.cell (p := ⟨b1, off1 + k * 10 + 1, none⟩) hbl1]; exact hc10
      have c12 : wr.cell? ⟨b1, off1 + k * 10 + 2, none⟩ = some x1 := by rw [HB.out.cell (p := ⟨b1, off1 + k * 10 + 2, none⟩) hbl1]; exact hc11
      have c13 : wr.cell? ⟨b1, off1 + k * 10 + 3, none⟩ = some x2 := by rw [HB.out.cell (p := ⟨b1, off1 + k * 10 + 3, none⟩) hbl1]; exact hc12
      have c14 : wr.cell? ⟨b1, off1 + k * 10 + 4, none⟩ = some x3 := by rw [HB.out.cell (p := ⟨b1, off1 + k * 10 + 4, none⟩) hbl1]; exact hc13
      have c15 : wr.cell? ⟨b1, off1 + k * 10 + 5, none⟩ = some x4 := by rw [HB.out.cell (p := ⟨b1, off1 + k * 10 + 5, none⟩) hbl1]; exact hc14
      have c16 : wr.cell? ⟨b1, off1 + k * 10 + 6, none⟩ = some x5 := by rw [HB.out.cell (p := ⟨b1, off1 + k * 10 + 6, none⟩) hbl1]; exact hc15
      have c17 : wr.cell? ⟨b1, off1 + k * 10 + 7, none⟩ = some x6 := by rw [HB.out.cell (p := ⟨b1, off1 + k * 10 + 7, none⟩) hbl1]; exact hc16
      have c18 : wr.cell? ⟨b1, off1 + k * 10 + 8, none⟩ = some x7 := by rw [HB.out.cell (p := ⟨b1, off1 + k * 10 + 8, none⟩) hbl1]; exact hc17
      have c19 : wr.cell? ⟨b1, off1 + k * 10 + 9, none⟩ = some x8 := by rw [HB.out.cell (p := ⟨b1, off1 + k * 10 + 9, none⟩) hbl1]; exact hc18
      have c20 : wr.cell? ⟨b2, off2 + k * 10, none⟩ = some (.string ns[k]) := by rw [HB.out.cell (p := ⟨b2, off2 + k * 10, none⟩) hbl2]; exact hcn2
      have c21 : wr.cell? ⟨b2, off2 + k * 10 + 1, none⟩ = some y0 := by rw [HB.out.cell (p := ⟨b2, off2 + k * 10 + 1, none⟩) hbl2]; exact hc20
      have c22 : wr.cell? ⟨b2, off2 + k * 10 + 2, none⟩ = some y1 := by rw [HB.out.cell (p := ⟨b2, off2 + k * 10 + 2, none⟩) hbl2]; exact hc21
      have c23 : wr.cell? ⟨b2, off2 + k * 10 + 3, none⟩ = some y2 := by rw [HB.out.cell (p := ⟨b2, off2 + k * 10 + 3, none⟩) hbl2]; exact hc22
      have c24 : wr.cell? ⟨b2, off2 + k * 10 + 4, none⟩ = some y3 := by rw [HB.out.cell (p := ⟨b2, off2 + k * 10 + 4, none⟩) hbl2]; exact hc23
      have c25 : wr.cell? ⟨b2, off2 + k * 10 + 5, none⟩ = some y4 := by rw [HB.out.cell (p := ⟨b2, off2 + k * 10 + 5, none⟩) hbl2]; exact hc24
      have c26 : wr.cell? ⟨b2, off2 + k * 10 + 6, none⟩ = some y5 := by rw [HB.out.cell (p := ⟨b2, off2 + k * 10 + 6, none⟩) hbl2]; exact hc25
      have c27 : wr.cell? ⟨b2, off2 + k * 10 + 7, none⟩ = some y6 := by rw [HB.out.cell (p := ⟨b2, off2 + k * 10 + 7, none⟩) hbl2]; exact hc26
      have c28 : wr.cell? ⟨b2, off2 + k * 10 + 8, none⟩ = some y7 := by rw [HB.out.cell (p := ⟨b2, off2 + k * 10 + 8, none⟩) hbl2]; exact hc27
      have c29 : wr.cell? ⟨b2, off2 + k * 10 + 9, none⟩ = some y8 := by rw [HB.out.cell (p := ⟨b2, off2 + k * 10 + 9, none⟩) hbl2]; exact hc28
      have HT1 := Lib.hid (ht1.below HB.out.drew)
      have HT2 := Lib.hid (ht2.below HB.out.drew)
      clear ht1 ht2 hcn1 hcn2 hc10 hc11 hc12 hc13 hc14 hc15 hc16 hc17 hc18 hc20 hc21 hc22 hc23 hc24 hc25 hc26 hc27 hc28
      go_wp2_with fail
      go_still_tail 8, (by kernel_rfl)
      change wpList _ _ _ _ _ wr.drew
      go_wp2_with fail
      refine (IH.out _ _ ns[k] _ wr.drew ⟨hnz1, _, _, _, _, _, _, _, _, _, rfl, HT1.out⟩ ⟨hnz1, _, _, _, _, _, _, _, _, _, rfl, HT2.out⟩).mono ?_
      rintro e w' ⟨rfl, hb1⟩
      have HB2 := Lib.hid (HB.out.drew.trans (hb1.mono HB.out.drew.size)); clear hb1
      go_wp2_with fail
      exact ⟨⟨k + 1, by omega, by go_num, HB2.out⟩, by simp [intOf]; omega⟩
    · go_wp2_with fail
      go_ret
      exact ⟨rfl, HB.out⟩

set_option maxRecDepth 100000 in
set_option maxHeartbeats 2000000 in
theorem eqCo_step (d : Nat) (ih : EqCosSaid d) (ih2 : EqCbsSaid d) : EqCoSaid (d + 1) := by
  intro v1 v2 t w h1 h2
  have IH := Lib.hid ih; clear ih
  have IH2 := Lib.hid ih2; clear ih2
  have HV1 := co_parts h1
  have HV2 := co_parts h2
  cases t with
  | node kd nm0 n0 fr ty ts ns vs =>
    obtain ⟨c3, c4, c5, c6, sl, el, rfl, hk0, hk1, hn0, hn1, hnm, hfr1, hty1, g1, e1⟩ := h1
    obtain ⟨d3, d4, d5, d6, sl2, el2, rfl, _, _, _, _, _, hfr2, hty2, g2, e2⟩ := h2
    obtain ⟨ak, anm, an, afk, afa, afn, afc, atk, ata, atn, atc, asa, asn, asc, aea, aen, aec, hv⟩ := HV1
    injection hv with hv
    injection hv with hv
    simp at hv
    obtain ⟨rfl, rfl, rfl, rfl, rfl, rfl, rfl, rfl, rfl⟩ := hv
    obtain ⟨bk, bnm, bn, bfk, bfa, bfn, bfc, btk, bta, btn, btc, bsa, bsn, bsc, bea, ben, bec, hv⟩ := HV2
    injection hv with hv
    injection hv with hv
    simp at hv
    obtain ⟨rfl, rfl, rfl, rfl, rfl, rfl, rfl, rfl, rfl⟩ := hv
    have hb2 : Below w.heap.size w ((w.alloc (.cells #[.int .i64 kd, .string nm0, .int .i64 n0, .int .i64 afk, .slice afa afn afc, .int .i64 atk, .slice ata atn atc, .slice asa asn asc, .slice aea aen aec] 37)).alloc (.cells #[.int .i64 kd, .string nm0, .int .i64 n0, .int .i64 bfk, .slice bfa bfn bfc, .int .i64 btk, .slice bta btn btc, .slice bsa bsn bsc, .slice bea ben bec] 37)) := ((Below.refl _ _).alloc (Nat.le_refl _) _).alloc (by simp) _
    have HF1 := Lib.hid (hfr1.below hb2)
    have HF2 := Lib.hid (hfr2.below hb2)
    have HY1 := Lib.hid (hty1.below hb2)
    have HY2 := Lib.hid (hty2.below hb2)
    have HT1 : Hid (CosAt ((w.alloc (.cells #[.int .i64 kd, .string nm0, .int .i64 n0, .int .i64 afk, .slice afa afn afc, .int .i64 atk, .slice ata atn atc, .slice asa asn asc, .slice aea aen aec] 37)).alloc (.cells #[.int .i64 kd, .string nm0, .int .i64 n0, .int .i64 bfk, .slice bfa bfn bfc, .int .i64 btk, .slice bta btn btc, .slice bsa bsn bsc, .slice bea ben bec] 37)) d (.slice asa asn asc) ts) := CosAt.below g1 hb2
    have HT2 : Hid (CosAt ((w.alloc (.cells #[.int .i64 kd, .string nm0, .int .i64 n0, .int .i64 afk, .slice afa afn afc, .int .i64 atk, .slice ata atn atc, .slice asa asn asc, .slice aea aen aec] 37)).alloc (.cells #[.int .i64 kd, .string nm0, .int .i64 n0, .int .i64 bfk, .slice bfa bfn bfc, .int .i64 btk, .slice bta btn btc, .slice bsa bsn bsc, .slice bea ben bec] 37)) d (.slice bsa bsn bsc) ts) := CosAt.below g2 hb2
    have HE1 : Hid (CbsAt ((w.alloc (.cells #[.int .i64 kd, .string nm0, .int .i64 n0, .int .i64 afk, .slice afa afn afc, .int .i64 atk, .slice ata atn atc, .slice asa asn asc, .slice aea aen aec] 37)).alloc (.cells #[.int .i64 kd, .string nm0, .int .i64 n0, .int .i64 bfk, .slice bfa bfn bfc, .int .i64 btk, .slice bta btn btc, .slice bsa bsn bsc, .slice bea ben bec] 37)) d (.slice aea aen aec) ns vs) := CbsAt.below e1 hb2
    have HE2 : Hid (CbsAt ((w.alloc (.cells #[.int .i64 kd, .string nm0, .int .i64 n0, .int .i64 afk, .slice afa afn afc, .int .i64 atk, .slice ata atn atc, .slice asa asn asc, .slice aea aen aec] 37)).alloc (.cells #[.int .i64 kd, .string nm0, .int .i64 n0, .int .i64 bfk, .slice bfa bfn bfc, .int .i64 btk, .slice bta btn btc, .slice bsa bsn bsc, .slice bea ben bec] 37)) d (.slice bea ben bec) ns vs) := CbsAt.below e2 hb2
    clear hb2 hfr1 hfr2 hty1 hty2 g1 g2 e1 e2
    go_enter Tryd.func9, Tryd.ntmps9
    go_wp2_with fail
    refine (eqTy_all d _ _ fr _ HF1.out HF2.out).mono ?_
    rintro e w1 ⟨rfl, hb1⟩
    have HB := Lib.hid (two_on (Below.refl _ _) hb1)
    replace HY1 := Lib.hid (HY1.out.below hb1)
    replace HY2 := Lib.hid (HY2.out.below hb1)
    replace HT1 := Lib.hid (HT1.out.below hb1)
    replace HT2 := Lib.hid (HT2.out.below hb1)
    replace HE1 := Lib.hid (HE1.out.below hb1)
    replace HE2 := Lib.hid (HE2.out.below hb1)
    clear hb1 HF1 HF2
    have p5 := two_first HB.out 5
    have q5 := two_next HB.out 5
    have p6 := two_first HB.out 6
    have q6 := two_next HB.out 6
    go_wp2_with fail
    clear p5 q5 p6 q6
    refine (eqTy_all d _ _ ty _ HY1.out HY2.out).mono ?_
    rintro e w2 ⟨rfl, hb1⟩
    replace HB := Lib.hid (two_on HB.out hb1)
    replace HT1 := Lib.hid (HT1.out.below hb1)
    replace HT2 := Lib.hid (HT2.out.below hb1)
    replace HE1 := Lib.hid (HE1.out.below hb1)
    replace HE2 := Lib.hid (HE2.out.below hb1)
    clear hb1 HY1 HY2
    have p7 := two_first HB.out 7
    have q7 := two_next HB.out 7
    go_wp2_with fail
    clear p7 q7
    refine (IH.out _ _ ts _ HT1.out HT2.out).mono ?_
    rintro e w3 ⟨rfl, hb1⟩
    replace HB := Lib.hid (two_on HB.out hb1)
    replace HE1 := Lib.hid (HE1.out.below hb1)
    replace HE2 := Lib.hid (HE2.out.below hb1)
    clear hb1 HT1 HT2
    have p8 := two_first HB.out 8
    have q8 := two_next HB.out 8
    go_wp2_with fail
    clear p8 q8
    refine (IH2.out _ _ ns vs _ HE1.out HE2.out).mono ?_
    rintro e w4 ⟨rfl, hb1⟩
    replace HB := Lib.hid (two_on HB.out hb1)
    clear hb1 HE1 HE2
    go_wp2_with fail
    go_ret
    exact ⟨rfl, two_below HB.out⟩

set_option maxRecDepth 100000 in
set_option maxHeartbeats 2000000 in
theorem eqCb_step (d : Nat) (ih : EqCoSaid d) : EqCbSaid d := by
  intro v1 v2 nm0 t w h1 h2
  have IH := Lib.hid ih; clear ih
  obtain ⟨ak, anm, an, afk, afa, afn, afc, atk, ata, atn, atc, asa, asn, asc, aea, aen, aec, rfl⟩ := cb_parts h1
  obtain ⟨hnz1, c0, c1, c2, c3, c4, c5, c6, c7, c8, hv, h1⟩ := h1
  have hv2 : .int .i64 ak = c0 ∧ .string anm = c1 ∧ .int .i64 an = c2 ∧ .int .i64 afk = c3 ∧ .slice afa afn afc = c4 ∧ .int .i64 atk = c5 ∧ .slice ata atn atc = c6 ∧ .slice asa asn asc = c7 ∧ .slice aea aen aec = c8 := by injection hv with hv; injection hv with hv; simpa using hv
  obtain ⟨rfl, rfl, rfl, rfl, rfl, rfl, rfl, rfl, rfl⟩ := hv2
  clear hv
  obtain ⟨bk, bnm, bn, bfk, bfa, bfn, bfc, btk, bta, btn, btc, bsa, bsn, bsc, bea, ben, bec, rfl⟩ := cb_parts h2
  obtain ⟨hnz2, c0, c1, c2, c3, c4, c5, c6, c7, c8, hv, h2⟩ := h2
  have hv2 : .int .i64 bk = c0 ∧ .string bnm = c1 ∧ .int .i64 bn = c2 ∧ .int .i64 bfk = c3 ∧ .slice bfa bfn bfc = c4 ∧ .int .i64 btk = c5 ∧ .slice bta btn btc = c6 ∧ .slice bsa bsn bsc = c7 ∧ .slice bea ben bec = c8 := by injection hv with hv; injection hv with hv; simpa using hv
  obtain ⟨rfl, rfl, rfl, rfl, rfl, rfl, rfl, rfl, rfl⟩ := hv2
  clear hv
  have hb2 : Below w.heap.size w ((w.alloc (.cells #[.string nm0, .int .i64 ak, .string anm, .int .i64 an, .int .i64 afk, .slice afa afn afc, .int .i64 atk, .slice ata atn atc, .slice asa asn asc, .slice aea aen aec] 65)).alloc (.cells #[.string nm0, .int .i64 bk, .string bnm, .int .i64 bn, .int .i64 bfk, .slice bfa bfn bfc, .int .i64 btk, .slice bta btn btc, .slice bsa bsn bsc, .slice bea ben bec] 65)) := ((Below.refl _ _).alloc (Nat.le_refl _) _).alloc (by simp) _
  have HT1 := Lib.hid (h1.below hb2)
  have HT2 := Lib.hid (h2.below hb2)
  clear hb2 h1 h2
  go_enter Tryd.func46, Tryd.ntmps46
  go_wp2_with fail
  refine (IH.out _ _ t _ HT1.out HT2.out).mono ?_
  rintro e w1 ⟨rfl, hb1⟩
  have HB := Lib.hid (two_on (Below.refl _ _) hb1)
  clear hb1 HT1 HT2
  go_wp2_with fail
  go_ret
  exact ⟨rfl, two_below HB.out⟩
theorem eqCo_all : ∀ d, EqCoSaid d
  | 0 => fun _ _ _ _ h => h.elim
  | d + 1 => eqCo_step d (eqCos_step d (eqCo_all d)) (eqCbs_step d (eqCb_step d (eqCo_all d)))
theorem eqCbs_all (d : Nat) : EqCbsSaid d := eqCbs_step d (eqCb_step d (eqCo_all d))
end Go.Proofs.YtnggkcgifjfnfaaDoor
/-
  Proved: the law FnExactFormOf answers true for every argument, and leaves the memory that was there as it was.
-/
namespace Go.Proofs.YtnggkcgifjfnfaaDoor
open Go.RowKit

set_option maxRecDepth 100000 in
set_option maxHeartbeats 2000000 in
theorem formOfWalk (d : Nat) (v1 : Value) (t1 : Co) (w : World) (h1 : CoAt w d v1 t1) (htab : CoreFull w) :
    Calls Tryd.prog 3 #[v1] w fun e w' => e = .returned (.bool true) ∧ Below w.heap.size w w' := by
  obtain ⟨a1k, a1nm, a1n, a1fk, a1fa, a1fn, a1fc, a1tk, a1ta, a1tn, a1tc, a1sa, a1sn, a1sc, a1ea, a1en, a1ec, rfl⟩ := co_parts h1
  have B : Hid (Below w.heap.size w (w.alloc (.cells #[.int .i64 a1k, .string a1nm, .int .i64 a1n, .int .i64 a1fk, .slice a1fa a1fn a1fc, .int .i64 a1tk, .slice a1ta a1tn a1tc, .slice a1sa a1sn a1sc, .slice a1ea a1en a1ec] 28))) := below_alloc _ _
  have HTAB := Lib.hid (htab.below B.out)
  clear htab
  have HA1 := Lib.hid (h1.below B.out)
  have XA1 : Hid (BoxAt (w.alloc (.cells #[.int .i64 a1k, .string a1nm, .int .i64 a1n, .int .i64 a1fk, .slice a1fa a1fn a1fc, .int .i64 a1tk, .slice a1ta a1tn a1tc, .slice a1sa a1sn a1sc, .slice a1ea a1en a1ec] 28)) (w.heap.size) #[.int .i64 a1k, .string a1nm, .int .i64 a1n, .int .i64 a1fk, .slice a1fa a1fn a1fc, .int .i64 a1tk, .slice a1ta a1tn a1tc, .slice a1sa a1sn a1sc, .slice a1ea a1en a1ec]) := BoxAt.new _ _ _
  clear h1
  go_enter Tryd.func3, Tryd.ntmps3
  go_wp2_with fail
  refine (szCo_all d _ t1 1048576 _ (by omega) (by omega) HA1.out).mono ?_
  rintro e w1 ⟨r1, rfl, hb, hr1⟩
  replace B := Lib.hid (below_thru B.out (Nat.le_refl _) hb)
  replace HTAB := Lib.hid (HTAB.out.below hb)
  replace HA1 := Lib.hid (HA1.out.below hb)
  replace XA1 := Lib.hid (XA1.out.below hb)
  clear hb
  rcases hr1 with ⟨hr1, hs1⟩ | ⟨hr1, hs1⟩
  · go_wp2_with fail
    go_ret
    exact ⟨rfl, B.out⟩
  have hq1 : r1 ≤ 1048576 := by omega
  have hn1 : t1.bulk ≤ 1048576 := by omega
  clear hs1
  have cXA1_0 := XA1.out.2 0
  have cXA1_1 := XA1.out.2 1
  have cXA1_2 := XA1.out.2 2
  have cXA1_3 := XA1.out.2 3
  have cXA1_4 := XA1.out.2 4
  have cXA1_5 := XA1.out.2 5
  have cXA1_6 := XA1.out.2 6
  have cXA1_7 := XA1.out.2 7
  have cXA1_8 := XA1.out.2 8
  go_wp2_with fail
  clear cXA1_0 cXA1_1 cXA1_2 cXA1_3 cXA1_4 cXA1_5 cXA1_6 cXA1_7 cXA1_8
  refine ((toCo_all d).1 _ t1 _ hn1 HA1.out).mono ?_
  rintro e w2 ⟨s1, fp, rfl, ht, hf, hb⟩
  replace B := Lib.hid (below_thru B.out (Nat.le_refl _) hb)
  replace HTAB := Lib.hid (HTAB.out.below hb)
  replace HA1 := Lib.hid (HA1.out.below hb)
  replace XA1 := Lib.hid (XA1.out.below hb)
  clear hb
  have Hs1 := Lib.hid ht.at_
  clear ht hf
  have cXA1_0 := XA1.out.2 0
  have cXA1_1 := XA1.out.2 1
  have cXA1_2 := XA1.out.2 2
  have cXA1_3 := XA1.out.2 3
  have cXA1_4 := XA1.out.2 4
  have cXA1_5 := XA1.out.2 5
  have cXA1_6 := XA1.out.2 6
  have cXA1_7 := XA1.out.2 7
  have cXA1_8 := XA1.out.2 8
  go_wp2_with fail
  clear cXA1_0 cXA1_1 cXA1_2 cXA1_3 cXA1_4 cXA1_5 cXA1_6 cXA1_7 cXA1_8
  refine (specFormOf d s1 t1 _ Hs1.out hn1).mono ?_
  rintro e w3 ⟨rfl, hb⟩
  replace B := Lib.hid (below_thru B.out (Nat.le_refl _) hb)
  replace HTAB := Lib.hid (HTAB.out.below hb)
  replace HA1 := Lib.hid (HA1.out.below hb)
  replace XA1 := Lib.hid (XA1.out.below hb)
  clear hb
  clear Hs1
  have cXA1_0 := XA1.out.2 0
  have cXA1_1 := XA1.out.2 1
  have cXA1_2 := XA1.out.2 2
  have cXA1_3 := XA1.out.2 3
  have cXA1_4 := XA1.out.2 4
  have cXA1_5 := XA1.out.2 5
  have cXA1_6 := XA1.out.2 6
  have cXA1_7 := XA1.out.2 7
  have cXA1_8 := XA1.out.2 8
  go_wp2_with fail
  clear cXA1_0 cXA1_1 cXA1_2 cXA1_3 cXA1_4 cXA1_5 cXA1_6 cXA1_7 cXA1_8
  refine ((toCo_all d).1 _ t1 _ hn1 HA1.out).mono ?_
  rintro e w4 ⟨x1, fp, rfl, ht, hf, hb⟩
  replace B := Lib.hid (below_thru B.out (Nat.le_refl _) hb)
  replace HTAB := Lib.hid (HTAB.out.below hb)
  replace HA1 := Lib.hid (HA1.out.below hb)
  replace XA1 := Lib.hid (XA1.out.below hb)
  clear hb
  obtain ⟨x1k, x1nm, x1n, x1fk, x1fa, x1fn, x1fc, x1tk, x1ta, x1tn, x1tc, x1sa, x1sn, x1sc, x1ea, x1en, x1ec, rfl⟩ := co_parts ht.at_
  have HX1 := Lib.hid ht.at_
  clear ht hf
  have XX1 : Hid (BoxAt (w4.alloc (.cells #[.int .i64 x1k, .string x1nm, .int .i64 x1n, .int .i64 x1fk, .slice x1fa x1fn x1fc, .int .i64 x1tk, .slice x1ta x1tn x1tc, .slice x1sa x1sn x1sc, .slice x1ea x1en x1ec] 37)) w4.heap.size #[.int .i64 x1k, .string x1nm, .int .i64 x1n, .int .i64 x1fk, .slice x1fa x1fn x1fc, .int .i64 x1tk, .slice x1ta x1tn x1tc, .slice x1sa x1sn x1sc, .slice x1ea x1en x1ec]) := BoxAt.new _ _ _
  have hb := below_alloc w4 (.cells #[.int .i64 x1k, .string x1nm, .int .i64 x1n, .int .i64 x1fk, .slice x1fa x1fn x1fc, .int .i64 x1tk, .slice x1ta x1tn x1tc, .slice x1sa x1sn x1sc, .slice x1ea x1en x1ec] 37)
  replace B := Lib.hid (below_thru B.out (Nat.le_refl _) hb)
  replace HTAB := Lib.hid (HTAB.out.below hb)
  replace HA1 := Lib.hid (HA1.out.below hb)
  replace XA1 := Lib.hid (XA1.out.below hb)
  replace HX1 := Lib.hid (HX1.out.below hb)
  clear hb
  have cXA1_0 := XA1.out.2 0
  have cXA1_1 := XA1.out.2 1
  have cXA1_2 := XA1.out.2 2
  have cXA1_3 := XA1.out.2 3
  have cXA1_4 := XA1.out.2 4
  have cXA1_5 := XA1.out.2 5
  have cXA1_6 := XA1.out.2 6
  have cXA1_7 := XA1.out.2 7
  have cXA1_8 := XA1.out.2 8
  have cXX1_0 := XX1.out.2 0
  have cXX1_1 := XX1.out.2 1
  have cXX1_2 := XX1.out.2 2
  have cXX1_3 := XX1.out.2 3
  have cXX1_4 := XX1.out.2 4
  have cXX1_5 := XX1.out.2 5
  have cXX1_6 := XX1.out.2 6
  have cXX1_7 := XX1.out.2 7
  have cXX1_8 := XX1.out.2 8
  go_wp2_with fail
  clear cXA1_0 cXA1_1 cXA1_2 cXA1_3 cXA1_4 cXA1_5 cXA1_6 cXA1_7 cXA1_8 cXX1_0 cXX1_1 cXX1_2 cXX1_3 cXX1_4 cXX1_5 cXX1_6 cXX1_7 cXX1_8
  refine (implFormOfTop d _ t1 _ HX1.out hn1 HTAB.out).mono ?_
  rintro e w5 ⟨rfl, hb⟩
  replace B := Lib.hid (below_thru B.out (Nat.le_refl _) hb)
  replace HTAB := Lib.hid (HTAB.out.below hb)
  replace HA1 := Lib.hid (HA1.out.below hb)
  replace XA1 := Lib.hid (XA1.out.below hb)
  replace HX1 := Lib.hid (HX1.out.below hb)
  replace XX1 := Lib.hid (XX1.out.below hb)
  clear hb
  have cXA1_0 := XA1.out.2 0
  have cXA1_1 := XA1.out.2 1
  have cXA1_2 := XA1.out.2 2
  have cXA1_3 := XA1.out.2 3
  have cXA1_4 := XA1.out.2 4
  have cXA1_5 := XA1.out.2 5
  have cXA1_6 := XA1.out.2 6
  have cXA1_7 := XA1.out.2 7
  have cXA1_8 := XA1.out.2 8
  have cXX1_0 := XX1.out.2 0
  have cXX1_1 := XX1.out.2 1
  have cXX1_2 := XX1.out.2 2
  have cXX1_3 := XX1.out.2 3
  have cXX1_4 := XX1.out.2 4
  have cXX1_5 := XX1.out.2 5
  have cXX1_6 := XX1.out.2 6
  have cXX1_7 := XX1.out.2 7
  have cXX1_8 := XX1.out.2 8
  go_wp2_with fail
  clear cXA1_0 cXA1_1 cXA1_2 cXA1_3 cXA1_4 cXA1_5 cXA1_6 cXA1_7 cXA1_8 cXX1_0 cXX1_1 cXX1_2 cXX1_3 cXX1_4 cXX1_5 cXX1_6 cXX1_7 cXX1_8
  have hb := below_drew w5
  replace B := Lib.hid (below_thru B.out (Nat.le_refl _) hb)
  replace HTAB := Lib.hid (HTAB.out.below hb)
  replace HA1 := Lib.hid (HA1.out.below hb)
  replace XA1 := Lib.hid (XA1.out.below hb)
  replace HX1 := Lib.hid (HX1.out.below hb)
  replace XX1 := Lib.hid (XX1.out.below hb)
  clear hb
  go_region_held3 (fun w' => w'.cell? ⟨w.heap.size, 0, none⟩ = some (.int .i64 a1k) ∧ w'.cell? ⟨w.heap.size, 1, none⟩ = some (.string a1nm) ∧ w'.cell? ⟨w.heap.size, 2, none⟩ = some (.int .i64 a1n) ∧ w'.cell? ⟨w.heap.size, 3, none⟩ = some (.int .i64 a1fk) ∧ w'.cell? ⟨w.heap.size, 4, none⟩ = some (.slice a1fa a1fn a1fc) ∧ w'.cell? ⟨w.heap.size, 5, none⟩ = some (.int .i64 a1tk) ∧ w'.cell? ⟨w.heap.size, 6, none⟩ = some (.slice a1ta a1tn a1tc) ∧ w'.cell? ⟨w.heap.size, 7, none⟩ = some (.slice a1sa a1sn a1sc) ∧ w'.cell? ⟨w.heap.size, 8, none⟩ = some (.slice a1ea a1en a1ec) ∧ w'.cell? ⟨w4.heap.size, 0, none⟩ = some (.int .i64 x1k) ∧ w'.cell? ⟨w4.heap.size, 1, none⟩ = some (.string x1nm) ∧ w'.cell? ⟨w4.heap.size, 2, none⟩ = some (.int .i64 x1n) ∧ w'.cell? ⟨w4.heap.size, 3, none⟩ = some (.int .i64 x1fk) ∧ w'.cell? ⟨w4.heap.size, 4, none⟩ = some (.slice x1fa x1fn x1fc) ∧ w'.cell? ⟨w4.heap.size, 5, none⟩ = some (.int .i64 x1tk) ∧ w'.cell? ⟨w4.heap.size, 6, none⟩ = some (.slice x1ta x1tn x1tc) ∧ w'.cell? ⟨w4.heap.size, 7, none⟩ = some (.slice x1sa x1sn x1sc) ∧ w'.cell? ⟨w4.heap.size, 8, none⟩ = some (.slice x1ea x1en x1ec)) (exact ⟨XA1.out.2 0, XA1.out.2 1, XA1.out.2 2, XA1.out.2 3, XA1.out.2 4, XA1.out.2 5, XA1.out.2 6, XA1.out.2 7, XA1.out.2 8, XX1.out.2 0, XX1.out.2 1, XX1.out.2 2, XX1.out.2 3, XX1.out.2 4, XX1.out.2 5, XX1.out.2 6, XX1.out.2 7, XX1.out.2 8⟩)
    (first
     | (go_at_call_of 7 (Value.agg #[Value.int IntKind.i64 a1k, Value.string a1nm, Value.int IntKind.i64 a1n, Value.int IntKind.i64 a1fk, Value.slice a1fa a1fn a1fc, Value.int IntKind.i64 a1tk, Value.slice a1ta a1tn a1tc, Value.slice a1sa a1sn a1sc, Value.slice a1ea a1en a1ec])
        refine ((toCo_all d).1 _ t1 _ hn1 HA1.out).mono ?_
        rintro e w6 ⟨y1, fp, rfl, ht, hf, hb⟩
        replace B := Lib.hid (below_thru B.out (Nat.le_refl _) hb)
        replace HTAB := Lib.hid (HTAB.out.below hb)
        replace HA1 := Lib.hid (HA1.out.below hb)
        replace XA1 := Lib.hid (XA1.out.below hb)
        replace HX1 := Lib.hid (HX1.out.below hb)
        replace XX1 := Lib.hid (XX1.out.below hb)
        clear hb
        have Hy1 := Lib.hid ht.at_
        clear ht hf)
     | (go_at_call 9
        refine (eqCo_all d _ y1 t1 _ HX1.out Hy1.out).mono ?_
        rintro e w7 ⟨rfl, hb⟩
        replace B := Lib.hid (below_thru B.out (Nat.le_refl _) hb)
        replace HTAB := Lib.hid (HTAB.out.below hb)
        replace HA1 := Lib.hid (HA1.out.below hb)
        replace XA1 := Lib.hid (XA1.out.below hb)
        replace HX1 := Lib.hid (HX1.out.below hb)
        replace XX1 := Lib.hid (XX1.out.below hb)
        clear hb
        clear Hy1))
  have cXA1_0 := XA1.out.2 0
  have cXA1_1 := XA1.out.2 1
  have cXA1_2 := XA1.out.2 2
  have cXA1_3 := XA1.out.2 3
  have cXA1_4 := XA1.out.2 4
  have cXA1_5 := XA1.out.2 5
  have cXA1_6 := XA1.out.2 6
  have cXA1_7 := XA1.out.2 7
  have cXA1_8 := XA1.out.2 8
  have cXX1_0 := XX1.out.2 0
  have cXX1_1 := XX1.out.2 1
  have cXX1_2 := XX1.out.2 2
  have cXX1_3 := XX1.out.2 3
  have cXX1_4 := XX1.out.2 4
  have cXX1_5 := XX1.out.2 5
  have cXX1_6 := XX1.out.2 6
  have cXX1_7 := XX1.out.2 7
  have cXX1_8 := XX1.out.2 8
  go_wp2_with fail
  go_ret
  exact ⟨rfl, B.out⟩
end Go.Proofs.YtnggkcgifjfnfaaDoor
/-
  Proved: a law that returns true and leaves all memory that was there before as it was meets its row's end, also where the row names variables to be read again.
-/
namespace Go.Proofs.YtnggkcgifjfnfaaDoor.Law
open Go.ChangeShapes Go.WideShapes Go.ChangeAt Go.RowKit
variable {H : Type} {enc : TypeId × Value → H} {P : Program} {W W' : World}

theorem law_post_vars {f : Func} {s : ChangeSpec} {args : Array Value} {ds gs : List (DataW H)} {before : List MemPlace} {tb : TypeId}
    (hW : DataW.Whole enc P f.params.toList s.vars false W args.toList ds gs before) (hv : varsRowed P s.vars = true)
    (hres : f.resultTypes = #[tb]) (ub : P.underlying tb = some .bool) (hl : laidOutB P = true)
    (hr : (f.params.toList.all fun t => P.readableRec t && decide (t < P.types.size)) = true)
    (hfn : s.fn H (ds ++ gs) = { results := [.lit (.bool true)], args := ds, vars := gs })
    (hb : Below W.heap.size W W') : s.post enc P f false true false false W args (.bool true) W' := by
  have hlt := hW.lt
  have hW' := hW
  obtain ⟨p, q, hA, hV, rfl, hfz, hnd⟩ := hW
  refine ⟨ds, gs, _, [], p, q, hW', ?_, ?_, ?_, hb.frame _, fun h => by cases h⟩
  · rw [hres, hfn]
    exact trodAll_mk1 (shut_bool ub true)
  · rw [hfn]
    exact trodAll_below hl hb hr hA (fun x hx => hlt x (by simp [hx]))
  · rw [hfn]
    exact Below.trodVars hl hb hv hV
end Go.Proofs.YtnggkcgifjfnfaaDoor.Law
namespace Go.Proofs.YtnggkcgifjfnfaaDoor.ExactFormOf
open Go.ChangeShapes Go.WideShapes Go.ChangeAt Go.RowKit Go.WideMaps Go.WideElems
open Go.ChangeMaps (setBlock shut_map_nil open_string shut_string keptBut_setBlock frozen?_setBlock heap_setBlock_same)
set_option maxRecDepth 100000 in
theorem contract (H : Type) (enc : TypeId × Value → H) (W : World) (base : Nat) (args : Array Value) (ds gs : List (DataW H)) (before : List MemPlace)
    (hval : ∀ (j : Nat) t v, Tryd.f3.params[j]? = some t → args[j]? = some v → Value.okWide Tryd.prog W .any base t v)
    (hW : DataW.Whole enc Tryd.prog Tryd.f3.params.toList Rows.fnExactFormOfSpec.vars false W args.toList ds gs before) (hL : laidMetH Tryd.prog Rows.fnExactFormOfRow.laid W)
    (_hsz : (DataW.weightsEach Tryd.prog (Tryd.f3.params.toList ++ (OpenSpec.ofChange Rows.fnExactFormOfSpec).bare.plain.varTypes Tryd.prog) (ds ++ gs)).all (· ≤ reachBytes) = true) (_hsh : W.ShapedOpen Tryd.prog) :
    Calls Tryd.prog 3 args W fun e W' => ∃ v, e = .returned v ∧ Rows.fnExactFormOfSpec.post enc Tryd.prog Tryd.f3 false true false false W args v W' := by
  have hW' := hW
  obtain ⟨p, q, hA0, hV, rfl, hfz, hnd⟩ := hW
  have hA : DataW.TrodAll enc Tryd.prog W 0 (fun _ => true) true Tryd.f3.params.toList args.toList ds p := hA0
  rw [Tryd.params3] at hA hval
  obtain ⟨v0, vs0, d0, ds0, p0, q0, hargs, rfl, rfl, h0, r0⟩ := trodAll_cons hA
  obtain ⟨rfl, rfl, rfl⟩ := trodAll_nil r0
  obtain rfl : args = #[v0] := by cases args; simp_all
  obtain ⟨gg, gt, gcs, gfuel, gd, gp, rfl, _⟩ := trodVars_one hV
  obtain ⟨e0, t0, ht0⟩ := co_of_arg (hval 0 28 v0 rfl rfl) h0
  rw [MakeChecks.laidMetH_plain _ _ _ (by kernel_rfl)] at hL
  have htab : CoreFull W := coreFull_of hL
  refine Calls.mono (formOfWalk e0 v0 t0 W ht0 htab) fun e W' ⟨he, hg⟩ => ?_
  subst he
  exact ⟨_, rfl, Law.law_post_vars hW' (by kernel_rfl) (by kernel_rfl) Tryd.underlying4 (by kernel_rfl) (by kernel_rfl) rfl hg⟩
set_option maxRecDepth 100000 in
theorem laid_met (os : Os) : laidMet Tryd.prog Rows.fnExactFormOfRow.laid (((World.doorLaid Tryd.prog 512 os)).forCall (fun _ _ => 0) ⟨#[], #[.agg #[.int .i64 0, .string ⟨#[]⟩, .int .i64 0, .int .i64 0, .slice none 0 0, .int .i64 0, .slice none 0 0, .slice none 0 0, .slice none 0 0]], []⟩).memory :=
  laidMet_of_run' 8 (by kernel_rfl) (by kernel_rfl)
theorem reads (os : Os) {H : Type} (enc : TypeId × Value → H) : ∃ places, DataW.whole enc Tryd.prog (((World.doorLaid Tryd.prog 512 os)).forCall (fun _ _ => 0) ⟨#[], #[.agg #[.int .i64 0, .string ⟨#[]⟩, .int .i64 0, .int .i64 0, .slice none 0 0, .int .i64 0, .slice none 0 0, .slice none 0 0, .slice none 0 0]], []⟩).memory Tryd.f3.params.toList Rows.fnExactFormOfSpec.vars false (#[.agg #[.int .i64 0, .string ⟨#[]⟩, .int .i64 0, .int .i64 0, .slice none 0 0, .int .i64 0, .slice none 0 0, .slice none 0 0, .slice none 0 0]] : Array Value).toList 8 = some ([.agg [.lit (.int .i64 0), .lit (.string []), .lit (.int .i64 0), .agg [.lit (.int .i64 0), .nil], .agg [.lit (.int .i64 0), .nil], .nil, .nil]], [Rows.laid_loop_example_g00585_impl_coreForms], places) :=
  ⟨MemPlace.row ⟨0, 0, none⟩ 80, by kernel_rfl⟩
set_option maxRecDepth 100000 in
theorem lifted (os : Os) (started : os.Started) (H : Type) (enc : TypeId × Value → H) (F : Stop.Interp) :
    ReturnsInHanded {} Tryd.checked os 3 .any ((OpenSpec.ofChange Rows.fnExactFormOfSpec).preRow enc Tryd.prog Tryd.f3 Rows.fnExactFormOfRow.domain false Rows.fnExactFormOfRow.laid) (((OpenSpec.ofChange Rows.fnExactFormOfSpec).at F).post enc Tryd.prog Tryd.f3 false true false false) := by
  obtain ⟨places, hx⟩ := reads os enc
  refine returnsInHanded_of_row (C := Tryd.checked) (s := OpenSpec.ofChange Rows.fnExactFormOfSpec) (by kernel_rfl) started (by kernel_rfl) Tryd.func3
    (witness_row_atRef (enc := enc) (C := Tryd.checked) false (World.doorLaid Tryd.prog 512 os) #[.agg #[.int .i64 0, .string ⟨#[]⟩, .int .i64 0, .int .i64 0, .slice none 0 0, .int .i64 0, .slice none 0 0, .slice none 0 0, .slice none 0 0]] rfl (by kernel_rfl) (by kernel_rfl) (by kernel_rfl)
      (OpenSpec.preRow_of_cond 8 hx (by kernel_rfl) (fun k hk => by cases hk) (by kernel_rfl) (laid_met os))) ?_
  intro W base args ds gs before hval hW _ _ hsz hL hsh _
  exact contract H enc W base args ds gs before hval hW hL hsz hsh
theorem said : Rows.FnExactFormOfSaid :=
  OpenClaim.holds_of_cond 3 Tryd.f3 rfl rfl rfl rfl rfl rfl rfl ⟨rfl, rfl, rfl, rfl, rfl⟩ rfl rfl rfl rfl rfl (by kernel_rfl) Tryd.func3 (by kernel_rfl)
    (of_decide_eq_true (by kernel_rfl)) (by unfold Func.isWrapper; first | (rw [if_pos (by decide +kernel)]; kernel_rfl) | (rw [if_neg (by decide +kernel)]; exact ⟨rfl, rfl⟩))
    (fun os started H enc _ F => by rw [OpenClaim.pre_eq_preRow]; exact lifted os started H enc F)
theorem plain (f : FuncId) (fn : Func) (hf : Tryd.pinned.checked.prog.funcNamed "loop.example/g00585/laws.FnExactFormOf" = some f) (hfn : Tryd.pinned.checked.prog.funcs[f]? = some fn) :
    true = Tryd.pinned.checked.prog.looks [] ∧ ∀ (j : Nat) t, fn.params[j]? = some t → Tryd.pinned.checked.prog.wantsStandIn t = false := by
  obtain rfl : f = 3 := Option.some.inj ((show Tryd.prog.funcNamed "loop.example/g00585/laws.FnExactFormOf" = some 3 by kernel_rfl).symm.trans hf) |>.symm
  obtain rfl : fn = Tryd.f3 := (Option.some.inj (Tryd.func3.symm.trans hfn)).symm
  refine ⟨by kernel_rfl, fun j t ht => ?_⟩
  rw [Tryd.params3] at ht
  have hm : t ∈ [28] := by simpa using Array.mem_of_getElem? ht
  have hall : ([28].all fun u => !Tryd.prog.wantsStandIn u) = true := by kernel_rfl
  exact (show Tryd.prog.wantsStandIn t = false by simpa using List.all_eq_true.1 hall t hm)
theorem card : Rows.FnExactFormOfCardSaid :=
  Claim7.holds_tied_plain_at .later [] _ _ _ _ said (fun _ h => by cases h) (by kernel_rfl) (fun _ h => by cases h) fnExactFormOf_row_tie rfl ⟨rfl, rfl⟩ (by kernel_rfl) rfl plain (by kernel_rfl)
end Go.Proofs.YtnggkcgifjfnfaaDoor.ExactFormOf
