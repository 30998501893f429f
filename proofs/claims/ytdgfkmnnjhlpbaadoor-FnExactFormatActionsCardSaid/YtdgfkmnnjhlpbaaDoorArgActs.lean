/-
  Proved: a list of values of the kind Action that came in as an argument reads as one.
-/
import Derived.Test.YtdgfkmnnjhlpbaaDoorAtActs
import Derived.Test.YtdgfkmnnjhlpbaaDoorActArgO
import Derived.Test.YtdgfkmnnjhlpbaaDoorTypeArg
namespace Go.Proofs.YtdgfkmnnjhlpbaaDoor
open Go.ChangeShapes Go.WideShapes Go.ChangeAt Go.RowKit Go.WideMaps Go.WideElems

theorem und_acts : Tryd.prog.underlying 37 = some (.slice 26) := by kernel_rfl
set_option maxRecDepth 100000 in
set_option maxHeartbeats 4000000 in
theorem acts_open {H : Type} {enc : TypeId × Value → H} {W : World} {base : Nat} (fuel : Nat) (cs : List Value) (x : DataW H × List MemPlace) (h : DataW.trod enc Tryd.prog W base (fun _ => true) true fuel 37 cs = some x) :
    ∃ c0 d t, cs = [c0] ∧ ActsAt W d c0 t := by
  rcases DataW.trod_slice und_acts h with ⟨hcs, _⟩ | ⟨a, len, cap, elems, rest, m, hm, hcs, _, hb, hlc, hcm, hel, hget, _, _⟩
  · exact ⟨_, 0, [], hcs, none, 0, rfl, Nat.le_refl _, by omega, fun j hj => by simp at hj⟩
  · have first : 0 < len → a.spot = none := by
      intro h0
      have hg0 := hget 0 h0
      rw [cells_lact, List.getElem?_eq_getElem (by omega)] at hg0
      obtain ⟨cs2, hc2, ht2⟩ := Option.bind_eq_some_iff.1 hg0
      obtain ⟨d0, d1, d2, d3, d4, dd, t, rfl, _⟩ := acx_open m cs2 _ ht2
      obtain ⟨_, _, hc⟩ := World.cells?_some hc2
      have e0 := hc 0 (by omega)
      exact World.cell?_spot (show W.cell? a = some d0 from e0)
    obtain ⟨b, off, spot⟩ := a
    have each : ∀ j, j < len → ∃ t : Act × Nat, ∃ c0 c1 c2 c3 c4, spot = none ∧ b < W.heap.size ∧ W.cell? ⟨b, off + j * 5, none⟩ = some c0 ∧ W.cell? ⟨b, off + j * 5 + 1, none⟩ = some c1 ∧ W.cell? ⟨b, off + j * 5 + 2, none⟩ = some c2 ∧ W.cell? ⟨b, off + j * 5 + 3, none⟩ = some c3 ∧ W.cell? ⟨b, off + j * 5 + 4, none⟩ = some c4 ∧ ActAt W t.2 (.agg #[c0, c1, c2, c3, c4]) t.1 := by
      intro j hj
      have hgj := hget j hj
      have hspot : spot = none := first (by omega)
      subst hspot
      rw [cells_lact, List.getElem?_eq_getElem (by omega), ty_addr] at hgj
      obtain ⟨cs2, hc2, ht2⟩ := Option.bind_eq_some_iff.1 hgj
      obtain ⟨d0, d1, d2, d3, d4, dd, t, rfl, hty⟩ := acx_open m cs2 _ ht2
      obtain ⟨_, _, hc⟩ := World.cells?_some hc2
      have e0 := hc 0 (by omega)
      have e1 := hc 1 (by omega)
      have e2 := hc 2 (by omega)
      have e3 := hc 3 (by omega)
      have e4 := hc 4 (by omega)
      rw [ty_addr] at e0 e1 e2 e3 e4
      exact ⟨(t, dd), d0, d1, d2, d3, d4, rfl, World.cells?_block hc2 (by omega), e0, e1, e2, e3, e4, hty⟩
    obtain ⟨ts, hts, hp⟩ := list_choose len each
    have hmx : ∀ (l : List (Act × Nat)), ∃ d, ∀ j (h : j < l.length), l[j].2 ≤ d := by
      intro l
      induction l with
      | nil => exact ⟨0, fun j h => by simp at h⟩
      | cons y r ih =>
        obtain ⟨d, hd⟩ := ih
        refine ⟨y.2 + d, fun j h => ?_⟩
        cases j with
        | zero => simp
        | succ j => have := hd j (by simpa using h); simp only [List.getElem_cons_succ]; omega
    obtain ⟨d, hd⟩ := hmx ts
    refine ⟨_, d, ts.map Prod.fst, hcs, some ⟨b, off, spot⟩, cap, by rw [List.length_map, hts], by rw [List.length_map]; omega, by unfold maxLen at hcm; omega, fun j hj => ?_⟩
    rw [List.length_map] at hj
    obtain ⟨c0, c1, c2, c3, c4, rfl, h1, g0, g1, g2, g3, g4, h5⟩ := hp j hj
    refine ⟨b, off, c0, c1, c2, c3, c4, rfl, h1, g0, g1, g2, g3, g4, ?_⟩
    rw [List.getElem_map]
    exact h5.mono (hd j hj)
set_option maxRecDepth 100000 in
set_option maxHeartbeats 4000000 in
theorem acts_of_arg {H : Type} {enc : TypeId × Value → H} {W : World} {base b0 : Nat} {v : Value} {x : DataW H} {ps : List MemPlace} (hval : Value.okWide Tryd.prog W .any b0 37 v)
    (h : DataW.Trod enc Tryd.prog W base (fun _ => true) true 37 v x ps) : ∃ d t, ActsAt W d v t := by
  obtain ⟨a0, len, cap, rfl⟩ := okWide_slice und_acts hval
  obtain ⟨fuel, hf⟩ := h
  obtain ⟨c0, d, t, hc, ht⟩ := acts_open fuel _ _ hf
  cases hc
  exact ⟨d, t, ht⟩
end Go.Proofs.YtdgfkmnnjhlpbaaDoor
