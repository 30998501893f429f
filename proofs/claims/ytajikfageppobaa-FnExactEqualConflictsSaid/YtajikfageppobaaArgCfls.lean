/-
  Proved: a list of values of the kind Conflict that came in as an argument reads as one.
-/
import Derived.Test.YtajikfageppobaaAtCfls
import Derived.Test.YtajikfageppobaaArgCfl
import Derived.Test.YtajikfageppobaaTypeArg
namespace Go.Proofs.Ytajikfageppobaa
open Go.ChangeShapes Go.WideShapes Go.ChangeAt Go.RowKit Go.WideMaps Go.WideElems

theorem und_cfls : Try.prog.underlying 62 = some (.slice 100) := by kernel_rfl
set_option maxRecDepth 100000 in
set_option maxHeartbeats 4000000 in
theorem cfls_open {H : Type} {enc : TypeId × Value → H} {W : World} {base : Nat} (fuel : Nat) (cs : List Value) (x : DataW H × List MemPlace) (h : DataW.trod enc Try.prog W base (fun _ => true) true fuel 62 cs = some x) :
    ∃ c0 d t, cs = [c0] ∧ CflsAt W d c0 t := by
  rcases DataW.trod_slice und_cfls h with ⟨hcs, _⟩ | ⟨a, len, cap, elems, rest, m, hm, hcs, _, hb, hlc, hcm, hel, hget, _, _⟩
  · exact ⟨_, 0, [], hcs, none, 0, rfl, Nat.le_refl _, by omega, fun j hj => by simp at hj⟩
  · have first : 0 < len → a.spot = none := by
      intro h0
      have hg0 := hget 0 h0
      rw [cells_cfl, List.getElem?_eq_getElem (by omega)] at hg0
      obtain ⟨cs2, hc2, ht2⟩ := Option.bind_eq_some_iff.1 hg0
      obtain ⟨d0, d1, dd, t, rfl, _⟩ := cfl_open m cs2 _ ht2
      obtain ⟨_, _, hc⟩ := World.cells?_some hc2
      have e0 := hc 0 (by omega)
      exact World.cell?_spot (show W.cell? a = some d0 from e0)
    obtain ⟨b, off, spot⟩ := a
    have each : ∀ j, j < len → ∃ t : Cfl × Nat, ∃ c0 c1, spot = none ∧ b < W.heap.size ∧ W.cell? ⟨b, off + j * 2, none⟩ = some c0 ∧ W.cell? ⟨b, off + j * 2 + 1, none⟩ = some c1 ∧ CflAt W t.2 (.agg #[c0, c1]) t.1 := by
      intro j hj
      have hgj := hget j hj
      have hspot : spot = none := first (by omega)
      subst hspot
      rw [cells_cfl, List.getElem?_eq_getElem (by omega), ty_addr] at hgj
      obtain ⟨cs2, hc2, ht2⟩ := Option.bind_eq_some_iff.1 hgj
      obtain ⟨d0, d1, dd, t, rfl, hty⟩ := cfl_open m cs2 _ ht2
      obtain ⟨_, _, hc⟩ := World.cells?_some hc2
      have e0 := hc 0 (by omega)
      have e1 := hc 1 (by omega)
      rw [ty_addr] at e0 e1
      exact ⟨(t, dd), d0, d1, rfl, World.cells?_block hc2 (by omega), e0, e1, hty⟩
    obtain ⟨ts, hts, hp⟩ := list_choose len each
    have hmx : ∀ (l : List (Cfl × Nat)), ∃ d, ∀ j (h : j < l.length), l[j].2 ≤ d := by
      intro l
      induction l with
      | nil => exact ⟨0, fun j h => by simp at h⟩
      | cons y r ih =>
        obtain ⟨d, hd⟩ := ih
        refine ⟨y.2 + d, fun j h => ?_⟩
        cases j with
        | zero => simp
        | succ j => have := hd j (by simpa using h); simp only [List.getElem_cons_succ]; omega
    obtain ⟨d, hd⟩ := hmx ts
    refine ⟨_, d, ts.map Prod.fst, hcs, some ⟨b, off, spot⟩, cap, by rw [List.length_map, hts], by rw [List.length_map]; omega, by unfold maxLen at hcm; omega, fun j hj => ?_⟩
    rw [List.length_map] at hj
    obtain ⟨c0, c1, rfl, h1, g0, g1, h5⟩ := hp j hj
    refine ⟨b, off, c0, c1, rfl, h1, g0, g1, ?_⟩
    rw [List.getElem_map]
    exact h5.mono (hd j hj)
set_option maxRecDepth 100000 in
set_option maxHeartbeats 4000000 in
theorem cfls_of_arg {H : Type} {enc : TypeId × Value → H} {W : World} {base b0 : Nat} {v : Value} {x : DataW H} {ps : List MemPlace} (hval : Value.okWide Try.prog W .any b0 62 v)
    (h : DataW.Trod enc Try.prog W base (fun _ => true) true 62 v x ps) : ∃ d t, CflsAt W d v t := by
  obtain ⟨a0, len, cap, rfl⟩ := okWide_slice und_cfls hval
  obtain ⟨fuel, hf⟩ := h
  obtain ⟨c0, d, t, hc, ht⟩ := cfls_open fuel _ _ hf
  cases hc
  exact ⟨d, t, ht⟩
end Go.Proofs.Ytajikfageppobaa
