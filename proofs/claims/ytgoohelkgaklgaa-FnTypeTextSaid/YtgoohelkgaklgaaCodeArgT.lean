/-
  Proved: a slice of bytes that came in as an argument is a draw's code: its bytes lie in memory that was there before. On these terms: of at most 2^20 bytes; a longer one is told by its length.
-/
import Derived.Test.YtgoohelkgaklgaaCurTy
import Derived.Test.YtgoohelkgaklgaaLaw
namespace Go.Proofs.Ytgoohelkgaklgaa
open Go.ChangeShapes Go.WideShapes Go.ChangeAt Go.RowKit Go.WideMaps Go.WideElems

/-- In the world w the slice value v reads as n bytes. -/
def CodeArg (w : World) (v : Value) (n : Nat) : Prop :=
  ∃ a cap, v = .slice a n cap ∧ n ≤ 9223372036854775807 ∧ ∀ j, j < n → ∃ (b off : Nat) (x : Int), a = some ⟨b, off, none⟩ ∧ b < w.heap.size ∧ 0 ≤ x ∧ x ≤ 255 ∧ w.cell? ⟨b, off + j, none⟩ = some (.int .u8 x)
theorem CodeArg.code {w w' : World} {v : Value} {n : Nat} (h : CodeArg w v n) (hn : n ≤ 1048576) (hb : Below w.heap.size w w') : Code w'.heap.size w' v n := by
  obtain ⟨a, cap, rfl, _, h⟩ := h
  refine ⟨a, cap, rfl, hn, fun j hj => ?_⟩
  obtain ⟨b, off, x, ha, hlt, h0, h1, hc⟩ := h j hj
  exact ⟨b, off, x, ha, Nat.lt_of_lt_of_le hlt hb.size, h0, h1, by rw [hb.cell (p := ⟨b, off + j, none⟩) hlt]; exact hc⟩

set_option maxRecDepth 100000 in
theorem CodeArg.of_arg {H : Type} {enc : TypeId × Value → H} {W : World} {base b0 : Nat} {v : Value} {d : DataW H} {ps : List MemPlace} (hval : Value.okWide Try.prog W .any b0 22 v)
    (h : DataW.Trod enc Try.prog W base (fun _ => true) true 22 v d ps) : ∃ n, CodeArg W v n := by
  obtain ⟨a0, len, cap, rfl⟩ := okWide_slice Try.underlying22 hval
  obtain ⟨fuel, hf⟩ := h
  have cells : Try.prog.cellsOf 5 = 1 := by kernel_rfl
  rcases open_ints Try.underlying22 Try.underlying5 cells hf with ⟨hcs, hx⟩ | ⟨a, len', cap', zs, hcs, _, hl, hm, hz, hx, hcell, hwz⟩
  · simp [Value.cells] at hcs
    obtain ⟨rfl, rfl, rfl⟩ := hcs
    exact ⟨0, none, 0, rfl, by omega, fun j h => by omega⟩
  · simp [Value.cells] at hcs
    obtain ⟨rfl, rfl, rfl⟩ := hcs
    simp at hz
    refine ⟨len, some a, cap, rfl, by unfold maxLen at hm; omega, fun j hj => ?_⟩
    obtain ⟨b, off, spot⟩ := a
    have hspot : spot = none := by simpa [Addr.add] using World.cell?_spot (hcell 0 (by omega))
    subst hspot
    have hj' : j < zs.length := by omega
    have hc := hcell j hj'
    rw [addr_add] at hc
    have hw := bounds_u8 (hwz _ (List.getElem_mem hj'))
    refine ⟨b, off, zs[j], rfl, ?_, hw.1, hw.2, ?_⟩
    · by_cases hlt : b < W.heap.size
      · exact hlt
      · exfalso
        simp [World.cell?, Array.getElem?_eq_none (Nat.le_of_not_lt hlt)] at hc
    · rw [hc]
      simp [List.getD, hj']
end Go.Proofs.Ytgoohelkgaklgaa
