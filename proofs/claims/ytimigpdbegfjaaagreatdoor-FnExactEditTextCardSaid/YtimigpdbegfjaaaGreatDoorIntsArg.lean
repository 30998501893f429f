/-
  Proved: a slice of numbers that came in as an argument reads as a list of numbers that an int holds.
-/
import Derived.Test.YtimigpdbegfjaaaGreatDoorInts
import Derived.Test.YtimigpdbegfjaaaGreatDoorLaw
import Derived.SliceStrings
namespace Go.Proofs.YtimigpdbegfjaaaGreatDoor
open Go.ChangeShapes Go.WideShapes Go.ChangeAt Go.RowKit Go.WideMaps Go.WideElems

set_option maxRecDepth 100000 in
theorem Ints.of_arg {H : Type} {enc : TypeId × Value → H} {W : World} {base b0 : Nat} {v : Value} {d : DataW H} {ps : List MemPlace} (hval : Value.okWide Tryz.prog W .any b0 28 v)
    (h : DataW.Trod enc Tryz.prog W base (fun _ => true) true 28 v d ps) : ∃ ss, Ints W v ss ∧ ss.length ≤ 9223372036854775807 ∧ ∀ n ∈ ss, -9223372036854775808 ≤ n ∧ n ≤ 9223372036854775807 := by
  obtain ⟨a0, len, cap, rfl⟩ := okWide_slice Tryz.underlying28 hval
  obtain ⟨fuel, hf⟩ := h
  have cells : Tryz.prog.cellsOf 3 = 1 := by kernel_rfl
  rcases open_ints Tryz.underlying28 Tryz.underlying3 cells hf with ⟨hcs, hx⟩ | ⟨a, len', cap', ss, hcs, _, hl, hm, hz, hx, hcell, hws⟩
  · simp [Value.cells] at hcs
    obtain ⟨rfl, rfl, rfl⟩ := hcs
    exact ⟨[], Ints.nil _ _, by simp, fun n h => by simp at h⟩
  · simp [Value.cells] at hcs
    obtain ⟨rfl, rfl, rfl⟩ := hcs
    simp at hz
    have hlen : (ss.take len).length = len := by rw [List.length_take]; omega
    refine ⟨ss.take len, ?_, by unfold maxLen at hm; omega, fun n h => ?_⟩
    · refine ⟨some a, cap, by rw [hlen], by omega, fun j hj => ?_⟩
      obtain ⟨b, off, spot⟩ := a
      have hspot : spot = none := by simpa [Addr.add] using World.cell?_spot (hcell 0 (by omega))
      subst hspot
      have hj' : j < ss.length := by omega
      have hc := hcell j hj'
      rw [addr_add] at hc
      refine ⟨b, off, rfl, ?_, ?_⟩
      · by_cases hlt : b < W.heap.size
        · exact hlt
        · exfalso
          simp [World.cell?, Array.getElem?_eq_none (Nat.le_of_not_lt hlt)] at hc
      · rw [hc]
        simp [List.getD, hj']
    · have := hws n (List.mem_of_mem_take h)
      simp [Lit.wf, IntKind.min, IntKind.max, IntKind.signed, IntKind.bits] at this
      omega
end Go.Proofs.YtimigpdbegfjaaaGreatDoor
