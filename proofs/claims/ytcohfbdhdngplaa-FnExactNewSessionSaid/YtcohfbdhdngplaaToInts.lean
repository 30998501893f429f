/-
  Proved: laws.toIntS copies a slice of at most 2^20 numbers into new memory, and leaves the memory that was there as it was.
-/
import Derived.Test.YtcohfbdhdngplaaInts
namespace Go.Proofs.Ytcohfbdhdngplaa
open Go.RowKit

theorem iset_next (ss : List Int) (k : Nat) (hk : k < ss.length) :
    ((ss.take k).map (Value.int IntKind.i64) ++ List.replicate (ss.length - k) (Value.int IntKind.i64 0)).set k (.int .i64 ss[k]) = (ss.take (k + 1)).map (Value.int IntKind.i64) ++ List.replicate (ss.length - (k + 1)) (Value.int IntKind.i64 0) := by
  apply List.ext_getElem
  · simp; omega
  · intro i h1 h2
    simp at h1 h2
    rw [List.getElem_set]
    by_cases hi : k = i
    · subst hi
      rw [if_pos rfl, List.getElem_append_left (by simp; omega)]
      simp
    · rw [if_neg hi]
      by_cases hlt : i < k
      · rw [List.getElem_append_left (by simp; omega), List.getElem_append_left (by simp; omega)]
        simp
      · rw [List.getElem_append_right (by simp; omega), List.getElem_append_right (by simp; omega)]
        simp

set_option maxRecDepth 100000 in
set_option maxHeartbeats 1000000 in
theorem toInts (v : Value) (ss : List Int) (hn : ss.length ≤ 1048576) (w : World) (h : Ints w v ss) :
    Calls Try.prog 118 #[v] w (CopyIEnd ss w) := by
  obtain ⟨i0, hi, hz0, hz1, hz2⟩ := info_parts info_i
  obtain ⟨a, cap, rfl, hcap, hat⟩ := h
  have HC := Lib.hid hat; clear hat
  go_enter Try.func118, Try.ntmps118
  go_wp2_with (at_make; refine wpList_make_full _ rfl _ _ 45 rfl w.heap.size 3 i0 (.int .i64 0) 1 Try.underlying45 hi hz0 hz1 .i64 .i64 _ _ ss.length rfl rfl rfl rfl (by rw [hz2]; omega) (by unfold maxLen; omega) (Nat.le_refl _) ?_; intro w0 hown0 hg0; refine Hid.out ?_)
  refine Lib.hid ?_
  have hb0 : Below w.heap.size w w0 := (Below.refl _ w).grown hg0 (Nat.le_refl _) (fun k hk => by cases hk)
  have hown1 : w0.ownsRow w.heap.size 3 1 (.slice (some ⟨w.heap.size, 0, none⟩) ss.length ss.length) ss.length ((ss.take 0).map (Value.int IntKind.i64) ++ List.replicate (ss.length - 0) (Value.int IntKind.i64 0)) := by
    have : (madeCells (Value.int IntKind.i64 0).cells (ss.length * 1)).toList = List.replicate ss.length (Value.int IntKind.i64 0) := by rw [Nat.mul_one]; exact toList_madeCells_one _ _
    rw [this] at hown0; simpa using hown0
  have HO := Lib.hid hown1; clear hown1 hown0 hg0 hi hz0 hz1 hz2
  have HB := Lib.hid hb0; clear hb0
  go_wp2_with fail
  go_loopw [4] (fun i wr => ∃ k : Nat, k ≤ ss.length ∧ i = .int .i64 k ∧ wr.ownsRow w.heap.size 3 1 (.slice (some ⟨w.heap.size, 0, none⟩) ss.length ss.length) ss.length ((ss.take k).map (Value.int IntKind.i64) ++ List.replicate (ss.length - k) (Value.int IntKind.i64 0)) ∧ Below w.heap.size w wr) (fun i _ => ss.length - (intOf i).toNat)
  case atStart => exact ⟨0, by omega, rfl, HO.out, HB.out⟩
  case round =>
    obtain ⟨k, hk, rfl, hown, hb⟩ := hrel
    by_cases hlt : k < ss.length
    · obtain ⟨b, off, rfl, hbl, hcell⟩ := HC.out k hlt
      have c0 : wr.cell? ⟨b, off + k, none⟩ = some (.int .i64 ss[k]) := by rw [hb.cell (p := ⟨b, off + k, none⟩) hbl]; exact hcell
      have c1 : ∃ u, wr.cell? ⟨w.heap.size, k, none⟩ = some u := by
        rw [hown.cellAt k (by omega)]
        exact ⟨_, List.getElem?_eq_getElem (by simp; omega)⟩
      obtain ⟨u, c1⟩ := c1
      have f1 := hown.frozenAt k
      have hst := hown.stored k (.int .i64 ss[k])
      have HS := Lib.hid hst; clear hst
      have HB2 := Lib.hid hb; clear hb hown hcell
      go_wp2_with fail
      exact ⟨⟨k + 1, by omega, by go_num, by rw [← iset_next ss k hlt]; exact HS.out.1, HB2.out.setCell (Nat.le_refl _) _⟩, by simp [intOf]; omega⟩
    · go_wp2_with fail
      go_ret
      have : k = ss.length := by omega
      subst this
      refine ⟨_, rfl, ?_, hb⟩
      simpa using hown
end Go.Proofs.Ytcohfbdhdngplaa
