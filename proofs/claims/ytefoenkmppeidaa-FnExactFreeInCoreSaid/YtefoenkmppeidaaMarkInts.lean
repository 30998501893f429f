/-
  Proved: laws.markIntS overwrites the numbers of a slice of the call's own with marks and touches nothing else; laws.heldIntS finds them there.
-/
import Derived.Test.YtefoenkmppeidaaOnlyOwn
import Derived.Deep.RegionHeld3
import Derived.Deep.RegionWith
import Derived.BigQuiet
import Derived.Deep.QuietTactic
namespace Go.Proofs.Ytefoenkmppeidaa
open Go.RowKit

/-- The marks of n places, from k on. -/
def imarks (k : Int) (n : Nat) : List Int := (List.range n).map fun (j : Nat) => k + (j : Int)
theorem imarks_length (k : Int) (n : Nat) : (imarks k n).length = n := by simp [imarks]
theorem imarks_get (k : Int) (n j : Nat) (h : j < (imarks k n).length) : (imarks k n)[j] = k + j := by simp [imarks]
/-- What marking ends in. -/
def MarkIEnd (B : Nat) (k : Int) (v : Value) (n : Nat) (w : World) (e : Ending) (w' : World) : Prop :=
  e = .returned (.int .i64 (k + n)) ∧ w'.ownsRow B 3 1 v n ((imarks k n).map (Value.int IntKind.i64)) ∧ Below B w w' ∧ OnlyOwn v w w'

set_option maxRecDepth 100000 in
set_option maxHeartbeats 1000000 in
theorem markInts (B : Nat) (v : Value) (n : Nat) (xs : List Value) (k : Int) (hk0 : 0 ≤ k) (hk1 : k ≤ 1099511627776) (hn : n ≤ 4194304) (w : World) (hown : w.ownsRow B 3 1 v n xs) :
    Calls Try.prog 87 #[v, .int .i64 k] w (MarkIEnd B k v n w) := by
  have hx : Hid (xs.length = n) := by have := hown.1; show _ = _; omega
  have HO := Lib.hid hown
  rcases hown.2 with ⟨rfl, rfl⟩ | ⟨g, cap, cur, rfl, hBg, _, hnc, _⟩
  · clear hown
    go_enter Try.func87, Try.ntmps87
    go_wp2_with fail
    go_loop [1, 5] (fun m i => m = .int .i64 k ∧ i = .int .i64 0) (fun _ _ => 0)
    case atStart => exact ⟨rfl, rfl⟩
    case round =>
      obtain ⟨rfl, rfl⟩ := hrel
      go_wp2_with fail
      go_ret
      have e : xs = [] := List.length_eq_zero_iff.1 hx.out
      have ho := HO.out
      rw [e] at ho
      exact ⟨by simp, ho, Below.refl _ _, OnlyOwn.refl _ _⟩
  · have hgl := (hown.lt g rfl).2
    clear hown
    go_enter Try.func87, Try.ntmps87
    go_wp2_with fail
    go_loopw [1, 5] (fun m i wr => ∃ (j : Nat) (cs : List Value), j ≤ n ∧ i = .int .i64 j ∧ m = .int .i64 (k + j) ∧ cs.length = n ∧ (∀ t : Nat, t < j → cs[t]? = some (.int .i64 (k + (t : Int)))) ∧ wr.ownsRow B 3 1 (.slice (some ⟨g, 0, none⟩) n cap) n cs ∧ Below B w wr ∧ OnlyOwn (.slice (some ⟨g, 0, none⟩) n cap) w wr) (fun _ i _ => n - (intOf i).toNat)
    case atStart => exact ⟨0, xs, by omega, rfl, by simp, hx.out, fun t h => by omega, HO.out, Below.refl _ _, OnlyOwn.refl _ _⟩
    case round =>
      obtain ⟨j, cs, hj, rfl, rfl, hcs, hm, hown, hb, hoo⟩ := hrel
      have HM := Lib.hid hm; clear hm
      have HCS := Lib.hid hcs; clear hcs
      have HOO := Lib.hid hoo; clear hoo
      by_cases hlt : j < n
      · have HO2 := Lib.hid hown; clear hown
        have HB2 := Lib.hid hb; clear hb
        have c1 : ∃ u, wr.cell? ⟨g, j, none⟩ = some u := by
          rw [HO2.out.cellAt j (by omega)]
          exact ⟨_, List.getElem?_eq_getElem (by rw [HCS.out]; exact hlt)⟩
        obtain ⟨u, c1⟩ := c1
        have f1 := HO2.out.frozenAt j
        have HS := Lib.hid (HO2.out.stored j (.int .i64 (k + j)))
        go_wp2_with fail
        refine ⟨⟨j + 1, cs.set j (.int .i64 (k + j)), by omega, by go_num, by go_num, by rw [List.length_set]; exact HCS.out, fun t ht => ?_, HS.out.1, HB2.out.setCell hBg _, by simpa using HOO.out.1, fun b hb1 hb2 => ?_⟩, by simp [intOf]; omega⟩
        · rw [List.getElem?_set]
          by_cases e : j = t
          · subst e; rw [if_pos rfl, if_pos (by rw [HCS.out]; exact hlt)]
          · rw [if_neg e]; exact HM.out t (by omega)
        · rw [heap_setCell_other _ _ _ _ (fun e => hb2 (by rw [e]; rfl))]
          exact HOO.out.2 b hb1 hb2
      · obtain rfl : j = n := by omega
        go_wp2_with fail
        go_ret
        have e : cs = (imarks k j).map (Value.int IntKind.i64) := by
          apply List.ext_getElem?
          intro t
          by_cases ht : t < j
          · rw [HM.out t ht, List.getElem?_map, List.getElem?_eq_getElem (by rw [imarks_length]; exact ht), imarks_get]; rfl
          · rw [List.getElem?_eq_none (by rw [HCS.out]; omega), List.getElem?_eq_none (by rw [List.length_map, imarks_length]; omega)]
        subst e
        exact ⟨rfl, hown, hb, HOO.out⟩

set_option maxRecDepth 100000 in
set_option maxHeartbeats 1000000 in
theorem heldInts (v : Value) (n : Nat) (k : Int) (hk0 : 0 ≤ k) (hk1 : k ≤ 1099511627776) (hn : n ≤ 4194304) (w : World) (h : Ints w v (imarks k n)) :
    Calls Try.prog 89 #[v, .int .i64 k] w fun e w' => e = .returned (.int .i64 (k + n)) ∧ Below w.heap.size w w' := by
  obtain ⟨a, cap, rfl, hcap, hat⟩ := h
  rw [imarks_length] at hcap ⊢
  have HC := Lib.hid hat; clear hat
  go_enter Try.func89, Try.ntmps89
  go_wp2_with fail
  go_loopw [1, 5] (fun m i wr => ∃ (j : Nat), j ≤ n ∧ i = .int .i64 j ∧ m = .int .i64 (k + j) ∧ Below w.heap.size w wr) (fun _ i _ => n - (intOf i).toNat)
  case atStart => exact ⟨0, by omega, rfl, by simp, Below.refl _ _⟩
  case round =>
    obtain ⟨j, hj, rfl, rfl, hb⟩ := hrel
    by_cases hlt : j < n
    · obtain ⟨b, off, rfl, hbl, hcell⟩ := HC.out j (by rw [imarks_length]; exact hlt)
      rw [imarks_get] at hcell
      have c1 : wr.cell? ⟨b, off + j, none⟩ = some (.int .i64 (k + j)) := by rw [hb.cell (p := ⟨b, off + j, none⟩) hbl]; exact hcell
      have HB := Lib.hid hb; clear hb hcell
      go_wp2_with fail
      exact ⟨⟨j + 1, by omega, by go_num, by go_num, HB.out⟩, by simp [intOf]; omega⟩
    · go_wp2_with fail
      go_ret
      obtain rfl : j = n := by omega
      exact ⟨rfl, hb⟩
end Go.Proofs.Ytefoenkmppeidaa
