/-
  Proved: spec.l3Left takes a tree's nodes from what is left, and spec.IsValidType says whether a tree is a valid type; both leave the memory that was there as it was.
-/
import Derived.Test.YtcohfbdhdngplaaDoorSpecForm
import Derived.Test.YtcohfbdhdngplaaDoorOwnTree
namespace Go.Proofs.YtcohfbdhdngplaaDoor
open Go.RowKit

/-- What is left behind n nodes; -1 where there were more than that. -/
def leftOf (n : Nat) (left : Int) : Int := if (n : Int) ≤ left then left - n else -1
theorem leftOf_add (n p : Nat) (left : Int) (h : 0 ≤ leftOf n left) : leftOf p (leftOf n left) = leftOf (n + p) left := by
  unfold leftOf at h ⊢
  split at h
  · rename_i h1
    rw [if_pos h1]
    by_cases h2 : (p : Int) ≤ left - n
    · rw [if_pos h2, if_pos (by omega)]; omega
    · rw [if_neg h2, if_neg (by omega)]
  · omega
theorem leftOf_neg (n p : Nat) (left : Int) (h : leftOf n left < 0) (hp : n ≤ p) : leftOf n left = leftOf p left := by
  unfold leftOf at h ⊢
  split at h
  · omega
  · rename_i h1
    rw [if_neg h1, if_neg (by omega)]
theorem leftOf_bound (n : Nat) (left : Int) (hl : 0 ≤ left) : -1 ≤ leftOf n left ∧ leftOf n left ≤ left := by
  unfold leftOf; split <;> omega

set_option maxRecDepth 100000 in
set_option maxHeartbeats 2000000 in
theorem specLeft : ∀ (d : Nat) (v : Value) (t : Ty) (left : Int) (w : World), 0 ≤ left → left ≤ 1048576 → TyAt w d v t → t.size ≤ 1152921504606846976 →
    Calls Tryd.prog 156 #[v, .int .i64 left] w fun e w' => e = .returned (.int .i64 (leftOf t.size left)) ∧ Below w.heap.size w w'
  | 0, _, _, _, _, _, _, h, _ => h.elim
  | d + 1, v, .node kd ts, left, w, hl0, hl1, h, hsz => by
    have IH : Hid (∀ (v : Value) (t : Ty) (left : Int) (w : World), 0 ≤ left → left ≤ 1048576 → TyAt w d v t → t.size ≤ 1152921504606846976 → Calls Tryd.prog 156 #[v, .int .i64 left] w fun e w' => e = .returned (.int .i64 (leftOf t.size left)) ∧ Below w.heap.size w w') := specLeft d
    obtain ⟨sl, rfl, hk0, hk1, a, cap, rfl, hcap, hcap2, hat⟩ := h
    have HAT := Lib.hid hat; clear hat
    have hlen : ts.length ≤ 1152921504606846976 := by have := Ty.length_le ts; simp [Ty.size] at hsz; omega
    have HSZ : Hid (Ty.sizes ts + 1 ≤ 1152921504606846976) := by simp [Ty.size] at hsz; show _ ≤ _; omega
    clear hsz
    go_enter Tryd.func156, Tryd.ntmps156
    go_wp2_with fail
    go_loopw [1, 5] (fun l i wr => ∃ (k : Nat) (m : Int), k ≤ ts.length ∧ i = .int .i64 k ∧ l = .int .i64 m ∧ m = leftOf (1 + Ty.sizes (ts.take k)) left ∧ Below (w.heap.size + 1) (w.alloc (.cells #[.int .i64 kd, .slice a ts.length cap] 32)) wr) (fun _ i _ => ts.length - (intOf i).toNat)
    case atStart => exact ⟨0, left - 1, by omega, rfl, rfl, by simp [Ty.sizes, leftOf]; omega, Below.refl _ _⟩
    case round =>
      obtain ⟨k, m, hk, rfl, rfl, hm, hb⟩ := hrel
      have HM := Lib.hid hm; clear hm
      have mb : -1 ≤ m ∧ m ≤ 1048576 := by have := leftOf_bound (1 + Ty.sizes (ts.take k)) left hl0; rw [HM.out]; omega
      obtain ⟨mb0, mb1⟩ := mb
      have c1 := box_cell hb 1
      have HB := Lib.hid (box_below hb)
      have HBX := Lib.hid hb; clear hb
      by_cases hlt : k < ts.length
      · by_cases hneg : m < 0
        · have hfin : m = leftOf (1 + Ty.sizes ts) left := by
            have h1 := HM.out
            have h2 := Ty.sizes_le ts k
            rw [h1]; rw [h1] at hneg
            exact leftOf_neg _ _ left hneg (by omega)
          have HFIN := Lib.hid hfin; clear hfin
          go_wp2_with fail
          go_ret
          exact ⟨by rw [HFIN.out]; rfl, HB.out⟩
        · obtain ⟨b, off, x0, x1, rfl, hbl, hc0, hc1, ht⟩ := HAT.out k hlt
          have hg := Ty.size_get ts k hlt
          have HS2 := HSZ.out
          have e0 : wr.cell? ⟨b, off + k * 2, none⟩ = some x0 := by rw [HB.out.cell (p := ⟨b, off + k * 2, none⟩) hbl]; exact hc0
          have e1 : wr.cell? ⟨b, off + k * 2 + 1, none⟩ = some x1 := by rw [HB.out.cell (p := ⟨b, off + k * 2 + 1, none⟩) hbl]; exact hc1
          have HT := Lib.hid (ht.below HB.out)
          clear ht hc0 hc1
          go_wp2_with fail
          refine (IH.out _ _ m wr (by omega) mb1 HT.out (by omega)).mono ?_
          rintro e w' ⟨rfl, hb1⟩
          have HN := Lib.hid (box_next HBX.out hb1); clear hb1
          have HT2 := Lib.hid (Ty.sizes_take ts k hlt)
          have hnew : leftOf ts[k].size m = leftOf (1 + Ty.sizes (ts.take (k + 1))) left := by
            have h1 := HM.out
            rw [HT2.out, h1, leftOf_add _ _ _ (by rw [← h1]; omega), Nat.add_assoc]
          have HNEW := Lib.hid hnew; clear hnew
          go_wp2_with fail
          exact ⟨⟨k + 1, _, by omega, by go_num, rfl, HNEW.out, HN.out⟩, by simp [intOf]; omega⟩
      · obtain rfl : k = ts.length := by omega
        have HFIN : Hid (m = leftOf (1 + Ty.sizes ts) left) := by have := HM.out; rw [List.take_length] at this; exact this
        go_wp2_with fail
        go_ret
        exact ⟨by rw [HFIN.out]; rfl, HB.out⟩

/-- A valid type: at most 800 nodes, at most 24 deep, and every node of a kind's form. -/
def Ty.valid (t : Ty) : Bool := decide (t.size ≤ 800) && decide (t.depth ≤ 24) && t.form
set_option maxRecDepth 100000 in
set_option maxHeartbeats 2000000 in
theorem specValid (d : Nat) (v : Value) (t : Ty) (w : World) (h : TyAt w d v t) (hsz : t.size ≤ 1048577) :
    Calls Tryd.prog 145 #[v] w fun e w' => e = .returned (.bool t.valid) ∧ Below w.heap.size w w' := by
  have HT := Lib.hid h
  obtain ⟨yk, ya, yn, yc, rfl⟩ : ∃ k a n c, v = .agg #[.int .i64 k, .slice a n c] := by
    cases d with
    | zero => exact h.elim
    | succ d => cases t with | node k ts => obtain ⟨sl, rfl, _, _, a, cap, rfl, _⟩ := h; exact ⟨_, _, _, _, rfl⟩
  clear h
  have E0 : Below w.heap.size w (w.alloc (.cells #[.int .i64 yk, .slice ya yn yc] 32)) := (Below.refl _ _).alloc (Nat.le_refl _) _
  have HT0 := Lib.hid (HT.out.below E0)
  clear E0
  go_enter Tryd.func145, Tryd.ntmps145
  go_wp2_with fail
  refine (specLeft d _ t 800 _ (by omega) (by omega) HT0.out (by omega)).mono ?_
  rintro e w1 ⟨rfl, hb1⟩
  have B1 := Lib.hid (box_next (Below.refl _ _) hb1); clear hb1
  have c0 := box_cell B1.out 0
  have c1 := box_cell B1.out 1
  have hl : leftOf t.size 800 = if (t.size : Int) ≤ 800 then 800 - (t.size : Int) else -1 := rfl
  by_cases q1 : t.size ≤ 800
  · rw [if_pos (by omega)] at hl
    rw [hl]; clear hl
    have hge : ¬ (800 - (t.size : Int) < 0) := by omega
    go_wp2_with fail
    refine (specDepth d _ t _ (HT.out.below (box_below B1.out)) (by omega)).mono ?_
    rintro e w2 ⟨rfl, hb2⟩
    have B2 := Lib.hid (box_next B1.out hb2); clear hb2 B1 c0 c1
    have c0 := box_cell B2.out 0
    have c1 := box_cell B2.out 1
    have hdl : t.depth ≤ 1048577 := by have := t.depth_le; omega
    by_cases q2 : t.depth ≤ 24
    · go_wp2_with fail
      refine (specForm d _ t _ (HT.out.below (box_below B2.out)) (by omega)).mono ?_
      rintro e w3 ⟨rfl, hb3⟩
      have B3 := Lib.hid (box_next B2.out hb3); clear hb3 B2 c0 c1
      go_wp2_with fail
      go_ret
      exact ⟨by simp [Ty.valid, q1, q2], box_below B3.out⟩
    · go_wp2_with fail
      go_ret
      exact ⟨by simp [Ty.valid, q2], box_below B2.out⟩
  · rw [if_neg (by omega)] at hl
    rw [hl]; clear hl
    go_wp2_with fail
    go_ret
    exact ⟨by simp [Ty.valid, q1], box_below B1.out⟩
end Go.Proofs.YtcohfbdhdngplaaDoor
