/-
  Proved: spec.DepthOfType returns the depth of every tree of at most 2^60 nodes, and leaves the memory that was there as it was.
-/
import Derived.Test.YtcohfbdhdngplaaDoorTree
namespace Go.Proofs.YtcohfbdhdngplaaDoor
open Go.RowKit

mutual
def Ty.depth : Ty → Nat
  | .node _ ts => 1 + Ty.depths ts
def Ty.depths : List Ty → Nat
  | [] => 0
  | t :: r => max t.depth (Ty.depths r)
end
theorem Ty.depths_take (ts : List Ty) : ∀ k (h : k < ts.length), Ty.depths (ts.take (k + 1)) = max (Ty.depths (ts.take k)) ts[k].depth := by
  induction ts with
  | nil => intro k h; simp at h
  | cons s r ih =>
    intro k h
    cases k with
    | zero => simp [Ty.depths]
    | succ k =>
      simp only [List.take_succ_cons, Ty.depths, List.getElem_cons_succ]
      rw [ih k (by simpa using h)]; omega
mutual
theorem Ty.depth_le : ∀ t : Ty, t.depth ≤ t.size
  | .node _ ts => by have := Ty.depths_le ts; simp only [Ty.depth, Ty.size]; omega
theorem Ty.depths_le : ∀ ts : List Ty, Ty.depths ts ≤ Ty.sizes ts
  | [] => Nat.le_refl _
  | t :: r => by have := Ty.depth_le t; have := Ty.depths_le r; simp only [Ty.depths, Ty.sizes]; omega
end

set_option maxRecDepth 100000 in
set_option maxHeartbeats 1000000 in
theorem specMax (a b : Int) (w : World) : Calls Tryd.prog 104 #[.int .i64 a, .int .i64 b] w fun e w' => e = .returned (.int .i64 (max a b)) ∧ w' = w := by
  by_cases h : b < a
  · go_enter Tryd.func104, Tryd.ntmps104
    go_wp2_with fail
    go_ret
    exact ⟨by rw [Int.max_eq_left (by omega)]; rfl, rfl⟩
  · go_enter Tryd.func104, Tryd.ntmps104
    go_wp2_with fail
    go_ret
    exact ⟨by rw [Int.max_eq_right (by omega)]; rfl, rfl⟩

set_option maxRecDepth 100000 in
set_option maxHeartbeats 1000000 in
theorem specDepth : ∀ (d : Nat) (v : Value) (t : Ty) (w : World), TyAt w d v t → t.size ≤ 1152921504606846976 →
    Calls Tryd.prog 147 #[v] w fun e w' => e = .returned (.int .i64 (t.depth : Int)) ∧ Below w.heap.size w w'
  | 0, _, _, _, h, _ => h.elim
  | d + 1, v, .node kd ts, w, h, hsz => by
    have IH : Hid (∀ (v : Value) (t : Ty) (w : World), TyAt w d v t → t.size ≤ 1152921504606846976 → Calls Tryd.prog 147 #[v] w fun e w' => e = .returned (.int .i64 (t.depth : Int)) ∧ Below w.heap.size w w') := specDepth d
    obtain ⟨sl, rfl, hk0, hk1, a, cap, rfl, hcap, hcap2, hat⟩ := h
    have HAT := Lib.hid hat; clear hat
    have hlen : ts.length ≤ 1152921504606846976 := by have := Ty.length_le ts; simp [Ty.size] at hsz; omega
    have HSZ : Hid (Ty.sizes ts + 1 ≤ 1152921504606846976) := by simp [Ty.size] at hsz; show _ ≤ _; omega
    clear hsz
    go_enter Tryd.func147, Tryd.ntmps147
    go_wp2_with fail
    go_loopw [3, 4] (fun n i wr => ∃ k : Nat, k ≤ ts.length ∧ i = .int .i64 k ∧ n = .int .i64 (Ty.depths (ts.take k) : Int) ∧ Below (w.heap.size + 1) (w.alloc (.cells #[.int .i64 kd, .slice a ts.length cap] 32)) wr) (fun _ i _ => ts.length - (intOf i).toNat)
    case atStart => exact ⟨0, by omega, rfl, by simp [Ty.depths], Below.refl _ _⟩
    case round =>
      obtain ⟨k, hk, rfl, rfl, hb⟩ := hrel
      have c1 := box_cell hb 1
      have HB := Lib.hid (box_below hb)
      have HBX := Lib.hid hb; clear hb
      have HS1 := Ty.sizes_le ts k
      have HS2 := HSZ.out
      by_cases hlt : k < ts.length
      · obtain ⟨b, off, x0, x1, rfl, hbl, hc0, hc1, ht⟩ := HAT.out k hlt
        have hg := Ty.size_get ts k hlt
        have e0 : wr.cell? ⟨b, off + k * 2, none⟩ = some x0 := by rw [HB.out.cell (p := ⟨b, off + k * 2, none⟩) hbl]; exact hc0
        have e1 : wr.cell? ⟨b, off + k * 2 + 1, none⟩ = some x1 := by rw [HB.out.cell (p := ⟨b, off + k * 2 + 1, none⟩) hbl]; exact hc1
        have HT := Lib.hid (ht.below HB.out)
        clear ht hc0 hc1
        go_wp2_with fail
        refine (IH.out _ _ wr HT.out (by omega)).mono ?_
        rintro e w' ⟨rfl, hb1⟩
        have HN := Lib.hid (box_next HBX.out hb1)
        have HT2 := Lib.hid (Ty.depths_take ts k hlt)
        have D1 : Ty.depths (ts.take k) ≤ 1152921504606846976 := by have := Ty.depths_le (ts.take k); omega
        have D2 : ts[k].depth ≤ 1152921504606846976 := by have := ts[k].depth_le; omega
        clear hb1
        go_wp2_with fail
        refine (specMax _ _ w').mono ?_
        rintro e w2 ⟨rfl, rfl⟩
        go_wp2_with fail
        exact ⟨⟨k + 1, by omega, by go_num, by rw [HT2.out]; go_num, HN.out⟩, by simp [intOf]; omega⟩
      · obtain rfl : k = ts.length := by omega
        have D1 : Ty.depths (ts.take ts.length) ≤ 1152921504606846976 := by have := Ty.depths_le (ts.take ts.length); omega
        rw [List.take_length] at D1 ⊢
        go_wp2_with fail
        go_ret
        refine ⟨?_, HB.out⟩
        show Ending.returned (.int .i64 ((Ty.depths ts : Int) + 1)) = Ending.returned (.int .i64 ((1 + Ty.depths ts : Nat) : Int))
        rw [show ((1 + Ty.depths ts : Nat) : Int) = (Ty.depths ts : Int) + 1 from by omega]
end Go.Proofs.YtcohfbdhdngplaaDoor
