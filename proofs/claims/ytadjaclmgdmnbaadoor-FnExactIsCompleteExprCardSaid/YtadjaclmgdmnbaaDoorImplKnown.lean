/-
  Proved: impl.isKnown and impl.IsCompleteType say whether no part of a type is unknown; the memory that was there stays as it was.
-/
import Derived.Test.YtadjaclmgdmnbaaDoorSpecKnown
import Derived.Test.YtadjaclmgdmnbaaDoorImplValid
namespace Go.Proofs.YtadjaclmgdmnbaaDoor
open Go.RowKit

set_option maxRecDepth 100000 in
set_option maxHeartbeats 2000000 in
theorem implKnown : ∀ (d : Nat) (v : Value) (t : Ty) (w : World), TyAt w d v t → t.size ≤ 1152921504606846976 →
    Calls Tryd.prog 65 #[v] w fun e w' => e = .returned (.bool t.known) ∧ Below w.heap.size w w'
  | 0, _, _, _, h, _ => h.elim
  | d + 1, v, .node kd ts, w, h, hsz => by
    have IH : Hid (∀ (v : Value) (t : Ty) (w : World), TyAt w d v t → t.size ≤ 1152921504606846976 → Calls Tryd.prog 65 #[v] w fun e w' => e = .returned (.bool t.known) ∧ Below w.heap.size w w') := implKnown d
    obtain ⟨sl, rfl, hk0, hk1, a, cap, rfl, hcap, hcap2, hat⟩ := h
    have HAT := Lib.hid hat; clear hat
    have hlen : ts.length ≤ 1152921504606846976 := by have := Ty.length_le ts; simp [Ty.size] at hsz; omega
    have HSZ : Hid (Ty.sizes ts + 1 ≤ 1152921504606846976) := by simp [Ty.size] at hsz; show _ ≤ _; omega
    clear hsz
    by_cases q1 : kd = 1
    · subst q1
      go_enter Tryd.func65, Tryd.ntmps65
      go_wp2_with fail
      go_ret
      exact ⟨by simp [Ty.known], below_alloc _ _⟩
    have q2 : (kd == 1) = false := by simp [q1]
    go_enter Tryd.func65, Tryd.ntmps65
    go_wp2_with fail
    go_loopw [11] (fun i wr => ∃ k : Nat, k ≤ ts.length ∧ i = .int .i64 k ∧ Ty.knowns (ts.take k) = true ∧ Below (w.heap.size + 1) (w.alloc (.cells #[.int .i64 kd, .slice a ts.length cap] 32)) wr) (fun i _ => ts.length - (intOf i).toNat)
    case atStart => exact ⟨0, by omega, rfl, by simp [Ty.knowns], Below.refl _ _⟩
    case round =>
      obtain ⟨k, hk, rfl, hf, hb⟩ := hrel
      have HF := Lib.hid hf; clear hf
      have c0 := box_cell hb 0
      have c1 := box_cell hb 1
      have HB := Lib.hid (box_below hb)
      have HBX := Lib.hid hb; clear hb
      have HS2 := HSZ.out
      by_cases hlt : k < ts.length
      · obtain ⟨b, off, x0, x1, rfl, hbl, hc0, hc1, ht⟩ := HAT.out k hlt
        have hg := Ty.size_get ts k hlt
        obtain ⟨yk, ya, yn, yc, rfl, rfl⟩ := at_parts ht
        have e0 : wr.cell? ⟨b, off + k * 2, none⟩ = some (.int .i64 yk) := by rw [HB.out.cell (p := ⟨b, off + k * 2, none⟩) hbl]; exact hc0
        have e1 : wr.cell? ⟨b, off + k * 2 + 1, none⟩ = some (.slice ya yn yc) := by rw [HB.out.cell (p := ⟨b, off + k * 2 + 1, none⟩) hbl]; exact hc1
        have hp := below_alloc wr (.cells #[.int .i64 yk, .slice ya yn yc] 32)
        have HT := Lib.hid ((ht.below HB.out).below hp)
        have HPX := Lib.hid (box_next HBX.out hp)
        clear ht hc0 hc1 hp
        go_wp2_with fail
        refine (IH.out _ _ _ HT.out (by omega)).mono ?_
        rintro e w' ⟨rfl, hb1⟩
        have HN := Lib.hid (box_next HPX.out hb1); clear hb1
        have HT2 := Lib.hid (Ty.knowns_take ts k hlt)
        cases hfk : ts[k].known with
        | true =>
          have HFK := Lib.hid hfk; clear hfk
          go_wp2_with fail
          exact ⟨⟨k + 1, by omega, by go_num, by rw [HT2.out, HF.out, HFK.out]; rfl, HN.out⟩, by simp [intOf]; omega⟩
        | false =>
          have HFK := Lib.hid hfk; clear hfk
          go_wp2_with fail
          go_ret
          have e : Ty.knowns ts = false := Ty.knowns_false ts (k + 1) (by rw [HT2.out, HF.out, HFK.out]; rfl)
          exact ⟨by simp [Ty.known, e], box_below HN.out⟩
      · obtain rfl : k = ts.length := by omega
        have HFT : Hid (Ty.knowns ts = true) := by have := HF.out; rw [List.take_length] at this; exact this
        go_wp2_with fail
        go_ret
        exact ⟨by simp [Ty.known, HFT.out, q1], HB.out⟩
set_option maxRecDepth 100000 in
set_option maxHeartbeats 1000000 in
theorem implComplete (d : Nat) (v : Value) (t : Ty) (w : World) (h : TyAt w d v t) (hsz : t.size ≤ 1048577) :
    Calls Tryd.prog 54 #[v] w fun e w' => e = .returned (.bool (t.valid && t.known)) ∧ Below w.heap.size w w' := by
  have HT := Lib.hid h
  obtain ⟨yk, ya, yn, yc, rfl⟩ := agg_parts h
  clear h
  have E0 := below_alloc w (.cells #[.int .i64 yk, .slice ya yn yc] 32)
  have HT0 := Lib.hid (HT.out.below E0)
  clear E0
  go_enter Tryd.func54, Tryd.ntmps54
  go_wp2_with fail
  refine (implValid d _ t _ HT0.out hsz).mono ?_
  rintro e w1 ⟨rfl, hb1⟩
  have B1 := Lib.hid (box_next (Below.refl _ _) hb1); clear hb1
  have c0 := box_cell B1.out 0
  have c1 := box_cell B1.out 1
  cases hv : t.valid with
  | false =>
    go_wp2_with fail
    go_ret
    exact ⟨by simp [hv], box_below B1.out⟩
  | true =>
    go_wp2_with fail
    refine (implKnown d _ t _ (HT.out.below (box_below B1.out)) (by omega)).mono ?_
    rintro e w2 ⟨rfl, hb2⟩
    have B2 := Lib.hid (box_next B1.out hb2); clear hb2 B1 c0 c1
    go_wp2_with fail
    go_ret
    exact ⟨by simp [hv], box_below B2.out⟩
end Go.Proofs.YtadjaclmgdmnbaaDoor
