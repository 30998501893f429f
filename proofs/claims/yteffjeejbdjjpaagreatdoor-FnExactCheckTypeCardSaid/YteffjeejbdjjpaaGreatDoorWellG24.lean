/-
  Proved: spec.IsValidExpr says whether an expression is valid; the memory that was there stays as it was.
-/
import Derived.Test.YteffjeejbdjjpaaGreatDoorWellG23
import Derived.Test.YteffjeejbdjjpaaGreatDoorWellG8
import Derived.Test.YteffjeejbdjjpaaGreatDoorWellG9
import Derived.Test.YteffjeejbdjjpaaGreatDoorWellG1
/-
  Proved: spec.l6Left takes an expression's nodes but its marks from what is left; the memory that was there stays as it was.
-/
namespace Go.Proofs.YteffjeejbdjjpaaGreatDoor
open Go.RowKit

/-- What is left of a room behind an expression: below 0 only where it did not fit or has no right form. -/
def LeftsTo (t : Ex) (left r : Int) : Prop := -1 ≤ r ∧ r ≤ left ∧ (0 ≤ r → r = left - t.count) ∧ (t.form = true → (t.count : Int) ≤ left → 0 ≤ r)
/-- The same behind the first k parts. -/
def PartTo (es : List Ex) (k : Nat) (left m : Int) : Prop := -1 ≤ m ∧ m ≤ left ∧ (0 ≤ m → m = left - Ex.counts (es.take k)) ∧ (Ex.forms es = true → (Ex.counts es : Int) ≤ left → 0 ≤ m)
theorem PartTo.start {es : List Ex} {left : Int} (h : -1 ≤ left) : PartTo es 0 left left := by
  refine ⟨h, by omega, fun _ => by simp [Ex.counts], fun _ hc => by omega⟩
theorem PartTo.next {es : List Ex} {k : Nat} {left m r : Int} (h : PartTo es k left m) (hlt : k < es.length) (hm : 0 ≤ m) (h1 : LeftsTo es[k] m r) : PartTo es (k + 1) left r := by
  obtain ⟨a0, a1, a2, a3⟩ := h
  obtain ⟨b0, b1, b2, b3⟩ := h1
  have e := Ex.counts_take es k hlt
  have c := Ex.counts_le_all es (k + 1)
  have h0 := a2 hm
  refine ⟨b0, by omega, fun hr => by have := b2 hr; omega, fun hf hc => ?_⟩
  exact b3 (Ex.forms_get es k hlt hf) (by omega)
theorem LeftsTo.of_neg {kd : Int} {nm : ByteArray} {n : Int} {ty : Ty} {es : List Ex} {k c : Nat} {left l0 m : Int} (h : PartTo es k l0 m) (hn : m < 0) (hl : l0 ≤ left ∧ left - c ≤ l0 ∧ -1 ≤ l0) (hc : (Ex.node kd nm n ty es).count = c + Ex.counts es) : LeftsTo (.node kd nm n ty es) left m := by
  obtain ⟨a0, a1, a2, a3⟩ := h
  refine ⟨a0, by omega, fun hr => by omega, fun hf hcn => ?_⟩
  simp only [Ex.form, Bool.and_eq_true] at hf
  exact a3 hf.1 (by omega)
theorem LeftsTo.of_all {kd : Int} {nm : ByteArray} {n : Int} {ty : Ty} {es : List Ex} {c : Nat} {left l0 m : Int} (h : PartTo es es.length l0 m) (hl : l0 = left - c) (hc : (Ex.node kd nm n ty es).count = c + Ex.counts es) : LeftsTo (.node kd nm n ty es) left m := by
  obtain ⟨a0, a1, a2, a3⟩ := h
  rw [List.take_length] at a2
  refine ⟨a0, by omega, fun hr => by have := a2 hr; omega, fun hf hcn => ?_⟩
  simp only [Ex.form, Bool.and_eq_true] at hf
  exact a3 hf.1 (by omega)
theorem LeftsTo.bad {t : Ex} {left : Int} (hl : -1 ≤ left) (h : t.form = false) : LeftsTo t left (-1) :=
  ⟨by omega, hl, fun h => by omega, fun hf => by rw [h] at hf; cases hf⟩
set_option maxRecDepth 100000 in
set_option maxHeartbeats 4000000 in
theorem specExLeft : ∀ (d : Nat) (v : Value) (t : Ex) (left : Int) (w : World), 0 ≤ left → left ≤ 1048576 → ExAt w d v t → t.bulk ≤ 1048576 →
    Calls Tryz.prog 51 #[v, .int .i64 left] w fun e w' => ∃ r, e = .returned (.int .i64 r) ∧ LeftsTo t left r ∧ Below w.heap.size w w'
  | 0, _, _, _, _, _, _, h, _ => h.elim
  | d + 1, v, .node kd nm n ty es, left, w, hl0, hl1, h, hsz => by
    have IH : Hid (∀ (v : Value) (t : Ex) (left : Int) (w : World), 0 ≤ left → left ≤ 1048576 → ExAt w d v t → t.bulk ≤ 1048576 → Calls Tryz.prog 51 #[v, .int .i64 left] w fun e w' => ∃ r, e = .returned (.int .i64 r) ∧ LeftsTo t left r ∧ Below w.heap.size w w') := specExLeft d
    have HV := ex_parts h
    obtain ⟨c3, c4, sl, rfl, hk0, hk1, hn0, hn1, hnm, hty, a, cap, rfl, hcap, hcap2, hat⟩ := h
    obtain ⟨k', nm', n', tk, ta, tn, tc, sa, sn, sc, hv⟩ := HV
    injection hv with hv
    injection hv with hv
    simp at hv
    obtain ⟨rfl, rfl, rfl, rfl, rfl, rfl, rfl, rfl⟩ := hv
    have HAT := Lib.hid hat; clear hat
    have hbk : (Ex.node kd nm n ty es).bulk = nm.size + (ty.size - 1) + Ex.bulks es := rfl
    have HSZ : Hid (Ex.bulks es ≤ 1048576) := by show _ ≤ _; omega
    have HNM : Hid (nm.size ≤ 1048576) := by show _ ≤ _; omega
    have HTZ : Hid (ty.size ≤ 1048577) := by show _ ≤ _; omega
    have hlen : es.length ≤ 1048576 := by have := Ex.length_le es; omega
    clear hsz hbk hty
    by_cases q : kd = 14
    · subst q
      by_cases q1 : es.length = 1
      · have hpos : 0 < es.length := by omega
        have q1b : ((es.length : Int) == 1) = true := by simp [q1]
        have q1c : ((es.length : Int) != 1) = false := by simp [q1]
        clear q1
        obtain ⟨b, off, x0, x1, x2, x3, x4, x5, rfl, hbl, hc0, hc1, hc2, hc3, hc4, hc5, ht⟩ := HAT.out 0 (by omega)
        obtain ⟨yk, ynm, yn, ytk, yta, ytn, ytc, ya, ym, yc, rfl, rfl, rfl, rfl, rfl, rfl⟩ := ex_cells ht
        have HFIRST : Hid ((w.alloc (.cells #[.int .i64 14, .string nm, .int .i64 n, .int .i64 tk, .slice ta tn tc, .slice (some ⟨b, off, none⟩) es.length cap] 40)).cell? ⟨b, off, none⟩ = some (.int .i64 yk)) := by have := (below_alloc w (.cells #[.int .i64 14, .string nm, .int .i64 n, .int .i64 tk, .slice ta tn tc, .slice (some ⟨b, off, none⟩) es.length cap] 40)).cell (p := ⟨b, off, none⟩) hbl; show _ = _; rw [this]; simpa using hc0
        have e9 : w.cell? ⟨b, off, none⟩ = some (.int .i64 yk) := by simpa using hc0
        have HKIND := Lib.hid (ex_kind ht)
        clear ht hc0 hc1 hc2 hc3 hc4 hc5
        have e0 := HFIRST.out
        by_cases q2 : yk = 14
        · subst q2
          have NOFORM : Hid ((Ex.node 14 nm n ty es).form = false) := by
            have e : bareB 14 es = false := by cases es with | nil => simp at hpos | cons x r => simpa [bareB] using HKIND.out
            show _ = _; simp [Ex.form, e]
          go_enter Tryz.func51, Tryz.ntmps51
          go_wp2_with fail
          go_ret
          exact ⟨_, rfl, LeftsTo.bad (by omega) NOFORM.out, Below.refl _ _ |>.alloc (Nat.le_refl _) _⟩
        · have q2b : (yk == 14) = false := by simp [q2]
          have HFIN : Hid ((Ex.node 14 nm n ty es).count = 0 + Ex.counts es) := by show _ = _; simp [Ex.count]
          go_enter Tryz.func51, Tryz.ntmps51
          go_wp2_with fail
          refine (specBit _ _).mono ?_
          rintro e w9 ⟨rfl, rfl⟩
          go_wp2_with fail
          go_loopw [1, 5] (fun l i wr => ∃ (k : Nat) (m : Int), k ≤ es.length ∧ i = .int .i64 k ∧ l = .int .i64 m ∧ PartTo es k (left) m ∧ Below (w.heap.size + 1) (w.alloc (.cells #[.int .i64 14, .string nm, .int .i64 n, .int .i64 tk, .slice ta tn tc, .slice (some ⟨b, off, none⟩) es.length cap] 40)) wr) (fun _ i _ => es.length - (intOf i).toNat)
          case atStart => exact ⟨0, left, by omega, rfl, rfl, PartTo.start (by omega), Below.refl _ _⟩
          case round =>
            obtain ⟨k, m, hk, rfl, rfl, hm, hb⟩ := hrel
            have HM := Lib.hid hm; clear hm
            obtain ⟨mb0, mb1⟩ : -1 ≤ m ∧ m ≤ 1048576 := by have h1 := HM.out.1; have h2 := HM.out.2.1; omega
            have b0 := box_cell hb 0
            have b5 := box_cell hb 5
            have HB := Lib.hid (box_below hb)
            have HBX := Lib.hid hb; clear hb
            have HS2 := HSZ.out
            by_cases hlt : k < es.length
            · by_cases hneg : m < 0
              · go_wp2_with fail
                go_ret
                exact ⟨_, rfl, LeftsTo.of_neg (HM.out) hneg (by omega) HFIN.out, HB.out⟩
              · obtain ⟨b2, off2, x0, x1, x2, x3, x4, x5, hab, hbl, hc0, hc1, hc2, hc3, hc4, hc5, ht⟩ := HAT.out k hlt
                obtain ⟨rfl, rfl⟩ : b = b2 ∧ off = off2 := by simpa using hab
                have hg := Ex.bulk_get es k hlt
                have e0 : wr.cell? ⟨b, off + k * 6, none⟩ = some (x0) := by rw [HB.out.cell (p := ⟨b, off + k * 6, none⟩) hbl]; exact hc0
                have e1 : wr.cell? ⟨b, off + k * 6 + 1, none⟩ = some (x1) := by rw [HB.out.cell (p := ⟨b, off + k * 6 + 1, none⟩) hbl]; exact hc1
                have e2 : wr.cell? ⟨b, off + k * 6 + 2, none⟩ = some (x2) := by rw [HB.out.cell (p := ⟨b, off + k * 6 + 2, none⟩) hbl]; exact hc2
                have e3 : wr.cell? ⟨b, off + k * 6 + 3, none⟩ = some (x3) := by rw [HB.out.cell (p := ⟨b, off + k * 6 + 3, none⟩) hbl]; exact hc3
                have e4 : wr.cell? ⟨b, off + k * 6 + 4, none⟩ = some (x4) := by rw [HB.out.cell (p := ⟨b, off + k * 6 + 4, none⟩) hbl]; exact hc4
                have e5 : wr.cell? ⟨b, off + k * 6 + 5, none⟩ = some (x5) := by rw [HB.out.cell (p := ⟨b, off + k * 6 + 5, none⟩) hbl]; exact hc5
                have HT := Lib.hid (ht.below HB.out)
                clear ht hc0 hc1 hc2 hc3 hc4 hc5
                go_wp2_with fail
                refine (IH.out _ _ m wr (by omega) mb1 HT.out (by omega)).mono ?_
                rintro e w' ⟨r1, rfl, hr1, hb1⟩
                have HN := Lib.hid (box_next HBX.out hb1); clear hb1
                have HNEW := Lib.hid (HM.out.next hlt (by omega) hr1)
                clear hr1
                go_wp2_with fail
                exact ⟨⟨k + 1, _, by omega, by go_num, rfl, HNEW.out, HN.out⟩, by simp [intOf]; omega⟩
            · obtain rfl : k = es.length := by omega
              go_wp2_with fail
              go_ret
              exact ⟨_, rfl, LeftsTo.of_all HM.out (by omega) HFIN.out, HB.out⟩
      · have q1b : ((es.length : Int) == 1) = false := by simp; omega
        have NOFORM : Hid ((Ex.node 14 nm n ty es).form = false) := by
          have e : fitsB 14 nm n ty es.length = false := by
            have : ¬ ((es.length : Int) = arity 14) := by show ¬ (_ = (1 : Int)); omega
            simp [fitsB, this]
          show _ = _; simp [Ex.form, e]
        go_enter Tryz.func51, Tryz.ntmps51
        go_wp2_with fail
        go_ret
        exact ⟨_, rfl, LeftsTo.bad (by omega) NOFORM.out, Below.refl _ _ |>.alloc (Nat.le_refl _) _⟩
    · have qb0 : (kd == 14) = false := by simp [q]
      have HFIN : Hid ((Ex.node kd nm n ty es).count = 1 + Ex.counts es) := by show _ = _; simp [Ex.count, q]
      go_enter Tryz.func51, Tryz.ntmps51
      go_wp2_with fail
      refine (specBit _ _).mono ?_
      rintro e w9 ⟨rfl, rfl⟩
      go_wp2_with fail
      go_loopw [1, 5] (fun l i wr => ∃ (k : Nat) (m : Int), k ≤ es.length ∧ i = .int .i64 k ∧ l = .int .i64 m ∧ PartTo es k (left - 1) m ∧ Below (w.heap.size + 1) (w.alloc (.cells #[.int .i64 kd, .string nm, .int .i64 n, .int .i64 tk, .slice ta tn tc, .slice a es.length cap] 40)) wr) (fun _ i _ => es.length - (intOf i).toNat)
      case atStart => exact ⟨0, left - 1, by omega, rfl, rfl, PartTo.start (by omega), Below.refl _ _⟩
      case round =>
        obtain ⟨k, m, hk, rfl, rfl, hm, hb⟩ := hrel
        have HM := Lib.hid hm; clear hm
        obtain ⟨mb0, mb1⟩ : -1 ≤ m ∧ m ≤ 1048576 := by have h1 := HM.out.1; have h2 := HM.out.2.1; omega
        have b0 := box_cell hb 0
        have b5 := box_cell hb 5
        have HB := Lib.hid (box_below hb)
        have HBX := Lib.hid hb; clear hb
        have HS2 := HSZ.out
        by_cases hlt : k < es.length
        · by_cases hneg : m < 0
          · go_wp2_with fail
            go_ret
            exact ⟨_, rfl, LeftsTo.of_neg (HM.out) hneg (by omega) HFIN.out, HB.out⟩
          · obtain ⟨b, off, x0, x1, x2, x3, x4, x5, rfl, hbl, hc0, hc1, hc2, hc3, hc4, hc5, ht⟩ := HAT.out k hlt
            have hg := Ex.bulk_get es k hlt
            have e0 : wr.cell? ⟨b, off + k * 6, none⟩ = some (x0) := by rw [HB.out.cell (p := ⟨b, off + k * 6, none⟩) hbl]; exact hc0
            have e1 : wr.cell? ⟨b, off + k * 6 + 1, none⟩ = some (x1) := by rw [HB.out.cell (p := ⟨b, off + k * 6 + 1, none⟩) hbl]; exact hc1
            have e2 : wr.cell? ⟨b, off + k * 6 + 2, none⟩ = some (x2) := by rw [HB.out.cell (p := ⟨b, off + k * 6 + 2, none⟩) hbl]; exact hc2
            have e3 : wr.cell? ⟨b, off + k * 6 + 3, none⟩ = some (x3) := by rw [HB.out.cell (p := ⟨b, off + k * 6 + 3, none⟩) hbl]; exact hc3
            have e4 : wr.cell? ⟨b, off + k * 6 + 4, none⟩ = some (x4) := by rw [HB.out.cell (p := ⟨b, off + k * 6 + 4, none⟩) hbl]; exact hc4
            have e5 : wr.cell? ⟨b, off + k * 6 + 5, none⟩ = some (x5) := by rw [HB.out.cell (p := ⟨b, off + k * 6 + 5, none⟩) hbl]; exact hc5
            have HT := Lib.hid (ht.below HB.out)
            clear ht hc0 hc1 hc2 hc3 hc4 hc5
            go_wp2_with fail
            refine (IH.out _ _ m wr (by omega) mb1 HT.out (by omega)).mono ?_
            rintro e w' ⟨r1, rfl, hr1, hb1⟩
            have HN := Lib.hid (box_next HBX.out hb1); clear hb1
            have HNEW := Lib.hid (HM.out.next hlt (by omega) hr1)
            clear hr1
            go_wp2_with fail
            exact ⟨⟨k + 1, _, by omega, by go_num, rfl, HNEW.out, HN.out⟩, by simp [intOf]; omega⟩
        · obtain rfl : k = es.length := by omega
          go_wp2_with fail
          go_ret
          exact ⟨_, rfl, LeftsTo.of_all HM.out (by omega) HFIN.out, HB.out⟩
end Go.Proofs.YteffjeejbdjjpaaGreatDoor
/-
  Proved: spec.DepthOf measures the depth of an expression; the memory that was there stays as it was.
-/
namespace Go.Proofs.YteffjeejbdjjpaaGreatDoor
open Go.RowKit

set_option maxRecDepth 100000 in
set_option maxHeartbeats 2000000 in
theorem specExDepth : ∀ (d : Nat) (v : Value) (t : Ex) (w : World), ExAt w d v t → t.bulk ≤ 1048576 →
    Calls Tryz.prog 52 #[v] w fun e w' => e = .returned (.int .i64 (t.high : Int)) ∧ Below w.heap.size w w'
  | 0, _, _, _, h, _ => h.elim
  | d + 1, v, .node kd nm n ty es, w, h, hsz => by
    have IH : Hid (∀ (v : Value) (t : Ex) (w : World), ExAt w d v t → t.bulk ≤ 1048576 → Calls Tryz.prog 52 #[v] w fun e w' => e = .returned (.int .i64 (t.high : Int)) ∧ Below w.heap.size w w') := specExDepth d
    have HV := ex_parts h
    obtain ⟨c3, c4, sl, rfl, hk0, hk1, hn0, hn1, hnm, hty, a, cap, rfl, hcap, hcap2, hat⟩ := h
    obtain ⟨k', nm', n', tk, ta, tn, tc, sa, sn, sc, hv⟩ := HV
    injection hv with hv
    injection hv with hv
    simp at hv
    obtain ⟨rfl, rfl, rfl, rfl, rfl, rfl, rfl, rfl⟩ := hv
    have HAT := Lib.hid hat; clear hat
    have hbk : (Ex.node kd nm n ty es).bulk = nm.size + (ty.size - 1) + Ex.bulks es := rfl
    have HSZ : Hid (Ex.bulks es ≤ 1048576) := by show _ ≤ _; omega
    have hlen : es.length ≤ 1048576 := by have := Ex.length_le es; omega
    clear hsz hbk hty
    by_cases q : kd = 14
    · subst q
      have HFIN : Hid ((Ex.node 14 nm n ty es).high = Ex.highs es + 0) := by show _ = _; simp [Ex.high]
      go_enter Tryz.func52, Tryz.ntmps52
      go_wp2_with fail
      go_loopw [3, 4] (fun m i wr => ∃ k : Nat, k ≤ es.length ∧ i = .int .i64 k ∧ m = .int .i64 ((Ex.highs (es.take k) : Int)) ∧ Below (w.heap.size + 1) (w.alloc (.cells #[.int .i64 14, .string nm, .int .i64 n, .int .i64 tk, .slice ta tn tc, .slice a es.length cap] 40)) wr) (fun _ i _ => es.length - (intOf i).toNat)
      case atStart => exact ⟨0, by omega, rfl, by simp [Ex.highs], Below.refl _ _⟩
      case round =>
        obtain ⟨k, hk, rfl, rfl, hb⟩ := hrel
        have b0 := box_cell hb 0
        have b5 := box_cell hb 5
        have HB := Lib.hid (box_below hb)
        have HBX := Lib.hid hb; clear hb
        have HS1 := Ex.highs_part es k
        have HS2 := HSZ.out
        by_cases hlt : k < es.length
        · obtain ⟨b, off, x0, x1, x2, x3, x4, x5, rfl, hbl, hc0, hc1, hc2, hc3, hc4, hc5, ht⟩ := HAT.out k hlt
          have hg := Ex.bulk_get es k hlt
          have hg2 := Ex.high_le es[k]
          have hg3 := Ex.highs_part es (k + 1)
          have e0 : wr.cell? ⟨b, off + k * 6, none⟩ = some x0 := by rw [HB.out.cell (p := ⟨b, off + k * 6, none⟩) hbl]; exact hc0
          have e1 : wr.cell? ⟨b, off + k * 6 + 1, none⟩ = some x1 := by rw [HB.out.cell (p := ⟨b, off + k * 6 + 1, none⟩) hbl]; exact hc1
          have e2 : wr.cell? ⟨b, off + k * 6 + 2, none⟩ = some x2 := by rw [HB.out.cell (p := ⟨b, off + k * 6 + 2, none⟩) hbl]; exact hc2
          have e3 : wr.cell? ⟨b, off + k * 6 + 3, none⟩ = some x3 := by rw [HB.out.cell (p := ⟨b, off + k * 6 + 3, none⟩) hbl]; exact hc3
          have e4 : wr.cell? ⟨b, off + k * 6 + 4, none⟩ = some x4 := by rw [HB.out.cell (p := ⟨b, off + k * 6 + 4, none⟩) hbl]; exact hc4
          have e5 : wr.cell? ⟨b, off + k * 6 + 5, none⟩ = some x5 := by rw [HB.out.cell (p := ⟨b, off + k * 6 + 5, none⟩) hbl]; exact hc5
          have HT := Lib.hid (ht.below HB.out)
          have HPX := Lib.hid HBX.out
          clear ht hc0 hc1 hc2 hc3 hc4 hc5
          go_wp2_with fail
          refine (IH.out _ _ _ HT.out (by omega)).mono ?_
          rintro e w' ⟨rfl, hb1⟩
          have HN := Lib.hid (box_next HPX.out hb1); clear hb1
          have HT2 := Lib.hid (Ex.highs_take es k hlt)
          have hg4 : es[k].high ≤ 1048577 := by rw [HT2.out] at hg3; omega
          clear hg3
          go_wp2_with fail
          refine (specMax _ _ w').mono ?_
          rintro e w2 ⟨rfl, rfl⟩
          go_wp2_with fail
          exact ⟨⟨k + 1, by omega, by go_num, by rw [HT2.out]; go_num, HN.out⟩, by simp [intOf]; omega⟩
        · obtain rfl : k = es.length := by omega
          rw [List.take_length] at HS1 ⊢
          go_wp2_with fail
          refine (specBit _ _).mono ?_
          rintro e w9 ⟨rfl, rfl⟩
          go_wp2_with fail
          go_ret
          refine ⟨?_, HB.out⟩
          rw [HFIN.out]
          (first | rfl | (simp; done) | (simp; omega))
    · have qb : (kd == 14) = false := by simp [q]
      have HFIN : Hid ((Ex.node kd nm n ty es).high = Ex.highs es + 1) := by show _ = _; simp [Ex.high, q]
      go_enter Tryz.func52, Tryz.ntmps52
      go_wp2_with fail
      go_loopw [3, 4] (fun m i wr => ∃ k : Nat, k ≤ es.length ∧ i = .int .i64 k ∧ m = .int .i64 ((Ex.highs (es.take k) : Int)) ∧ Below (w.heap.size + 1) (w.alloc (.cells #[.int .i64 kd, .string nm, .int .i64 n, .int .i64 tk, .slice ta tn tc, .slice a es.length cap] 40)) wr) (fun _ i _ => es.length - (intOf i).toNat)
      case atStart => exact ⟨0, by omega, rfl, by simp [Ex.highs], Below.refl _ _⟩
      case round =>
        obtain ⟨k, hk, rfl, rfl, hb⟩ := hrel
        have b0 := box_cell hb 0
        have b5 := box_cell hb 5
        have HB := Lib.hid (box_below hb)
        have HBX := Lib.hid hb; clear hb
        have HS1 := Ex.highs_part es k
        have HS2 := HSZ.out
        by_cases hlt : k < es.length
        · obtain ⟨b, off, x0, x1, x2, x3, x4, x5, rfl, hbl, hc0, hc1, hc2, hc3, hc4, hc5, ht⟩ := HAT.out k hlt
          have hg := Ex.bulk_get es k hlt
          have hg2 := Ex.high_le es[k]
          have hg3 := Ex.highs_part es (k + 1)
          have e0 : wr.cell? ⟨b, off + k * 6, none⟩ = some x0 := by rw [HB.out.cell (p := ⟨b, off + k * 6, none⟩) hbl]; exact hc0
          have e1 : wr.cell? ⟨b, off + k * 6 + 1, none⟩ = some x1 := by rw [HB.out.cell (p := ⟨b, off + k * 6 + 1, none⟩) hbl]; exact hc1
          have e2 : wr.cell? ⟨b, off + k * 6 + 2, none⟩ = some x2 := by rw [HB.out.cell (p := ⟨b, off + k * 6 + 2, none⟩) hbl]; exact hc2
          have e3 : wr.cell? ⟨b, off + k * 6 + 3, none⟩ = some x3 := by rw [HB.out.cell (p := ⟨b, off + k * 6 + 3, none⟩) hbl]; exact hc3
          have e4 : wr.cell? ⟨b, off + k * 6 + 4, none⟩ = some x4 := by rw [HB.out.cell (p := ⟨b, off + k * 6 + 4, none⟩) hbl]; exact hc4
          have e5 : wr.cell? ⟨b, off + k * 6 + 5, none⟩ = some x5 := by rw [HB.out.cell (p := ⟨b, off + k * 6 + 5, none⟩) hbl]; exact hc5
          have HT := Lib.hid (ht.below HB.out)
          have HPX := Lib.hid HBX.out
          clear ht hc0 hc1 hc2 hc3 hc4 hc5
          go_wp2_with fail
          refine (IH.out _ _ _ HT.out (by omega)).mono ?_
          rintro e w' ⟨rfl, hb1⟩
          have HN := Lib.hid (box_next HPX.out hb1); clear hb1
          have HT2 := Lib.hid (Ex.highs_take es k hlt)
          have hg4 : es[k].high ≤ 1048577 := by rw [HT2.out] at hg3; omega
          clear hg3
          go_wp2_with fail
          refine (specMax _ _ w').mono ?_
          rintro e w2 ⟨rfl, rfl⟩
          go_wp2_with fail
          exact ⟨⟨k + 1, by omega, by go_num, by rw [HT2.out]; go_num, HN.out⟩, by simp [intOf]; omega⟩
        · obtain rfl : k = es.length := by omega
          rw [List.take_length] at HS1 ⊢
          go_wp2_with fail
          refine (specBit _ _).mono ?_
          rintro e w9 ⟨rfl, rfl⟩
          go_wp2_with fail
          go_ret
          refine ⟨?_, HB.out⟩
          rw [HFIN.out]
          (first | rfl | (simp; done) | (simp; omega))
end Go.Proofs.YteffjeejbdjjpaaGreatDoor
namespace Go.Proofs.YteffjeejbdjjpaaGreatDoor
open Go.RowKit

theorem valid_left {t : Ex} {r : Int} (h : LeftsTo t 40 r) : t.valid = (decide (0 ≤ r) && (decide (t.high ≤ 12) && t.form)) := by
  obtain ⟨a0, a1, a2, a3⟩ := h
  by_cases hr : 0 ≤ r
  · have := a2 hr
    have hc : t.count ≤ 40 := by omega
    simp [Ex.valid, hc, hr]
  · cases hf : t.form with
    | false => simp [Ex.valid, hf]
    | true =>
      have hc : ¬ (t.count ≤ 40) := fun hc => hr (a3 hf (by omega))
      simp [Ex.valid, hc, hr]
set_option maxRecDepth 100000 in
set_option maxHeartbeats 2000000 in
theorem specExValid (d : Nat) (v : Value) (t : Ex) (w : World) (h : ExAt w d v t) (hsz : t.bulk ≤ 1048576) :
    Calls Tryz.prog 28 #[v] w fun e w' => e = .returned (.bool t.valid) ∧ Below w.heap.size w w' := by
  have HT := Lib.hid h
  obtain ⟨yk, ynm, yn, ytk, yta, ytn, ytc, ya, ym, yc, rfl⟩ := ex_parts h
  clear h
  have E0 : Below w.heap.size w (w.alloc (.cells #[.int .i64 yk, .string ynm, .int .i64 yn, .int .i64 ytk, .slice yta ytn ytc, .slice ya ym yc] 40)) := below_alloc _ _
  have HT0 := Lib.hid (HT.out.below E0)
  clear E0
  go_enter Tryz.func28, Tryz.ntmps28
  go_wp2_with fail
  refine (specExLeft d _ t 40 _ (by omega) (by omega) HT0.out hsz).mono ?_
  rintro e w1 ⟨r, rfl, hr, hb1⟩
  have B1 := Lib.hid (box_next (Below.refl _ _) hb1); clear hb1
  have hv := valid_left hr
  obtain ⟨hr0, hr1, _, _⟩ := hr
  have HV := Lib.hid hv; clear hv
  have c0 := box_cell B1.out 0
  have c1 := box_cell B1.out 1
  have c2 := box_cell B1.out 2
  have c3 := box_cell B1.out 3
  have c4 := box_cell B1.out 4
  have c5 := box_cell B1.out 5
  by_cases q1 : r < 0
  · go_wp2_with fail
    go_ret
    exact ⟨by rw [HV.out]; simp; omega, box_below B1.out⟩
  · go_wp2_with fail
    refine (specExDepth d _ t _ (HT.out.below (box_below B1.out)) hsz).mono ?_
    rintro e w2 ⟨rfl, hb2⟩
    have B2 := Lib.hid (box_next B1.out hb2); clear hb2 B1 c0 c1 c2 c3 c4 c5
    have c0 := box_cell B2.out 0
    have c1 := box_cell B2.out 1
    have c2 := box_cell B2.out 2
    have c3 := box_cell B2.out 3
    have c4 := box_cell B2.out 4
    have c5 := box_cell B2.out 5
    have hdl : t.high ≤ 1048577 := by have := t.high_le; omega
    by_cases q2 : t.high ≤ 12
    · go_wp2_with fail
      refine (specExForm d _ t _ (HT.out.below (box_below B2.out)) hsz).mono ?_
      rintro e w3 ⟨rfl, hb3⟩
      have B3 := Lib.hid (box_next B2.out hb3); clear hb3 B2 c0 c1 c2 c3 c4 c5
      go_wp2_with fail
      go_ret
      exact ⟨by rw [HV.out]; simp [q2, show 0 ≤ r by omega], box_below B3.out⟩
    · go_wp2_with fail
      go_ret
      exact ⟨by rw [HV.out]; simp [q2], box_below B2.out⟩
end Go.Proofs.YteffjeejbdjjpaaGreatDoor
