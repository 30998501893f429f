/-
  Proved: laws.heldExprS finds the numbers that marking wrote below an expression's root, and changes no memory that was there; heldExpr is the same one node up.
-/
import Derived.Test.YtcohfbdhdngplaaMarkExIn
import Derived.Deep.RegionHeld3
import Derived.Deep.RegionWith
namespace Go.Proofs.Ytcohfbdhdngplaa
open Go.RowKit

def HeldExsSaid (d : Nat) : Prop := ∀ (v : Value) (es : List Ex) (k : Int) (w : World), 0 ≤ k → k + Ex.wts es ≤ 1099511627776 → ExsAt w d v (Ex.marks es k) →
  Calls Try.prog 65 #[v, .int .i64 k] w (HeldEnd (Ex.wts es) k w)

set_option maxRecDepth 100000 in
set_option maxHeartbeats 4000000 in
theorem heldExs_step (d : Nat) (ih : HeldExsSaid d) : HeldExsSaid (d + 1) := by
  intro v es k w hk0 hk1 h
  have IH := Lib.hid ih; clear ih
  obtain ⟨a, cap, rfl, hcap, hcap2, hat⟩ := h
  rw [Ex.marks_length] at hcap ⊢
  have HAT := Lib.hid hat; clear hat
  go_enter Try.func65, Try.ntmps65
  go_wp2_with fail
  go_loopw [1, 5] (fun m i wr => ∃ (j : Nat), j ≤ es.length ∧ i = .int .i64 j ∧ m = .int .i64 (k + Ex.wts (es.take j)) ∧ Below w.heap.size w wr) (fun _ i _ => es.length - (intOf i).toNat)
  case atStart => exact ⟨0, by omega, rfl, by simp [Ex.wts], Below.refl _ _⟩
  case round =>
    obtain ⟨j, hj, rfl, rfl, hb⟩ := hrel
    have HB := Lib.hid hb; clear hb
    by_cases hlt : j < es.length
    · obtain ⟨b, off, x0, x1, x2, x3, x4, x5, rfl, hbl, hc0, hc1, hc2, hc3, hc4, hc5, hex⟩ := HAT.out j (by rw [Ex.marks_length]; exact hlt)
      rw [Ex.marks_get es k j hlt] at hex
      have HS := Lib.hid (Ex.wts_take es j hlt)
      have hle := Ex.wts_le es (j + 1)
      cases hej : es[j] with
      | node kd nm n ty us =>
        have hwt : es[j].wt = (ty.size - 1) + Ex.wts us := by rw [hej]; rfl
        rw [hej] at hex
        obtain ⟨z3, z4, sl, hv, h0, h1, h2, h3, h4, hty, hus⟩ := hex
        obtain ⟨m, hm⟩ : ∃ m : Int, m = k + Ex.wts (es.take j) := ⟨_, rfl⟩
        rw [← hm] at hv hty hus ⊢
        have hc : x0 = .int .i64 m ∧ x1 = .string (mt (m + 1).natAbs) ∧ x2 = .int .i64 (m + 2) ∧ x3 = z3 ∧ x4 = z4 ∧ x5 = sl := by injection hv with hv; injection hv with hv; simpa using hv
        obtain ⟨rfl, rfl, rfl, rfl, rfl, rfl⟩ := hc
        cases d with
        | zero => exact hty.elim
        | succ d =>
        cases hte : ty with
        | node tk ts =>
          rw [hte] at hty hwt hus
          have hts : (Ty.node tk ts).size - 1 = Ty.sizes ts := by show 1 + Ty.sizes ts - 1 = _; omega
          obtain ⟨sl2, hv2, t0, t1, hts2⟩ := hty
          have hcc : x3 = .int .i64 (m + 3) ∧ x4 = sl2 := by injection hv2 with hv2; injection hv2 with hv2; simpa using hv2
          obtain ⟨rfl, rfl⟩ := hcc
          have e0 : wr.cell? ⟨b, off + j * 6, none⟩ = some (.int .i64 m) := by rw [HB.out.cell (p := ⟨b, off + j * 6, none⟩) hbl]; exact hc0
          have e1 : wr.cell? ⟨b, off + j * 6 + 1, none⟩ = some (.string (mt (m + 1).natAbs)) := by rw [HB.out.cell (p := ⟨b, off + j * 6 + 1, none⟩) hbl]; exact hc1
          have e2 : wr.cell? ⟨b, off + j * 6 + 2, none⟩ = some (.int .i64 (m + 1 + 1)) := by rw [HB.out.cell (p := ⟨b, off + j * 6 + 2, none⟩) hbl, show m + 1 + 1 = m + 2 from by omega]; exact hc2
          have e3 : wr.cell? ⟨b, off + j * 6 + 3, none⟩ = some (.int .i64 (m + 1 + 1 + 1)) := by rw [HB.out.cell (p := ⟨b, off + j * 6 + 3, none⟩) hbl, show m + 1 + 1 + 1 = m + 3 from by omega]; exact hc3
          have e4 : wr.cell? ⟨b, off + j * 6 + 4, none⟩ = some x4 := by rw [HB.out.cell (p := ⟨b, off + j * 6 + 4, none⟩) hbl]; exact hc4
          have e5 : wr.cell? ⟨b, off + j * 6 + 5, none⟩ = some x5 := by rw [HB.out.cell (p := ⟨b, off + j * 6 + 5, none⟩) hbl]; exact hc5
          have HTS : Hid (TysAt wr d x4 (Ty.marks ts (m + 1 + 1 + 1 + 1))) := by
            rw [show m + 1 + 1 + 1 + 1 = m + 3 + 1 from by omega]; exact TysAt.below hts2 HB.out
          have HUS : Hid (ExsAt wr (d + 1) x5 (Ex.marks us (m + 1 + 1 + 1 + 1 + Ty.sizes ts))) := by
            rw [show m + 1 + 1 + 1 + 1 + (Ty.sizes ts : Int) = m + 4 + (((Ty.node tk ts).size - 1 : Nat) : Int) from by rw [hts]; omega]; exact ExsAt.below hus HB.out
          obtain ⟨a1, cap1, rfl, _⟩ := hts2
          obtain ⟨a2, cap2, rfl, _⟩ := hus
          rw [Ty.marks_length] at *
          rw [Ex.marks_length] at *
          have hmw : m + (4 + Ty.sizes ts + Ex.wts us) ≤ 1099511627776 := by have := HS.out; rw [hts] at hwt; omega
          have hm0 : 0 ≤ m := by omega
          have HM := Lib.hid hm; clear hm
          have HWT := Lib.hid hwt
          clear hv hv2 hc0 hc1 hc2 hc3 hc4 hc5 hwt
          have hbl2 : b < wr.heap.size := Nat.lt_of_lt_of_le hbl HB.out.size
          have E2 := Lib.hid e2
          have E3 := Lib.hid e3
          have E4 := Lib.hid e4
          have E5 := Lib.hid e5
          clear e2 e3 e4 e5
          go_wp2_with fail
          go_region_with (go_at_call 60; refine (markText (m + 1) (by omega) (by omega) _).mono ?_; rintro e w1 ⟨rfl, hb1⟩; have q1 : w1.cell? ⟨b, off + j * 6 + 1, none⟩ = some (.string (mt (m + 1).natAbs)) := (hb1.cell (p := ⟨b, off + j * 6 + 1, none⟩) hbl2).trans e1; have q2 : w1.cell? ⟨b, off + j * 6 + 2, none⟩ = some (.int .i64 (m + 1 + 1)) := (hb1.cell (p := ⟨b, off + j * 6 + 2, none⟩) hbl2).trans E2.out; have q3 : w1.cell? ⟨b, off + j * 6 + 3, none⟩ = some (.int .i64 (m + 1 + 1 + 1)) := (hb1.cell (p := ⟨b, off + j * 6 + 3, none⟩) hbl2).trans E3.out; have q4 : w1.cell? ⟨b, off + j * 6 + 4, none⟩ = some (.slice a1 ts.length cap1) := (hb1.cell (p := ⟨b, off + j * 6 + 4, none⟩) hbl2).trans E4.out; have HB1 : Hid (Below wr.heap.size wr w1) := (Below.refl _ _).drew.trans hb1; clear hb1)
          all_goals
            have hz1 : wr.heap.size ≤ w1.heap.size := HB1.out.size
            have HTS1 := Lib.hid (TysAt.below HTS.out HB1.out)
            have HUS1 := Lib.hid (ExsAt.below HUS.out HB1.out)
            go_wp2_with fail
            refine (heldTys_all d _ ts (m + 1 + 1 + 1 + 1) w1 (by omega) (by omega) HTS1.out).mono ?_
            rintro e w2 ⟨rfl, hb2⟩
            have q5 : w2.cell? ⟨b, off + j * 6 + 5, none⟩ = some (.slice a2 us.length cap2) := (hb2.cell (p := ⟨b, off + j * 6 + 5, none⟩) (Nat.lt_of_lt_of_le hbl2 hz1)).trans ((HB1.out.cell (p := ⟨b, off + j * 6 + 5, none⟩) hbl2).trans E5.out)
            have HB2 := Lib.hid (HB1.out.trans (hb2.mono hz1))
            have HUS2 := Lib.hid (ExsAt.below HUS1.out hb2)
            clear hb2 q1 q2 q3 q4
            go_wp2_with fail
            refine (IH.out _ us (m + 1 + 1 + 1 + 1 + Ty.sizes ts) w2 (by omega) (by omega) HUS2.out).mono ?_
            rintro e w3 ⟨rfl, hb3⟩
            have HB3 := Lib.hid (HB.out.trans ((HB2.out.trans (hb3.mono HB2.out.size)).mono HB.out.size)); clear hb3 q5
            go_wp2_with fail
            exact ⟨⟨j + 1, by omega, by go_num, by have h1 := HS.out; have h2 := HWT.out; rw [hts] at h2; have h3 := HM.out; rw [h1, h2, h3]; go_num, HB3.out⟩, by simp [intOf]; omega⟩
    · have hjn : j = es.length := by omega
      subst hjn
      go_wp2_with fail
      go_ret
      exact ⟨by rw [List.take_length]; rfl, HB.out⟩
theorem heldExs_zero : HeldExsSaid 0 := by
  intro v es k w hk0 hk1 h
  obtain ⟨a, cap, rfl, hcap, hcap2, hat⟩ := h
  cases es with
  | cons t r =>
    obtain ⟨_, _, _, _, _, _, _, _, _, _, _, _, _, _, _, _, hr⟩ := hat 0 (by simp [Ex.marks])
    exact hr.elim
  | nil =>
    go_enter Try.func65, Try.ntmps65
    go_wp2_with fail
    go_loop [1, 5] (fun m i => m = .int .i64 k ∧ i = .int .i64 0) (fun _ _ => 0)
    case atStart => exact ⟨rfl, rfl⟩
    case round =>
      obtain ⟨rfl, rfl⟩ := hrel
      go_wp2_with fail
      go_ret
      exact ⟨by simp [Ex.wts], Below.refl _ _⟩
theorem heldExs_all : ∀ d, HeldExsSaid d
  | 0 => heldExs_zero
  | d + 1 => heldExs_step d (heldExs_all d)

set_option maxRecDepth 100000 in
set_option maxHeartbeats 1000000 in
theorem heldEx (d : Nat) (v : Value) (t : Ex) (k : Int) (w : World) (hk0 : 0 ≤ k) (hk1 : k + t.wt + 1 ≤ 1099511627776) (h : ExAt w d v (t.markIn k)) :
    Calls Try.prog 21 #[v, .int .i64 k] w fun e w' => e = .returned (.int .i64 (k + (t.wt : Int))) ∧ Below w.heap.size w w' := by
  cases d with
  | zero => exact h.elim
  | succ d =>
    cases t with
    | node kd nm n ty us =>
      obtain ⟨tk, ta, tn, tc, sa, sn, sc, hv0⟩ : ∃ tk ta tn tc sa sn sc, v = .agg #[.int .i64 kd, .string nm, .int .i64 n, .int .i64 tk, .slice ta tn tc, .slice sa sn sc] := by
        obtain ⟨_, _, _, tk, ta, tn, tc, sa, sn, sc, hv⟩ := ex_parts h
        obtain ⟨c3, c4, sl, rfl, _⟩ := h
        injection hv with hv
        injection hv with hv
        simp at hv
        obtain ⟨rfl, rfl, rfl, rfl, rfl, rfl⟩ := hv
        exact ⟨tk, ta, tn, tc, sa, sn, sc, rfl⟩
      subst hv0
      obtain ⟨c3, c4, sl, hv, h0, h1, h2, h3, h4, hty, hus⟩ := h
      injection hv with hv
      injection hv with hv
      simp at hv
      obtain ⟨rfl, rfl, rfl⟩ := hv
      have hwt : (Ex.node kd nm n ty us).wt = (ty.size - 1) + Ex.wts us := rfl
      rw [hwt] at hk1
      have hpos := ty.size_pos
      obtain ⟨W, hW⟩ : ∃ W, W = w.alloc (.cells #[.int .i64 kd, .string nm, .int .i64 n, .int .i64 tk, .slice ta tn tc, .slice sa sn sc] 36) := ⟨_, rfl⟩
      have HE : Hid (Below w.heap.size w W) := by rw [hW]; exact below_alloc _ _
      have XA : Hid (BoxAt W w.heap.size #[.int .i64 kd, .string nm, .int .i64 n, .int .i64 tk, .slice ta tn tc, .slice sa sn sc]) := by rw [hW]; exact BoxAt.new _ _ _
      have HTY := Lib.hid (hty.below HE.out)
      have HUS : Hid (ExsAt W d (.slice sa sn sc) (Ex.marks us (k + ((ty.size - 1 : Nat) : Int)))) := ExsAt.below hus HE.out
      have x3 := XA.out.2 3
      have x4 := XA.out.2 4
      clear hty hus
      go_enter Try.func21, Try.ntmps21
      go_wp2_with fail
      rw [← hW]
      go_wp2_with fail
      refine (heldTy d _ ty k W hk0 (by omega) HTY.out).mono ?_
      rintro e w2 ⟨rfl, hb⟩
      have y5 := (XA.out.below hb).2 5
      have HUS2 := Lib.hid (ExsAt.below HUS.out hb)
      have HB2 := Lib.hid (HE.out.trans (hb.mono HE.out.size))
      clear hb x3 x4
      go_wp2_with fail
      refine (heldExs_all d _ us (k + ((ty.size - 1 : Nat) : Int)) w2 (by omega) (by omega) HUS2.out).mono ?_
      rintro e w3 ⟨rfl, hb⟩
      have HB3 := Lib.hid (HB2.out.trans (hb.mono HB2.out.size)); clear hb y5
      go_wp2_with fail
      go_ret
      exact ⟨by rw [hwt, Int.add_assoc]; rfl, HB3.out⟩

end Go.Proofs.Ytcohfbdhdngplaa
