/-
  Proved: impl.isExprNode says whether the fields and the number of parts of a node belong to its kind; the memory that was there stays as it was.
-/
import Derived.Test.YtimigpdbegfjaaaGreatDoorSpecFields
import Derived.Test.YtimigpdbegfjaaaGreatDoorArity
import Derived.Test.YtimigpdbegfjaaaGreatDoorGrown
import Derived.Test.YtimigpdbegfjaaaGreatDoorStrs
import Derived.Test.YtimigpdbegfjaaaGreatDoorJoined
import Derived.Lib.Join
import Derived.Lib.UnsafeStr
import Derived.Laws.BytesArg
import Derived.Test.YtimigpdbegfjaaaGreatDoorShelfStr
import Derived.Lib.ItoaNum
import Derived.Lib.ItoaMem
import Derived.Test.YtimigpdbegfjaaaGreatDoorProg
import Derived.WalkKit
import Derived.WalkSpells
import Derived.WalkLawsBesides
import Derived.Lib.Hide
import Derived.Test.YtimigpdbegfjaaaGreatDoorLaw
import Derived.Test.YtimigpdbegfjaaaGreatDoorShelfItoa
import Derived.Test.YtimigpdbegfjaaaGreatDoorInts
import Derived.Test.YtimigpdbegfjaaaGreatDoorSpecForm
import Derived.Test.YtimigpdbegfjaaaGreatDoorPart
import Derived.Test.YtimigpdbegfjaaaGreatDoorHold
import Derived.Deep.QuietTactic
import Derived.Test.YtimigpdbegfjaaaGreatDoorOwnTree
import Derived.Test.YtimigpdbegfjaaaGreatDoorTwo
import Derived.Test.YtimigpdbegfjaaaGreatDoorText
import Derived.Test.YtimigpdbegfjaaaGreatDoorSpecValid
import Derived.Deep.RegionHeld3
import Derived.Test.YtimigpdbegfjaaaGreatDoorExTextAt
import Derived.Test.YtimigpdbegfjaaaGreatDoorSzExpr
import Derived.Test.YtimigpdbegfjaaaGreatDoorFormatText
import Derived.Test.YtimigpdbegfjaaaGreatDoorExNum
import Derived.Test.YtimigpdbegfjaaaGreatDoorSpecMax
import Derived.Test.YtimigpdbegfjaaaGreatDoorName
import Derived.Laws.RangeAny
import Derived.Test.YtimigpdbegfjaaaGreatDoorSpecNote
import Derived.Test.YtimigpdbegfjaaaGreatDoorTyEq
import Derived.Test.YtimigpdbegfjaaaGreatDoorToType
import Derived.Deep.RegionLaw
/-
  Proved: spec.l6Form says whether every node of an expression has its kind's form; the memory that was there stays as it was.
-/
namespace Go.Proofs.YtimigpdbegfjaaaGreatDoor
open Go.RowKit

theorem box_of {w wr : World} {cs : Array Value} {T : TypeId} (h : Below (w.heap.size + 1) (w.alloc (.cells cs T)) wr) : BoxAt wr w.heap.size cs :=
  (BoxAt.new w cs T).below (by simpa using h)
theorem ex_kind {w : World} {d : Nat} {k : Int} {c1 c2 c3 c4 c5 : Value} {e : Ex} (h : ExAt w d (.agg #[.int .i64 k, c1, c2, c3, c4, c5]) e) : e.kind = k := by
  cases d with
  | zero => exact h.elim
  | succ d =>
    cases e with
    | node kd nm n ty es =>
      obtain ⟨d3, d4, sl, hv, _⟩ := h
      injection hv with hv
      injection hv with hv
      simp at hv
      exact hv.1.symm
theorem form_of {kd : Int} {nm : ByteArray} {n : Int} {ty : Ty} {es : List Ex} {b c : Bool} {r : Int} (h1 : Ex.forms es = true) (h2 : bareB kd es = true) (h3 : fieldsB kd nm n ty = b) (h4 : arity kd = r) (h5 : c = (b && decide ((es.length : Int) = r))) : (Ex.node kd nm n ty es).form = c := by
  subst h3 h4 h5
  simp only [Ex.form, h1, h2, fitsB, fieldsB, Bool.true_and]
  rw [Bool.and_comm]
set_option maxRecDepth 100000 in
set_option maxHeartbeats 4000000 in
theorem specExForm : ∀ (d : Nat) (v : Value) (t : Ex) (w : World), ExAt w d v t → t.bulk ≤ 1048576 →
    Calls Tryz.prog 45 #[v] w fun e w' => e = .returned (.bool t.form) ∧ Below w.heap.size w w'
  | 0, _, _, _, h, _ => h.elim
  | d + 1, v, .node kd nm n ty es, w, h, hsz => by
    have IH : Hid (∀ (v : Value) (t : Ex) (w : World), ExAt w d v t → t.bulk ≤ 1048576 → Calls Tryz.prog 45 #[v] w fun e w' => e = .returned (.bool t.form) ∧ Below w.heap.size w w') := specExForm d
    have HWH := Lib.hid h
    have HBK := Lib.hid hsz
    have HV := ex_parts h
    obtain ⟨c3, c4, sl, rfl, hk0, hk1, hn0, hn1, hnm, hty, a, cap, rfl, hcap, hcap2, hat⟩ := h
    obtain ⟨k', nm', n', tk, ta, tn, tc, sa, sn, sc, hv⟩ := HV
    injection hv with hv
    injection hv with hv
    simp at hv
    obtain ⟨rfl, rfl, rfl, rfl, rfl, rfl, rfl, rfl⟩ := hv
    have HAT := Lib.hid hat; clear hat
    have hbk : (Ex.node kd nm n ty es).bulk = nm.size + (ty.size - 1) + Ex.bulks es := rfl
    have HSZ : Hid (Ex.bulks es ≤ 1048576) := by show _ ≤ _; omega
    have HNM : Hid (nm.size ≤ 1048576) := by show _ ≤ _; omega
    have HTZ : Hid (ty.size ≤ 1048577) := by show _ ≤ _; omega
    have hlen : es.length ≤ 1048576 := by have := Ex.length_le es; omega
    clear hsz hbk hty
    go_enter Tryz.func45, Tryz.ntmps45
    go_wp2_with fail
    go_loopw [3] (fun i wr => ∃ k : Nat, k ≤ es.length ∧ i = .int .i64 k ∧ Ex.forms (es.take k) = true ∧ Below (w.heap.size + 1) (w.alloc (.cells #[.int .i64 kd, .string nm, .int .i64 n, .int .i64 tk, .slice ta tn tc, .slice a es.length cap] 38)) wr) (fun i _ => es.length - (intOf i).toNat)
    case atStart => exact ⟨0, by omega, rfl, by simp [Ex.forms], Below.refl _ _⟩
    case round =>
      obtain ⟨k, hk, rfl, hf, hb⟩ := hrel
      have HF := Lib.hid hf; clear hf
      have b0 := box_cell hb 0
      have b1 := box_cell hb 1
      have b2 := box_cell hb 2
      have b3 := box_cell hb 3
      have b4 := box_cell hb 4
      have b5 := box_cell hb 5
      have HB := Lib.hid (box_below hb)
      have HBX := Lib.hid hb; clear hb
      have HS2 := HSZ.out
      by_cases hlt : k < es.length
      · obtain ⟨b, off, x0, x1, x2, x3, x4, x5, rfl, hbl, hc0, hc1, hc2, hc3, hc4, hc5, ht⟩ := HAT.out k hlt
        have hg := Ex.bulk_get es k hlt
        have e0 : wr.cell? ⟨b, off + k * 6, none⟩ = some (x0) := by rw [HB.out.cell (p := ⟨b, off + k * 6, none⟩) hbl]; exact hc0
        have e1 : wr.cell? ⟨b, off + k * 6 + 1, none⟩ = some (x1) := by rw [HB.out.cell (p := ⟨b, off + k * 6 + 1, none⟩) hbl]; exact hc1
        have e2 : wr.cell? ⟨b, off + k * 6 + 2, none⟩ = some (x2) := by rw [HB.out.cell (p := ⟨b, off + k * 6 + 2, none⟩) hbl]; exact hc2
        have e3 : wr.cell? ⟨b, off + k * 6 + 3, none⟩ = some (x3) := by rw [HB.out.cell (p := ⟨b, off + k * 6 + 3, none⟩) hbl]; exact hc3
        have e4 : wr.cell? ⟨b, off + k * 6 + 4, none⟩ = some (x4) := by rw [HB.out.cell (p := ⟨b, off + k * 6 + 4, none⟩) hbl]; exact hc4
        have e5 : wr.cell? ⟨b, off + k * 6 + 5, none⟩ = some (x5) := by rw [HB.out.cell (p := ⟨b, off + k * 6 + 5, none⟩) hbl]; exact hc5
        have HT := Lib.hid (ht.below HB.out)
        clear ht hc0 hc1 hc2 hc3 hc4 hc5
        go_wp2_with fail
        refine (IH.out _ _ _ HT.out (by omega)).mono ?_
        rintro e w' ⟨rfl, hb1⟩
        have HN := Lib.hid (box_next HBX.out hb1); clear hb1
        have HT2 := Lib.hid (Ex.forms_take es k hlt)
        cases hfk : es[k].form with
        | true =>
          have HFK := Lib.hid hfk; clear hfk
          go_wp2_with fail
          exact ⟨⟨k + 1, by omega, by go_num, by rw [HT2.out, HF.out, HFK.out]; rfl, HN.out⟩, by simp [intOf]; omega⟩
        | false =>
          have HFK := Lib.hid hfk; clear hfk
          go_wp2_with fail
          go_ret
          have e : Ex.forms es = false := Ex.forms_false es (k + 1) (by rw [HT2.out, HF.out, HFK.out]; rfl)
          exact ⟨by simp [Ex.form, e], box_below HN.out⟩
      · obtain rfl : k = es.length := by omega
        have HFT : Hid (Ex.forms es = true) := by have := HF.out; rw [List.take_length] at this; exact this
        clear HF
        have XA := Lib.hid (box_of HBX.out)
        have HW2 := Lib.hid (HWH.out.below HB.out)
        clear HWH HBX
        by_cases q : kd = 14
        · subst q
          by_cases q0 : es.length = 0
          · have HBARE : Hid (bareB 14 es = true) := by
              have e0 : es = [] := List.length_eq_zero_iff.1 q0
              show _ = _
              rw [e0]; rfl
            go_wp2_with fail
            clear q0
            have C1 : ∀ q : Grown wr.heap.size wr, Calls Tryz.prog 58 #[.agg #[.int .i64 14, .string nm, .int .i64 n, .int .i64 tk, .slice ta tn tc, .slice a es.length cap]] q.val fun e w' => e = .returned (.bool (fieldsB 14 nm n ty)) ∧ Below q.val.heap.size q.val w' := fun q => specFields d _ 14 nm n ty es _ (HW2.out.below q.old) HBK.out
            have C2 : ∀ q : Grown wr.heap.size wr, Calls Tryz.prog 59 #[.int .i64 14] q.val fun e w' => e = .returned (.int .i64 (arity 14)) ∧ Below q.val.heap.size q.val w' := fun q => specArity _ _
            obtain ⟨fb, hfb⟩ : ∃ b, fieldsB 14 nm n ty = b := ⟨_, rfl⟩
            obtain ⟨r, hr⟩ : ∃ r, arity 14 = r := ⟨_, rfl⟩
            rw [hfb] at C1
            rw [hr] at C2
            have HFB := Lib.hid hfb
            have HR := Lib.hid hr
            clear hfb hr
            have g0 : ∀ q : Grown wr.heap.size wr, q.val.cell? ⟨w.heap.size, 0, none⟩ = _ := fun q => (XA.out.grown q).2 0
            have g1 : ∀ q : Grown wr.heap.size wr, q.val.cell? ⟨w.heap.size, 1, none⟩ = _ := fun q => (XA.out.grown q).2 1
            have g2 : ∀ q : Grown wr.heap.size wr, q.val.cell? ⟨w.heap.size, 2, none⟩ = _ := fun q => (XA.out.grown q).2 2
            have g3 : ∀ q : Grown wr.heap.size wr, q.val.cell? ⟨w.heap.size, 3, none⟩ = _ := fun q => (XA.out.grown q).2 3
            have g4 : ∀ q : Grown wr.heap.size wr, q.val.cell? ⟨w.heap.size, 4, none⟩ = _ := fun q => (XA.out.grown q).2 4
            have g5 : ∀ q : Grown wr.heap.size wr, q.val.cell? ⟨w.heap.size, 5, none⟩ = _ := fun q => (XA.out.grown q).2 5
            clear b0 b1 b2 b3 b4 b5 XA HW2
            cases fb
            case false =>
              refine wp_region_grown wr.heap.size (by kernel_rfl) (by kernel_rfl) ?_
              repeat (go_big_quiet_step ((first | (go_at_call 58; exact grown_of (Nat.le_refl _) (C1 _)) | (go_at_call 59; exact grown_of (Nat.le_refl _) (C2 _)))))
              refine wpQuiet_nil ?_
              rintro _ ⟨⟨wq, hq⟩, rfl⟩
              go_wp2_with fail
              go_ret
              exact ⟨by rw [form_of HFT.out HBARE.out HFB.out HR.out (c := false) (by simp)]; rfl, below_thru HB.out (Nat.le_refl _) hq⟩
            case true =>
              by_cases qa : (es.length : Int) = r
              · have qb : ((es.length : Int) == r) = true := by simp [qa]
                refine wp_region_grown wr.heap.size (by kernel_rfl) (by kernel_rfl) ?_
                repeat (go_big_quiet_step ((first | (go_at_call 58; exact grown_of (Nat.le_refl _) (C1 _)) | (go_at_call 59; exact grown_of (Nat.le_refl _) (C2 _)))))
                refine wpQuiet_nil ?_
                rintro _ ⟨⟨wq, hq⟩, rfl⟩
                go_wp2_with fail
                go_ret
                exact ⟨by rw [form_of HFT.out HBARE.out HFB.out HR.out (c := true) (by simp [qa])]; rfl, below_thru HB.out (Nat.le_refl _) hq⟩
              · have qb : ((es.length : Int) == r) = false := by simp [qa]
                refine wp_region_grown wr.heap.size (by kernel_rfl) (by kernel_rfl) ?_
                repeat (go_big_quiet_step ((first | (go_at_call 58; exact grown_of (Nat.le_refl _) (C1 _)) | (go_at_call 59; exact grown_of (Nat.le_refl _) (C2 _)))))
                refine wpQuiet_nil ?_
                rintro _ ⟨⟨wq, hq⟩, rfl⟩
                go_wp2_with fail
                go_ret
                exact ⟨by rw [form_of HFT.out HBARE.out HFB.out HR.out (c := false) (by simp [qa])]; rfl, below_thru HB.out (Nat.le_refl _) hq⟩
          · obtain ⟨b, off, x0, x1, x2, x3, x4, x5, rfl, hbl, hc0, hc1, hc2, hc3, hc4, hc5, ht⟩ := HAT.out 0 (by omega)
            obtain ⟨yk, ynm, yn, ytk, yta, ytn, ytc, ya, ym, yc, rfl, rfl, rfl, rfl, rfl, rfl⟩ := ex_cells ht
            have e0 : wr.cell? ⟨b, off, none⟩ = some (.int .i64 yk) := by have := HB.out.cell (p := ⟨b, off, none⟩) hbl; rw [this]; simpa using hc0
            have hkind : es[0].kind = yk := ex_kind ht
            have HKIND := Lib.hid hkind
            clear ht hc0 hc1 hc2 hc3 hc4 hc5 hkind
            have hpos : 0 < es.length := by omega
            by_cases q2 : yk = 14
            · subst q2
              go_wp2_with fail
              go_ret
              have e : bareB 14 es = false := by cases es with | nil => simp at hpos | cons x r => simpa [bareB] using HKIND.out
              exact ⟨by simp [Ex.form, e], HB.out⟩
            · have q2b : (yk == 14) = false := by simp [q2]
              have HBARE : Hid (bareB 14 es = true) := by cases es with | nil => rfl | cons x r => have := HKIND.out; simp at this; show _ = _; simp [bareB, this, q2]
              go_wp2_with fail
              have C1 : ∀ q : Grown wr.heap.size wr, Calls Tryz.prog 58 #[.agg #[.int .i64 14, .string nm, .int .i64 n, .int .i64 tk, .slice ta tn tc, .slice (some ⟨b, off, none⟩) es.length cap]] q.val fun e w' => e = .returned (.bool (fieldsB 14 nm n ty)) ∧ Below q.val.heap.size q.val w' := fun q => specFields d _ 14 nm n ty es _ (HW2.out.below q.old) HBK.out
              have C2 : ∀ q : Grown wr.heap.size wr, Calls Tryz.prog 59 #[.int .i64 14] q.val fun e w' => e = .returned (.int .i64 (arity 14)) ∧ Below q.val.heap.size q.val w' := fun q => specArity _ _
              obtain ⟨fb, hfb⟩ : ∃ b, fieldsB 14 nm n ty = b := ⟨_, rfl⟩
              obtain ⟨r, hr⟩ : ∃ r, arity 14 = r := ⟨_, rfl⟩
              rw [hfb] at C1
              rw [hr] at C2
              have HFB := Lib.hid hfb
              have HR := Lib.hid hr
              clear hfb hr
              have g0 : ∀ q : Grown wr.heap.size wr, q.val.cell? ⟨w.heap.size, 0, none⟩ = _ := fun q => (XA.out.grown q).2 0
              have g1 : ∀ q : Grown wr.heap.size wr, q.val.cell? ⟨w.heap.size, 1, none⟩ = _ := fun q => (XA.out.grown q).2 1
              have g2 : ∀ q : Grown wr.heap.size wr, q.val.cell? ⟨w.heap.size, 2, none⟩ = _ := fun q => (XA.out.grown q).2 2
              have g3 : ∀ q : Grown wr.heap.size wr, q.val.cell? ⟨w.heap.size, 3, none⟩ = _ := fun q => (XA.out.grown q).2 3
              have g4 : ∀ q : Grown wr.heap.size wr, q.val.cell? ⟨w.heap.size, 4, none⟩ = _ := fun q => (XA.out.grown q).2 4
              have g5 : ∀ q : Grown wr.heap.size wr, q.val.cell? ⟨w.heap.size, 5, none⟩ = _ := fun q => (XA.out.grown q).2 5
              clear b0 b1 b2 b3 b4 b5 XA HW2
              cases fb
              case false =>
                refine wp_region_grown wr.heap.size (by kernel_rfl) (by kernel_rfl) ?_
                repeat (go_big_quiet_step ((first | (go_at_call 58; exact grown_of (Nat.le_refl _) (C1 _)) | (go_at_call 59; exact grown_of (Nat.le_refl _) (C2 _)))))
                refine wpQuiet_nil ?_
                rintro _ ⟨⟨wq, hq⟩, rfl⟩
                go_wp2_with fail
                go_ret
                exact ⟨by rw [form_of HFT.out HBARE.out HFB.out HR.out (c := false) (by simp)]; rfl, below_thru HB.out (Nat.le_refl _) hq⟩
              case true =>
                by_cases qa : (es.length : Int) = r
                · have qb : ((es.length : Int) == r) = true := by simp [qa]
                  refine wp_region_grown wr.heap.size (by kernel_rfl) (by kernel_rfl) ?_
                  repeat (go_big_quiet_step ((first | (go_at_call 58; exact grown_of (Nat.le_refl _) (C1 _)) | (go_at_call 59; exact grown_of (Nat.le_refl _) (C2 _)))))
                  refine wpQuiet_nil ?_
                  rintro _ ⟨⟨wq, hq⟩, rfl⟩
                  go_wp2_with fail
                  go_ret
                  exact ⟨by rw [form_of HFT.out HBARE.out HFB.out HR.out (c := true) (by simp [qa])]; rfl, below_thru HB.out (Nat.le_refl _) hq⟩
                · have qb : ((es.length : Int) == r) = false := by simp [qa]
                  refine wp_region_grown wr.heap.size (by kernel_rfl) (by kernel_rfl) ?_
                  repeat (go_big_quiet_step ((first | (go_at_call 58; exact grown_of (Nat.le_refl _) (C1 _)) | (go_at_call 59; exact grown_of (Nat.le_refl _) (C2 _)))))
                  refine wpQuiet_nil ?_
                  rintro _ ⟨⟨wq, hq⟩, rfl⟩
                  go_wp2_with fail
                  go_ret
                  exact ⟨by rw [form_of HFT.out HBARE.out HFB.out HR.out (c := false) (by simp [qa])]; rfl, below_thru HB.out (Nat.le_refl _) hq⟩
        · have qb0 : (kd == 14) = false := by simp [q]
          have HBARE : Hid (bareB kd es = true) := by cases es with | nil => rfl | cons x r => show _ = _; simp [bareB, q]
          go_wp2_with fail
          have C1 : ∀ q : Grown wr.heap.size wr, Calls Tryz.prog 58 #[.agg #[.int .i64 kd, .string nm, .int .i64 n, .int .i64 tk, .slice ta tn tc, .slice a es.length cap]] q.val fun e w' => e = .returned (.bool (fieldsB kd nm n ty)) ∧ Below q.val.heap.size q.val w' := fun q => specFields d _ kd nm n ty es _ (HW2.out.below q.old) HBK.out
          have C2 : ∀ q : Grown wr.heap.size wr, Calls Tryz.prog 59 #[.int .i64 kd] q.val fun e w' => e = .returned (.int .i64 (arity kd)) ∧ Below q.val.heap.size q.val w' := fun q => specArity _ _
          obtain ⟨fb, hfb⟩ : ∃ b, fieldsB kd nm n ty = b := ⟨_, rfl⟩
          obtain ⟨r, hr⟩ : ∃ r, arity kd = r := ⟨_, rfl⟩
          rw [hfb] at C1
          rw [hr] at C2
          have HFB := Lib.hid hfb
          have HR := Lib.hid hr
          clear hfb hr
          have g0 : ∀ q : Grown wr.heap.size wr, q.val.cell? ⟨w.heap.size, 0, none⟩ = _ := fun q => (XA.out.grown q).2 0
          have g1 : ∀ q : Grown wr.heap.size wr, q.val.cell? ⟨w.heap.size, 1, none⟩ = _ := fun q => (XA.out.grown q).2 1
          have g2 : ∀ q : Grown wr.heap.size wr, q.val.cell? ⟨w.heap.size, 2, none⟩ = _ := fun q => (XA.out.grown q).2 2
          have g3 : ∀ q : Grown wr.heap.size wr, q.val.cell? ⟨w.heap.size, 3, none⟩ = _ := fun q => (XA.out.grown q).2 3
          have g4 : ∀ q : Grown wr.heap.size wr, q.val.cell? ⟨w.heap.size, 4, none⟩ = _ := fun q => (XA.out.grown q).2 4
          have g5 : ∀ q : Grown wr.heap.size wr, q.val.cell? ⟨w.heap.size, 5, none⟩ = _ := fun q => (XA.out.grown q).2 5
          clear b0 b1 b2 b3 b4 b5 XA HW2
          cases fb
          case false =>
            refine wp_region_grown wr.heap.size (by kernel_rfl) (by kernel_rfl) ?_
            repeat (go_big_quiet_step ((first | (go_at_call 58; exact grown_of (Nat.le_refl _) (C1 _)) | (go_at_call 59; exact grown_of (Nat.le_refl _) (C2 _)))))
            refine wpQuiet_nil ?_
            rintro _ ⟨⟨wq, hq⟩, rfl⟩
            go_wp2_with fail
            go_ret
            exact ⟨by rw [form_of HFT.out HBARE.out HFB.out HR.out (c := false) (by simp)]; rfl, below_thru HB.out (Nat.le_refl _) hq⟩
          case true =>
            by_cases qa : (es.length : Int) = r
            · have qb : ((es.length : Int) == r) = true := by simp [qa]
              refine wp_region_grown wr.heap.size (by kernel_rfl) (by kernel_rfl) ?_
              repeat (go_big_quiet_step ((first | (go_at_call 58; exact grown_of (Nat.le_refl _) (C1 _)) | (go_at_call 59; exact grown_of (Nat.le_refl _) (C2 _)))))
              refine wpQuiet_nil ?_
              rintro _ ⟨⟨wq, hq⟩, rfl⟩
              go_wp2_with fail
              go_ret
              exact ⟨by rw [form_of HFT.out HBARE.out HFB.out HR.out (c := true) (by simp [qa])]; rfl, below_thru HB.out (Nat.le_refl _) hq⟩
            · have qb : ((es.length : Int) == r) = false := by simp [qa]
              refine wp_region_grown wr.heap.size (by kernel_rfl) (by kernel_rfl) ?_
              repeat (go_big_quiet_step ((first | (go_at_call 58; exact grown_of (Nat.le_refl _) (C1 _)) | (go_at_call 59; exact grown_of (Nat.le_refl _) (C2 _)))))
              refine wpQuiet_nil ?_
              rintro _ ⟨⟨wq, hq⟩, rfl⟩
              go_wp2_with fail
              go_ret
              exact ⟨by rw [form_of HFT.out HBARE.out HFB.out HR.out (c := false) (by simp [qa])]; rfl, below_thru HB.out (Nat.le_refl _) hq⟩
end Go.Proofs.YtimigpdbegfjaaaGreatDoor
/-
  Proved: spec.Join joins the strings with the separator between them, and leaves the memory that was there as it was. On these terms: the strings, their number and the separator are small (2^20).
-/
namespace Go.Proofs.YtimigpdbegfjaaaGreatDoor
open Go.RowKit

/-- 'string(b)' of a slice that owns its bytes. -/
theorem conv_own {w : World} {base : Nat} {v : Value} {l : List UInt8} (h : w.ownsRow base 5 1 v l.length (Lib.byteCells l)) :
    (convert 74 9 v).run Tryz.prog w = .ok (.string ⟨l.toArray⟩) w := by
  have hcells := fun g (hg : v.ownBlock = some g) => h.cells hg
  rcases h.2 with ⟨rfl, hn⟩ | ⟨g, cap, cur, rfl, _⟩
  · have : l = [] := List.length_eq_zero_iff.1 hn
    subst this
    exact run_convert_bytes_nil w 74 5 Tryz.underlying74 Tryz.underlying5 0 0 _ Tryz.underlying9
  · refine run_convert_bytes_back w _ _ 5 ⟨g, 0, none⟩ cap l Tryz.underlying74 Tryz.underlying5 Tryz.underlying9 fun j hj => ?_
    exact hcells g rfl j _ (by simp [Lib.byteCells, hj])
theorem info_byte : (Tryz.prog.info? 5).map (fun i => (i.zero, i.size, i.bytes)) = some (some (.int .u8 0), 1, 1) := by kernel_rfl

set_option maxRecDepth 100000 in
set_option maxHeartbeats 2000000 in
theorem specJoin (v : Value) (ss : List ByteArray) (sep : ByteArray) (hn : ss.length ≤ 1048576) (ht : total ss ≤ 1073741824) (hs : sep.size ≤ 1048576) (w : World) (h : Strs w v ss) :
    Calls Tryz.prog 28 #[v, .string sep] w (JoinEnd ss sep w) := by
  obtain ⟨i0, hi, hz0, hz1, hz2⟩ := info_parts info_byte
  obtain ⟨a, cap, rfl, hcap, hat⟩ := h
  have HC := Lib.hid hat; clear hat
  have HI := Lib.hid hi; clear hi
  have HZ0 := Lib.hid hz0; clear hz0
  have HZ1 := Lib.hid hz1; clear hz1
  have HZ2 := Lib.hid hz2; clear hz2
  go_enter Tryz.func28, Tryz.ntmps28
  go_wp2_with fail
  go_loopw [5, 6] (fun v i wr => ∃ k : Nat, k ≤ ss.length ∧ i = .int .i64 k ∧ wr.ownsRow w.heap.size 5 1 v (joined ss sep k).length (Lib.byteCells (joined ss sep k)) ∧ Below w.heap.size w wr) (fun _ i _ => ss.length - (intOf i).toNat)
  case atStart => exact ⟨0, by omega, rfl, by rw [joined_zero]; exact World.ownsRow_made w #[] 0 (Nat.le_refl _) (Nat.zero_le _) rfl, (Below.refl _ _).alloc (Nat.le_refl _) _⟩
  case round =>
    obtain ⟨k, hk, rfl, hown, hb⟩ := hrel
    have HL := Lib.hid (joined_small ss sep k hk hn ht hs)
    by_cases hlt : k < ss.length
    · obtain ⟨b, off, rfl, hbl, hcell⟩ := HC.out k hlt
      have hz := size_le ss k hlt
      have HO := Lib.hid hown; clear hown
      have HB := Lib.hid hb; clear hb
      have HCE := Lib.hid hcell; clear hcell
      by_cases hk0 : 0 < k
      · go_wp2_with (at_builtin; go_must (refine Lib.wpList_append_own_string _ rfl (.tmp 16) (.tmp 17) 74 9 rfl w.heap.size 5 i0 Tryz.underlying74 Tryz.underlying9 HI.out HZ0.out HZ1.out HZ2.out _ _ _ rfl HO.out sep rfl (by have := HL.out; unfold maxLen; omega) (by have := HL.out; omega) HB.out.size ?_); intro v1 w1 hown1 hg1 _; refine Hid.out ?_)
        refine Lib.hid ?_
        have hb1 : Below w.heap.size w w1 := HB.out.grown hg1 HB.out.size (fun k hk => (HO.out.lt k hk).1)
        have c1 : w1.cell? ⟨b, off + k, none⟩ = some (.string ss[k]) := by rw [hb1.cell (p := ⟨b, off + k, none⟩) hbl]; exact HCE.out
        have HO1 := Lib.hid hown1; clear hown1 hg1
        have HB1 := Lib.hid hb1; clear hb1
        go_wp2_with (at_builtin; go_must (refine Lib.wpList_append_own_string _ rfl (.tmp 19) (.tmp 23) 74 9 rfl w.heap.size 5 i0 Tryz.underlying74 Tryz.underlying9 HI.out HZ0.out HZ1.out HZ2.out _ _ _ rfl HO1.out ss[k] rfl (by have := HL.out; unfold maxLen; omega) (by have := HL.out; omega) HB1.out.size ?_); intro v2 w2 hown2 hg2 _; refine Hid.out ?_)
        refine Lib.hid ?_
        have hb2 : Below w.heap.size w w2 := HB1.out.grown hg2 HB1.out.size (fun k hk => (HO1.out.lt k hk).1)
        have hj := joined_next ss sep k hk0 hlt
        have hown3 : w2.ownsRow w.heap.size 5 1 v2 (joined ss sep (k + 1)).length (Lib.byteCells (joined ss sep (k + 1))) := by
          rw [hj, Lib.byteCells_append, Lib.byteCells_append, List.length_append, List.length_append, len_toList, len_toList]
          exact hown2
        have HO2 := Lib.hid hown3; clear hown3 hown2 hg2 hj
        have HB2 := Lib.hid hb2; clear hb2
        go_wp2_with fail
        exact ⟨⟨k + 1, by omega, by go_num, HO2.out, HB2.out⟩, by simp [intOf]; omega⟩
      · have hk0' : ¬ (0 : Int) < k := by omega
        have c1 : wr.cell? ⟨b, off + k, none⟩ = some (.string ss[k]) := by rw [HB.out.cell (p := ⟨b, off + k, none⟩) hbl]; exact HCE.out
        go_wp2_with (at_builtin; go_must (refine Lib.wpList_append_own_string _ rfl (.tmp 19) (.tmp 23) 74 9 rfl w.heap.size 5 i0 Tryz.underlying74 Tryz.underlying9 HI.out HZ0.out HZ1.out HZ2.out _ _ _ rfl HO.out ss[k] rfl (by have := HL.out; unfold maxLen; omega) (by have := HL.out; omega) HB.out.size ?_); intro v2 w2 hown2 hg2 _; refine Hid.out ?_)
        refine Lib.hid ?_
        have hb2 : Below w.heap.size w w2 := HB.out.grown hg2 HB.out.size (fun k hk => (HO.out.lt k hk).1)
        obtain rfl : k = 0 := by omega
        have hown3 : w2.ownsRow w.heap.size 5 1 v2 (joined ss sep 1).length (Lib.byteCells (joined ss sep 1)) := by
          rw [joined_one ss sep hlt, len_toList]
          rw [joined_zero] at hown2
          simpa [Lib.byteCells, Lib.strCells] using hown2
        have HO2 := Lib.hid hown3; clear hown3 hown2 hg2
        have HB2 := Lib.hid hb2; clear hb2
        go_wp2_with fail
        exact ⟨⟨1, by omega, by go_num, HO2.out, HB2.out⟩, by simp [intOf]; omega⟩
    · have : k = ss.length := by omega
      subst this
      rw [joined_all] at hown
      have hcv := conv_own hown
      have HB := Lib.hid hb; clear hb hown
      go_wp2_with fail
      go_ret
      exact ⟨rfl, HB.out⟩
end Go.Proofs.YtimigpdbegfjaaaGreatDoor
/-
  Proved: impl.Join joins the strings with the separator between them, and leaves the memory that was there as it was. On these terms: the strings, their number and the separator are small (2^20).
-/
namespace Go.Proofs.YtimigpdbegfjaaaGreatDoor
open Go.RowKit

set_option maxRecDepth 100000 in
set_option maxHeartbeats 1000000 in
theorem implJoin (v : Value) (ss : List ByteArray) (sep : ByteArray) (hn : ss.length ≤ 1048576) (ht : total ss ≤ 1073741824) (hs : sep.size ≤ 1048576) (w : World) (h : Strs w v ss) :
    Calls Tryz.prog 36 #[v, .string sep] w (JoinEnd ss sep w) := by
  have HL := joined_small ss sep ss.length (Nat.le_refl _) hn ht hs
  rw [joined_all] at HL
  rcases h.parts with ⟨rfl, a, cap, rfl⟩ | ⟨h0, b, off, cap, rfl, hcap, hb, hcell⟩
  · clear h HL
    go_enter Tryz.func36, Tryz.ntmps36
    go_wp2_with fail
    refine (Tryz.strings_Join_none a cap sep w).mono ?_
    rintro e w' ⟨rfl, rfl⟩
    go_wp2_with fail
    go_ret
    exact ⟨rfl, Below.refl _ _⟩
  · have HC : Hid (∀ (j : Nat) x, ss[j]? = some x → w.cell? ⟨b, off + j, none⟩ = some (.string x)) := fun j x hx => by
      obtain ⟨hj, rfl⟩ := List.getElem?_eq_some_iff.1 hx
      exact hcell j hj
    have HM := Lib.hid HL
    clear h HL hcell
    go_enter Tryz.func36, Tryz.ntmps36
    go_wp2_with fail
    refine (Tryz.strings_Join b off cap ss sep w HC.out hb (by omega) hcap (by have := HM.out; omega)).mono ?_
    rintro e w' ⟨rfl, hb1⟩
    go_wp2_with fail
    go_ret
    exact ⟨rfl, hb1⟩
end Go.Proofs.YtimigpdbegfjaaaGreatDoor
/-
  Proved: the digits that a decimal loop collects (least digit first, put in front) are the decimal numeral of the number. Plain mathematics, no program.
-/
namespace Go.Proofs.YtimigpdbegfjaaaGreatDoor.Num

/-- The digits of a number, none for 0. -/
def dd (u : Nat) : List UInt8 :=
  if _h : u = 0 then [] else dd (u / 10) ++ [UInt8.ofNat (48 + u % 10)]
termination_by u
decreasing_by omega

theorem dd_zero : dd 0 = [] := by rw [dd]; simp
theorem dd_pos (u : Nat) (h : u ≠ 0) : dd u = dd (u / 10) ++ [UInt8.ofNat (48 + u % 10)] := by
  rw [dd, dif_neg h]
theorem dd_eq (u : Nat) (h : u ≠ 0) : dd u = Lib.decDigits u := by
  induction u using Nat.strongRecOn with
  | ind u ih =>
    rw [dd_pos u h, Lib.decDigits]
    by_cases h10 : u < 10
    · rw [dif_pos h10, show u / 10 = 0 from by omega, dd_zero, show u % 10 = u from by omega]; rfl
    · rw [dif_neg h10, ih (u / 10) (by omega) (by omega)]

theorem natAbs_tdiv (m : Int) : (m.tdiv 10).natAbs = m.natAbs / 10 := by
  rw [Int.natAbs_tdiv]; rfl
theorem natAbs_tmod (m : Int) : (m.tmod 10).natAbs = m.natAbs % 10 := by
  rw [Int.natAbs_tmod]; rfl

/-- What a round does: the digit of m stands in front of what was collected. -/
theorem round (n m : Int) (l : List UInt8) (hm : m ≠ 0) (h : dd n.natAbs = dd m.natAbs ++ l) :
    dd n.natAbs = dd (m.tdiv 10).natAbs ++ (UInt8.ofNat (48 + (m.tmod 10).natAbs) :: l) := by
  rw [h, dd_pos m.natAbs (by omega), natAbs_tdiv, natAbs_tmod]
  simp

theorem round_pos (n m : Int) (l : List UInt8) (h0 : 0 ≤ m) (hm : m ≠ 0) (h : dd n.natAbs = dd m.natAbs ++ l) :
    dd n.natAbs = dd (m / 10).natAbs ++ (UInt8.ofNat (48 + m % 10).toNat :: l) := by
  rw [h, dd_pos m.natAbs (by omega), show (m / 10).natAbs = m.natAbs / 10 from by omega, show (48 + m % 10).toNat = 48 + m.natAbs % 10 from by omega]
  simp
theorem dd_len (u : Nat) : (dd u).length ≤ u := by
  induction u using Nat.strongRecOn with
  | ind u ih =>
    by_cases h : u = 0
    · subst h; rw [dd_zero]; simp
    · rw [dd_pos u h]
      have := ih (u / 10) (by omega)
      simp; omega
theorem len_of (n m : Int) (l : List UInt8) (hm : m ≠ 0) (h : dd n.natAbs = dd m.natAbs ++ l) : l.length + 1 ≤ n.natAbs := by
  have h1 := congrArg List.length h
  have h2 := dd_len n.natAbs
  rw [dd_pos m.natAbs (by omega)] at h1
  simp at h1; omega

theorem dd_len_le (k u : Nat) (h : u < 10 ^ k) : (dd u).length ≤ k := by
  induction k generalizing u with
  | zero => rw [show u = 0 from by omega, dd_zero]; simp
  | succ k ih =>
    by_cases hu : u = 0
    · subst hu; rw [dd_zero]; simp
    · rw [dd_pos u hu]
      have := ih (u / 10) (by rw [Nat.pow_succ] at h; omega)
      simp; omega
theorem len_of20 (n m : Int) (l : List UInt8) (hn : n.natAbs ≤ 9223372036854775808) (h : dd n.natAbs = dd m.natAbs ++ l) : l.length ≤ 20 := by
  have h1 := congrArg List.length h
  have h2 := dd_len_le 20 n.natAbs (by omega)
  simp at h1; omega
theorem tmod_neg (m : Int) (h : m ≤ 0) : m.tmod 10 = -((-m) % 10) := by
  obtain ⟨k, rfl⟩ : ∃ k, m = -k := ⟨-m, by omega⟩
  rw [Int.neg_tmod, Int.tmod_eq_emod_of_nonneg (by omega)]; simp
theorem tdiv_neg (m : Int) (h : m ≤ 0) : m.tdiv 10 = -((-m) / 10) := by
  obtain ⟨k, rfl⟩ : ∃ k, m = -k := ⟨-m, by omega⟩
  rw [Int.neg_tdiv, Int.tdiv_eq_ediv_of_nonneg (by omega)]; simp
theorem round_neg (n m : Int) (l : List UInt8) (h0 : m ≤ 0) (hm : m ≠ 0) (h : dd n.natAbs = dd m.natAbs ++ l) (x : Int) (hx : x = 48 - m.tmod 10) :
    dd n.natAbs = dd (m.tdiv 10).natAbs ++ (UInt8.ofNat x.toNat :: l) := by
  subst hx
  rw [h, dd_pos m.natAbs (by omega), tmod_neg m h0, tdiv_neg m h0, show (-(-m / 10)).natAbs = m.natAbs / 10 from by omega, show (48 - -(-m % 10)).toNat = 48 + m.natAbs % 10 from by omega]
  simp
theorem bytes_append (a b : List UInt8) : (ByteArray.mk a.toArray ++ ByteArray.mk b.toArray) = ByteArray.mk (a ++ b).toArray := by
  apply ByteArray.ext; simp

theorem itoa_pos (n : Int) (h : 0 < n) : Lib.itoa n = dd n.natAbs := by
  unfold Lib.itoa
  rw [if_neg (by omega), dd_eq _ (by omega)]
  congr 1; omega
theorem itoa_neg (n : Int) (h : n < 0) : Lib.itoa n = 45 :: dd n.natAbs := by
  unfold Lib.itoa
  rw [if_pos h, dd_eq _ (by omega)]
theorem itoa_zero : Lib.itoa 0 = [48] := by
  unfold Lib.itoa
  rw [if_neg (by omega), Lib.decDigits]; rfl
end Go.Proofs.YtimigpdbegfjaaaGreatDoor.Num
/-
  Proved: spec.FormatInt returns the decimal numeral of every int, and leaves the memory that was there as it was.
-/
namespace Go.Proofs.YtimigpdbegfjaaaGreatDoor
open Go.RowKit

/-- One byte, in a new block of its own, becomes a string. -/
theorem conv_byte (w : World) (x : Int) (h0 : 0 ≤ x) (h1 : x ≤ 255) :
    (convert 74 9 (.slice (some ⟨w.heap.size, 0, none⟩) 1 1)).run Tryz.prog (w.alloc (.cells #[.int .u8 x] 5)) =
      .ok (.string ⟨[UInt8.ofNat x.toNat].toArray⟩) (w.alloc (.cells #[.int .u8 x] 5)) := by
  have h := run_convert_bytes_back (P := Tryz.prog) (w.alloc (.cells #[.int .u8 x] 5)) 74 9 5 ⟨w.heap.size, 0, none⟩ 1 [UInt8.ofNat x.toNat] Tryz.underlying74 Tryz.underlying5 Tryz.underlying9
    (fun j hj => by
      have : j = 0 := by simpa using hj
      subst this
      have e : ((UInt8.ofNat x.toNat).toNat : Int) = x := by
        rw [UInt8.toNat_ofNat']; omega
      simp only [List.getElem_cons_zero, e]
      have := World.cell?_alloc_mark w #[.int .u8 x] 5 (0, 0) 0
      simp only [Addr.add]
      exact this)
  exact h

set_option maxHeartbeats 400000 in
theorem specFormat_zero (w : World) :
    Calls Tryz.prog 27 #[.int .i64 0] w fun e w' => e = .returned (.string ⟨(Lib.itoa 0).toArray⟩) ∧ w' = w := by
  rw [Num.itoa_zero]
  go_enter Tryz.func27, Tryz.ntmps27
  go_wp2
  go_ret
  exact ⟨rfl, rfl⟩

set_option maxRecDepth 100000 in
set_option maxHeartbeats 1000000 in
theorem specFormat_pos (n : Int) (h0 : 0 < n) (h1 : n ≤ 9223372036854775807) (w : World) :
    Calls Tryz.prog 27 #[.int .i64 n] w fun e w' => e = .returned (.string ⟨(Lib.itoa n).toArray⟩) ∧ Below w.heap.size w w' := by
  rw [Num.itoa_pos n h0]
  have hz : (n == 0) = false := by simp; omega
  have hlt : decide (n < 0) = false := by simp; omega
  go_enter Tryz.func27, Tryz.ntmps27
  go_wp2
  go_loopw [0, 4] (fun v o wr => ∃ m : Int, ∃ l : List UInt8, 0 ≤ m ∧ m ≤ 9223372036854775807 ∧ v = .int .i64 m ∧ o = .string ⟨l.toArray⟩ ∧ Num.dd n.natAbs = Num.dd m.natAbs ++ l ∧ Below w.heap.size w wr) (fun v _ _ => (intOf v).natAbs)
  case atStart => exact ⟨n, [], by omega, by omega, rfl, rfl, by simp, Below.refl _ w⟩
  case round =>
    obtain ⟨m, l, hm0, hm1, rfl, rfl, hd, hg⟩ := hrel
    have HD := Lib.hid hd; clear hd
    by_cases hm : m = 0
    · subst hm
      go_wp2
      go_ret
      refine ⟨?_, hg⟩
      have := HD.out
      rw [show (0 : Int).natAbs = 0 from rfl, Num.dd_zero] at this
      rw [this]; rfl
    · have hne : (m != 0) = true := by simp; omega
      have hmod : decide (m % 10 < 0) = false := by simp; omega
      have hcv := conv_byte wr (48 + m % 10) (by omega) (by omega)
      have hlen : l.length ≤ 20 := Num.len_of20 n m l (by omega) HD.out
      go_wp2
      exact ⟨⟨m / 10, UInt8.ofNat (48 + m % 10).toNat :: l, by omega, by omega, rfl, congrArg Value.string (Num.bytes_append [_] l), Num.round_pos n m l hm0 hm HD.out, hg.alloc hg.size _⟩, by show (m / 10).natAbs < m.natAbs; omega⟩

set_option maxRecDepth 100000 in
set_option maxHeartbeats 1000000 in
theorem specFormat_neg (n : Int) (h0 : n < 0) (h1 : -9223372036854775808 ≤ n) (w : World) :
    Calls Tryz.prog 27 #[.int .i64 n] w fun e w' => e = .returned (.string ⟨(Lib.itoa n).toArray⟩) ∧ Below w.heap.size w w' := by
  rw [Num.itoa_neg n h0]
  have hz : (n == 0) = false := by simp; omega
  have hlt : decide (n < 0) = true := by simp; omega
  go_enter Tryz.func27, Tryz.ntmps27
  go_wp2
  go_loopw [0, 4] (fun v o wr => ∃ m : Int, ∃ l : List UInt8, m ≤ 0 ∧ -9223372036854775808 ≤ m ∧ v = .int .i64 m ∧ o = .string ⟨l.toArray⟩ ∧ Num.dd n.natAbs = Num.dd m.natAbs ++ l ∧ Below w.heap.size w wr) (fun v _ _ => (intOf v).natAbs)
  case atStart => exact ⟨n, [], by omega, by omega, rfl, rfl, by simp, Below.refl _ w⟩
  case round =>
    obtain ⟨m, l, hm0, hm1, rfl, rfl, hd, hg⟩ := hrel
    have HD := Lib.hid hd; clear hd
    by_cases hm : m = 0
    · subst hm
      have hlen : l.length ≤ 20 := Num.len_of20 n 0 l (by omega) HD.out
      go_wp2
      go_ret
      refine ⟨?_, hg⟩
      have := HD.out
      rw [show (0 : Int).natAbs = 0 from rfl, Num.dd_zero] at this
      rw [this]; exact congrArg (fun x => Ending.returned (Value.string x)) (Num.bytes_append [45] l)
    · have hne : (m != 0) = true := by simp; omega
      have hlen : l.length ≤ 20 := Num.len_of20 n m l (by omega) HD.out
      have hd1 : m.tmod 10 ≤ 0 := by rw [Num.tmod_neg m hm0]; omega
      have hd2 : -9 ≤ m.tmod 10 := by rw [Num.tmod_neg m hm0]; omega
      have hq1 : m.tdiv 10 ≤ 0 := by rw [Num.tdiv_neg m hm0]; omega
      have hq2 : m + 1 ≤ m.tdiv 10 := by rw [Num.tdiv_neg m hm0]; omega
      by_cases hd : m.tmod 10 < 0
      · have hmod : decide (m.tmod 10 < 0) = true := by simp; omega
        have hcv := conv_byte wr (48 + -m.tmod 10) (by omega) (by omega)
        go_wp2
        exact ⟨⟨m.tdiv 10, UInt8.ofNat (48 + -m.tmod 10).toNat :: l, hq1, by omega, rfl, congrArg Value.string (Num.bytes_append [_] l), Num.round_neg n m l hm0 hm HD.out _ (by omega), hg.alloc hg.size _⟩, by show (m.tdiv 10).natAbs < m.natAbs; clear hmod; omega⟩
      · have hmod : decide (m.tmod 10 < 0) = false := by simp; omega
        have hcv := conv_byte wr (48 + m.tmod 10) (by omega) (by omega)
        go_wp2
        exact ⟨⟨m.tdiv 10, UInt8.ofNat (48 + m.tmod 10).toNat :: l, hq1, by omega, rfl, congrArg Value.string (Num.bytes_append [_] l), Num.round_neg n m l hm0 hm HD.out _ (by omega), hg.alloc hg.size _⟩, by show (m.tdiv 10).natAbs < m.natAbs; clear hmod; omega⟩

/-- spec.FormatInt, every int. -/
theorem specFormat (n : Int) (h0 : -9223372036854775808 ≤ n) (h1 : n ≤ 9223372036854775807) (w : World) :
    Calls Tryz.prog 27 #[.int .i64 n] w fun e w' => e = .returned (.string ⟨(Lib.itoa n).toArray⟩) ∧ Below w.heap.size w w' := by
  rcases Int.lt_trichotomy n 0 with h | h | h
  · exact specFormat_neg n h h0 w
  · subst h
    exact (specFormat_zero w).mono fun e w' ⟨he, hw⟩ => ⟨he, by subst hw; exact Below.refl _ _⟩
  · exact specFormat_pos n h h1 w
end Go.Proofs.YtimigpdbegfjaaaGreatDoor
/-
  Proved: impl.FormatInt returns the decimal numeral of every int, and leaves the memory that was there as it was. On these terms: the library's table of powers of ten holds what the program's text lays.
-/
namespace Go.Proofs.YtimigpdbegfjaaaGreatDoor
open Go.ChangeShapes Go.WideShapes Go.ChangeAt Go.RowKit

theorem implFormat (n : Int) (h0 : -9223372036854775808 ≤ n) (h1 : n ≤ 9223372036854775807) (w : World)
    (htab : Lib.TabIs Tryz.prog w "internal/strconv.uint64pow10" .u64 Lib.pow10Tab) :
    Calls Tryz.prog 35 #[.int .i64 n] w fun e w' => e = .returned (.string ⟨(Lib.itoa n).toArray⟩) ∧ Below w.heap.size w w' := by
  go_enter Tryz.func35, Tryz.ntmps35
  go_wp2_with (go_at_call 52; refine (Tryz.strconv_Itoa _ h0 h1 _ htab).mono ?_; rintro e w' ⟨rfl, k, os, rfl⟩)
  go_ret
  exact ⟨rfl, Lib.below_grow _ _ (Nat.le_refl _) _ _⟩

end Go.Proofs.YtimigpdbegfjaaaGreatDoor
/-
  Proved: spec.FormatPath and impl.FormatPath write a list of numbers with dots between them, the empty list as a dash; the memory that was there stays as it was. On these terms: at most 2^20 numbers; the library's table of powers of ten holds what the program's text lays.
-/
namespace Go.Proofs.YtimigpdbegfjaaaGreatDoor
open Go.RowKit

/-- The numeral of a number. -/
def numeral (n : Int) : ByteArray := ⟨(Lib.itoa n).toArray⟩
def numerals (ns : List Int) : List ByteArray := ns.map numeral
def pathText : List Int → ByteArray
  | [] => ⟨#[45]⟩
  | n :: r => ⟨(Lib.join ((numerals (n :: r)).map (·.data.toList)) [46]).toArray⟩
def i64s (ns : List Int) : Prop := ∀ n ∈ ns, -9223372036854775808 ≤ n ∧ n ≤ 9223372036854775807
theorem numerals_length (ns : List Int) : (numerals ns).length = ns.length := List.length_map _
theorem numeral_size (n : Int) (h0 : -9223372036854775808 ≤ n) (h1 : n ≤ 9223372036854775807) : (numeral n).size ≤ 21 := by
  show (Lib.itoa n).toArray.size ≤ 21
  rw [List.size_toArray]
  rcases Int.lt_trichotomy n 0 with h | h | h
  · rw [Num.itoa_neg n h]
    have := Num.dd_len_le 20 n.natAbs (by omega)
    simp; omega
  · subst h; rw [Num.itoa_zero]; simp
  · rw [Num.itoa_pos n h]
    have := Num.dd_len_le 20 n.natAbs (by omega)
    omega
theorem numerals_total : ∀ (ns : List Int), i64s ns → total (numerals ns) ≤ 21 * ns.length
  | [], _ => by simp [numerals, total]
  | n :: r, h => by
    have h1 := numeral_size n (h n (by simp)).1 (h n (by simp)).2
    have h2 := numerals_total r fun m hm => h m (by simp [hm])
    show (numeral n).size + total (numerals r) ≤ _
    simp only [List.length_cons]; omega
theorem numerals_take (ns : List Int) (k : Nat) (h : k < ns.length) : numerals (ns.take (k + 1)) = numerals (ns.take k) ++ [numeral ns[k]] := by
  unfold numerals
  rw [List.take_succ_eq_append_getElem h, List.map_append]; rfl
theorem own_slice {w : World} {B : Nat} {e : TypeId} {size : Nat} {v : Value} {n : Nat} {xs : List Value} (h : w.ownsRow B e size v n xs) : ∃ a cap, v = .slice a n cap := by
  rcases h.2 with ⟨rfl, hn⟩ | ⟨g, cap, cur, rfl, _⟩
  · exact ⟨none, 0, by rw [hn]⟩
  · exact ⟨_, _, rfl⟩
theorem new_one (w : World) (t : TypeId) (x : Value) : ∀ j u, [x][j]? = some u → (w.alloc (.cells #[x] t)).cell? ((⟨w.heap.size, 0, none⟩ : Addr).add j) = some u := by
  intro j u h
  have hj : j = 0 := by
    have := (List.getElem?_eq_some_iff.1 h).1
    simpa using this
  subst hj
  simp at h
  subst h
  rw [addr_add]
  simp
theorem num_next (ss : List ByteArray) (k : Nat) (hk : k < ss.length) :
    ((ss.take k).map Value.string ++ List.replicate (ss.length - k) (Value.string ⟨#[]⟩)).set k (.string ss[k]) = (ss.take (k + 1)).map Value.string ++ List.replicate (ss.length - (k + 1)) (Value.string ⟨#[]⟩) := by
  apply List.ext_getElem
  · simp; omega
  · intro i h1 h2
    simp at h1 h2
    rw [List.getElem_set]
    by_cases hi : k = i
    · subst hi
      rw [if_pos rfl, List.getElem_append_left (by simp; omega)]
      simp
    · rw [if_neg hi]
      by_cases hlt : i < k
      · rw [List.getElem_append_left (by simp; omega), List.getElem_append_left (by simp; omega)]
        simp
      · rw [List.getElem_append_right (by simp; omega), List.getElem_append_right (by simp; omega)]
        simp
set_option maxRecDepth 100000 in
set_option maxHeartbeats 2000000 in
theorem specPathText (v : Value) (ns : List Int) (hn : ns.length ≤ 1048576) (hr : i64s ns) (w : World) (h : Ints w v ns) :
    Calls Tryz.prog 13 #[v] w fun e w' => e = .returned (.string (pathText ns)) ∧ Below w.heap.size w w' := by
  obtain ⟨i0, hi, hz0, hz1, hz2⟩ := info_parts info_str
  have HI := Lib.hid hi; clear hi
  have HZ0 := Lib.hid hz0; clear hz0
  have HZ1 := Lib.hid hz1; clear hz1
  have HZ2 := Lib.hid hz2; clear hz2
  have HR := Lib.hid hr; clear hr
  obtain ⟨a, cap, rfl, hcap, hat⟩ := h
  have HC := Lib.hid hat; clear hat
  go_enter Tryz.func13, Tryz.ntmps13
  go_wp2_with fail
  go_loopw [3, 4] (fun v i wr => ∃ k : Nat, k ≤ ns.length ∧ i = .int .i64 k ∧ wr.ownsRow w.heap.size 9 1 v k ((numerals (ns.take k)).map Value.string) ∧ Below w.heap.size w wr) (fun _ i _ => ns.length - (intOf i).toNat)
  case atStart => exact ⟨0, by omega, rfl, World.ownsRow_made w #[] 0 (Nat.le_refl _) (Nat.zero_le _) rfl, (Below.refl _ _).alloc (Nat.le_refl _) _⟩
  case round =>
    obtain ⟨k, hk, rfl, hown, hb⟩ := hrel
    have HO := Lib.hid hown; clear hown
    have HB := Lib.hid hb; clear hb
    by_cases hlt : k < ns.length
    · obtain ⟨b, off, rfl, hbl, hcell⟩ := HC.out k hlt
      have c0 : wr.cell? ⟨b, off + k, none⟩ = some (.int .i64 ns[k]) := by rw [HB.out.cell (p := ⟨b, off + k, none⟩) hbl]; exact hcell
      have hrk := HR.out ns[k] (List.getElem_mem hlt)
      have HRK := Lib.hid hrk
      clear hcell hrk
      go_wp2_with fail
      refine (specFormat ns[k] HRK.out.1 HRK.out.2 _).mono ?_
      rintro e w1 ⟨rfl, hb1⟩
      have HO1 := Lib.hid (own_below HO.out hb1)
      have HB1 := Lib.hid (HB.out.trans (hb1.mono HB.out.size))
      clear hb1 HO HB c0
      go_wp2_with (at_builtin; go_must (refine wpList_append_own _ rfl (.tmp 12) (.tmp 18) 58 rfl w.heap.size 9 i0 (.string ⟨#[]⟩) 1 16 Tryz.underlying58 HI.out HZ0.out HZ1.out HZ2.out rfl (by decide) _ _ _ rfl (HO1.out.alloc _) ⟨w1.heap.size, 0, none⟩ 1 1 [.string ⟨(Lib.itoa ns[k]).toArray⟩] rfl rfl (new_one _ _ _) (by simp [Value.oneCell']) (by unfold maxLen; omega) (by omega) (by have := HB1.out.size; simp; omega) ?_); intro v2 w2 hown2 hg2 _; refine Hid.out ?_)
      refine Lib.hid ?_
      have hb2 : Below w.heap.size w w2 := (HB1.out.alloc HB1.out.size _).grown hg2 (by have := HB1.out.size; simp; omega) (fun k hk => (HO1.out.lt k hk).1)
      have hown3 : w2.ownsRow w.heap.size 9 1 v2 (k + 1) ((numerals (ns.take (k + 1))).map Value.string) := by
        rw [numerals_take ns k hlt, List.map_append]; exact hown2
      have HO2 := Lib.hid hown3; clear hown3 hown2 hg2
      have HB2 := Lib.hid hb2; clear hb2
      go_wp2_with fail
      exact ⟨⟨k + 1, by omega, by go_num, HO2.out, HB2.out⟩, by simp [intOf]; omega⟩
    · obtain rfl : k = ns.length := by omega
      have HL := HO.out
      rw [List.take_length] at HL
      have HO1 := Lib.hid HL; clear HL HO
      obtain ⟨a2, cap2, rfl⟩ := own_slice HO1.out
      cases ns with
      | nil =>
        go_wp2_with fail
        go_ret
        exact ⟨rfl, HB.out⟩
      | cons n r =>
        have HS := Lib.hid (Strs.of_own (ss := numerals (n :: r)) (by have := HO1.out; rw [← numerals_length (n :: r)] at this; exact this))
        rw [numerals_length] at HS
        go_wp2_with fail
        refine (specJoin _ (numerals (n :: r)) ⟨#[46]⟩ (by rw [numerals_length]; exact hn) (by have := numerals_total _ HR.out; omega) (by decide) _ HS.out).mono ?_
        rintro e w1 ⟨rfl, hb1⟩
        have HB1 := Lib.hid (HB.out.trans (hb1.mono HB.out.size))
        clear hb1
        go_wp2_with fail
        go_ret
        exact ⟨rfl, HB1.out⟩
end Go.Proofs.YtimigpdbegfjaaaGreatDoor
/-
  Proved: impl.nodeOf says which of the five kinds a type's root has (nil if it has none of their forms), and leaves the memory that was there as it was.
-/
namespace Go.Proofs.YtimigpdbegfjaaaGreatDoor
open Go.RowKit

theorem below_drewN {B : Nat} {a w : World} (h : Below B a w) (n : Nat) : Below B a (w.drewN n) := ⟨h.os, h.tape, h.output, h.size, h.block⟩
/-- What nodeOf gives for a root of kind k with the parts ts. -/
def NodeAt (w : World) (d : Nat) (n : Value) (k : Int) (ts : List Ty) : Prop :=
  (kindOk k ts.length = false ∧ n = .nilIface) ∨
  (kindOk k ts.length = true ∧ ts = [] ∧ ((k = 1 ∧ n = .iface 102 (.agg #[])) ∨ (k = 2 ∧ n = .iface 103 (.agg #[])) ∨ (k = 3 ∧ n = .iface 104 (.agg #[])))) ∨
  (kindOk k ts.length = true ∧ ∃ t1 t2 k1 s1 k2 s2, ts = [t1, t2] ∧ TyAt w d (.agg #[.int .i64 k1, s1]) t1 ∧ TyAt w d (.agg #[.int .i64 k2, s2]) t2 ∧
    ((k = 4 ∧ n = .iface 106 (.agg #[.int .i64 k1, s1, .int .i64 k2, s2])) ∨ (k = 5 ∧ n = .iface 108 (.agg #[.int .i64 k1, s1, .int .i64 k2, s2]))))
def NodeEnd (w0 w : World) (d : Nat) (k : Int) (ts : List Ty) (e : Ending) (w' : World) : Prop :=
  ∃ n, e = .returned n ∧ NodeAt w0 d n k ts ∧ Below w.heap.size w w'
theorem node_bad {w0 w w' : World} {d : Nat} {k : Int} {ts : List Ty} (h : kindOk k ts.length = false) (hb : Below w.heap.size w w') : NodeEnd w0 w d k ts (.returned .nilIface) w' :=
  ⟨_, rfl, Or.inl ⟨h, rfl⟩, hb⟩
theorem two_of {d : Nat} {w : World} {ts : List Ty} {a : Option Addr} (hl : ts.length = 2)
    (hat : ∀ j (h : j < ts.length), ∃ b off c0 c1, a = some ⟨b, off, none⟩ ∧ b < w.heap.size ∧ w.cell? ⟨b, off + j * 2, none⟩ = some c0 ∧ w.cell? ⟨b, off + j * 2 + 1, none⟩ = some c1 ∧ TyAt w d (.agg #[c0, c1]) ts[j]) :
    ∃ t1 t2 k1 s1 n1 c1 k2 s2 n2 c2 b off, ts = [t1, t2] ∧ a = some ⟨b, off, none⟩ ∧ b < w.heap.size ∧ w.cell? ⟨b, off, none⟩ = some (.int .i64 k1) ∧ w.cell? ⟨b, off + 1, none⟩ = some (.slice s1 n1 c1) ∧ w.cell? ⟨b, off + 2, none⟩ = some (.int .i64 k2) ∧ w.cell? ⟨b, off + 3, none⟩ = some (.slice s2 n2 c2) ∧
      TyAt w d (.agg #[.int .i64 k1, .slice s1 n1 c1]) t1 ∧ TyAt w d (.agg #[.int .i64 k2, .slice s2 n2 c2]) t2 := by
  match ts, hl, hat with
  | [t1, t2], _, hat =>
    obtain ⟨b, off, x0, x1, rfl, hbl, h0, h1, ht1⟩ := hat 0 (by simp)
    obtain ⟨b', off', y0, y1, he, _, h2, h3, ht2⟩ := hat 1 (by simp)
    cases he
    obtain ⟨k1, s1, n1, c1, rfl, rfl⟩ := at_parts ht1
    obtain ⟨k2, s2, n2, c2, rfl, rfl⟩ := at_parts ht2
    exact ⟨t1, t2, k1, s1, n1, c1, k2, s2, n2, c2, b, off, rfl, rfl, hbl, by simpa using h0, by simpa using h1, by simpa using h2, by simpa [Nat.add_assoc] using h3, ht1, ht2⟩

set_option maxRecDepth 100000 in
set_option maxHeartbeats 2000000 in
theorem implNode (w0 : World) (d : Nat) (v : Value) (kd : Int) (ts : List Ty) (w : World) (h : TyAt w0 (d + 1) v (.node kd ts)) (hw : Below w0.heap.size w0 w) (hsz : ts.length ≤ 1152921504606846976) :
    Calls Tryz.prog 74 #[v] w (NodeEnd w0 w d kd ts) := by
  have HW := Lib.hid hw; clear hw
  obtain ⟨sl, rfl, hk0, hk1, a, cap, rfl, hcap, hcap2, hat⟩ := h
  have HAT := Lib.hid hat; clear hat
  obtain ⟨n, hn⟩ : ∃ n, n = ts.length := ⟨_, rfl⟩
  have HN := Lib.hid hn
  rw [← hn] at hcap hsz ⊢
  clear hn
  by_cases q1 : kd = 1
  · subst q1
    by_cases z : n = 0
    · subst z
      go_enter Tryz.func74, Tryz.ntmps74
      go_wp2_with fail
      go_ret
      have hts : ts = [] := List.eq_nil_of_length_eq_zero HN.out.symm
      exact ⟨_, rfl, Or.inr (Or.inl ⟨by rw [hts]; rfl, hts, Or.inl ⟨rfl, rfl⟩⟩), below_alloc _ _⟩
    · have z2 : ¬ ((n : Int) = 0) := by omega
      go_enter Tryz.func74, Tryz.ntmps74
      go_wp2_with fail
      go_ret
      exact node_bad (by rw [← HN.out]; simp [kindOk, z]) (below_alloc _ _)
  by_cases q2 : kd = 2
  · subst q2
    by_cases z : n = 0
    · subst z
      go_enter Tryz.func74, Tryz.ntmps74
      go_wp2_with fail
      go_ret
      have hts : ts = [] := List.eq_nil_of_length_eq_zero HN.out.symm
      exact ⟨_, rfl, Or.inr (Or.inl ⟨by rw [hts]; rfl, hts, Or.inr (Or.inl ⟨rfl, rfl⟩)⟩), below_alloc _ _⟩
    · have z2 : ¬ ((n : Int) = 0) := by omega
      go_enter Tryz.func74, Tryz.ntmps74
      go_wp2_with fail
      go_ret
      exact node_bad (by rw [← HN.out]; simp [kindOk, z]) (below_alloc _ _)
  by_cases q3 : kd = 3
  · subst q3
    by_cases z : n = 0
    · subst z
      go_enter Tryz.func74, Tryz.ntmps74
      go_wp2_with fail
      go_ret
      have hts : ts = [] := List.eq_nil_of_length_eq_zero HN.out.symm
      exact ⟨_, rfl, Or.inr (Or.inl ⟨by rw [hts]; rfl, hts, Or.inr (Or.inr ⟨rfl, rfl⟩)⟩), below_alloc _ _⟩
    · have z2 : ¬ ((n : Int) = 0) := by omega
      go_enter Tryz.func74, Tryz.ntmps74
      go_wp2_with fail
      go_ret
      exact node_bad (by rw [← HN.out]; simp [kindOk, z]) (below_alloc _ _)
  by_cases q4 : kd = 4
  · subst q4
    by_cases z : n = 2
    · subst z
      obtain ⟨t1, t2, k1, s1, n1, c1, k2, s2, n2, c2, b, off, hts, rfl, hbl0, g0, g1, g2, g3, ht1, ht2⟩ := two_of HN.out.symm HAT.out
      have HTS := Lib.hid hts
      have H1 := Lib.hid ht1
      have H2 := Lib.hid ht2
      clear hts ht1 ht2 HAT
      have hbl := Nat.lt_of_lt_of_le hbl0 HW.out.size
      have h0 := (HW.out.cell (p := ⟨b, off, none⟩) hbl0).trans g0
      have h1 := (HW.out.cell (p := ⟨b, off + 1, none⟩) hbl0).trans g1
      have h2 := (HW.out.cell (p := ⟨b, off + 2, none⟩) hbl0).trans g2
      have h3 := (HW.out.cell (p := ⟨b, off + 3, none⟩) hbl0).trans g3
      clear g0 g1 g2 g3
      have hb2 : ¬ (b = w.heap.size) := by omega
      go_enter Tryz.func74, Tryz.ntmps74
      go_wp2_with fail
      go_quiet (fail)
      go_wp2_with fail
      go_ret
      have X : ∀ nq, Below w.heap.size w ((w.alloc (.cells #[.int .i64 4, .slice (some ⟨b, off, none⟩) 2 cap] 35)).drewN nq) := fun nq => below_drewN (below_alloc _ _) nq
      exact ⟨_, rfl, Or.inr (Or.inr ⟨by rw [HTS.out]; rfl, t1, t2, k1, _, k2, _, HTS.out, H1.out, H2.out, Or.inl ⟨rfl, rfl⟩⟩), X _⟩
    · have z2 : ¬ ((n : Int) = 2) := by omega
      go_enter Tryz.func74, Tryz.ntmps74
      go_wp2_with fail
      go_ret
      exact node_bad (by rw [← HN.out]; simp [kindOk, z]) (below_alloc _ _)
  by_cases q5 : kd = 5
  · subst q5
    by_cases z : n = 2
    · subst z
      obtain ⟨t1, t2, k1, s1, n1, c1, k2, s2, n2, c2, b, off, hts, rfl, hbl0, g0, g1, g2, g3, ht1, ht2⟩ := two_of HN.out.symm HAT.out
      have HTS := Lib.hid hts
      have H1 := Lib.hid ht1
      have H2 := Lib.hid ht2
      clear hts ht1 ht2 HAT
      have hbl := Nat.lt_of_lt_of_le hbl0 HW.out.size
      have h0 := (HW.out.cell (p := ⟨b, off, none⟩) hbl0).trans g0
      have h1 := (HW.out.cell (p := ⟨b, off + 1, none⟩) hbl0).trans g1
      have h2 := (HW.out.cell (p := ⟨b, off + 2, none⟩) hbl0).trans g2
      have h3 := (HW.out.cell (p := ⟨b, off + 3, none⟩) hbl0).trans g3
      clear g0 g1 g2 g3
      have hb2 : ¬ (b = w.heap.size) := by omega
      go_enter Tryz.func74, Tryz.ntmps74
      go_wp2_with fail
      go_quiet (fail)
      go_wp2_with fail
      go_ret
      have X : ∀ nq, Below w.heap.size w ((w.alloc (.cells #[.int .i64 5, .slice (some ⟨b, off, none⟩) 2 cap] 35)).drewN nq) := fun nq => below_drewN (below_alloc _ _) nq
      exact ⟨_, rfl, Or.inr (Or.inr ⟨by rw [HTS.out]; rfl, t1, t2, k1, _, k2, _, HTS.out, H1.out, H2.out, Or.inr ⟨rfl, rfl⟩⟩), X _⟩
    · have z2 : ¬ ((n : Int) = 2) := by omega
      go_enter Tryz.func74, Tryz.ntmps74
      go_wp2_with fail
      go_ret
      exact node_bad (by rw [← HN.out]; simp [kindOk, z]) (below_alloc _ _)
  go_enter Tryz.func74, Tryz.ntmps74
  go_wp2_with fail
  go_ret
  exact node_bad (by rw [← HN.out]; simp [kindOk, q1, q2, q3, q4, q5]) (below_alloc _ _)
end Go.Proofs.YtimigpdbegfjaaaGreatDoor
/-
  Proved: plain facts on trees that own their blocks, with the blocks' bounds.
-/
namespace Go.Proofs.YtimigpdbegfjaaaGreatDoor
open Go.RowKit

def OwnIn (w : World) (d : Nat) (v : Value) (t : Ty) (lo hi : Nat) : Prop := ∃ fp, TyOwn w d v t fp ∧ Fp lo hi fp ∧ hi ≤ w.heap.size
theorem OwnIn.at_ {w : World} {d : Nat} {v : Value} {t : Ty} {lo hi : Nat} (h : OwnIn w d v t lo hi) : TyAt w d v t := by obtain ⟨fp, h, _⟩ := h; exact TyOwn.at_ h
theorem OwnIn.below {w w' : World} {d : Nat} {v : Value} {t : Ty} {lo hi : Nat} (h : OwnIn w d v t lo hi) (hb : Below w.heap.size w w') : OwnIn w' d v t lo hi := by
  obtain ⟨fp, h, hf, hz⟩ := h
  exact ⟨fp, h.kept hb.size fun b hbf => hb.block b (Nat.lt_of_lt_of_le (hf.2 b hbf).2 hz), hf, Nat.le_trans hz hb.size⟩
theorem OwnIn.of {w0 w : World} {d : Nat} {v : Value} {t : Ty} {fp : List Nat} {lo : Nat} (h : TyOwn w d v t fp) (hf : Fp w0.heap.size w.heap.size fp) (hlo : lo ≤ w0.heap.size) : OwnIn w d v t lo w.heap.size :=
  ⟨fp, h, hf.mono hlo (Nat.le_refl _), Nat.le_refl _⟩
/-- All old blocks but those from lo up to hi are as they were. -/
def Kept (lo hi : Nat) (w w' : World) : Prop := w.heap.size ≤ w'.heap.size ∧ ∀ b, b < w.heap.size → (b < lo ∨ hi ≤ b) → w'.heap[b]? = w.heap[b]?
theorem OwnIn.beside {w w' : World} {d : Nat} {v : Value} {t : Ty} {lo hi lo2 hi2 : Nat} (h : OwnIn w d v t lo hi) (k : Kept lo2 hi2 w w') (hd : hi ≤ lo2 ∨ hi2 ≤ lo) : OwnIn w' d v t lo hi := by
  obtain ⟨fp, h, hf, hz⟩ := h
  exact ⟨fp, h.kept k.1 fun b hbf => k.2 b (by have := (hf.2 b hbf).2; omega) (by have := hf.2 b hbf; omega), hf, Nat.le_trans hz k.1⟩
theorem BoxAt.beside {w w' : World} {p lo hi : Nat} {cs : Array Value} (h : BoxAt w p cs) (k : Kept lo hi w w') (hd : p < lo ∨ hi ≤ p) : BoxAt w' p cs :=
  BoxAt.kept h k.1 (k.2 p h.1 hd)
end Go.Proofs.YtimigpdbegfjaaaGreatDoor
/-
  Proved: plain facts on four cells that lie behind one another, and on kinds.
-/
namespace Go.Proofs.YtimigpdbegfjaaaGreatDoor
open Go.RowKit

/-- Four cells that lie behind one another. -/
def FourAt (w : World) (b off : Nat) (c0 c1 c2 c3 : Value) : Prop :=
  b < w.heap.size ∧ w.cell? ⟨b, off, none⟩ = some c0 ∧ w.cell? ⟨b, off + 1, none⟩ = some c1 ∧ w.cell? ⟨b, off + 2, none⟩ = some c2 ∧ w.cell? ⟨b, off + 3, none⟩ = some c3
theorem FourAt.below {w w' : World} {b off : Nat} {c0 c1 c2 c3 : Value} (h : FourAt w b off c0 c1 c2 c3) (hb : Below w.heap.size w w') : FourAt w' b off c0 c1 c2 c3 := by
  obtain ⟨hl, h0, h1, h2, h3⟩ := h
  exact ⟨Nat.lt_of_lt_of_le hl hb.size, (hb.cell (p := ⟨b, off, none⟩) hl).trans h0, (hb.cell (p := ⟨b, off + 1, none⟩) hl).trans h1, (hb.cell (p := ⟨b, off + 2, none⟩) hl).trans h2, (hb.cell (p := ⟨b, off + 3, none⟩) hl).trans h3⟩
theorem kind_cases {k : Int} {n : Nat} (h : kindOk k n = true) : (k = 1 ∧ n = 0) ∨ (k = 2 ∧ n = 0) ∨ (k = 3 ∧ n = 0) ∨ (k = 4 ∧ n = 2) ∨ (k = 5 ∧ n = 2) := by
  unfold kindOk at h
  split at h
  · have := of_decide_eq_true h; omega
  · split at h
    · have := of_decide_eq_true h; omega
    · cases h
theorem FourAt.stored {w : World} {b off q j : Nat} {u c0 c1 c2 c3 : Value} (h : FourAt w b off c0 c1 c2 c3) (hne : b ≠ q) : FourAt (w.setCell ⟨q, j, none⟩ u) b off c0 c1 c2 c3 := by
  obtain ⟨hl, h0, h1, h2, h3⟩ := h
  have e : (w.setCell ⟨q, j, none⟩ u).heap[b]? = w.heap[b]? := heap_setCell_other _ _ _ _ (by simpa using hne)
  refine ⟨by simpa using hl, ?_, ?_, ?_, ?_⟩
  · rw [World.cell?_of_block (a := ⟨b, off, none⟩) e]; exact h0
  · rw [World.cell?_of_block (a := ⟨b, off + 1, none⟩) e]; exact h1
  · rw [World.cell?_of_block (a := ⟨b, off + 2, none⟩) e]; exact h2
  · rw [World.cell?_of_block (a := ⟨b, off + 3, none⟩) e]; exact h3
theorem OwnIn.stored {w : World} {d : Nat} {v : Value} {t : Ty} {lo hi q j : Nat} {u : Value} (h : OwnIn w d v t lo hi) (hq : q < lo) : OwnIn (w.setCell ⟨q, j, none⟩ u) d v t lo hi := by
  obtain ⟨fp, h, hf, hz⟩ := h
  refine ⟨fp, h.kept (by simp) fun b hb => ?_, hf, by simpa using hz⟩
  have := (hf.2 b hb).1
  exact heap_setCell_other _ _ _ _ (by simp; omega)
end Go.Proofs.YtimigpdbegfjaaaGreatDoor
/-
  Proved: spec.l4Text gives the text of a type's tree; the memory that was there stays as it was.
-/
namespace Go.Proofs.YtimigpdbegfjaaaGreatDoor
open Go.RowKit

set_option maxRecDepth 100000 in
set_option maxHeartbeats 4000000 in
theorem specText : ∀ (d : Nat) (v : Value) (t : Ty) (w : World), TyAt w d v t → t.form = true → t.size ≤ 1048577 →
    Calls Tryz.prog 46 #[v] w fun e w' => e = .returned (.string t.text) ∧ Below w.heap.size w w'
  | 0, _, _, _, h, _, _ => h.elim
  | d + 1, v, .node kd ts, w, h, hfm, hsz => by
    have IH : Hid (∀ (v : Value) (t : Ty) (w : World), TyAt w d v t → t.form = true → t.size ≤ 1048577 → Calls Tryz.prog 46 #[v] w fun e w' => e = .returned (.string t.text) ∧ Below w.heap.size w w') := specText d
    obtain ⟨sl, rfl, hk0, hk1, a, cap, rfl, hcap, hcap2, hat⟩ := h
    have HAT := Lib.hid hat; clear hat
    have HF := Lib.hid hfm
    have HS := Lib.hid hsz
    have hko : kindOk kd ts.length = true := by simp only [Ty.form, Bool.and_eq_true] at hfm; exact hfm.2
    clear hfm hsz hcap hcap2 hk0 hk1
    obtain ⟨n, hn⟩ : ∃ n, n = ts.length := ⟨_, rfl⟩
    have HN := Lib.hid hn
    rw [← hn] at hko ⊢
    clear hn
    rcases kind_cases hko with ⟨z1, _⟩ | ⟨z1, _⟩ | ⟨z1, _⟩ | ⟨z1, z2⟩ | ⟨z1, z2⟩ <;> clear hko
    · subst z1
      have HFIN : Hid ((Ty.node 1 ts).text = ⟨#[63]⟩) := by show _ = _; simp [Ty.text, textOf]
      go_enter Tryz.func46, Tryz.ntmps46
      go_wp2_with fail
      go_ret
      exact ⟨by rw [HFIN.out]; rfl, below_alloc _ _⟩
    · subst z1
      have HFIN : Hid ((Ty.node 2 ts).text = ⟨#[78]⟩) := by show _ = _; simp [Ty.text, textOf]
      go_enter Tryz.func46, Tryz.ntmps46
      go_wp2_with fail
      go_ret
      exact ⟨by rw [HFIN.out]; rfl, below_alloc _ _⟩
    · subst z1
      have HFIN : Hid ((Ty.node 3 ts).text = ⟨#[66]⟩) := by show _ = _; simp [Ty.text, textOf]
      go_enter Tryz.func46, Tryz.ntmps46
      go_wp2_with fail
      go_ret
      exact ⟨by rw [HFIN.out]; rfl, below_alloc _ _⟩
    · subst z1
      subst z2
      obtain ⟨t1, t2, k1, s1, n1, c1, k2, s2, n2, c2, b, off, hts, rfl, hbl0, g0, g1, g2, g3, ht1, ht2⟩ := two_of HN.out.symm HAT.out
      subst hts
      have X0 : Hid (FourAt w b off (.int .i64 k1) (.slice s1 n1 c1) (.int .i64 k2) (.slice s2 n2 c2)) := ⟨hbl0, g0, g1, g2, g3⟩
      clear HAT HN hbl0 g0 g1 g2 g3
      have F1 := Lib.hid (form_two HF.out).1
      have F2 := Lib.hid (form_two HF.out).2
      have z1 := t1.text_size
      have z2 := t2.text_size
      have hs2 := HS.out
      simp only [Ty.size, Ty.sizes] at hs2
      have Z1 := Lib.hid (show t1.size ≤ 1048577 by omega)
      have Z2 := Lib.hid (show t2.size ≤ 1048577 by omega)
      have m1 : ¬ (9223372036854775807 < 1 + t1.text.size) := by omega
      have m2 : ¬ (9223372036854775807 < 1 + t1.text.size + 1) := by omega
      have m3 : ¬ (9223372036854775807 < 1 + t1.text.size + 1 + t2.text.size) := by omega
      have m4 : ¬ (9223372036854775807 < 1 + t1.text.size + 1 + t2.text.size + 1) := by omega
      clear hs2 z1 z2
      have B : Hid (Below w.heap.size w (w.alloc (.cells #[.int .i64 4, .slice (some ⟨b, off, none⟩) 2 cap] 35))) := below_alloc _ _
      have H1 := Lib.hid (ht1.below B.out)
      have H2 := Lib.hid (ht2.below B.out)
      have X4 := Lib.hid (X0.out.below B.out)
      have XN : Hid (BoxAt (w.alloc (.cells #[.int .i64 4, .slice (some ⟨b, off, none⟩) 2 cap] 35)) w.heap.size #[.int .i64 4, .slice (some ⟨b, off, none⟩) 2 cap]) := BoxAt.new _ _ _
      clear ht1 ht2 X0
      go_enter Tryz.func46, Tryz.ntmps46
      go_wp2_with fail
      have hb := below_drew (w.alloc (.cells #[.int .i64 4, .slice (some ⟨b, off, none⟩) 2 cap] 35))
      replace B := Lib.hid (below_thru B.out (Nat.le_refl _) hb)
      replace H1 := Lib.hid (H1.out.below hb)
      replace H2 := Lib.hid (H2.out.below hb)
      replace XN := Lib.hid (XN.out.below hb)
      replace X4 := Lib.hid (X4.out.below hb)
      clear hb
      go_region_held3 (fun w' => w'.cell? ⟨w.heap.size, 1, none⟩ = some (.slice (some ⟨b, off, none⟩) 2 cap) ∧ w'.cell? ⟨b, off, none⟩ = some (.int .i64 k1) ∧ w'.cell? ⟨b, off + 1, none⟩ = some (.slice s1 n1 c1) ∧ w'.cell? ⟨b, off + 2, none⟩ = some (.int .i64 k2) ∧ w'.cell? ⟨b, off + 3, none⟩ = some (.slice s2 n2 c2)) (exact ⟨XN.out.2 1, X4.out.2.1, X4.out.2.2.1, X4.out.2.2.2.1, X4.out.2.2.2.2⟩)
        (first
         | (go_at_call_of 46 (Value.agg #[Value.int IntKind.i64 k1, Value.slice s1 n1 c1])
            refine (IH.out _ t1 _ H1.out F1.out Z1.out).mono ?_
            rintro e w1 ⟨rfl, hb⟩
            replace B := Lib.hid (below_thru B.out (Nat.le_refl _) hb)
            replace H1 := Lib.hid (H1.out.below hb)
            replace H2 := Lib.hid (H2.out.below hb)
            replace XN := Lib.hid (XN.out.below hb)
            replace X4 := Lib.hid (X4.out.below hb)
            clear hb)
         | (go_at_call_of 46 (Value.agg #[Value.int IntKind.i64 k2, Value.slice s2 n2 c2])
            refine (IH.out _ t2 _ H2.out F2.out Z2.out).mono ?_
            rintro e w2 ⟨rfl, hb⟩
            replace B := Lib.hid (below_thru B.out (Nat.le_refl _) hb)
            replace H1 := Lib.hid (H1.out.below hb)
            replace H2 := Lib.hid (H2.out.below hb)
            replace XN := Lib.hid (XN.out.below hb)
            replace X4 := Lib.hid (X4.out.below hb)
            clear hb))
      go_wp2_with fail
      go_ret
      exact ⟨by rw [Ty.text_arrow]; rfl, B.out⟩
    · subst z1
      subst z2
      obtain ⟨t1, t2, k1, s1, n1, c1, k2, s2, n2, c2, b, off, hts, rfl, hbl0, g0, g1, g2, g3, ht1, ht2⟩ := two_of HN.out.symm HAT.out
      subst hts
      have X0 : Hid (FourAt w b off (.int .i64 k1) (.slice s1 n1 c1) (.int .i64 k2) (.slice s2 n2 c2)) := ⟨hbl0, g0, g1, g2, g3⟩
      clear HAT HN hbl0 g0 g1 g2 g3
      have F1 := Lib.hid (form_two HF.out).1
      have F2 := Lib.hid (form_two HF.out).2
      have z1 := t1.text_size
      have z2 := t2.text_size
      have hs2 := HS.out
      simp only [Ty.size, Ty.sizes] at hs2
      have Z1 := Lib.hid (show t1.size ≤ 1048577 by omega)
      have Z2 := Lib.hid (show t2.size ≤ 1048577 by omega)
      have m1 : ¬ (9223372036854775807 < 1 + t1.text.size) := by omega
      have m2 : ¬ (9223372036854775807 < 1 + t1.text.size + 1) := by omega
      have m3 : ¬ (9223372036854775807 < 1 + t1.text.size + 1 + t2.text.size) := by omega
      have m4 : ¬ (9223372036854775807 < 1 + t1.text.size + 1 + t2.text.size + 1) := by omega
      clear hs2 z1 z2
      have B : Hid (Below w.heap.size w (w.alloc (.cells #[.int .i64 5, .slice (some ⟨b, off, none⟩) 2 cap] 35))) := below_alloc _ _
      have H1 := Lib.hid (ht1.below B.out)
      have H2 := Lib.hid (ht2.below B.out)
      have X4 := Lib.hid (X0.out.below B.out)
      have XN : Hid (BoxAt (w.alloc (.cells #[.int .i64 5, .slice (some ⟨b, off, none⟩) 2 cap] 35)) w.heap.size #[.int .i64 5, .slice (some ⟨b, off, none⟩) 2 cap]) := BoxAt.new _ _ _
      clear ht1 ht2 X0
      go_enter Tryz.func46, Tryz.ntmps46
      go_wp2_with fail
      have hb := below_drew (w.alloc (.cells #[.int .i64 5, .slice (some ⟨b, off, none⟩) 2 cap] 35))
      replace B := Lib.hid (below_thru B.out (Nat.le_refl _) hb)
      replace H1 := Lib.hid (H1.out.below hb)
      replace H2 := Lib.hid (H2.out.below hb)
      replace XN := Lib.hid (XN.out.below hb)
      replace X4 := Lib.hid (X4.out.below hb)
      clear hb
      go_region_held3 (fun w' => w'.cell? ⟨w.heap.size, 1, none⟩ = some (.slice (some ⟨b, off, none⟩) 2 cap) ∧ w'.cell? ⟨b, off, none⟩ = some (.int .i64 k1) ∧ w'.cell? ⟨b, off + 1, none⟩ = some (.slice s1 n1 c1) ∧ w'.cell? ⟨b, off + 2, none⟩ = some (.int .i64 k2) ∧ w'.cell? ⟨b, off + 3, none⟩ = some (.slice s2 n2 c2)) (exact ⟨XN.out.2 1, X4.out.2.1, X4.out.2.2.1, X4.out.2.2.2.1, X4.out.2.2.2.2⟩)
        (first
         | (go_at_call_of 46 (Value.agg #[Value.int IntKind.i64 k1, Value.slice s1 n1 c1])
            refine (IH.out _ t1 _ H1.out F1.out Z1.out).mono ?_
            rintro e w1 ⟨rfl, hb⟩
            replace B := Lib.hid (below_thru B.out (Nat.le_refl _) hb)
            replace H1 := Lib.hid (H1.out.below hb)
            replace H2 := Lib.hid (H2.out.below hb)
            replace XN := Lib.hid (XN.out.below hb)
            replace X4 := Lib.hid (X4.out.below hb)
            clear hb)
         | (go_at_call_of 46 (Value.agg #[Value.int IntKind.i64 k2, Value.slice s2 n2 c2])
            refine (IH.out _ t2 _ H2.out F2.out Z2.out).mono ?_
            rintro e w2 ⟨rfl, hb⟩
            replace B := Lib.hid (below_thru B.out (Nat.le_refl _) hb)
            replace H1 := Lib.hid (H1.out.below hb)
            replace H2 := Lib.hid (H2.out.below hb)
            replace XN := Lib.hid (XN.out.below hb)
            replace X4 := Lib.hid (X4.out.below hb)
            clear hb))
      go_wp2_with fail
      go_ret
      exact ⟨by rw [Ty.text_pair]; rfl, B.out⟩
end Go.Proofs.YtimigpdbegfjaaaGreatDoor
/-
  Proved: spec.l7Text gives the text of an expression of the right form; the memory that was there stays as it was.
-/
namespace Go.Proofs.YtimigpdbegfjaaaGreatDoor
open Go.RowKit

set_option maxRecDepth 100000 in
set_option maxHeartbeats 8000000 in
theorem specExText : ∀ (d : Nat) (v : Value) (t : Ex) (w : World), ExAt w d v t → t.form = true → t.bulk ≤ 1048576 →
    Calls Tryz.prog 26 #[v] w fun e w' => e = .returned (.string t.text) ∧ Below w.heap.size w w'
  | 0, _, _, _, h, _, _ => h.elim
  | d + 1, v, .node kd nm n ty es, w, h, hform, hsz => by
    have IH : Hid (∀ (v : Value) (t : Ex) (w : World), ExAt w d v t → t.form = true → t.bulk ≤ 1048576 → Calls Tryz.prog 26 #[v] w fun e w' => e = .returned (.string t.text) ∧ Below w.heap.size w w') := specExText d
    obtain ⟨i0, hi, hz0, hz1, hz2⟩ := info_parts info_str
    have HI := Lib.hid hi; clear hi
    have HZ0 := Lib.hid hz0; clear hz0
    have HZ1 := Lib.hid hz1; clear hz1
    have HZ2 := Lib.hid hz2; clear hz2
    have HV := ex_parts h
    obtain ⟨c3, c4, sl, rfl, hk0, hk1, hn0, hn1, hnm, hty, a, cap, rfl, hcap, hcap2, hat⟩ := h
    obtain ⟨k', nm', n', tk, ta, tn, tc, sa, sn, sc, hv⟩ := HV
    injection hv with hv
    injection hv with hv
    simp at hv
    obtain ⟨rfl, rfl, rfl, rfl, rfl, rfl, rfl, rfl⟩ := hv
    have HAT := Lib.hid hat; clear hat
    have HTY := Lib.hid hty; clear hty
    have HFORM := Lib.hid hform
    have HPA := Lib.hid (form_parts hform)
    have HNR := Lib.hid (form_num hform)
    have HKR := Lib.hid (form_kind hform)
    clear hform
    have hbk : (Ex.node kd nm n ty es).bulk = nm.size + (ty.size - 1) + Ex.bulks es := rfl
    have HSZ : Hid (Ex.bulks es ≤ 1048576) := by show _ ≤ _; omega
    have HNS : Hid (nm.size ≤ 1048576) := by show _ ≤ _; omega
    have HTZ : Hid (ty.size ≤ 1048577) := by show _ ≤ _; omega
    have hlen : es.length ≤ 1048576 := by have := Ex.length_le es; omega
    have HTL : Hid ((Ex.texts es).length = es.length) := Ex.texts_length es
    have HTOT : Hid (total (Ex.texts es) ≤ 41943040) := by show _ ≤ _; have h1 := Ex.texts_size es HPA.out.1; omega
    clear hsz hbk hnm hn0 hn1 hk0 hk1 hcap hcap2
    have b5 := box_cell (Below.refl (w.heap.size + 1) (w.alloc (.cells #[.int .i64 kd, .string nm, .int .i64 n, .int .i64 tk, .slice ta tn tc, .slice a es.length cap] 38))) 5
    go_enter Tryz.func26, Tryz.ntmps26
    go_wp2_with fail
    go_loopw [3, 4] (fun v i wr => ∃ k : Nat, k ≤ es.length ∧ i = .int .i64 k ∧ wr.ownsRow (w.heap.size + 1) 9 1 v k ((Ex.texts (es.take k)).map Value.string) ∧ Below (w.heap.size + 1) (w.alloc (.cells #[.int .i64 kd, .string nm, .int .i64 n, .int .i64 tk, .slice ta tn tc, .slice a es.length cap] 38)) wr) (fun _ i _ => es.length - (intOf i).toNat)
    case atStart => exact ⟨0, by omega, rfl, by simpa [Ex.texts] using World.ownsRow_made (w.alloc (.cells #[.int .i64 kd, .string nm, .int .i64 n, .int .i64 tk, .slice ta tn tc, .slice a es.length cap] 38)) #[] 0 (base := w.heap.size + 1) (by simp) (Nat.zero_le _) rfl, (Below.refl _ _).alloc (by simp) _⟩
    case round =>
      obtain ⟨k, hk, rfl, hown, hb⟩ := hrel
      clear b5
      have HO2 := Lib.hid hown; clear hown
      have HB2 := Lib.hid hb; clear hb
      have b5 := box_cell HB2.out 5
      have HBB := Lib.hid (box_below HB2.out)
      by_cases hlt : k < es.length
      · obtain ⟨b, off, x0, x1, x2, x3, x4, x5, rfl, hbl, hc0, hc1, hc2, hc3, hc4, hc5, ht⟩ := HAT.out k hlt
        have hg := Ex.bulk_get es k hlt
        have hzk : es[k].bulk ≤ 1048576 := by have := HSZ.out; omega
        have hfk := Ex.forms_get es k hlt HPA.out.1
        obtain ⟨yk, ynm, yn, ytk, yta, ytn, ytc, ya, ym, yc, rfl, rfl, rfl, rfl, rfl, rfl⟩ := ex_cells ht
        have e0 : wr.cell? ⟨b, off + k * 6, none⟩ = some (.int .i64 yk) := by rw [HBB.out.cell (p := ⟨b, off + k * 6, none⟩) hbl]; exact hc0
        have e1 : wr.cell? ⟨b, off + k * 6 + 1, none⟩ = some (.string ynm) := by rw [HBB.out.cell (p := ⟨b, off + k * 6 + 1, none⟩) hbl]; exact hc1
        have e2 : wr.cell? ⟨b, off + k * 6 + 2, none⟩ = some (.int .i64 yn) := by rw [HBB.out.cell (p := ⟨b, off + k * 6 + 2, none⟩) hbl]; exact hc2
        have e3 : wr.cell? ⟨b, off + k * 6 + 3, none⟩ = some (.int .i64 ytk) := by rw [HBB.out.cell (p := ⟨b, off + k * 6 + 3, none⟩) hbl]; exact hc3
        have e4 : wr.cell? ⟨b, off + k * 6 + 4, none⟩ = some (.slice yta ytn ytc) := by rw [HBB.out.cell (p := ⟨b, off + k * 6 + 4, none⟩) hbl]; exact hc4
        have e5 : wr.cell? ⟨b, off + k * 6 + 5, none⟩ = some (.slice ya ym yc) := by rw [HBB.out.cell (p := ⟨b, off + k * 6 + 5, none⟩) hbl]; exact hc5
        have HTE := Lib.hid (ht.below HBB.out)
        have HFK := Lib.hid hfk
        clear ht hc0 hc1 hc2 hc3 hc4 hc5 hg hfk
        go_wp2_with fail
        refine (IH.out _ _ _ HTE.out HFK.out hzk).mono ?_
        rintro e w1 ⟨rfl, hb1⟩
        have HO1 := Lib.hid (own_below HO2.out hb1)
        have HB1 := Lib.hid (box_next HB2.out hb1)
        clear hb1 HO2 e0 e1 e2 e3 e4 e5 b5
        have b5 := box_cell HB1.out 5
        have hzw : (w.heap.size + 1) ≤ w1.heap.size := by have := HB1.out.size; simpa using this
        go_wp2_with (at_builtin; go_must (refine wpList_append_own_at _ rfl _ _ 58 rfl (w.heap.size + 1) 9 i0 (.string ⟨#[]⟩) 1 16 Tryz.underlying58 HI.out HZ0.out HZ1.out HZ2.out rfl (by decide) _ _ _ rfl (HO1.out.alloc _) ⟨w1.heap.size, 0, none⟩ 1 1 [.string es[k].text] rfl rfl (new_one _ _ _) (by simp [Value.oneCell']) (by unfold maxLen; omega) (by omega) (by simp; omega) ?_); intro v2 w2 hown2 hg2 _ hblk2; refine Hid.out ?_)
        refine Lib.hid ?_
        have hb2 := (HB1.out.alloc hzw _).grown hg2 (by simp; omega) (fun k hk => (HO1.out.lt k hk).1)
        have hown3 : w2.ownsRow (w.heap.size + 1) 9 1 v2 (k + 1) ((Ex.texts (es.take (k + 1))).map Value.string) := by
          rw [Ex.texts_take es k hlt, List.map_append]; exact hown2
        have HO2 := Lib.hid hown3; clear hown3 hown2 hg2 hblk2
        have HB3 := Lib.hid hb2; clear hb2 b5
        have b5 := box_cell HB3.out 5
        go_wp2_with fail
        exact ⟨⟨k + 1, by omega, by go_num, HO2.out, HB3.out⟩, by simp [intOf]; omega⟩
      · obtain rfl : k = es.length := by omega
        have hl2 := HO2.out
        rw [List.take_length, ← HTL.out] at hl2
        have HL2 := Lib.hid hl2; clear hl2 HO2
        have HST := Lib.hid (Strs.of_own HL2.out)
        have HTM : Hid (Ex.text (.node kd nm n ty es) = exSay kd nm (numB n) ty.text n (Ex.texts es)) := by show _ = _; simp only [Ex.text]
        have HAL := HPA.out.2.1
        have HTF := HPA.out.2.2
        have hkr := HKR.out
        rcases (by omega : kd = 1 ∨ kd = 2 ∨ kd = 3 ∨ kd = 4 ∨ kd = 5 ∨ kd = 6 ∨ kd = 7 ∨ kd = 8 ∨ kd = 9 ∨ kd = 10 ∨ kd = 11 ∨ kd = 12 ∨ kd = 13 ∨ kd = 14) with rfl | rfl | rfl | rfl | rfl | rfl | rfl | rfl | rfl | rfl | rfl | rfl | rfl | rfl
        · have hq : es.length = 0 := by have : arity 1 = 0 := rfl; omega
          have HXL : Hid ((Ex.texts es).length = 0) := by show _ = _; rw [HTL.out]; exact hq
          clear b5 HAL hkr
          have b0 := box_cell HB2.out 0
          have b1 := box_cell HB2.out 1
          have b2 := box_cell HB2.out 2
          have b3 := box_cell HB2.out 3
          have b4 := box_cell HB2.out 4
          have b5 := box_cell HB2.out 5
          clear HTF
          have hnr := HNR.out
          have hnz := numB_size n (by omega) (by omega)
          have hns := HNS.out
          have HBF := Lib.hid HBB.out
          go_wp2_with fail
          refine (specFormat n (by omega) (by omega) _).mono ?_
          rintro e w1 ⟨rfl, hb1⟩
          replace HBF := Lib.hid (below_thru HBF.out (Nat.le_refl _) hb1)
          clear hb1
          have m1 : ¬ (9223372036854775807 < 1 + (ByteArray.mk (Lib.itoa n).toArray).size) := by have : (ByteArray.mk (Lib.itoa n).toArray).size ≤ 21 := hnz; omega
          clear hq
          go_wp2_with fail
          go_ret
          exact ⟨by rw [HTM.out]; rfl, HBF.out⟩
        · have hq : es.length = 0 := by have : arity 2 = 0 := rfl; omega
          have HXL : Hid ((Ex.texts es).length = 0) := by show _ = _; rw [HTL.out]; exact hq
          clear b5 HAL hkr
          have b0 := box_cell HB2.out 0
          have b1 := box_cell HB2.out 1
          have b2 := box_cell HB2.out 2
          have b3 := box_cell HB2.out 3
          have b4 := box_cell HB2.out 4
          have b5 := box_cell HB2.out 5
          clear HTF
          have hnr := HNR.out
          have hnz := numB_size n (by omega) (by omega)
          have hns := HNS.out
          have HBF := Lib.hid HBB.out
          clear hq
          go_wp2_with fail
          go_ret
          exact ⟨by rw [HTM.out]; rfl, HBF.out⟩
        · have hq : es.length = 1 := by have : arity 3 = 1 := rfl; omega
          have HXL : Hid ((Ex.texts es).length = 1) := by show _ = _; rw [HTL.out]; exact hq
          have HX := Lib.hid (xone_of HXL.out)
          clear b5 HAL hkr
          have b0 := box_cell HB2.out 0
          have b1 := box_cell HB2.out 1
          have b2 := box_cell HB2.out 2
          have b3 := box_cell HB2.out 3
          have b4 := box_cell HB2.out 4
          have b5 := box_cell HB2.out 5
          have HNF := Lib.hid (note_form (by simpa [typeFor] using HTF : ty.note = true))
          have HTS := ty.text_size
          have htz := HTZ.out
          clear HTF
          have hnr := HNR.out
          have hnz := numB_size n (by omega) (by omega)
          have hns := HNS.out
          have HBF := Lib.hid HBB.out
          have HT2 := Lib.hid (text_one 3 nm n ty es HXL.out)
          clear HX
          have htt := HTOT.out
          have hp0 : 0 < (Ex.texts es).length := by rw [HXL.out]; omega
          have s0 := total_get (Ex.texts es) 0 hp0
          have HL3 := HL2.out
          rw [HXL.out] at HL3
          obtain ⟨oa, oc, rfl⟩ := own_slice HL3
          clear HL3
          obtain ⟨ob, off, rfl, HCC⟩ := strs_pos HST.out hp0
          have C0 := Lib.hid (HCC 0 hp0)
          clear HCC
          rw [Nat.add_zero] at C0
          generalize (Ex.texts es)[0]'hp0 = x0 at HT2 s0 C0
          clear hq
          have CF : ∀ (X0 : World) (v : Value) (_ : TyAt X0 d v ty), Calls Tryz.prog 46 #[v] X0 fun e w' => e = .returned (.string ty.text) ∧ Below X0.heap.size X0 w' := fun X0 v h => specText d v ty X0 h HNF.out.1 HTZ.out
          have HCF := Lib.hid CF; clear CF
          generalize ty.text = ts at HCF HT2 HTS
          have m0 : ¬ (9223372036854775807 < 2 + nm.size) := by omega
          have m1 : ¬ (9223372036854775807 < 2 + nm.size + 1) := by omega
          have m2 : ¬ (9223372036854775807 < 2 + nm.size + 1 + ts.size) := by omega
          have m3 : ¬ (9223372036854775807 < 2 + nm.size + 1 + ts.size + 1) := by omega
          have m4 : ¬ (9223372036854775807 < 2 + nm.size + 1 + ts.size + 1 + x0.size) := by omega
          have m5 : ¬ (9223372036854775807 < 2 + nm.size + 1 + ts.size + 1 + x0.size + 1) := by omega
          clear hnr hnz hns HTS htz htt s0
          go_wp2_with fail
          have hbd := below_drew wr
          replace HBF := Lib.hid (below_thru HBF.out (Nat.le_refl _) hbd)
          have XR := Lib.hid ((box_of HB2.out).below hbd)
          have HTR := Lib.hid ((HTY.out.below HBB.out).below hbd)
          replace C0 := Lib.hid (C0.out.below hbd)
          clear hbd b0 b1 b2 b3 b4 b5
          go_region_held3 (fun w' => w'.cell? ⟨w.heap.size, 1, none⟩ = some (.string nm) ∧ w'.cell? ⟨w.heap.size, 3, none⟩ = some (.int .i64 tk) ∧ w'.cell? ⟨w.heap.size, 4, none⟩ = some (.slice ta tn tc) ∧ w'.cell? ⟨ob, off, none⟩ = some (.string x0)) (exact ⟨XR.out.2 1, XR.out.2 3, XR.out.2 4, C0.out.2⟩)
            (first
             | (go_at_call 46
                refine (HCF.out _ _ HTR.out).mono ?_
                rintro e w5 ⟨rfl, hb⟩
                replace HBF := Lib.hid (below_thru HBF.out (Nat.le_refl _) hb)
                replace XR := Lib.hid (XR.out.below hb)
                replace C0 := Lib.hid (C0.out.below hb)
                clear hb))
          go_wp2_with fail
          go_ret
          exact ⟨by rw [HT2.out]; rfl, HBF.out⟩
        · have hq : es.length = 2 := by have : arity 4 = 2 := rfl; omega
          have HXL : Hid ((Ex.texts es).length = 2) := by show _ = _; rw [HTL.out]; exact hq
          have HX := Lib.hid (xtwo_of HXL.out)
          clear b5 HAL hkr
          have b0 := box_cell HB2.out 0
          have b1 := box_cell HB2.out 1
          have b2 := box_cell HB2.out 2
          have b3 := box_cell HB2.out 3
          have b4 := box_cell HB2.out 4
          have b5 := box_cell HB2.out 5
          clear HTF
          have hnr := HNR.out
          have hnz := numB_size n (by omega) (by omega)
          have hns := HNS.out
          have HBF := Lib.hid HBB.out
          have HT2 := Lib.hid (text_two 4 nm n ty es HXL.out)
          clear HX
          have htt := HTOT.out
          have hp0 : 0 < (Ex.texts es).length := by rw [HXL.out]; omega
          have s0 := total_get (Ex.texts es) 0 hp0
          have hp1 : 1 < (Ex.texts es).length := by rw [HXL.out]; omega
          have s1 := total_get (Ex.texts es) 1 hp1
          have HL3 := HL2.out
          rw [HXL.out] at HL3
          obtain ⟨oa, oc, rfl⟩ := own_slice HL3
          clear HL3
          obtain ⟨ob, off, rfl, HCC⟩ := strs_pos HST.out hp0
          have C0 := Lib.hid (HCC 0 hp0)
          have C1 := Lib.hid (HCC 1 hp1)
          clear HCC
          rw [Nat.add_zero] at C0
          generalize (Ex.texts es)[0]'hp0 = x0 at HT2 s0 C0
          generalize (Ex.texts es)[1]'hp1 = x1 at HT2 s1 C1
          clear hq
          have c0 := C0.out.2
          have c1 := C1.out.2
          have m0 : ¬ (9223372036854775807 < 1 + x0.size) := by omega
          have m1 : ¬ (9223372036854775807 < 1 + x0.size + 1) := by omega
          have m2 : ¬ (9223372036854775807 < 1 + x0.size + 1 + x1.size) := by omega
          have m3 : ¬ (9223372036854775807 < 1 + x0.size + 1 + x1.size + 1) := by omega
          clear hnr hnz hns htt s0 s1
          go_wp2_with fail
          go_quiet (fail)
          go_wp2_with fail
          go_ret
          exact ⟨by rw [HT2.out]; rfl, below_thru HBF.out (Nat.le_refl _) (below_qs (Below.refl _ _) nq)⟩
        · have hq : es.length = 0 := by have : arity 5 = 0 := rfl; omega
          have HXL : Hid ((Ex.texts es).length = 0) := by show _ = _; rw [HTL.out]; exact hq
          clear b5 HAL hkr
          have b0 := box_cell HB2.out 0
          have b1 := box_cell HB2.out 1
          have b2 := box_cell HB2.out 2
          have b3 := box_cell HB2.out 3
          have b4 := box_cell HB2.out 4
          have b5 := box_cell HB2.out 5
          clear HTF
          have hnr := HNR.out
          have hnz := numB_size n (by omega) (by omega)
          have hns := HNS.out
          have HBF := Lib.hid HBB.out
          go_wp2_with fail
          refine (specFormat n (by omega) (by omega) _).mono ?_
          rintro e w1 ⟨rfl, hb1⟩
          replace HBF := Lib.hid (below_thru HBF.out (Nat.le_refl _) hb1)
          clear hb1
          clear hq
          go_wp2_with fail
          go_ret
          exact ⟨by rw [HTM.out]; rfl, HBF.out⟩
        · have hq : es.length = 2 := by have : arity 6 = 2 := rfl; omega
          have HXL : Hid ((Ex.texts es).length = 2) := by show _ = _; rw [HTL.out]; exact hq
          have HX := Lib.hid (xtwo_of HXL.out)
          clear b5 HAL hkr
          have b0 := box_cell HB2.out 0
          have b1 := box_cell HB2.out 1
          have b2 := box_cell HB2.out 2
          have b3 := box_cell HB2.out 3
          have b4 := box_cell HB2.out 4
          have b5 := box_cell HB2.out 5
          clear HTF
          have hnr := HNR.out
          have hnz := numB_size n (by omega) (by omega)
          have hns := HNS.out
          have HBF := Lib.hid HBB.out
          have HT2 := Lib.hid (text_two 6 nm n ty es HXL.out)
          clear HX
          have htt := HTOT.out
          have hp0 : 0 < (Ex.texts es).length := by rw [HXL.out]; omega
          have s0 := total_get (Ex.texts es) 0 hp0
          have hp1 : 1 < (Ex.texts es).length := by rw [HXL.out]; omega
          have s1 := total_get (Ex.texts es) 1 hp1
          have HL3 := HL2.out
          rw [HXL.out] at HL3
          obtain ⟨oa, oc, rfl⟩ := own_slice HL3
          clear HL3
          obtain ⟨ob, off, rfl, HCC⟩ := strs_pos HST.out hp0
          have C0 := Lib.hid (HCC 0 hp0)
          have C1 := Lib.hid (HCC 1 hp1)
          clear HCC
          rw [Nat.add_zero] at C0
          generalize (Ex.texts es)[0]'hp0 = x0 at HT2 s0 C0
          generalize (Ex.texts es)[1]'hp1 = x1 at HT2 s1 C1
          clear hq
          have c0 := C0.out.2
          have c1 := C1.out.2
          have m0 : ¬ (9223372036854775807 < 1 + x0.size) := by omega
          have m1 : ¬ (9223372036854775807 < 1 + x0.size + 1) := by omega
          have m2 : ¬ (9223372036854775807 < 1 + x0.size + 1 + x1.size) := by omega
          have m3 : ¬ (9223372036854775807 < 1 + x0.size + 1 + x1.size + 1) := by omega
          clear hnr hnz hns htt s0 s1
          go_wp2_with fail
          go_quiet (fail)
          go_wp2_with fail
          go_ret
          exact ⟨by rw [HT2.out]; rfl, below_thru HBF.out (Nat.le_refl _) (below_qs (Below.refl _ _) nq)⟩
        · have hq : es.length = 2 := by have : arity 7 = 2 := rfl; omega
          have HXL : Hid ((Ex.texts es).length = 2) := by show _ = _; rw [HTL.out]; exact hq
          have HX := Lib.hid (xtwo_of HXL.out)
          clear b5 HAL hkr
          have b0 := box_cell HB2.out 0
          have b1 := box_cell HB2.out 1
          have b2 := box_cell HB2.out 2
          have b3 := box_cell HB2.out 3
          have b4 := box_cell HB2.out 4
          have b5 := box_cell HB2.out 5
          clear HTF
          have hnr := HNR.out
          have hnz := numB_size n (by omega) (by omega)
          have hns := HNS.out
          have HBF := Lib.hid HBB.out
          have HT2 := Lib.hid (text_two 7 nm n ty es HXL.out)
          clear HX
          have htt := HTOT.out
          have hp0 : 0 < (Ex.texts es).length := by rw [HXL.out]; omega
          have s0 := total_get (Ex.texts es) 0 hp0
          have hp1 : 1 < (Ex.texts es).length := by rw [HXL.out]; omega
          have s1 := total_get (Ex.texts es) 1 hp1
          have HL3 := HL2.out
          rw [HXL.out] at HL3
          obtain ⟨oa, oc, rfl⟩ := own_slice HL3
          clear HL3
          obtain ⟨ob, off, rfl, HCC⟩ := strs_pos HST.out hp0
          have C0 := Lib.hid (HCC 0 hp0)
          have C1 := Lib.hid (HCC 1 hp1)
          clear HCC
          rw [Nat.add_zero] at C0
          generalize (Ex.texts es)[0]'hp0 = x0 at HT2 s0 C0
          generalize (Ex.texts es)[1]'hp1 = x1 at HT2 s1 C1
          clear hq
          have c0 := C0.out.2
          have c1 := C1.out.2
          have m0 : ¬ (9223372036854775807 < 1 + x0.size) := by omega
          have m1 : ¬ (9223372036854775807 < 1 + x0.size + 1) := by omega
          have m2 : ¬ (9223372036854775807 < 1 + x0.size + 1 + x1.size) := by omega
          have m3 : ¬ (9223372036854775807 < 1 + x0.size + 1 + x1.size + 1) := by omega
          clear hnr hnz hns htt s0 s1
          go_wp2_with fail
          go_quiet (fail)
          go_wp2_with fail
          go_ret
          exact ⟨by rw [HT2.out]; rfl, below_thru HBF.out (Nat.le_refl _) (below_qs (Below.refl _ _) nq)⟩
        · have hq : es.length = 0 := by have : arity 8 = 0 := rfl; omega
          have HXL : Hid ((Ex.texts es).length = 0) := by show _ = _; rw [HTL.out]; exact hq
          clear b5 HAL hkr
          have b0 := box_cell HB2.out 0
          have b1 := box_cell HB2.out 1
          have b2 := box_cell HB2.out 2
          have b3 := box_cell HB2.out 3
          have b4 := box_cell HB2.out 4
          have b5 := box_cell HB2.out 5
          clear HTF
          have hnr := HNR.out
          have hnz := numB_size n (by omega) (by omega)
          have hns := HNS.out
          have HBF := Lib.hid HBB.out
          clear hq
          rcases form_bool HFORM.out with rfl | rfl
          · go_wp2_with fail
            go_ret
            exact ⟨by rw [HTM.out]; rfl, HBF.out⟩
          · go_wp2_with fail
            go_ret
            exact ⟨by rw [HTM.out]; rfl, HBF.out⟩
        · have hq : es.length = 3 := by have : arity 9 = 3 := rfl; omega
          have HXL : Hid ((Ex.texts es).length = 3) := by show _ = _; rw [HTL.out]; exact hq
          have HX := Lib.hid (xthree_of HXL.out)
          clear b5 HAL hkr
          have b0 := box_cell HB2.out 0
          have b1 := box_cell HB2.out 1
          have b2 := box_cell HB2.out 2
          have b3 := box_cell HB2.out 3
          have b4 := box_cell HB2.out 4
          have b5 := box_cell HB2.out 5
          clear HTF
          have hnr := HNR.out
          have hnz := numB_size n (by omega) (by omega)
          have hns := HNS.out
          have HBF := Lib.hid HBB.out
          have HT2 := Lib.hid (text_three 9 nm n ty es HXL.out)
          clear HX
          have htt := HTOT.out
          have hp0 : 0 < (Ex.texts es).length := by rw [HXL.out]; omega
          have s0 := total_get (Ex.texts es) 0 hp0
          have hp1 : 1 < (Ex.texts es).length := by rw [HXL.out]; omega
          have s1 := total_get (Ex.texts es) 1 hp1
          have hp2 : 2 < (Ex.texts es).length := by rw [HXL.out]; omega
          have s2 := total_get (Ex.texts es) 2 hp2
          have HL3 := HL2.out
          rw [HXL.out] at HL3
          obtain ⟨oa, oc, rfl⟩ := own_slice HL3
          clear HL3
          have CJ : Calls Tryz.prog 28 #[.slice oa 3 oc, .string ⟨#[32]⟩] wr fun e w' => e = .returned (.string ((Ex.texts es)[0]'hp0 ++ ⟨#[32]⟩ ++ (Ex.texts es)[1]'hp1 ++ ⟨#[32]⟩ ++ (Ex.texts es)[2]'hp2)) ∧ Below wr.heap.size wr w' := by
            have h := specJoin _ (Ex.texts es) ⟨#[32]⟩ (by rw [HXL.out]; omega) (by omega) (by decide) wr HST.out
            unfold JoinEnd at h
            rw [join_three HXL.out] at h
            exact h
          have HCJ := Lib.hid CJ; clear CJ
          generalize (Ex.texts es)[0]'hp0 = x0 at HT2 s0 HCJ
          generalize (Ex.texts es)[1]'hp1 = x1 at HT2 s1 HCJ
          generalize (Ex.texts es)[2]'hp2 = x2 at HT2 s2 HCJ
          have HT3 : Hid ((Ex.node 9 nm n ty es).text = ⟨#[40, 105, 102, 32]⟩ ++ (x0 ++ ⟨#[32]⟩ ++ x1 ++ ⟨#[32]⟩ ++ x2) ++ ⟨#[41]⟩) := by
            show _ = _
            rw [HT2.out]
            rfl
          have hjs : (x0 ++ ⟨#[32]⟩ ++ x1 ++ ⟨#[32]⟩ ++ x2).size ≤ 200000000 := by simp only [ByteArray.size_append, sizes_one]; omega
          generalize x0 ++ ⟨#[32]⟩ ++ x1 ++ ⟨#[32]⟩ ++ x2 = J at HT3 HCJ hjs
          have m0 : ¬ (9223372036854775807 < 4 + J.size) := by omega
          have m1 : ¬ (9223372036854775807 < 4 + J.size + 1) := by omega
          clear hnr hnz hns htt hjs hq s0 hp0 s1 hp1 s2 hp2
          go_wp2_with fail
          refine HCJ.out.mono ?_
          rintro e w5 ⟨rfl, hb⟩
          replace HBF := Lib.hid (below_thru HBF.out (Nat.le_refl _) hb)
          clear hb
          go_wp2_with fail
          go_ret
          exact ⟨by rw [HT3.out]; rfl, HBF.out⟩
        · have hq : es.length = 2 := by have : arity 10 = 2 := rfl; omega
          have HXL : Hid ((Ex.texts es).length = 2) := by show _ = _; rw [HTL.out]; exact hq
          have HX := Lib.hid (xtwo_of HXL.out)
          clear b5 HAL hkr
          have b0 := box_cell HB2.out 0
          have b1 := box_cell HB2.out 1
          have b2 := box_cell HB2.out 2
          have b3 := box_cell HB2.out 3
          have b4 := box_cell HB2.out 4
          have b5 := box_cell HB2.out 5
          clear HTF
          have hnr := HNR.out
          have hnz := numB_size n (by omega) (by omega)
          have hns := HNS.out
          have HBF := Lib.hid HBB.out
          have HT2 := Lib.hid (text_two 10 nm n ty es HXL.out)
          clear HX
          have htt := HTOT.out
          have hp0 : 0 < (Ex.texts es).length := by rw [HXL.out]; omega
          have s0 := total_get (Ex.texts es) 0 hp0
          have hp1 : 1 < (Ex.texts es).length := by rw [HXL.out]; omega
          have s1 := total_get (Ex.texts es) 1 hp1
          have HL3 := HL2.out
          rw [HXL.out] at HL3
          obtain ⟨oa, oc, rfl⟩ := own_slice HL3
          clear HL3
          obtain ⟨ob, off, rfl, HCC⟩ := strs_pos HST.out hp0
          have C0 := Lib.hid (HCC 0 hp0)
          have C1 := Lib.hid (HCC 1 hp1)
          clear HCC
          rw [Nat.add_zero] at C0
          generalize (Ex.texts es)[0]'hp0 = x0 at HT2 s0 C0
          generalize (Ex.texts es)[1]'hp1 = x1 at HT2 s1 C1
          clear hq
          have c0 := C0.out.2
          have c1 := C1.out.2
          have m0 : ¬ (9223372036854775807 < 1 + x0.size) := by omega
          have m1 : ¬ (9223372036854775807 < 1 + x0.size + 1) := by omega
          have m2 : ¬ (9223372036854775807 < 1 + x0.size + 1 + x1.size) := by omega
          have m3 : ¬ (9223372036854775807 < 1 + x0.size + 1 + x1.size + 1) := by omega
          clear hnr hnz hns htt s0 s1
          go_wp2_with fail
          go_quiet (fail)
          go_wp2_with fail
          go_ret
          exact ⟨by rw [HT2.out]; rfl, below_thru HBF.out (Nat.le_refl _) (below_qs (Below.refl _ _) nq)⟩
        · have hq : es.length = 1 := by have : arity 11 = 1 := rfl; omega
          have HXL : Hid ((Ex.texts es).length = 1) := by show _ = _; rw [HTL.out]; exact hq
          have HX := Lib.hid (xone_of HXL.out)
          clear b5 HAL hkr
          have b0 := box_cell HB2.out 0
          have b1 := box_cell HB2.out 1
          have b2 := box_cell HB2.out 2
          have b3 := box_cell HB2.out 3
          have b4 := box_cell HB2.out 4
          have b5 := box_cell HB2.out 5
          clear HTF
          have hnr := HNR.out
          have hnz := numB_size n (by omega) (by omega)
          have hns := HNS.out
          have HBF := Lib.hid HBB.out
          have HT2 := Lib.hid (text_one 11 nm n ty es HXL.out)
          clear HX
          have htt := HTOT.out
          have hp0 : 0 < (Ex.texts es).length := by rw [HXL.out]; omega
          have s0 := total_get (Ex.texts es) 0 hp0
          have HL3 := HL2.out
          rw [HXL.out] at HL3
          obtain ⟨oa, oc, rfl⟩ := own_slice HL3
          clear HL3
          obtain ⟨ob, off, rfl, HCC⟩ := strs_pos HST.out hp0
          have C0 := Lib.hid (HCC 0 hp0)
          clear HCC
          rw [Nat.add_zero] at C0
          generalize (Ex.texts es)[0]'hp0 = x0 at HT2 s0 C0
          clear hq
          have c0 := C0.out.2
          have m0 : ¬ (9223372036854775807 < 5 + x0.size) := by omega
          have m1 : ¬ (9223372036854775807 < 5 + x0.size + 1) := by omega
          go_wp2_with fail
          go_ret
          exact ⟨by rw [HT2.out]; rfl, HBF.out⟩
        · have hq : es.length = 1 := by have : arity 12 = 1 := rfl; omega
          have HXL : Hid ((Ex.texts es).length = 1) := by show _ = _; rw [HTL.out]; exact hq
          have HX := Lib.hid (xone_of HXL.out)
          clear b5 HAL hkr
          have b0 := box_cell HB2.out 0
          have b1 := box_cell HB2.out 1
          have b2 := box_cell HB2.out 2
          have b3 := box_cell HB2.out 3
          have b4 := box_cell HB2.out 4
          have b5 := box_cell HB2.out 5
          clear HTF
          have hnr := HNR.out
          have hnz := numB_size n (by omega) (by omega)
          have hns := HNS.out
          have HBF := Lib.hid HBB.out
          have HT2 := Lib.hid (text_one 12 nm n ty es HXL.out)
          clear HX
          have htt := HTOT.out
          have hp0 : 0 < (Ex.texts es).length := by rw [HXL.out]; omega
          have s0 := total_get (Ex.texts es) 0 hp0
          have HL3 := HL2.out
          rw [HXL.out] at HL3
          obtain ⟨oa, oc, rfl⟩ := own_slice HL3
          clear HL3
          obtain ⟨ob, off, rfl, HCC⟩ := strs_pos HST.out hp0
          have C0 := Lib.hid (HCC 0 hp0)
          clear HCC
          rw [Nat.add_zero] at C0
          generalize (Ex.texts es)[0]'hp0 = x0 at HT2 s0 C0
          clear hq
          have c0 := C0.out.2
          have m0 : ¬ (9223372036854775807 < 5 + x0.size) := by omega
          have m1 : ¬ (9223372036854775807 < 5 + x0.size + 1) := by omega
          go_wp2_with fail
          go_ret
          exact ⟨by rw [HT2.out]; rfl, HBF.out⟩
        · have hq : es.length = 1 := by have : arity 13 = 1 := rfl; omega
          have HXL : Hid ((Ex.texts es).length = 1) := by show _ = _; rw [HTL.out]; exact hq
          have HX := Lib.hid (xone_of HXL.out)
          clear b5 HAL hkr
          have b0 := box_cell HB2.out 0
          have b1 := box_cell HB2.out 1
          have b2 := box_cell HB2.out 2
          have b3 := box_cell HB2.out 3
          have b4 := box_cell HB2.out 4
          have b5 := box_cell HB2.out 5
          have HNF := Lib.hid (note_form (by simpa [typeFor] using HTF : ty.note = true))
          have HTS := ty.text_size
          have htz := HTZ.out
          clear HTF
          have hnr := HNR.out
          have hnz := numB_size n (by omega) (by omega)
          have hns := HNS.out
          have HBF := Lib.hid HBB.out
          have HT2 := Lib.hid (text_one 13 nm n ty es HXL.out)
          clear HX
          have htt := HTOT.out
          have hp0 : 0 < (Ex.texts es).length := by rw [HXL.out]; omega
          have s0 := total_get (Ex.texts es) 0 hp0
          have HL3 := HL2.out
          rw [HXL.out] at HL3
          obtain ⟨oa, oc, rfl⟩ := own_slice HL3
          clear HL3
          obtain ⟨ob, off, rfl, HCC⟩ := strs_pos HST.out hp0
          have C0 := Lib.hid (HCC 0 hp0)
          clear HCC
          rw [Nat.add_zero] at C0
          generalize (Ex.texts es)[0]'hp0 = x0 at HT2 s0 C0
          clear hq
          have CF : ∀ (X0 : World) (v : Value) (_ : TyAt X0 d v ty), Calls Tryz.prog 46 #[v] X0 fun e w' => e = .returned (.string ty.text) ∧ Below X0.heap.size X0 w' := fun X0 v h => specText d v ty X0 h HNF.out.1 HTZ.out
          have HCF := Lib.hid CF; clear CF
          generalize ty.text = ts at HCF HT2 HTS
          have m0 : ¬ (9223372036854775807 < 1 + x0.size) := by omega
          have m1 : ¬ (9223372036854775807 < 1 + x0.size + 1) := by omega
          have m2 : ¬ (9223372036854775807 < 1 + x0.size + 1 + ts.size) := by omega
          have m3 : ¬ (9223372036854775807 < 1 + x0.size + 1 + ts.size + 1) := by omega
          clear hnr hnz hns HTS htz htt s0
          go_wp2_with fail
          have hbd := below_drew wr
          replace HBF := Lib.hid (below_thru HBF.out (Nat.le_refl _) hbd)
          have XR := Lib.hid ((box_of HB2.out).below hbd)
          have HTR := Lib.hid ((HTY.out.below HBB.out).below hbd)
          replace C0 := Lib.hid (C0.out.below hbd)
          clear hbd b0 b1 b2 b3 b4 b5
          go_region_held3 (fun w' => w'.cell? ⟨w.heap.size, 3, none⟩ = some (.int .i64 tk) ∧ w'.cell? ⟨w.heap.size, 4, none⟩ = some (.slice ta tn tc) ∧ w'.cell? ⟨ob, off, none⟩ = some (.string x0)) (exact ⟨XR.out.2 3, XR.out.2 4, C0.out.2⟩)
            (first
             | (go_at_call 46
                refine (HCF.out _ _ HTR.out).mono ?_
                rintro e w5 ⟨rfl, hb⟩
                replace HBF := Lib.hid (below_thru HBF.out (Nat.le_refl _) hb)
                replace XR := Lib.hid (XR.out.below hb)
                replace C0 := Lib.hid (C0.out.below hb)
                clear hb))
          go_wp2_with fail
          go_ret
          exact ⟨by rw [HT2.out]; rfl, HBF.out⟩
        · have hq : es.length = 1 := by have : arity 14 = 1 := rfl; omega
          have HXL : Hid ((Ex.texts es).length = 1) := by show _ = _; rw [HTL.out]; exact hq
          have HX := Lib.hid (xone_of HXL.out)
          clear b5 HAL hkr
          have b0 := box_cell HB2.out 0
          have b1 := box_cell HB2.out 1
          have b2 := box_cell HB2.out 2
          have b3 := box_cell HB2.out 3
          have b4 := box_cell HB2.out 4
          have b5 := box_cell HB2.out 5
          clear HTF
          have hnr := HNR.out
          have hnz := numB_size n (by omega) (by omega)
          have hns := HNS.out
          have HBF := Lib.hid HBB.out
          have HT2 := Lib.hid (text_one 14 nm n ty es HXL.out)
          clear HX
          have htt := HTOT.out
          have hp0 : 0 < (Ex.texts es).length := by rw [HXL.out]; omega
          have s0 := total_get (Ex.texts es) 0 hp0
          have HL3 := HL2.out
          rw [HXL.out] at HL3
          obtain ⟨oa, oc, rfl⟩ := own_slice HL3
          clear HL3
          obtain ⟨ob, off, rfl, HCC⟩ := strs_pos HST.out hp0
          have C0 := Lib.hid (HCC 0 hp0)
          clear HCC
          rw [Nat.add_zero] at C0
          generalize (Ex.texts es)[0]'hp0 = x0 at HT2 s0 C0
          clear hq
          have CI : ∀ (X0 : World), Calls Tryz.prog 27 #[.int .i64 n] X0 fun e w' => e = .returned (.string (numB n)) ∧ Below X0.heap.size X0 w' := fun X0 => specFormat n (by omega) (by omega) X0
          have HCI := Lib.hid CI; clear CI
          generalize numB n = fs at HCI HT2 hnz
          have m0 : ¬ (9223372036854775807 < 1 + fs.size) := by omega
          have m1 : ¬ (9223372036854775807 < 1 + fs.size + 1) := by omega
          have m2 : ¬ (9223372036854775807 < 1 + fs.size + 1 + x0.size) := by omega
          have m3 : ¬ (9223372036854775807 < 1 + fs.size + 1 + x0.size + 1) := by omega
          clear hnr hnz hns htt s0
          go_wp2_with fail
          have hbd := below_drew wr
          replace HBF := Lib.hid (below_thru HBF.out (Nat.le_refl _) hbd)
          have XR := Lib.hid ((box_of HB2.out).below hbd)
          have HTR := Lib.hid ((HTY.out.below HBB.out).below hbd)
          replace C0 := Lib.hid (C0.out.below hbd)
          clear hbd b0 b1 b2 b3 b4 b5
          go_region_held3 (fun w' => w'.cell? ⟨w.heap.size, 2, none⟩ = some (.int .i64 n) ∧ w'.cell? ⟨ob, off, none⟩ = some (.string x0)) (exact ⟨XR.out.2 2, C0.out.2⟩)
            (first
             | (go_at_call 27
                refine (HCI.out _).mono ?_
                rintro e w5 ⟨rfl, hb⟩
                replace HBF := Lib.hid (below_thru HBF.out (Nat.le_refl _) hb)
                replace XR := Lib.hid (XR.out.below hb)
                replace C0 := Lib.hid (C0.out.below hb)
                clear hb))
          go_wp2_with fail
          go_ret
          exact ⟨by rw [HT2.out]; rfl, HBF.out⟩
end Go.Proofs.YtimigpdbegfjaaaGreatDoor
/-
  Proved: impl.FormatPath writes a list of numbers with dots between them, the empty list as a dash; the memory that was there stays as it was. On these terms: at most 2^20 numbers; the library's table of powers of ten holds what the program's text lays.
-/
namespace Go.Proofs.YtimigpdbegfjaaaGreatDoor
open Go.RowKit

def Pow10At (w : World) : Prop := Lib.TabIs Tryz.prog w "internal/strconv.uint64pow10" .u64 Lib.pow10Tab
theorem Pow10At.below {w w' : World} (h : Pow10At w) (hb : Below w.heap.size w w') : Pow10At w' := Law.tab_below hb h
set_option maxRecDepth 100000 in
set_option maxHeartbeats 2000000 in
theorem implPathText (v : Value) (ns : List Int) (hn : ns.length ≤ 1048576) (hr : i64s ns) (w : World) (hp : Pow10At w) (h : Ints w v ns) :
    Calls Tryz.prog 18 #[v] w fun e w' => e = .returned (.string (pathText ns)) ∧ Below w.heap.size w w' := by
  obtain ⟨i0, hi, hz0, hz1, hz2⟩ := info_parts info_str
  have HR := Lib.hid hr; clear hr
  have HP := Lib.hid hp; clear hp
  obtain ⟨a, cap, rfl, hcap, hat⟩ := h
  have HC := Lib.hid hat; clear hat
  cases ns with
  | nil =>
    go_enter Tryz.func18, Tryz.ntmps18
    go_wp2_with fail
    go_ret
    exact ⟨rfl, Below.refl _ _⟩
  | cons n0 r0 =>
  have hpos : 0 < (n0 :: r0).length := by simp
  have HPT : Hid (pathText (n0 :: r0) = ⟨(Lib.join ((numerals (n0 :: r0)).map (·.data.toList)) [46]).toArray⟩) := rfl
  revert HPT hpos
  generalize n0 :: r0 = ns at *
  intro hpos HPT
  have qb : ((ns.length : Int) == 0) = false := by rw [beq_eq_false_iff_ne]; omega
  go_enter Tryz.func18, Tryz.ntmps18
  go_wp2_with (at_make; refine wpList_make_full _ rfl _ _ 58 rfl w.heap.size 9 i0 (.string ⟨#[]⟩) 1 Tryz.underlying58 hi hz0 hz1 .i64 .i64 _ _ ns.length rfl rfl rfl rfl (by rw [hz2]; omega) (by unfold maxLen; omega) (Nat.le_refl _) ?_; intro w0 hown0 hg0; refine Hid.out ?_)
  refine Lib.hid ?_
  have hb0 : Below w.heap.size w w0 := (Below.refl _ w).grown hg0 (Nat.le_refl _) (fun k hk => by cases hk)
  have hown1 : w0.ownsRow w.heap.size 9 1 (.slice (some ⟨w.heap.size, 0, none⟩) ns.length ns.length) ns.length (((numerals ns).take 0).map Value.string ++ List.replicate ((numerals ns).length - 0) (Value.string ⟨#[]⟩)) := by
    have : (madeCells (Value.string ⟨#[]⟩).cells (ns.length * 1)).toList = List.replicate ns.length (Value.string ⟨#[]⟩) := by rw [Nat.mul_one]; exact toList_madeCells_one _ _
    rw [this] at hown0; rw [numerals_length]; simpa using hown0
  have HO := Lib.hid hown1; clear hown1 hown0 hg0 hi hz0 hz1 hz2
  have HB := Lib.hid hb0; clear hb0
  go_wp2_with fail
  go_loopw [14] (fun i wr => ∃ k : Nat, k ≤ ns.length ∧ i = .int .i64 k ∧ wr.ownsRow w.heap.size 9 1 (.slice (some ⟨w.heap.size, 0, none⟩) ns.length ns.length) ns.length (((numerals ns).take k).map Value.string ++ List.replicate ((numerals ns).length - k) (Value.string ⟨#[]⟩)) ∧ Below w.heap.size w wr) (fun i _ => ns.length - (intOf i).toNat)
  case atStart => exact ⟨0, by omega, rfl, HO.out, HB.out⟩
  case round =>
    obtain ⟨k, hk, rfl, hown, hb⟩ := hrel
    have HO2 := Lib.hid hown; clear hown
    have HB2 := Lib.hid hb; clear hb
    by_cases hlt : k < ns.length
    · obtain ⟨b, off, rfl, hbl, hcell⟩ := HC.out k hlt
      have c0 : wr.cell? ⟨b, off + k, none⟩ = some (.int .i64 ns[k]) := by rw [HB2.out.cell (p := ⟨b, off + k, none⟩) hbl]; exact hcell
      have hrk := HR.out ns[k] (List.getElem_mem hlt)
      have HRK := Lib.hid hrk
      clear hcell hrk
      go_wp2_with fail
      refine (implFormat ns[k] HRK.out.1 HRK.out.2 _ (HP.out.below HB2.out)).mono ?_
      rintro e w1 ⟨rfl, hb1⟩
      have HO3 := Lib.hid (own_below HO2.out hb1)
      have HB3 := Lib.hid (HB2.out.trans (hb1.mono HB2.out.size))
      clear hb1 HO2 HB2 c0
      have hlt2 : k < (numerals ns).length := by rw [numerals_length]; exact hlt
      have c1 : ∃ u, w1.cell? ⟨w.heap.size, k, none⟩ = some u := by
        rw [HO3.out.cellAt k (by omega)]
        exact ⟨_, List.getElem?_eq_getElem (by simp; omega)⟩
      obtain ⟨u, c1⟩ := c1
      have f1 := HO3.out.frozenAt k
      have hst := HO3.out.stored k (.string (numerals ns)[k])
      rw [num_next (numerals ns) k hlt2] at hst
      have HS := Lib.hid hst; clear hst
      have HE : Hid ((numerals ns)[k] = ⟨(Lib.itoa ns[k]).toArray⟩) := by show _ = _; simp [numerals, numeral]
      rw [HE.out] at HS
      go_wp2_with fail
      exact ⟨⟨k + 1, by omega, by go_num, HS.out.1, HB3.out.setCell (Nat.le_refl _) _⟩, by simp [intOf]; omega⟩
    · obtain rfl : k = ns.length := by omega
      have HL := HO2.out
      rw [← numerals_length ns, List.take_length, Nat.sub_self, List.replicate_zero, List.append_nil] at HL
      have HS := Lib.hid (Strs.of_own HL)
      clear HL HO2
      rw [numerals_length] at HS
      go_wp2_with fail
      refine (implJoin _ (numerals ns) ⟨#[46]⟩ (by rw [numerals_length]; exact hn) (by have := numerals_total _ HR.out; omega) (by decide) _ HS.out).mono ?_
      rintro e w1 ⟨rfl, hb1⟩
      have HB1 := Lib.hid (HB2.out.trans (hb1.mono HB2.out.size))
      clear hb1
      go_wp2_with fail
      go_ret
      exact ⟨by rw [HPT.out]; rfl, HB1.out⟩
end Go.Proofs.YtimigpdbegfjaaaGreatDoor
/-
  Proved: what an assertion on one of the five nodes yields (closed facts on the program's tables).
-/
namespace Go.Proofs.YtimigpdbegfjaaaGreatDoor
open Go.RowKit

theorem as_unknown_unknown (w : World) : (Instr.typeAssert (.iface 102 (.agg #[])) 99 102 true).run Tryz.prog w = .ok (.tuple #[.agg #[], .bool true]) w := by kernel_rfl
theorem as_unknown_num (w : World) : (Instr.typeAssert (.iface 102 (.agg #[])) 99 103 true).run Tryz.prog w = .ok (.tuple #[.agg #[], .bool false]) w := by kernel_rfl
theorem as_unknown_bool (w : World) : (Instr.typeAssert (.iface 102 (.agg #[])) 99 104 true).run Tryz.prog w = .ok (.tuple #[.agg #[], .bool false]) w := by kernel_rfl
theorem as_unknown_arrow (w : World) : (Instr.typeAssert (.iface 102 (.agg #[])) 99 106 true).run Tryz.prog w = .ok (.tuple #[.agg #[.int .i64 0, .slice none 0 0, .int .i64 0, .slice none 0 0], .bool false]) w := by kernel_rfl
theorem as_unknown_pair (w : World) : (Instr.typeAssert (.iface 102 (.agg #[])) 99 108 true).run Tryz.prog w = .ok (.tuple #[.agg #[.int .i64 0, .slice none 0 0, .int .i64 0, .slice none 0 0], .bool false]) w := by kernel_rfl
theorem as_num_unknown (w : World) : (Instr.typeAssert (.iface 103 (.agg #[])) 99 102 true).run Tryz.prog w = .ok (.tuple #[.agg #[], .bool false]) w := by kernel_rfl
theorem as_num_num (w : World) : (Instr.typeAssert (.iface 103 (.agg #[])) 99 103 true).run Tryz.prog w = .ok (.tuple #[.agg #[], .bool true]) w := by kernel_rfl
theorem as_num_bool (w : World) : (Instr.typeAssert (.iface 103 (.agg #[])) 99 104 true).run Tryz.prog w = .ok (.tuple #[.agg #[], .bool false]) w := by kernel_rfl
theorem as_num_arrow (w : World) : (Instr.typeAssert (.iface 103 (.agg #[])) 99 106 true).run Tryz.prog w = .ok (.tuple #[.agg #[.int .i64 0, .slice none 0 0, .int .i64 0, .slice none 0 0], .bool false]) w := by kernel_rfl
theorem as_num_pair (w : World) : (Instr.typeAssert (.iface 103 (.agg #[])) 99 108 true).run Tryz.prog w = .ok (.tuple #[.agg #[.int .i64 0, .slice none 0 0, .int .i64 0, .slice none 0 0], .bool false]) w := by kernel_rfl
theorem as_bool_unknown (w : World) : (Instr.typeAssert (.iface 104 (.agg #[])) 99 102 true).run Tryz.prog w = .ok (.tuple #[.agg #[], .bool false]) w := by kernel_rfl
theorem as_bool_num (w : World) : (Instr.typeAssert (.iface 104 (.agg #[])) 99 103 true).run Tryz.prog w = .ok (.tuple #[.agg #[], .bool false]) w := by kernel_rfl
theorem as_bool_bool (w : World) : (Instr.typeAssert (.iface 104 (.agg #[])) 99 104 true).run Tryz.prog w = .ok (.tuple #[.agg #[], .bool true]) w := by kernel_rfl
theorem as_bool_arrow (w : World) : (Instr.typeAssert (.iface 104 (.agg #[])) 99 106 true).run Tryz.prog w = .ok (.tuple #[.agg #[.int .i64 0, .slice none 0 0, .int .i64 0, .slice none 0 0], .bool false]) w := by kernel_rfl
theorem as_bool_pair (w : World) : (Instr.typeAssert (.iface 104 (.agg #[])) 99 108 true).run Tryz.prog w = .ok (.tuple #[.agg #[.int .i64 0, .slice none 0 0, .int .i64 0, .slice none 0 0], .bool false]) w := by kernel_rfl
theorem as_arrow_unknown (a b c d : Value) (w : World) : (Instr.typeAssert (.iface 106 (.agg #[a, b, c, d])) 99 102 true).run Tryz.prog w = .ok (.tuple #[.agg #[], .bool false]) w := by kernel_rfl
theorem as_arrow_num (a b c d : Value) (w : World) : (Instr.typeAssert (.iface 106 (.agg #[a, b, c, d])) 99 103 true).run Tryz.prog w = .ok (.tuple #[.agg #[], .bool false]) w := by kernel_rfl
theorem as_arrow_bool (a b c d : Value) (w : World) : (Instr.typeAssert (.iface 106 (.agg #[a, b, c, d])) 99 104 true).run Tryz.prog w = .ok (.tuple #[.agg #[], .bool false]) w := by kernel_rfl
theorem as_arrow_arrow (a b c d : Value) (w : World) : (Instr.typeAssert (.iface 106 (.agg #[a, b, c, d])) 99 106 true).run Tryz.prog w = .ok (.tuple #[.agg #[a, b, c, d], .bool true]) w := by kernel_rfl
theorem as_arrow_pair (a b c d : Value) (w : World) : (Instr.typeAssert (.iface 106 (.agg #[a, b, c, d])) 99 108 true).run Tryz.prog w = .ok (.tuple #[.agg #[.int .i64 0, .slice none 0 0, .int .i64 0, .slice none 0 0], .bool false]) w := by kernel_rfl
theorem as_pair_unknown (a b c d : Value) (w : World) : (Instr.typeAssert (.iface 108 (.agg #[a, b, c, d])) 99 102 true).run Tryz.prog w = .ok (.tuple #[.agg #[], .bool false]) w := by kernel_rfl
theorem as_pair_num (a b c d : Value) (w : World) : (Instr.typeAssert (.iface 108 (.agg #[a, b, c, d])) 99 103 true).run Tryz.prog w = .ok (.tuple #[.agg #[], .bool false]) w := by kernel_rfl
theorem as_pair_bool (a b c d : Value) (w : World) : (Instr.typeAssert (.iface 108 (.agg #[a, b, c, d])) 99 104 true).run Tryz.prog w = .ok (.tuple #[.agg #[], .bool false]) w := by kernel_rfl
theorem as_pair_arrow (a b c d : Value) (w : World) : (Instr.typeAssert (.iface 108 (.agg #[a, b, c, d])) 99 106 true).run Tryz.prog w = .ok (.tuple #[.agg #[.int .i64 0, .slice none 0 0, .int .i64 0, .slice none 0 0], .bool false]) w := by kernel_rfl
theorem as_pair_pair (a b c d : Value) (w : World) : (Instr.typeAssert (.iface 108 (.agg #[a, b, c, d])) 99 108 true).run Tryz.prog w = .ok (.tuple #[.agg #[a, b, c, d], .bool true]) w := by kernel_rfl
end Go.Proofs.YtimigpdbegfjaaaGreatDoor
/-
  Proved: the method parts of each of the five nodes gives the parts of a type (none for the first three), and leaves the memory that was there as it was; which function a call of parts through the interface runs.
-/
namespace Go.Proofs.YtimigpdbegfjaaaGreatDoor
open Go.RowKit

theorem meth_unknown (n : Nat) (w : World) : (method (n + 1) 102 (.agg #[]) "loop.example/g00585/impl.parts").run Tryz.prog w = .ok (116, .agg #[]) w := by kernel_rfl
theorem meth_num (n : Nat) (w : World) : (method (n + 1) 103 (.agg #[]) "loop.example/g00585/impl.parts").run Tryz.prog w = .ok (117, .agg #[]) w := by kernel_rfl
theorem meth_bool (n : Nat) (w : World) : (method (n + 1) 104 (.agg #[]) "loop.example/g00585/impl.parts").run Tryz.prog w = .ok (118, .agg #[]) w := by kernel_rfl
theorem meth_arrow (n : Nat) (w : World) (a b c d : Value) : (method (n + 1) 106 (.agg #[a, b, c, d]) "loop.example/g00585/impl.parts").run Tryz.prog w = .ok (119, .agg #[a, b, c, d]) w := by kernel_rfl
theorem meth_pair (n : Nat) (w : World) (a b c d : Value) : (method (n + 1) 108 (.agg #[a, b, c, d]) "loop.example/g00585/impl.parts").run Tryz.prog w = .ok (120, .agg #[a, b, c, d]) w := by kernel_rfl

set_option maxRecDepth 100000 in
theorem parts_unknown (w : World) : Calls Tryz.prog 116 #[.agg #[]] w fun e w' => e = .returned (.slice none 0 0) ∧ Below w.heap.size w w' := by
  go_enter Tryz.func116, Tryz.ntmps116
  go_wp2_with fail
  go_ret
  exact ⟨rfl, below_alloc _ _⟩
set_option maxRecDepth 100000 in
theorem parts_num (w : World) : Calls Tryz.prog 117 #[.agg #[]] w fun e w' => e = .returned (.slice none 0 0) ∧ Below w.heap.size w w' := by
  go_enter Tryz.func117, Tryz.ntmps117
  go_wp2_with fail
  go_ret
  exact ⟨rfl, below_alloc _ _⟩
set_option maxRecDepth 100000 in
theorem parts_bool (w : World) : Calls Tryz.prog 118 #[.agg #[]] w fun e w' => e = .returned (.slice none 0 0) ∧ Below w.heap.size w w' := by
  go_enter Tryz.func118, Tryz.ntmps118
  go_wp2_with fail
  go_ret
  exact ⟨rfl, below_alloc _ _⟩
def PartsEnd (w0 : World) (d : Nat) (t1 t2 : Ty) (w : World) (e : Ending) (w' : World) : Prop :=
  ∃ b, e = .returned (.slice (some ⟨b, 0, none⟩) 2 2) ∧ RowIn (TyAt w0 d) w' w.heap.size (.slice (some ⟨b, 0, none⟩) 2 2) [t1, t2] ∧ Below w.heap.size w w'
theorem tys_two {w0 w : World} {d b lo : Nat} {t1 t2 : Ty} {k1 k2 : Int} {s1 s2 : Value} (hlo : lo ≤ b) (hb : b < w.heap.size) (h0 : w.cell? ⟨b, 0, none⟩ = some (.int .i64 k1)) (h1 : w.cell? ⟨b, 1, none⟩ = some s1) (h2 : w.cell? ⟨b, 2, none⟩ = some (.int .i64 k2)) (h3 : w.cell? ⟨b, 3, none⟩ = some s2)
    (ht1 : TyAt w0 d (.agg #[.int .i64 k1, s1]) t1) (ht2 : TyAt w0 d (.agg #[.int .i64 k2, s2]) t2) : RowIn (TyAt w0 d) w lo (.slice (some ⟨b, 0, none⟩) 2 2) [t1, t2] := by
  refine ⟨_, _, rfl, Nat.le_refl _, by simp, fun j hj => ?_⟩
  match j, hj with
  | 0, _ => exact ⟨b, 0, _, _, rfl, hlo, hb, by simpa using h0, by simpa using h1, ht1⟩
  | 1, _ => exact ⟨b, 0, _, _, rfl, hlo, hb, by simpa using h2, by simpa using h3, ht2⟩
theorem box_four {w : World} {a b c d : Value} {T : TypeId} : BoxAt ((w.alloc (.cells #[a, b, c, d] T)).alloc (.cells #[a, b, c, d] 35)) (w.heap.size + 1) #[a, b, c, d] := by
  have h := BoxAt.new (w.alloc (.cells #[a, b, c, d] T)) #[a, b, c, d] 35
  rw [show (w.alloc (.cells #[a, b, c, d] T)).heap.size = w.heap.size + 1 from by simp] at h
  exact h
set_option maxRecDepth 100000 in
set_option maxHeartbeats 1000000 in
theorem parts_arrow (w0 : World) (d : Nat) (t1 t2 : Ty) (k1 k2 : Int) (v1 v2 : Value) (w : World) (h1 : TyAt w0 d (.agg #[.int .i64 k1, v1]) t1) (h2 : TyAt w0 d (.agg #[.int .i64 k2, v2]) t2) :
    Calls Tryz.prog 119 #[.agg #[.int .i64 k1, v1, .int .i64 k2, v2]] w (PartsEnd w0 d t1 t2 w) := by
  obtain ⟨_, s1, n1, c1, _, rfl⟩ := at_parts h1
  obtain ⟨_, s2, n2, c2, _, rfl⟩ := at_parts h2
  have H1 := Lib.hid h1
  have H2 := Lib.hid h2
  clear h1 h2
  go_enter Tryz.func119, Tryz.ntmps119
  go_wp2_with fail
  go_ret
  have X := ((Below.refl w.heap.size w).alloc (Nat.le_refl _) (.cells #[.int .i64 k1, .slice s1 n1 c1, .int .i64 k2, .slice s2 n2 c2] 106)).alloc (by simp) (.cells #[.int .i64 k1, .slice s1 n1 c1, .int .i64 k2, .slice s2 n2 c2] 35)
  have Y := box_four (w := w) (a := .int .i64 k1) (b := .slice s1 n1 c1) (c := .int .i64 k2) (d := .slice s2 n2 c2) (T := 106)
  exact ⟨_, rfl, tys_two (by omega) Y.1 (Y.2 0) (Y.2 1) (Y.2 2) (Y.2 3) H1.out H2.out, X⟩
set_option maxRecDepth 100000 in
set_option maxHeartbeats 1000000 in
theorem parts_pair (w0 : World) (d : Nat) (t1 t2 : Ty) (k1 k2 : Int) (v1 v2 : Value) (w : World) (h1 : TyAt w0 d (.agg #[.int .i64 k1, v1]) t1) (h2 : TyAt w0 d (.agg #[.int .i64 k2, v2]) t2) :
    Calls Tryz.prog 120 #[.agg #[.int .i64 k1, v1, .int .i64 k2, v2]] w (PartsEnd w0 d t1 t2 w) := by
  obtain ⟨_, s1, n1, c1, _, rfl⟩ := at_parts h1
  obtain ⟨_, s2, n2, c2, _, rfl⟩ := at_parts h2
  have H1 := Lib.hid h1
  have H2 := Lib.hid h2
  clear h1 h2
  go_enter Tryz.func120, Tryz.ntmps120
  go_wp2_with fail
  go_ret
  have X := ((Below.refl w.heap.size w).alloc (Nat.le_refl _) (.cells #[.int .i64 k1, .slice s1 n1 c1, .int .i64 k2, .slice s2 n2 c2] 108)).alloc (by simp) (.cells #[.int .i64 k1, .slice s1 n1 c1, .int .i64 k2, .slice s2 n2 c2] 35)
  have Y := box_four (w := w) (a := .int .i64 k1) (b := .slice s1 n1 c1) (c := .int .i64 k2) (d := .slice s2 n2 c2) (T := 108)
  exact ⟨_, rfl, tys_two (by omega) Y.1 (Y.2 0) (Y.2 1) (Y.2 2) (Y.2 3) H1.out H2.out, X⟩
end Go.Proofs.YtimigpdbegfjaaaGreatDoor
/-
  Proved: impl.typeWithin says whether a type's tree has the form of a type and fits into the room and the depth that are left; it counts the room down, and touches nothing else.
-/
namespace Go.Proofs.YtimigpdbegfjaaaGreatDoor
open Go.RowKit

def within (t : Ty) (r dp : Int) : Bool := decide ((t.size : Int) ≤ r) && decide ((t.depth : Int) ≤ dp) && t.form
def WithinEnd (p : Nat) (r dp : Int) (t : Ty) (w : World) (e : Ending) (w' : World) : Prop :=
  ∃ r' : Int, e = .returned (.bool (within t r dp)) ∧ w'.cell? ⟨p, 0, none⟩ = some (.int .i64 r') ∧ w'.frozen? ⟨p, 0, none⟩ = false ∧ r - t.size ≤ r' ∧ r' ≤ r ∧ (within t r dp = true → r' = r - t.size) ∧
    Below p w w' ∧ (∀ b, b < w.heap.size → b ≠ p → w'.heap[b]? = w.heap[b]?)
/-- What the count leaves of memory: below p nothing has changed, nor any old block but p; the room holds r. -/
def Room (p : Nat) (r : Int) (w w' : World) : Prop :=
  w'.cell? ⟨p, 0, none⟩ = some (.int .i64 r) ∧ w'.frozen? ⟨p, 0, none⟩ = false ∧ Below p w w' ∧ (∀ b, b < w.heap.size → b ≠ p → w'.heap[b]? = w.heap[b]?)
theorem Room.stored {p : Nat} {r : Int} {x : Value} {w w2 : World} (hp : p < w.heap.size) (hb : Below w.heap.size w w2) (e0 : w2.cell? ⟨p, 0, none⟩ = some x) (e1 : w2.frozen? ⟨p, 0, none⟩ = false) : Room p r w (w2.setCell ⟨p, 0, none⟩ (.int .i64 r)) := by
  refine ⟨by simp [go_sem, e0], by simp [go_sem, e1], (hb.mono (Nat.le_of_lt hp)).setCell (Nat.le_refl _) _, fun b h1 h2 => ?_⟩
  rw [heap_setCell_other _ _ _ _ h2]
  exact hb.block b h1
theorem Room.below {p : Nat} {r : Int} {w w1 w2 : World} (hp : p < w.heap.size) (h : Room p r w w1) (hb : Below w1.heap.size w1 w2) : Room p r w w2 := by
  obtain ⟨h0, h1, h2, h3⟩ := h
  have hz := h2.size
  refine ⟨(hb.cell (p := ⟨p, 0, none⟩) (Nat.lt_of_lt_of_le hp hz)).trans h0, (hb.frozen (p := ⟨p, 0, none⟩) (Nat.lt_of_lt_of_le hp hz)).trans h1, h2.trans (hb.mono (by omega)), fun b hb1 hb2 => ?_⟩
  rw [hb.block b (by omega)]
  exact h3 b hb1 hb2
theorem Room.on {p : Nat} {r r2 : Int} {w w1 w2 : World} (h : Room p r w w1) (h2 : Room p r2 w1 w2) : Room p r2 w w2 := by
  obtain ⟨_, _, g2, g3⟩ := h
  obtain ⟨k0, k1, k2, k3⟩ := h2
  refine ⟨k0, k1, g2.trans k2, fun b hb1 hb2 => ?_⟩
  rw [k3 b (by have := g2.size; omega) hb2]
  exact g3 b hb1 hb2
theorem WithinEnd.of {p : Nat} {r dp r' : Int} {t : Ty} {w w' : World} {b : Bool} (hb : within t r dp = b) (hr : Room p r' w w') (h1 : r - t.size ≤ r') (h2 : r' ≤ r) (h3 : b = true → r' = r - t.size) : WithinEnd p r dp t w (.returned (.bool b)) w' := by
  subst hb
  exact ⟨r', rfl, hr.1, hr.2.1, h1, h2, h3, hr.2.2.1, hr.2.2.2⟩
theorem WithinEnd.room {p : Nat} {r dp : Int} {t : Ty} {w w' : World} {e : Ending} (h : WithinEnd p r dp t w e w') : ∃ r', e = .returned (.bool (within t r dp)) ∧ Room p r' w w' ∧ r - t.size ≤ r' ∧ r' ≤ r ∧ (within t r dp = true → r' = r - t.size) := by
  obtain ⟨r', h0, h1, h2, h3, h4, h5, h6, h7⟩ := h
  exact ⟨r', h0, ⟨h1, h2, h6, h7⟩, h3, h4, h5⟩
theorem Ty.depths_get (ts : List Ty) (k : Nat) (h : k < ts.length) : ts[k].depth ≤ Ty.depths ts := by
  induction ts generalizing k with
  | nil => simp at h
  | cons s r ih =>
    cases k with
    | zero => simp only [List.getElem_cons_zero, Ty.depths]; omega
    | succ k => simp only [List.getElem_cons_succ, Ty.depths]; have := ih k (by simpa using h); omega
theorem within_true {t : Ty} {r dp : Int} (h : within t r dp = true) : (t.size : Int) ≤ r ∧ (t.depth : Int) ≤ dp ∧ t.form = true := by
  simp only [within, Bool.and_eq_true, decide_eq_true_eq] at h
  exact ⟨h.1.1, h.1.2, h.2⟩
theorem within_sub {kd r dp r2 : Int} {ts : List Ty} {k : Nat} (h : k < ts.length) (hr : r2 = r - 1 - Ty.sizes (ts.take k)) (hf : within ts[k] r2 (dp - 1) = false) : within (.node kd ts) r dp = false := by
  cases hw : within (.node kd ts) r dp with
  | false => rfl
  | true =>
    obtain ⟨w1, w2, w3⟩ := within_true hw
    simp only [Ty.size, Ty.depth, Ty.form, Bool.and_eq_true] at w1 w2 w3
    have h1 := Ty.sizes_take ts k h
    have h2 := Ty.sizes_le ts (k + 1)
    have h3 := Ty.depths_get ts k h
    have h4 : ts[k].form = true := by
      have e := Ty.forms_take ts k h
      cases hfk : ts[k].form with
      | true => rfl
      | false =>
        rw [hfk, Bool.and_false] at e
        have := Ty.forms_false ts (k + 1) e
        rw [this] at w3; exact absurd w3.1 (by simp)
    have : within ts[k] r2 (dp - 1) = true := by
      simp only [within, Bool.and_eq_true, decide_eq_true_eq]
      exact ⟨⟨by omega, by omega⟩, h4⟩
    rw [this] at hf; cases hf
theorem within_mk {t : Ty} {r dp : Int} (h1 : (t.size : Int) ≤ r) (h2 : (t.depth : Int) ≤ dp) (h3 : t.form = true) : within t r dp = true := by
  simp only [within, Bool.and_eq_true, decide_eq_true_eq]
  exact ⟨⟨h1, h2⟩, h3⟩
set_option maxRecDepth 100000 in
set_option maxHeartbeats 4000000 in
theorem implWithin (w0 : World) : ∀ (d : Nat) (v : Value) (t : Ty) (p : Nat) (r dp : Int) (w : World), TyAt w0 d v t → Below w0.heap.size w0 w → w0.heap.size ≤ p → t.size ≤ 1048577 → p < w.heap.size → 0 ≤ r → r ≤ 1048576 → 0 ≤ dp → dp ≤ 100 →
    w.cell? ⟨p, 0, none⟩ = some (.int .i64 r) → w.frozen? ⟨p, 0, none⟩ = false →
    Calls Tryz.prog 73 #[v, .pointer (some ⟨p, 0, none⟩), .int .i64 dp] w (WithinEnd p r dp t w)
  | 0, _, _, _, _, _, _, h, _, _, _, _, _, _, _, _, _, _ => h.elim
  | d + 1, v, .node kd ts, p, r, dp, w, h, hw0, hp0, hsz, hp, hr0, hr1, hd0, hd1, hcell, hfroz => by
    have IH : Hid (∀ (v : Value) (t : Ty) (p : Nat) (r dp : Int) (w : World), TyAt w0 d v t → Below w0.heap.size w0 w → w0.heap.size ≤ p → t.size ≤ 1048577 → p < w.heap.size → 0 ≤ r → r ≤ 1048576 → 0 ≤ dp → dp ≤ 100 →
      w.cell? ⟨p, 0, none⟩ = some (.int .i64 r) → w.frozen? ⟨p, 0, none⟩ = false →
      Calls Tryz.prog 73 #[v, .pointer (some ⟨p, 0, none⟩), .int .i64 dp] w (WithinEnd p r dp t w)) := implWithin w0 d
    have hlen : ts.length ≤ 1152921504606846976 := by have := Ty.length_le ts; simp [Ty.size] at hsz; omega
    have HSZ : Hid (1 + Ty.sizes ts ≤ 1048577) := by simp [Ty.size] at hsz; show _ ≤ _; omega
    have hszi : (Ty.node kd ts).size = 1 + Ty.sizes ts := rfl
    have HSI := Lib.hid hszi
    clear hsz hszi
    have HT := Lib.hid h
    obtain ⟨sk, sa, sn, sc, rfl⟩ := agg_parts h
    clear h
    have HW0 := Lib.hid hw0; clear hw0
    have hb := HW0.out.alloc HW0.out.size (.cells #[.int .i64 sk, .slice sa sn sc] 35)
    have HW1 := Lib.hid hb; clear hb
    have hpw : ¬ (p = w.heap.size) := by omega
    go_enter Tryz.func73, Tryz.ntmps73
    go_wp2_with fail
    refine (implNode w0 d _ kd ts _ HT.out HW1.out hlen).mono ?_
    rintro e w2 ⟨n, rfl, hnode, hb⟩
    have B2 := Lib.hid (below_on (below_alloc w _) hb (by simp)); clear hb HW1
    have e0 := (B2.out.cell (p := ⟨p, 0, none⟩) hp).trans hcell
    have e1 := (B2.out.frozen (p := ⟨p, 0, none⟩) hp).trans hfroz
    have R2 := Lib.hid (Room.stored (r := r - 1) hp B2.out e0 e1)
    clear hcell hfroz
    have fin : ∀ b, within (.node kd ts) r dp = b → b = false → WithinEnd p r dp (.node kd ts) w (.returned (.bool b)) (w2.setCell ⟨p, 0, none⟩ (.int .i64 (r - 1))) := fun b h1 h2 =>
      WithinEnd.of h1 R2.out (by rw [HSI.out]; omega) (by omega) (fun h => by rw [h2] at h; cases h)
    have FIN := Lib.hid fin; clear fin
    have HSG : Hid (Ty.size (.node kd ts) = 1 + Ty.sizes ts) := HSI.out
    by_cases hkb : kindOk kd ts.length = false
    · have hn : n = .nilIface := by
        rcases hnode with ⟨_, h⟩ | ⟨h, _⟩ | ⟨h, _⟩
        · exact h
        · rw [hkb] at h; cases h
        · rw [hkb] at h; cases h
      subst hn
      go_wp2_with fail
      go_ret
      exact FIN.out _ (by simp [within, Ty.form, hkb]) rfl
    have hko : kindOk kd ts.length = true := by simpa using hkb
    have HKO := Lib.hid hko; clear hko hkb
    have early : r < 1 ∨ dp = 0 → within (.node kd ts) r dp = false := fun h => by
      cases hw : within (.node kd ts) r dp with
      | false => rfl
      | true =>
        obtain ⟨w1, w2, w3⟩ := within_true hw
        simp only [Ty.size, Ty.depth] at w1 w2
        omega
    have EARLY := Lib.hid early; clear early
    by_cases hr : r < 1
    · rcases hnode with ⟨h, _⟩ | ⟨_, rfl, ⟨rfl, rfl⟩ | ⟨rfl, rfl⟩ | ⟨rfl, rfl⟩⟩ | ⟨_, t1, t2, k1, s1, k2, s2, rfl, ht1, ht2, ⟨rfl, rfl⟩ | ⟨rfl, rfl⟩⟩
      · rw [HKO.out] at h; cases h
      all_goals (go_wp2_with fail; go_ret; exact FIN.out _ (EARLY.out (Or.inl hr)) rfl)
    by_cases hd : dp = 0
    · have hdb : (dp == 0) = true := by simp [hd]
      rcases hnode with ⟨h, _⟩ | ⟨_, rfl, ⟨rfl, rfl⟩ | ⟨rfl, rfl⟩ | ⟨rfl, rfl⟩⟩ | ⟨_, t1, t2, k1, s1, k2, s2, rfl, ht1, ht2, ⟨rfl, rfl⟩ | ⟨rfl, rfl⟩⟩
      · rw [HKO.out] at h; cases h
      all_goals (go_wp2_with fail; go_ret; exact FIN.out _ (EARLY.out (Or.inr hd)) rfl)
    have hdb : (dp == 0) = false := by simp [hd]
    clear FIN EARLY
    rcases hnode with ⟨h, _⟩ | ⟨_, rfl, ⟨rfl, rfl⟩ | ⟨rfl, rfl⟩ | ⟨rfl, rfl⟩⟩ | ⟨_, t1, t2, k1, s1, k2, s2, rfl, ht1, ht2, ⟨rfl, rfl⟩ | ⟨rfl, rfl⟩⟩
    · rw [HKO.out] at h; cases h
    · have hm := meth_unknown
      go_wp2_with fail
      refine (parts_unknown _).mono ?_
      rintro e w4 ⟨rfl, hb⟩
      have R4 := Lib.hid (R2.out.below hp hb)
      have HZ : Hid (w.heap.size ≤ w2.heap.size) := B2.out.size
      have hz4 := hb.size
      rw [World.size_setCell] at hz4
      clear hb R2 e0 e1 B2 hm
      have hz2 : w.heap.size ≤ w2.heap.size := HZ.out
      clear HZ
      go_wp2_with fail
      go_loopw [32] (fun i wr => ∃ k : Nat, k ≤ 0 ∧ i = .int .i64 k ∧ 0 ≤ r - 1 - (Ty.sizes (List.take k []) : Int) ∧ (Ty.depths (List.take k []) : Int) ≤ dp - 1 ∧ Ty.forms (List.take k []) = true ∧ Room p (r - 1 - Ty.sizes (List.take k [])) w wr ∧ w4.heap.size ≤ wr.heap.size ∧ (∀ b, b < w4.heap.size → b ≠ p → wr.heap[b]? = w4.heap[b]?)) (fun i _ => 0 - (intOf i).toNat)
      case atStart => exact ⟨0, by omega, rfl, by simp [Ty.sizes]; omega, by simp [Ty.depths]; omega, by simp [Ty.forms], by simpa [Ty.sizes] using R4.out, Nat.le_refl _, fun _ _ _ => rfl⟩
      case round =>
        obtain ⟨k, hk, rfl, hs, hds, hf, hroom, hz, hkeep⟩ := hrel
        have HS := Lib.hid hs
        have HD := Lib.hid hds
        have HF := Lib.hid hf
        have HR := Lib.hid hroom
        have HK := Lib.hid hkeep
        clear hs hds hf hroom hkeep
        obtain rfl : k = 0 := by omega
        have hfin : within (.node 1 []) r dp = true := by
          have h1 : 0 ≤ r - 1 - (Ty.sizes [] : Int) := HS.out
          have h2 : (Ty.depths [] : Int) ≤ dp - 1 := HD.out
          have h3 : Ty.forms [] = true := HF.out
          have h4 := HKO.out
          exact within_mk (show ((1 + Ty.sizes [] : Nat) : Int) ≤ r by omega) (show ((1 + Ty.depths [] : Nat) : Int) ≤ dp by omega) (by simp only [Ty.form, h3, h4, Bool.and_self])
        have HFIN := Lib.hid hfin; clear hfin
        have h1 : 0 ≤ r - 1 - (Ty.sizes [] : Int) := HS.out
        have hlo : r - ↑(1 + Ty.sizes []) ≤ r - 1 - ↑(Ty.sizes []) := by omega
        have HLO := Lib.hid hlo; clear hlo h1
        go_wp2_with fail
        go_ret
        exact WithinEnd.of (r' := r - 1 - ↑(Ty.sizes [])) HFIN.out HR.out (by rw [HSG.out]; exact HLO.out) (by omega) (fun _ => by rw [HSG.out]; omega)
    · have hm := meth_num
      go_wp2_with fail
      refine (parts_num _).mono ?_
      rintro e w4 ⟨rfl, hb⟩
      have R4 := Lib.hid (R2.out.below hp hb)
      have HZ : Hid (w.heap.size ≤ w2.heap.size) := B2.out.size
      have hz4 := hb.size
      rw [World.size_setCell] at hz4
      clear hb R2 e0 e1 B2 hm
      have hz2 : w.heap.size ≤ w2.heap.size := HZ.out
      clear HZ
      go_wp2_with fail
      go_loopw [32] (fun i wr => ∃ k : Nat, k ≤ 0 ∧ i = .int .i64 k ∧ 0 ≤ r - 1 - (Ty.sizes (List.take k []) : Int) ∧ (Ty.depths (List.take k []) : Int) ≤ dp - 1 ∧ Ty.forms (List.take k []) = true ∧ Room p (r - 1 - Ty.sizes (List.take k [])) w wr ∧ w4.heap.size ≤ wr.heap.size ∧ (∀ b, b < w4.heap.size → b ≠ p → wr.heap[b]? = w4.heap[b]?)) (fun i _ => 0 - (intOf i).toNat)
      case atStart => exact ⟨0, by omega, rfl, by simp [Ty.sizes]; omega, by simp [Ty.depths]; omega, by simp [Ty.forms], by simpa [Ty.sizes] using R4.out, Nat.le_refl _, fun _ _ _ => rfl⟩
      case round =>
        obtain ⟨k, hk, rfl, hs, hds, hf, hroom, hz, hkeep⟩ := hrel
        have HS := Lib.hid hs
        have HD := Lib.hid hds
        have HF := Lib.hid hf
        have HR := Lib.hid hroom
        have HK := Lib.hid hkeep
        clear hs hds hf hroom hkeep
        obtain rfl : k = 0 := by omega
        have hfin : within (.node 2 []) r dp = true := by
          have h1 : 0 ≤ r - 1 - (Ty.sizes [] : Int) := HS.out
          have h2 : (Ty.depths [] : Int) ≤ dp - 1 := HD.out
          have h3 : Ty.forms [] = true := HF.out
          have h4 := HKO.out
          exact within_mk (show ((1 + Ty.sizes [] : Nat) : Int) ≤ r by omega) (show ((1 + Ty.depths [] : Nat) : Int) ≤ dp by omega) (by simp only [Ty.form, h3, h4, Bool.and_self])
        have HFIN := Lib.hid hfin; clear hfin
        have h1 : 0 ≤ r - 1 - (Ty.sizes [] : Int) := HS.out
        have hlo : r - ↑(1 + Ty.sizes []) ≤ r - 1 - ↑(Ty.sizes []) := by omega
        have HLO := Lib.hid hlo; clear hlo h1
        go_wp2_with fail
        go_ret
        exact WithinEnd.of (r' := r - 1 - ↑(Ty.sizes [])) HFIN.out HR.out (by rw [HSG.out]; exact HLO.out) (by omega) (fun _ => by rw [HSG.out]; omega)
    · have hm := meth_bool
      go_wp2_with fail
      refine (parts_bool _).mono ?_
      rintro e w4 ⟨rfl, hb⟩
      have R4 := Lib.hid (R2.out.below hp hb)
      have HZ : Hid (w.heap.size ≤ w2.heap.size) := B2.out.size
      have hz4 := hb.size
      rw [World.size_setCell] at hz4
      clear hb R2 e0 e1 B2 hm
      have hz2 : w.heap.size ≤ w2.heap.size := HZ.out
      clear HZ
      go_wp2_with fail
      go_loopw [32] (fun i wr => ∃ k : Nat, k ≤ 0 ∧ i = .int .i64 k ∧ 0 ≤ r - 1 - (Ty.sizes (List.take k []) : Int) ∧ (Ty.depths (List.take k []) : Int) ≤ dp - 1 ∧ Ty.forms (List.take k []) = true ∧ Room p (r - 1 - Ty.sizes (List.take k [])) w wr ∧ w4.heap.size ≤ wr.heap.size ∧ (∀ b, b < w4.heap.size → b ≠ p → wr.heap[b]? = w4.heap[b]?)) (fun i _ => 0 - (intOf i).toNat)
      case atStart => exact ⟨0, by omega, rfl, by simp [Ty.sizes]; omega, by simp [Ty.depths]; omega, by simp [Ty.forms], by simpa [Ty.sizes] using R4.out, Nat.le_refl _, fun _ _ _ => rfl⟩
      case round =>
        obtain ⟨k, hk, rfl, hs, hds, hf, hroom, hz, hkeep⟩ := hrel
        have HS := Lib.hid hs
        have HD := Lib.hid hds
        have HF := Lib.hid hf
        have HR := Lib.hid hroom
        have HK := Lib.hid hkeep
        clear hs hds hf hroom hkeep
        obtain rfl : k = 0 := by omega
        have hfin : within (.node 3 []) r dp = true := by
          have h1 : 0 ≤ r - 1 - (Ty.sizes [] : Int) := HS.out
          have h2 : (Ty.depths [] : Int) ≤ dp - 1 := HD.out
          have h3 : Ty.forms [] = true := HF.out
          have h4 := HKO.out
          exact within_mk (show ((1 + Ty.sizes [] : Nat) : Int) ≤ r by omega) (show ((1 + Ty.depths [] : Nat) : Int) ≤ dp by omega) (by simp only [Ty.form, h3, h4, Bool.and_self])
        have HFIN := Lib.hid hfin; clear hfin
        have h1 : 0 ≤ r - 1 - (Ty.sizes [] : Int) := HS.out
        have hlo : r - ↑(1 + Ty.sizes []) ≤ r - 1 - ↑(Ty.sizes []) := by omega
        have HLO := Lib.hid hlo; clear hlo h1
        go_wp2_with fail
        go_ret
        exact WithinEnd.of (r' := r - 1 - ↑(Ty.sizes [])) HFIN.out HR.out (by rw [HSG.out]; exact HLO.out) (by omega) (fun _ => by rw [HSG.out]; omega)
    · have H1 := Lib.hid ht1
      have H2 := Lib.hid ht2
      clear ht1 ht2
      have hm := fun (n : Nat) (w : World) => meth_arrow n w (.int .i64 k1) s1 (.int .i64 k2) s2
      go_wp2_with fail
      refine (parts_arrow w0 d t1 t2 k1 k2 s1 s2 _ H1.out H2.out).mono ?_
      rintro e w4 ⟨bb, rfl, hrow, hb⟩
      have R4 := Lib.hid (R2.out.below hp hb)
      have HZ : Hid (w.heap.size ≤ w2.heap.size) := B2.out.size
      have hz4 := hb.size
      rw [World.size_setCell] at hz4
      clear hb R2 e0 e1 B2 hm
      have hz2 : w.heap.size ≤ w2.heap.size := HZ.out
      clear HZ
      have HROW : Hid (∀ j (h : j < 2), ∃ x0 x1, p < bb ∧ bb < w4.heap.size ∧ w4.cell? ⟨bb, j * 2, none⟩ = some x0 ∧ w4.cell? ⟨bb, j * 2 + 1, none⟩ = some x1 ∧ TyAt w0 d (.agg #[x0, x1]) ([t1, t2][j]'h)) := fun j hj => by
        obtain ⟨a9, c9, he, _, _, hat⟩ := hrow
        obtain ⟨b9, o9, x0, x1, ha, h1, h2, h3, h4, h5⟩ := hat j hj
        simp only [Value.slice.injEq] at he
        obtain ⟨rfl, _⟩ := he
        injection ha with ha
        injection ha with ha1 ha2
        subst ha1 ha2
        rw [World.size_setCell] at h1
        exact ⟨x0, x1, by omega, h2, by simpa using h3, by simpa using h4, h5⟩
      clear hrow H1 H2
      go_wp2_with fail
      go_loopw [32] (fun i wr => ∃ k : Nat, k ≤ 2 ∧ i = .int .i64 k ∧ 0 ≤ r - 1 - (Ty.sizes (List.take k [t1, t2]) : Int) ∧ (Ty.depths (List.take k [t1, t2]) : Int) ≤ dp - 1 ∧ Ty.forms (List.take k [t1, t2]) = true ∧ Room p (r - 1 - Ty.sizes (List.take k [t1, t2])) w wr ∧ w4.heap.size ≤ wr.heap.size ∧ (∀ b, b < w4.heap.size → b ≠ p → wr.heap[b]? = w4.heap[b]?)) (fun i _ => 2 - (intOf i).toNat)
      case atStart => exact ⟨0, by omega, rfl, by simp [Ty.sizes]; omega, by simp [Ty.depths]; omega, by simp [Ty.forms], by simpa [Ty.sizes] using R4.out, Nat.le_refl _, fun _ _ _ => rfl⟩
      case round =>
        obtain ⟨k, hk, rfl, hs, hds, hf, hroom, hz, hkeep⟩ := hrel
        have HS := Lib.hid hs
        have HD := Lib.hid hds
        have HF := Lib.hid hf
        have HR := Lib.hid hroom
        have HK := Lib.hid hkeep
        clear hs hds hf hroom hkeep
        by_cases hlt : k < 2
        · obtain ⟨x0, x1, hpb, hbl, hc0, hc1, ht⟩ := HROW.out k hlt
          obtain ⟨yk, ya, yn, yc, rfl, rfl⟩ := at_parts ht
          have x0 : wr.cell? ⟨bb, k * 2, none⟩ = some (.int .i64 yk) := by rw [World.cell?_of_block (HK.out bb hbl (by omega))]; exact hc0
          have x1 : wr.cell? ⟨bb, k * 2 + 1, none⟩ = some (.slice ya yn yc) := by rw [World.cell?_of_block (HK.out bb hbl (by omega))]; exact hc1
          have hpp := below_alloc wr (.cells #[.int .i64 yk, .slice ya yn yc] 35)
          have HTK := Lib.hid ht
          have HRP := Lib.hid (HR.out.below hp hpp)
          have HWP : Hid (Below w0.heap.size w0 (wr.alloc (.cells #[.int .i64 yk, .slice ya yn yc] 35))) := HW0.out.trans (HRP.out.2.2.1.mono hp0)
          have hg := Ty.size_get [t1, t2] k hlt
          have hzk : Ty.size ([t1, t2][k]'hlt) ≤ 1048577 := by have := HSZ.out; omega
          have hpk : p < (wr.alloc (.cells #[.int .i64 yk, .slice ya yn yc] 35)).heap.size := by simp; omega
          obtain ⟨rr, hrr⟩ : ∃ rr, rr = r - 1 - (Ty.sizes (List.take k [t1, t2]) : Int) := ⟨_, rfl⟩
          rw [← hrr] at HRP HS
          have HRR := Lib.hid hrr; clear hrr
          have g0 : 0 ≤ rr := HS.out
          have g1 : rr ≤ 1048576 := by have := HRR.out; omega
          have gd : 0 ≤ dp - 1 := by omega
          clear ht hc0 hc1 hpp hg
          go_wp2_with fail
          refine (IH.out _ _ p rr (dp - 1) _ HTK.out HWP.out hp0 hzk hpk g0 g1 gd (by omega) HRP.out.1 HRP.out.2.1).mono ?_
          rintro e w6 hend
          obtain ⟨r6, rfl, hr6, h1, h2, h3⟩ := hend.room
          have HR6 := Lib.hid (HRP.out.on hr6)
          have HK6 : Hid (∀ b, b < w4.heap.size → b ≠ p → w6.heap[b]? = w4.heap[b]?) := fun b hb1 hb2 => by
            rw [hr6.2.2.2 b (by simp; omega) hb2, heap_alloc_old _ _ (by omega)]
            exact HK.out b hb1 hb2
          have hz6 : w4.heap.size ≤ w6.heap.size := by have := hr6.2.2.1.size; simp at this; omega
          clear hend hr6
          cases hw : within ([t1, t2][k]'hlt) rr (dp - 1) with
          | true =>
            have h4 := h3 hw
            obtain ⟨u1, u2, u3⟩ := within_true hw
            subst h4
            have HU3 := Lib.hid u3
            have T1 := Lib.hid (Ty.sizes_take [t1, t2] k hlt)
            have T2 := Lib.hid (Ty.depths_take [t1, t2] k hlt)
            have T3 := Lib.hid (Ty.forms_take [t1, t2] k hlt)
            have HW := Lib.hid hw
            have U2 := Lib.hid u2
            have U1 := Lib.hid u1
            clear h1 h2 h3 u3 u2 u1 hw
            have eq1 : Hid (rr - ↑(Ty.size ([t1, t2][k]'hlt)) = r - 1 - ↑(Ty.sizes (List.take (k + 1) [t1, t2]))) := by rw [T1.out]; have := HRR.out; show _ = _; omega
            go_wp2_with fail
            exact ⟨⟨k + 1, by omega, by go_num, by rw [← eq1.out]; have := U1.out; omega, by rw [T2.out]; have := HD.out; have := U2.out; omega, by rw [T3.out, HF.out, HU3.out]; rfl, by rw [← eq1.out]; exact HR6.out, hz6, HK6.out⟩, by simp [intOf]; omega⟩
          | false =>
            have hfin := within_sub (kd := 4) (r := r) (dp := dp) hlt HRR.out hw
            have HFIN := Lib.hid hfin
            have hsz1 := Ty.sizes_take [t1, t2] k hlt
            have hsz2 := Ty.sizes_le [t1, t2] (k + 1)
            have hq := HRR.out
            have hlo : r - ↑(1 + Ty.sizes [t1, t2]) ≤ r6 := by omega
            have hhi : r6 ≤ r := by omega
            clear hfin hw hsz1 hsz2 hq h1 h2 h3
            go_wp2_with fail
            go_ret
            exact WithinEnd.of HFIN.out HR6.out (by rw [HSG.out]; exact hlo) hhi (fun h => by cases h)
        · obtain rfl : k = 2 := by omega
          have hfin : within (.node 4 [t1, t2]) r dp = true := by
            have h1 : 0 ≤ r - 1 - (Ty.sizes [t1, t2] : Int) := HS.out
            have h2 : (Ty.depths [t1, t2] : Int) ≤ dp - 1 := HD.out
            have h3 : Ty.forms [t1, t2] = true := HF.out
            have h4 := HKO.out
            exact within_mk (show ((1 + Ty.sizes [t1, t2] : Nat) : Int) ≤ r by omega) (show ((1 + Ty.depths [t1, t2] : Nat) : Int) ≤ dp by omega) (by simp only [Ty.form, h3, h4, Bool.and_self])
          have HFIN := Lib.hid hfin; clear hfin
          have h1 : 0 ≤ r - 1 - (Ty.sizes [t1, t2] : Int) := HS.out
          have hlo : r - ↑(1 + Ty.sizes [t1, t2]) ≤ r - 1 - ↑(Ty.sizes [t1, t2]) := by omega
          have HLO := Lib.hid hlo; clear hlo h1
          go_wp2_with fail
          go_ret
          exact WithinEnd.of (r' := r - 1 - ↑(Ty.sizes [t1, t2])) HFIN.out HR.out (by rw [HSG.out]; exact HLO.out) (by omega) (fun _ => by rw [HSG.out]; omega)
    · have H1 := Lib.hid ht1
      have H2 := Lib.hid ht2
      clear ht1 ht2
      have hm := fun (n : Nat) (w : World) => meth_pair n w (.int .i64 k1) s1 (.int .i64 k2) s2
      go_wp2_with fail
      refine (parts_pair w0 d t1 t2 k1 k2 s1 s2 _ H1.out H2.out).mono ?_
      rintro e w4 ⟨bb, rfl, hrow, hb⟩
      have R4 := Lib.hid (R2.out.below hp hb)
      have HZ : Hid (w.heap.size ≤ w2.heap.size) := B2.out.size
      have hz4 := hb.size
      rw [World.size_setCell] at hz4
      clear hb R2 e0 e1 B2 hm
      have hz2 : w.heap.size ≤ w2.heap.size := HZ.out
      clear HZ
      have HROW : Hid (∀ j (h : j < 2), ∃ x0 x1, p < bb ∧ bb < w4.heap.size ∧ w4.cell? ⟨bb, j * 2, none⟩ = some x0 ∧ w4.cell? ⟨bb, j * 2 + 1, none⟩ = some x1 ∧ TyAt w0 d (.agg #[x0, x1]) ([t1, t2][j]'h)) := fun j hj => by
        obtain ⟨a9, c9, he, _, _, hat⟩ := hrow
        obtain ⟨b9, o9, x0, x1, ha, h1, h2, h3, h4, h5⟩ := hat j hj
        simp only [Value.slice.injEq] at he
        obtain ⟨rfl, _⟩ := he
        injection ha with ha
        injection ha with ha1 ha2
        subst ha1 ha2
        rw [World.size_setCell] at h1
        exact ⟨x0, x1, by omega, h2, by simpa using h3, by simpa using h4, h5⟩
      clear hrow H1 H2
      go_wp2_with fail
      go_loopw [32] (fun i wr => ∃ k : Nat, k ≤ 2 ∧ i = .int .i64 k ∧ 0 ≤ r - 1 - (Ty.sizes (List.take k [t1, t2]) : Int) ∧ (Ty.depths (List.take k [t1, t2]) : Int) ≤ dp - 1 ∧ Ty.forms (List.take k [t1, t2]) = true ∧ Room p (r - 1 - Ty.sizes (List.take k [t1, t2])) w wr ∧ w4.heap.size ≤ wr.heap.size ∧ (∀ b, b < w4.heap.size → b ≠ p → wr.heap[b]? = w4.heap[b]?)) (fun i _ => 2 - (intOf i).toNat)
      case atStart => exact ⟨0, by omega, rfl, by simp [Ty.sizes]; omega, by simp [Ty.depths]; omega, by simp [Ty.forms], by simpa [Ty.sizes] using R4.out, Nat.le_refl _, fun _ _ _ => rfl⟩
      case round =>
        obtain ⟨k, hk, rfl, hs, hds, hf, hroom, hz, hkeep⟩ := hrel
        have HS := Lib.hid hs
        have HD := Lib.hid hds
        have HF := Lib.hid hf
        have HR := Lib.hid hroom
        have HK := Lib.hid hkeep
        clear hs hds hf hroom hkeep
        by_cases hlt : k < 2
        · obtain ⟨x0, x1, hpb, hbl, hc0, hc1, ht⟩ := HROW.out k hlt
          obtain ⟨yk, ya, yn, yc, rfl, rfl⟩ := at_parts ht
          have x0 : wr.cell? ⟨bb, k * 2, none⟩ = some (.int .i64 yk) := by rw [World.cell?_of_block (HK.out bb hbl (by omega))]; exact hc0
          have x1 : wr.cell? ⟨bb, k * 2 + 1, none⟩ = some (.slice ya yn yc) := by rw [World.cell?_of_block (HK.out bb hbl (by omega))]; exact hc1
          have hpp := below_alloc wr (.cells #[.int .i64 yk, .slice ya yn yc] 35)
          have HTK := Lib.hid ht
          have HRP := Lib.hid (HR.out.below hp hpp)
          have HWP : Hid (Below w0.heap.size w0 (wr.alloc (.cells #[.int .i64 yk, .slice ya yn yc] 35))) := HW0.out.trans (HRP.out.2.2.1.mono hp0)
          have hg := Ty.size_get [t1, t2] k hlt
          have hzk : Ty.size ([t1, t2][k]'hlt) ≤ 1048577 := by have := HSZ.out; omega
          have hpk : p < (wr.alloc (.cells #[.int .i64 yk, .slice ya yn yc] 35)).heap.size := by simp; omega
          obtain ⟨rr, hrr⟩ : ∃ rr, rr = r - 1 - (Ty.sizes (List.take k [t1, t2]) : Int) := ⟨_, rfl⟩
          rw [← hrr] at HRP HS
          have HRR := Lib.hid hrr; clear hrr
          have g0 : 0 ≤ rr := HS.out
          have g1 : rr ≤ 1048576 := by have := HRR.out; omega
          have gd : 0 ≤ dp - 1 := by omega
          clear ht hc0 hc1 hpp hg
          go_wp2_with fail
          refine (IH.out _ _ p rr (dp - 1) _ HTK.out HWP.out hp0 hzk hpk g0 g1 gd (by omega) HRP.out.1 HRP.out.2.1).mono ?_
          rintro e w6 hend
          obtain ⟨r6, rfl, hr6, h1, h2, h3⟩ := hend.room
          have HR6 := Lib.hid (HRP.out.on hr6)
          have HK6 : Hid (∀ b, b < w4.heap.size → b ≠ p → w6.heap[b]? = w4.heap[b]?) := fun b hb1 hb2 => by
            rw [hr6.2.2.2 b (by simp; omega) hb2, heap_alloc_old _ _ (by omega)]
            exact HK.out b hb1 hb2
          have hz6 : w4.heap.size ≤ w6.heap.size := by have := hr6.2.2.1.size; simp at this; omega
          clear hend hr6
          cases hw : within ([t1, t2][k]'hlt) rr (dp - 1) with
          | true =>
            have h4 := h3 hw
            obtain ⟨u1, u2, u3⟩ := within_true hw
            subst h4
            have HU3 := Lib.hid u3
            have T1 := Lib.hid (Ty.sizes_take [t1, t2] k hlt)
            have T2 := Lib.hid (Ty.depths_take [t1, t2] k hlt)
            have T3 := Lib.hid (Ty.forms_take [t1, t2] k hlt)
            have HW := Lib.hid hw
            have U2 := Lib.hid u2
            have U1 := Lib.hid u1
            clear h1 h2 h3 u3 u2 u1 hw
            have eq1 : Hid (rr - ↑(Ty.size ([t1, t2][k]'hlt)) = r - 1 - ↑(Ty.sizes (List.take (k + 1) [t1, t2]))) := by rw [T1.out]; have := HRR.out; show _ = _; omega
            go_wp2_with fail
            exact ⟨⟨k + 1, by omega, by go_num, by rw [← eq1.out]; have := U1.out; omega, by rw [T2.out]; have := HD.out; have := U2.out; omega, by rw [T3.out, HF.out, HU3.out]; rfl, by rw [← eq1.out]; exact HR6.out, hz6, HK6.out⟩, by simp [intOf]; omega⟩
          | false =>
            have hfin := within_sub (kd := 5) (r := r) (dp := dp) hlt HRR.out hw
            have HFIN := Lib.hid hfin
            have hsz1 := Ty.sizes_take [t1, t2] k hlt
            have hsz2 := Ty.sizes_le [t1, t2] (k + 1)
            have hq := HRR.out
            have hlo : r - ↑(1 + Ty.sizes [t1, t2]) ≤ r6 := by omega
            have hhi : r6 ≤ r := by omega
            clear hfin hw hsz1 hsz2 hq h1 h2 h3
            go_wp2_with fail
            go_ret
            exact WithinEnd.of HFIN.out HR6.out (by rw [HSG.out]; exact hlo) hhi (fun h => by cases h)
        · obtain rfl : k = 2 := by omega
          have hfin : within (.node 5 [t1, t2]) r dp = true := by
            have h1 : 0 ≤ r - 1 - (Ty.sizes [t1, t2] : Int) := HS.out
            have h2 : (Ty.depths [t1, t2] : Int) ≤ dp - 1 := HD.out
            have h3 : Ty.forms [t1, t2] = true := HF.out
            have h4 := HKO.out
            exact within_mk (show ((1 + Ty.sizes [t1, t2] : Nat) : Int) ≤ r by omega) (show ((1 + Ty.depths [t1, t2] : Nat) : Int) ≤ dp by omega) (by simp only [Ty.form, h3, h4, Bool.and_self])
          have HFIN := Lib.hid hfin; clear hfin
          have h1 : 0 ≤ r - 1 - (Ty.sizes [t1, t2] : Int) := HS.out
          have hlo : r - ↑(1 + Ty.sizes [t1, t2]) ≤ r - 1 - ↑(Ty.sizes [t1, t2]) := by omega
          have HLO := Lib.hid hlo; clear hlo h1
          go_wp2_with fail
          go_ret
          exact WithinEnd.of (r' := r - 1 - ↑(Ty.sizes [t1, t2])) HFIN.out HR.out (by rw [HSG.out]; exact HLO.out) (by omega) (fun _ => by rw [HSG.out]; omega)
end Go.Proofs.YtimigpdbegfjaaaGreatDoor
/-
  Proved: impl.IsValidType says whether a type's tree is a valid type; it leaves the memory that was there as it was.
-/
namespace Go.Proofs.YtimigpdbegfjaaaGreatDoor
open Go.RowKit

theorem within_valid (t : Ty) : within t 800 24 = t.valid := by
  have e1 : decide ((t.size : Int) ≤ 800) = decide (t.size ≤ 800) := decide_eq_decide.2 (by omega)
  have e2 : decide ((t.depth : Int) ≤ 24) = decide (t.depth ≤ 24) := decide_eq_decide.2 (by omega)
  unfold within Ty.valid
  rw [e1, e2]
set_option maxRecDepth 100000 in
set_option maxHeartbeats 1000000 in
theorem implValid (d : Nat) (v : Value) (t : Ty) (w : World) (h : TyAt w d v t) (hsz : t.size ≤ 1048577) :
    Calls Tryz.prog 61 #[v] w fun e w' => e = .returned (.bool t.valid) ∧ Below w.heap.size w w' := by
  have HT := Lib.hid h
  obtain ⟨yk, ya, yn, yc, rfl⟩ := agg_parts h
  clear h
  have X : Hid (Below w.heap.size w ((w.alloc (.cells #[.int .i64 yk, .slice ya yn yc] 35)).alloc (.cells #[.int .i64 800] 3))) := ((Below.refl _ _).alloc (Nat.le_refl _) _).alloc (by simp) _
  go_enter Tryz.func61, Tryz.ntmps61
  go_wp2_with fail
  refine (implWithin w d _ t (w.heap.size + 1) 800 24 _ HT.out X.out (by omega) hsz (by simp) (by omega) (by omega) (by omega) (by omega) (by simp [go_sem]) (by simp [go_sem])).mono ?_
  intro e w' hend
  obtain ⟨r', rfl, hr, _⟩ := hend.room
  have HB := Lib.hid (X.out.trans (hr.2.2.1.mono (Nat.le_succ _)))
  clear hend hr
  go_wp2_with fail
  go_ret
  exact ⟨by rw [within_valid]; rfl, HB.out⟩
end Go.Proofs.YtimigpdbegfjaaaGreatDoor
/-
  Proved: impl.typeText gives the text of a type's tree; the memory that was there stays as it was.
-/
namespace Go.Proofs.YtimigpdbegfjaaaGreatDoor
open Go.RowKit

set_option maxRecDepth 100000 in
set_option maxHeartbeats 4000000 in
theorem implText : ∀ (d : Nat) (v : Value) (t : Ty) (w : World), TyAt w d v t → t.form = true → t.size ≤ 1048577 →
    Calls Tryz.prog 62 #[v] w fun e w' => e = .returned (.string t.text) ∧ Below w.heap.size w w'
  | 0, _, _, _, h, _, _ => h.elim
  | d + 1, v, .node kd ts, w, h, hfm, hsz => by
    have IH : Hid (∀ (v : Value) (t : Ty) (w : World), TyAt w d v t → t.form = true → t.size ≤ 1048577 → Calls Tryz.prog 62 #[v] w fun e w' => e = .returned (.string t.text) ∧ Below w.heap.size w w') := implText d
    have HT := Lib.hid h
    obtain ⟨yk, ya, yn, yc, rfl⟩ := agg_parts h
    clear h
    have HF := Lib.hid hfm
    have hko : kindOk kd ts.length = true := by simp only [Ty.form, Bool.and_eq_true] at hfm; exact hfm.2
    have hlen : ts.length ≤ 1152921504606846976 := by
      have : ts.length = 0 ∨ ts.length = 2 := kind_len hko
      omega
    have HKO := Lib.hid hko
    clear hfm hko
    have B : Hid (Below w.heap.size w (w.alloc (.cells #[.int .i64 yk, .slice ya yn yc] 35))) := below_alloc _ _
    go_enter Tryz.func62, Tryz.ntmps62
    go_wp2_with fail
    refine (implNode w d _ kd ts _ HT.out B.out hlen).mono ?_
    rintro e w2 ⟨n, rfl, hnode, hb⟩
    replace B := Lib.hid (below_thru B.out (Nat.le_refl _) hb)
    have hz2 := B.out.size
    clear hb HT
    rcases hnode with ⟨h, _⟩ | ⟨_, rfl, ⟨rfl, rfl⟩ | ⟨rfl, rfl⟩ | ⟨rfl, rfl⟩⟩ | ⟨_, t1, t2, k1, s1, k2, s2, rfl, ht1, ht2, ⟨rfl, rfl⟩ | ⟨rfl, rfl⟩⟩
    · rw [HKO.out] at h; cases h
    · have as_unknown := as_unknown_unknown
      go_wp2_with fail
      go_ret
      exact ⟨rfl, (B.out.alloc (by omega) _)⟩
    · have as_unknown := as_num_unknown
      have as_num := as_num_num
      go_wp2_with fail
      go_ret
      exact ⟨rfl, (B.out.alloc (by omega) _)⟩
    · have as_unknown := as_bool_unknown
      have as_num := as_bool_num
      have as_bool := as_bool_bool
      go_wp2_with fail
      go_ret
      exact ⟨rfl, (B.out.alloc (by omega) _)⟩
    · obtain ⟨_, a1, n1, c1, _, rfl⟩ := at_parts ht1
      obtain ⟨_, a2, n2, c2, _, rfl⟩ := at_parts ht2
      have as_unknown := as_arrow_unknown (.int .i64 k1) (.slice a1 n1 c1) (.int .i64 k2) (.slice a2 n2 c2)
      have as_num := as_arrow_num (.int .i64 k1) (.slice a1 n1 c1) (.int .i64 k2) (.slice a2 n2 c2)
      have as_bool := as_arrow_bool (.int .i64 k1) (.slice a1 n1 c1) (.int .i64 k2) (.slice a2 n2 c2)
      have as_arrow := as_arrow_arrow (.int .i64 k1) (.slice a1 n1 c1) (.int .i64 k2) (.slice a2 n2 c2)
      have F1 := Lib.hid (form_two HF.out).1
      have F2 := Lib.hid (form_two HF.out).2
      have z1 := t1.text_size
      have z2 := t2.text_size
      simp only [Ty.size, Ty.sizes] at hsz
      have Z1 := Lib.hid (show t1.size ≤ 1048577 by omega)
      have Z2 := Lib.hid (show t2.size ≤ 1048577 by omega)
      have m1 : ¬ (9223372036854775807 < 1 + t1.text.size) := by omega
      have m2 : ¬ (9223372036854775807 < 1 + t1.text.size + 1) := by omega
      have m3 : ¬ (9223372036854775807 < 1 + t1.text.size + 1 + t2.text.size) := by omega
      have m4 : ¬ (9223372036854775807 < 1 + t1.text.size + 1 + t2.text.size + 1) := by omega
      clear hsz z1 z2
      have hb := below_alloc w2 (.cells #[.int .i64 k1, .slice a1 n1 c1, .int .i64 k2, .slice a2 n2 c2] 106)
      have H1 := Lib.hid (ht1.below (below_thru B.out (Nat.le_refl _) hb))
      have H2 := Lib.hid (ht2.below (below_thru B.out (Nat.le_refl _) hb))
      replace B := Lib.hid (below_thru B.out (Nat.le_refl _) hb)
      have XN : Hid (BoxAt (w2.alloc (.cells #[.int .i64 k1, .slice a1 n1 c1, .int .i64 k2, .slice a2 n2 c2] 106)) w2.heap.size #[.int .i64 k1, .slice a1 n1 c1, .int .i64 k2, .slice a2 n2 c2]) := BoxAt.new _ _ _
      clear hb ht1 ht2
      go_wp2_with fail
      have hb := below_drew (w2.alloc (.cells #[.int .i64 k1, .slice a1 n1 c1, .int .i64 k2, .slice a2 n2 c2] 106))
      replace B := Lib.hid (below_thru B.out (Nat.le_refl _) hb)
      replace H1 := Lib.hid (H1.out.below hb)
      replace H2 := Lib.hid (H2.out.below hb)
      replace XN := Lib.hid (XN.out.below hb)
      clear hb
      go_region_held3 (fun w' => w'.cell? ⟨w2.heap.size, 0, none⟩ = some (.int .i64 k1) ∧ w'.cell? ⟨w2.heap.size, 1, none⟩ = some (.slice a1 n1 c1) ∧ w'.cell? ⟨w2.heap.size, 2, none⟩ = some (.int .i64 k2) ∧ w'.cell? ⟨w2.heap.size, 3, none⟩ = some (.slice a2 n2 c2)) (exact ⟨XN.out.2 0, XN.out.2 1, XN.out.2 2, XN.out.2 3⟩)
        (first
         | (go_at_call_of 62 (Value.agg #[Value.int IntKind.i64 k1, Value.slice a1 n1 c1])
            refine (IH.out _ t1 _ H1.out F1.out Z1.out).mono ?_
            rintro e w3 ⟨rfl, hb⟩
            replace B := Lib.hid (below_thru B.out (Nat.le_refl _) hb)
            replace H1 := Lib.hid (H1.out.below hb)
            replace H2 := Lib.hid (H2.out.below hb)
            replace XN := Lib.hid (XN.out.below hb)
            clear hb)
         | (go_at_call_of 62 (Value.agg #[Value.int IntKind.i64 k2, Value.slice a2 n2 c2])
            refine (IH.out _ t2 _ H2.out F2.out Z2.out).mono ?_
            rintro e w4 ⟨rfl, hb⟩
            replace B := Lib.hid (below_thru B.out (Nat.le_refl _) hb)
            replace H1 := Lib.hid (H1.out.below hb)
            replace H2 := Lib.hid (H2.out.below hb)
            replace XN := Lib.hid (XN.out.below hb)
            clear hb))
      go_wp2_with fail
      go_ret
      exact ⟨by rw [Ty.text_arrow]; rfl, B.out⟩
    · obtain ⟨_, a1, n1, c1, _, rfl⟩ := at_parts ht1
      obtain ⟨_, a2, n2, c2, _, rfl⟩ := at_parts ht2
      have as_unknown := as_pair_unknown (.int .i64 k1) (.slice a1 n1 c1) (.int .i64 k2) (.slice a2 n2 c2)
      have as_num := as_pair_num (.int .i64 k1) (.slice a1 n1 c1) (.int .i64 k2) (.slice a2 n2 c2)
      have as_bool := as_pair_bool (.int .i64 k1) (.slice a1 n1 c1) (.int .i64 k2) (.slice a2 n2 c2)
      have as_arrow := as_pair_arrow (.int .i64 k1) (.slice a1 n1 c1) (.int .i64 k2) (.slice a2 n2 c2)
      have as_pair := as_pair_pair (.int .i64 k1) (.slice a1 n1 c1) (.int .i64 k2) (.slice a2 n2 c2)
      have F1 := Lib.hid (form_two HF.out).1
      have F2 := Lib.hid (form_two HF.out).2
      have z1 := t1.text_size
      have z2 := t2.text_size
      simp only [Ty.size, Ty.sizes] at hsz
      have Z1 := Lib.hid (show t1.size ≤ 1048577 by omega)
      have Z2 := Lib.hid (show t2.size ≤ 1048577 by omega)
      have m1 : ¬ (9223372036854775807 < 1 + t1.text.size) := by omega
      have m2 : ¬ (9223372036854775807 < 1 + t1.text.size + 1) := by omega
      have m3 : ¬ (9223372036854775807 < 1 + t1.text.size + 1 + t2.text.size) := by omega
      have m4 : ¬ (9223372036854775807 < 1 + t1.text.size + 1 + t2.text.size + 1) := by omega
      clear hsz z1 z2
      have hb := below_alloc w2 (.cells #[.int .i64 k1, .slice a1 n1 c1, .int .i64 k2, .slice a2 n2 c2] 108)
      have H1 := Lib.hid (ht1.below (below_thru B.out (Nat.le_refl _) hb))
      have H2 := Lib.hid (ht2.below (below_thru B.out (Nat.le_refl _) hb))
      replace B := Lib.hid (below_thru B.out (Nat.le_refl _) hb)
      have XN : Hid (BoxAt (w2.alloc (.cells #[.int .i64 k1, .slice a1 n1 c1, .int .i64 k2, .slice a2 n2 c2] 108)) w2.heap.size #[.int .i64 k1, .slice a1 n1 c1, .int .i64 k2, .slice a2 n2 c2]) := BoxAt.new _ _ _
      clear hb ht1 ht2
      go_wp2_with fail
      have hb := below_drew (w2.alloc (.cells #[.int .i64 k1, .slice a1 n1 c1, .int .i64 k2, .slice a2 n2 c2] 108))
      replace B := Lib.hid (below_thru B.out (Nat.le_refl _) hb)
      replace H1 := Lib.hid (H1.out.below hb)
      replace H2 := Lib.hid (H2.out.below hb)
      replace XN := Lib.hid (XN.out.below hb)
      clear hb
      go_region_held3 (fun w' => w'.cell? ⟨w2.heap.size, 0, none⟩ = some (.int .i64 k1) ∧ w'.cell? ⟨w2.heap.size, 1, none⟩ = some (.slice a1 n1 c1) ∧ w'.cell? ⟨w2.heap.size, 2, none⟩ = some (.int .i64 k2) ∧ w'.cell? ⟨w2.heap.size, 3, none⟩ = some (.slice a2 n2 c2)) (exact ⟨XN.out.2 0, XN.out.2 1, XN.out.2 2, XN.out.2 3⟩)
        (first
         | (go_at_call_of 62 (Value.agg #[Value.int IntKind.i64 k1, Value.slice a1 n1 c1])
            refine (IH.out _ t1 _ H1.out F1.out Z1.out).mono ?_
            rintro e w3 ⟨rfl, hb⟩
            replace B := Lib.hid (below_thru B.out (Nat.le_refl _) hb)
            replace H1 := Lib.hid (H1.out.below hb)
            replace H2 := Lib.hid (H2.out.below hb)
            replace XN := Lib.hid (XN.out.below hb)
            clear hb)
         | (go_at_call_of 62 (Value.agg #[Value.int IntKind.i64 k2, Value.slice a2 n2 c2])
            refine (IH.out _ t2 _ H2.out F2.out Z2.out).mono ?_
            rintro e w4 ⟨rfl, hb⟩
            replace B := Lib.hid (below_thru B.out (Nat.le_refl _) hb)
            replace H1 := Lib.hid (H1.out.below hb)
            replace H2 := Lib.hid (H2.out.below hb)
            replace XN := Lib.hid (XN.out.below hb)
            clear hb))
      go_wp2_with fail
      go_ret
      exact ⟨by rw [Ty.text_pair]; rfl, B.out⟩
end Go.Proofs.YtimigpdbegfjaaaGreatDoor
/-
  Proved: impl.FormatType gives the text of a valid type, the empty text for others; the memory that was there stays as it was.
-/
namespace Go.Proofs.YtimigpdbegfjaaaGreatDoor
open Go.RowKit

set_option maxRecDepth 100000 in
set_option maxHeartbeats 1000000 in
theorem implFormatType (d : Nat) (v : Value) (t : Ty) (w : World) (h : TyAt w d v t) (hsz : t.size ≤ 1048577) :
    Calls Tryz.prog 50 #[v] w fun e w' => e = .returned (.string (formatText t)) ∧ Below w.heap.size w w' := by
  have HT := Lib.hid h
  obtain ⟨yk, ya, yn, yc, rfl⟩ := agg_parts h
  clear h
  have B : Hid (Below w.heap.size w (w.alloc (.cells #[.int .i64 yk, .slice ya yn yc] 35))) := below_alloc _ _
  have HA := Lib.hid (HT.out.below B.out)
  have XA : Hid (BoxAt (w.alloc (.cells #[.int .i64 yk, .slice ya yn yc] 35)) w.heap.size #[.int .i64 yk, .slice ya yn yc]) := BoxAt.new _ _ _
  clear HT
  go_enter Tryz.func50, Tryz.ntmps50
  go_wp2_with fail
  refine (implValid d _ t _ HA.out hsz).mono ?_
  rintro e w1 ⟨rfl, hb⟩
  replace B := Lib.hid (below_thru B.out (Nat.le_refl _) hb)
  replace HA := Lib.hid (HA.out.below hb)
  replace XA := Lib.hid (XA.out.below hb)
  clear hb
  cases hv : t.valid with
  | false =>
    have HV := Lib.hid hv; clear hv
    go_wp2_with fail
    go_ret
    exact ⟨by rw [format_bad HV.out]; rfl, B.out⟩
  | true =>
    have HV := Lib.hid hv
    have hfm : t.form = true := by simp only [Ty.valid, Bool.and_eq_true] at hv; exact hv.2
    clear hv
    have a0 := XA.out.2 0
    have a1 := XA.out.2 1
    go_wp2_with fail
    refine (implText d _ t _ HA.out hfm hsz).mono ?_
    rintro e w2 ⟨rfl, hb⟩
    have B2 := Lib.hid (below_thru B.out (Nat.le_refl _) hb)
    clear hb hfm
    go_wp2_with fail
    go_ret
    exact ⟨by rw [format_good HV.out]; rfl, B2.out⟩
end Go.Proofs.YtimigpdbegfjaaaGreatDoor
/-
  Proved: impl.exprText gives the text of an expression of the right form; the memory that was there stays as it was.
-/
namespace Go.Proofs.YtimigpdbegfjaaaGreatDoor
open Go.RowKit

theorem implBoolText (n : Int) (w : World) : Calls Tryz.prog 51 #[.int .i64 n] w fun e w' => e = .returned (.string (if n = 1 then ⟨#[35, 116]⟩ else ⟨#[35, 102]⟩)) ∧ w' = w := by
  by_cases h : n = 1
  · subst h
    go_enter Tryz.func51, Tryz.ntmps51
    go_wp2_with fail
    go_ret
    exact ⟨rfl, rfl⟩
  · have hb : (n == 1) = false := by simp [h]
    go_enter Tryz.func51, Tryz.ntmps51
    go_wp2_with fail
    go_ret
    exact ⟨rfl, rfl⟩
set_option maxRecDepth 100000 in
set_option maxHeartbeats 8000000 in
theorem implExText : ∀ (d : Nat) (v : Value) (t : Ex) (w : World), ExAt w d v t → t.form = true → t.bulk ≤ 1048576 → Pow10At w →
    Calls Tryz.prog 34 #[v] w fun e w' => e = .returned (.string t.text) ∧ Below w.heap.size w w'
  | 0, _, _, _, h, _, _, _ => h.elim
  | d + 1, v, .node kd nm n ty es, w, h, hform, hsz, hp => by
    have IH : Hid (∀ (v : Value) (t : Ex) (w : World), ExAt w d v t → t.form = true → t.bulk ≤ 1048576 → Pow10At w → Calls Tryz.prog 34 #[v] w fun e w' => e = .returned (.string t.text) ∧ Below w.heap.size w w') := implExText d
    obtain ⟨i0, hi, hz0, hz1, hz2⟩ := info_parts info_str
    have HI := Lib.hid hi; clear hi
    have HZ0 := Lib.hid hz0; clear hz0
    have HZ1 := Lib.hid hz1; clear hz1
    have HZ2 := Lib.hid hz2; clear hz2
    have HV := ex_parts h
    obtain ⟨c3, c4, sl, rfl, hk0, hk1, hn0, hn1, hnm, hty, a, cap, rfl, hcap, hcap2, hat⟩ := h
    obtain ⟨k', nm', n', tk, ta, tn, tc, sa, sn, sc, hv⟩ := HV
    injection hv with hv
    injection hv with hv
    simp at hv
    obtain ⟨rfl, rfl, rfl, rfl, rfl, rfl, rfl, rfl⟩ := hv
    have HAT := Lib.hid hat; clear hat
    have HTY := Lib.hid hty; clear hty
    have HFORM := Lib.hid hform
    have HPA := Lib.hid (form_parts hform)
    have HNR := Lib.hid (form_num hform)
    have HKR := Lib.hid (form_kind hform)
    clear hform
    have HP := Lib.hid hp; clear hp
    have hbk : (Ex.node kd nm n ty es).bulk = nm.size + (ty.size - 1) + Ex.bulks es := rfl
    have HSZ : Hid (Ex.bulks es ≤ 1048576) := by show _ ≤ _; omega
    have HNS : Hid (nm.size ≤ 1048576) := by show _ ≤ _; omega
    have HTZ : Hid (ty.size ≤ 1048577) := by show _ ≤ _; omega
    have hlen : es.length ≤ 1048576 := by have := Ex.length_le es; omega
    have HTL : Hid ((Ex.texts es).length = es.length) := Ex.texts_length es
    have HTOT : Hid (total (Ex.texts es) ≤ 41943040) := by show _ ≤ _; have h1 := Ex.texts_size es HPA.out.1; omega
    clear hsz hbk hnm hn0 hn1 hk0 hk1 hcap hcap2
    have b5 := box_cell (Below.refl (w.heap.size + 1) (w.alloc (.cells #[.int .i64 kd, .string nm, .int .i64 n, .int .i64 tk, .slice ta tn tc, .slice a es.length cap] 38))) 5
    go_enter Tryz.func34, Tryz.ntmps34
    go_wp2_with (at_make; refine wpList_make_full _ rfl _ _ 58 rfl (w.heap.size + 1) 9 i0 (.string ⟨#[]⟩) 1 Tryz.underlying58 HI.out HZ0.out HZ1.out .i64 .i64 _ _ es.length rfl rfl rfl rfl (by rw [HZ2.out]; omega) (by unfold maxLen; omega) (by simp) ?_; intro w0 hown0 hg0; refine Hid.out ?_)
    refine Lib.hid ?_
    have hb0 : Below (w.heap.size + 1) (w.alloc (.cells #[.int .i64 kd, .string nm, .int .i64 n, .int .i64 tk, .slice ta tn tc, .slice a es.length cap] 38)) w0 := (Below.refl _ (w.alloc (.cells #[.int .i64 kd, .string nm, .int .i64 n, .int .i64 tk, .slice ta tn tc, .slice a es.length cap] 38))).grown hg0 (by simp) (fun k hk => by cases hk)
    have hown1 : w0.ownsRow (w.heap.size + 1) 9 1 (.slice (some ⟨(w.heap.size + 1), 0, none⟩) es.length es.length) es.length (((Ex.texts es).take 0).map Value.string ++ List.replicate ((Ex.texts es).length - 0) (Value.string ⟨#[]⟩)) := by
      have : (madeCells (Value.string ⟨#[]⟩).cells (es.length * 1)).toList = List.replicate es.length (Value.string ⟨#[]⟩) := by rw [Nat.mul_one]; exact toList_madeCells_one _ _
      rw [this] at hown0; rw [HTL.out]; simpa using hown0
    have HO := Lib.hid hown1; clear hown1 hown0 hg0
    have HB := Lib.hid hb0; clear hb0 b5
    have b5 := box_cell HB.out 5
    go_wp2_with fail
    go_loopw [13] (fun i wr => ∃ k : Nat, k ≤ es.length ∧ i = .int .i64 k ∧ wr.ownsRow (w.heap.size + 1) 9 1 (.slice (some ⟨(w.heap.size + 1), 0, none⟩) es.length es.length) es.length (((Ex.texts es).take k).map Value.string ++ List.replicate ((Ex.texts es).length - k) (Value.string ⟨#[]⟩)) ∧ Below (w.heap.size + 1) (w.alloc (.cells #[.int .i64 kd, .string nm, .int .i64 n, .int .i64 tk, .slice ta tn tc, .slice a es.length cap] 38)) wr) (fun i _ => es.length - (intOf i).toNat)
    case atStart => exact ⟨0, by omega, rfl, HO.out, HB.out⟩
    case round =>
      obtain ⟨k, hk, rfl, hown, hb⟩ := hrel
      clear b5
      have HO2 := Lib.hid hown; clear hown
      have HB2 := Lib.hid hb; clear hb
      have b5 := box_cell HB2.out 5
      have HBB := Lib.hid (box_below HB2.out)
      by_cases hlt : k < es.length
      · obtain ⟨b, off, x0, x1, x2, x3, x4, x5, rfl, hbl, hc0, hc1, hc2, hc3, hc4, hc5, ht⟩ := HAT.out k hlt
        have hg := Ex.bulk_get es k hlt
        have hzk : es[k].bulk ≤ 1048576 := by have := HSZ.out; omega
        have hfk := Ex.forms_get es k hlt HPA.out.1
        obtain ⟨yk, ynm, yn, ytk, yta, ytn, ytc, ya, ym, yc, rfl, rfl, rfl, rfl, rfl, rfl⟩ := ex_cells ht
        have e0 : wr.cell? ⟨b, off + k * 6, none⟩ = some (.int .i64 yk) := by rw [HBB.out.cell (p := ⟨b, off + k * 6, none⟩) hbl]; exact hc0
        have e1 : wr.cell? ⟨b, off + k * 6 + 1, none⟩ = some (.string ynm) := by rw [HBB.out.cell (p := ⟨b, off + k * 6 + 1, none⟩) hbl]; exact hc1
        have e2 : wr.cell? ⟨b, off + k * 6 + 2, none⟩ = some (.int .i64 yn) := by rw [HBB.out.cell (p := ⟨b, off + k * 6 + 2, none⟩) hbl]; exact hc2
        have e3 : wr.cell? ⟨b, off + k * 6 + 3, none⟩ = some (.int .i64 ytk) := by rw [HBB.out.cell (p := ⟨b, off + k * 6 + 3, none⟩) hbl]; exact hc3
        have e4 : wr.cell? ⟨b, off + k * 6 + 4, none⟩ = some (.slice yta ytn ytc) := by rw [HBB.out.cell (p := ⟨b, off + k * 6 + 4, none⟩) hbl]; exact hc4
        have e5 : wr.cell? ⟨b, off + k * 6 + 5, none⟩ = some (.slice ya ym yc) := by rw [HBB.out.cell (p := ⟨b, off + k * 6 + 5, none⟩) hbl]; exact hc5
        have HTE := Lib.hid (ht.below HBB.out)
        have HFK := Lib.hid hfk
        clear ht hc0 hc1 hc2 hc3 hc4 hc5 hg hfk
        have hp1 := below_box wr (.cells #[.int .i64 yk, .string ynm, .int .i64 yn, .int .i64 ytk, .slice yta ytn ytc, .slice ya ym yc] 38)
        have HTE2 := Lib.hid (HTE.out.below hp1)
        have HB3 := Lib.hid (box_next HB2.out hp1)
        have HO3 := Lib.hid (own_below HO2.out hp1)
        have HP3 := Lib.hid (HP.out.below (below_thru HBB.out (Nat.le_refl _) hp1))
        clear hp1
        go_wp2_with fail
        refine (IH.out _ _ _ HTE2.out HFK.out hzk HP3.out).mono ?_
        rintro e w1 ⟨rfl, hb1⟩
        have HO4 := Lib.hid (own_below HO3.out hb1)
        have HB4 := Lib.hid (box_next HB3.out hb1)
        clear hb1 HO2 HO3
        have hlt2 : k < (Ex.texts es).length := by rw [HTL.out]; exact hlt
        have c1 : ∃ u, w1.cell? ⟨(w.heap.size + 1), k, none⟩ = some u := by
          rw [HO4.out.cellAt k (by omega)]
          exact ⟨_, List.getElem?_eq_getElem (by simp; omega)⟩
        obtain ⟨u, c1⟩ := c1
        have f1 := HO4.out.frozenAt k
        have hst := HO4.out.stored k (.string (Ex.texts es)[k])
        rw [num_next (Ex.texts es) k hlt2] at hst
        have HS := Lib.hid hst; clear hst
        have HE : Hid ((Ex.texts es)[k] = es[k].text) := Ex.texts_get es k hlt hlt2
        rw [HE.out] at HS
        clear e0 e1 e2 e3 e4 e5
        go_wp2_with fail
        exact ⟨⟨k + 1, by omega, by go_num, HS.out.1, HB4.out.setCell (Nat.le_refl _) _⟩, by simp [intOf]; omega⟩
      · obtain rfl : k = es.length := by omega
        have HL := HO2.out
        rw [← HTL.out, List.take_length, Nat.sub_self, List.replicate_zero, List.append_nil] at HL
        rw [HTL.out] at HL
        have HL2 : Hid (wr.ownsRow (w.heap.size + 1) 9 1 (.slice (some ⟨(w.heap.size + 1), 0, none⟩) es.length es.length) (Ex.texts es).length ((Ex.texts es).map Value.string)) := by rw [HTL.out]; exact HL
        clear HL HO2
        have HST := Lib.hid (Strs.of_own HL2.out)
        have HAR := Lib.hid (ArgsAt.of_own HL2.out)
        obtain ⟨p, hp⟩ : ∃ p, p = (w.heap.size + 1) := ⟨_, rfl⟩
        obtain ⟨q, hq⟩ : ∃ q, q = es.length := ⟨_, rfl⟩
        have HTM : Hid (Ex.text (.node kd nm n ty es) = exSay kd nm (numB n) ty.text n (Ex.texts es)) := by show _ = _; simp only [Ex.text]
        have HAL := HPA.out.2.1
        have HTF := HPA.out.2.2
        have hkr := HKR.out
        rcases (by omega : kd = 1 ∨ kd = 2 ∨ kd = 3 ∨ kd = 4 ∨ kd = 5 ∨ kd = 6 ∨ kd = 7 ∨ kd = 8 ∨ kd = 9 ∨ kd = 10 ∨ kd = 11 ∨ kd = 12 ∨ kd = 13 ∨ kd = 14) with rfl | rfl | rfl | rfl | rfl | rfl | rfl | rfl | rfl | rfl | rfl | rfl | rfl | rfl
        · have hq : es.length = 0 := by have : arity 1 = 0 := rfl; omega
          have HXL : Hid ((Ex.texts es).length = 0) := by show _ = _; rw [HTL.out]; exact hq
          clear b5 HAL hkr
          have b0 := box_cell HB2.out 0
          have b1 := box_cell HB2.out 1
          have b2 := box_cell HB2.out 2
          have b3 := box_cell HB2.out 3
          have b4 := box_cell HB2.out 4
          have b5 := box_cell HB2.out 5
          clear HTF
          have hnr := HNR.out
          have hnz := numB_size n (by omega) (by omega)
          have hns := HNS.out
          have HBF := Lib.hid HBB.out
          go_wp2_with fail
          refine (implFormat n (by omega) (by omega) _ (HP.out.below HBB.out)).mono ?_
          rintro e w1 ⟨rfl, hb1⟩
          replace HBF := Lib.hid (below_thru HBF.out (Nat.le_refl _) hb1)
          clear hb1
          have m1 : ¬ (9223372036854775807 < 1 + (ByteArray.mk (Lib.itoa n).toArray).size) := by have : (ByteArray.mk (Lib.itoa n).toArray).size ≤ 21 := hnz; omega
          clear hq
          go_wp2_with fail
          go_ret
          exact ⟨by rw [HTM.out]; rfl, HBF.out⟩
        · have hq : es.length = 0 := by have : arity 2 = 0 := rfl; omega
          have HXL : Hid ((Ex.texts es).length = 0) := by show _ = _; rw [HTL.out]; exact hq
          clear b5 HAL hkr
          have b0 := box_cell HB2.out 0
          have b1 := box_cell HB2.out 1
          have b2 := box_cell HB2.out 2
          have b3 := box_cell HB2.out 3
          have b4 := box_cell HB2.out 4
          have b5 := box_cell HB2.out 5
          clear HTF
          have hnr := HNR.out
          have hnz := numB_size n (by omega) (by omega)
          have hns := HNS.out
          have HBF := Lib.hid HBB.out
          clear hq
          go_wp2_with fail
          go_ret
          exact ⟨by rw [HTM.out]; rfl, HBF.out⟩
        · have hq : es.length = 1 := by have : arity 3 = 1 := rfl; omega
          have HXL : Hid ((Ex.texts es).length = 1) := by show _ = _; rw [HTL.out]; exact hq
          have HX := Lib.hid (xone_of HXL.out)
          clear b5 HAL hkr
          have b0 := box_cell HB2.out 0
          have b1 := box_cell HB2.out 1
          have b2 := box_cell HB2.out 2
          have b3 := box_cell HB2.out 3
          have b4 := box_cell HB2.out 4
          have b5 := box_cell HB2.out 5
          have HNF := Lib.hid (note_form (by simpa [typeFor] using HTF : ty.note = true))
          have HTS := ty.text_size
          have htz := HTZ.out
          clear HTF
          have hnr := HNR.out
          have hnz := numB_size n (by omega) (by omega)
          have hns := HNS.out
          have HBF := Lib.hid HBB.out
          have HT2 := Lib.hid (text_one 3 nm n ty es HXL.out)
          clear HX
          have htt := HTOT.out
          have hp0 : 0 < (Ex.texts es).length := by rw [HXL.out]; omega
          have s0 := total_get (Ex.texts es) 0 hp0
          have C0 := Lib.hid (show CellAt wr (w.heap.size + 1) 0 (.string (Ex.texts es)[0]) from ⟨HAR.out.1, HAR.out.2 0 hp0⟩)
          have hl0 : 0 < es.length := by omega
          generalize (Ex.texts es)[0]'hp0 = x0 at HT2 s0 C0
          clear hq
          have CF : ∀ (X0 : World) (v : Value) (_ : TyAt X0 d v ty), Calls Tryz.prog 50 #[v] X0 fun e w' => e = .returned (.string ty.text) ∧ Below X0.heap.size X0 w' := fun X0 v h => by have := implFormatType d v ty X0 h HTZ.out; rw [format_good HNF.out.2] at this; exact this
          have HCF := Lib.hid CF; clear CF
          generalize ty.text = ts at HCF HT2 HTS
          have m0 : ¬ (9223372036854775807 < 2 + nm.size) := by omega
          have m1 : ¬ (9223372036854775807 < 2 + nm.size + 1) := by omega
          have m2 : ¬ (9223372036854775807 < 2 + nm.size + 1 + ts.size) := by omega
          have m3 : ¬ (9223372036854775807 < 2 + nm.size + 1 + ts.size + 1) := by omega
          have m4 : ¬ (9223372036854775807 < 2 + nm.size + 1 + ts.size + 1 + x0.size) := by omega
          have m5 : ¬ (9223372036854775807 < 2 + nm.size + 1 + ts.size + 1 + x0.size + 1) := by omega
          clear hnr hnz hns HTS htz htt s0
          go_wp2_with fail
          have hbd := below_drew wr
          replace HBF := Lib.hid (below_thru HBF.out (Nat.le_refl _) hbd)
          have XR := Lib.hid ((box_of HB2.out).below hbd)
          have HTR := Lib.hid ((HTY.out.below HBB.out).below hbd)
          have HPR := Lib.hid ((HP.out.below HBB.out).below hbd)
          replace C0 := Lib.hid (C0.out.below hbd)
          clear hbd b0 b1 b2 b3 b4 b5
          go_region_held3 (fun w' => w'.cell? ⟨w.heap.size, 1, none⟩ = some (.string nm) ∧ w'.cell? ⟨w.heap.size, 3, none⟩ = some (.int .i64 tk) ∧ w'.cell? ⟨w.heap.size, 4, none⟩ = some (.slice ta tn tc) ∧ w'.cell? ⟨(w.heap.size + 1), 0, none⟩ = some (.string x0)) (exact ⟨XR.out.2 1, XR.out.2 3, XR.out.2 4, C0.out.2⟩)
            (first
             | (go_at_call 50
                refine (HCF.out _ _ HTR.out).mono ?_
                rintro e w5 ⟨rfl, hb⟩
                replace HBF := Lib.hid (below_thru HBF.out (Nat.le_refl _) hb)
                replace XR := Lib.hid (XR.out.below hb)
                replace C0 := Lib.hid (C0.out.below hb)
                clear hb))
          go_wp2_with fail
          go_ret
          exact ⟨by rw [HT2.out]; rfl, HBF.out⟩
        · have hq : es.length = 2 := by have : arity 4 = 2 := rfl; omega
          have HXL : Hid ((Ex.texts es).length = 2) := by show _ = _; rw [HTL.out]; exact hq
          have HX := Lib.hid (xtwo_of HXL.out)
          clear b5 HAL hkr
          have b0 := box_cell HB2.out 0
          have b1 := box_cell HB2.out 1
          have b2 := box_cell HB2.out 2
          have b3 := box_cell HB2.out 3
          have b4 := box_cell HB2.out 4
          have b5 := box_cell HB2.out 5
          clear HTF
          have hnr := HNR.out
          have hnz := numB_size n (by omega) (by omega)
          have hns := HNS.out
          have HBF := Lib.hid HBB.out
          have HT2 := Lib.hid (text_two 4 nm n ty es HXL.out)
          clear HX
          have htt := HTOT.out
          have hp0 : 0 < (Ex.texts es).length := by rw [HXL.out]; omega
          have s0 := total_get (Ex.texts es) 0 hp0
          have hp1 : 1 < (Ex.texts es).length := by rw [HXL.out]; omega
          have s1 := total_get (Ex.texts es) 1 hp1
          have CJ : Calls Tryz.prog 36 #[.slice (some ⟨(w.heap.size + 1), 0, none⟩) es.length es.length, .string ⟨#[32]⟩] wr fun e w' => e = .returned (.string ((Ex.texts es)[0]'hp0 ++ ⟨#[32]⟩ ++ (Ex.texts es)[1]'hp1)) ∧ Below wr.heap.size wr w' := by
            have h := implJoin _ (Ex.texts es) ⟨#[32]⟩ (by rw [HXL.out]; omega) (by omega) (by decide) wr HST.out
            unfold JoinEnd at h
            rw [join_two HXL.out] at h
            exact h
          have HCJ := Lib.hid CJ; clear CJ
          generalize (Ex.texts es)[0]'hp0 = x0 at HT2 s0 HCJ
          generalize (Ex.texts es)[1]'hp1 = x1 at HT2 s1 HCJ
          have HT3 : Hid ((Ex.node 4 nm n ty es).text = ⟨#[40]⟩ ++ (x0 ++ ⟨#[32]⟩ ++ x1) ++ ⟨#[41]⟩) := by
            show _ = _
            rw [HT2.out]
            exact two_group
          have hjs : (x0 ++ ⟨#[32]⟩ ++ x1).size ≤ 200000000 := by simp only [ByteArray.size_append, sizes_one]; omega
          generalize x0 ++ ⟨#[32]⟩ ++ x1 = J at HT3 HCJ hjs
          have m0 : ¬ (9223372036854775807 < 1 + J.size) := by omega
          have m1 : ¬ (9223372036854775807 < 1 + J.size + 1) := by omega
          clear hnr hnz hns htt hjs hq s0 hp0 s1 hp1
          go_wp2_with fail
          refine HCJ.out.mono ?_
          rintro e w5 ⟨rfl, hb⟩
          replace HBF := Lib.hid (below_thru HBF.out (Nat.le_refl _) hb)
          clear hb
          go_wp2_with fail
          go_ret
          exact ⟨by rw [HT3.out]; rfl, HBF.out⟩
        · have hq : es.length = 0 := by have : arity 5 = 0 := rfl; omega
          have HXL : Hid ((Ex.texts es).length = 0) := by show _ = _; rw [HTL.out]; exact hq
          clear b5 HAL hkr
          have b0 := box_cell HB2.out 0
          have b1 := box_cell HB2.out 1
          have b2 := box_cell HB2.out 2
          have b3 := box_cell HB2.out 3
          have b4 := box_cell HB2.out 4
          have b5 := box_cell HB2.out 5
          clear HTF
          have hnr := HNR.out
          have hnz := numB_size n (by omega) (by omega)
          have hns := HNS.out
          have HBF := Lib.hid HBB.out
          go_wp2_with fail
          refine (implFormat n (by omega) (by omega) _ (HP.out.below HBB.out)).mono ?_
          rintro e w1 ⟨rfl, hb1⟩
          replace HBF := Lib.hid (below_thru HBF.out (Nat.le_refl _) hb1)
          clear hb1
          clear hq
          go_wp2_with fail
          go_ret
          exact ⟨by rw [HTM.out]; rfl, HBF.out⟩
        · have hq : es.length = 2 := by have : arity 6 = 2 := rfl; omega
          have HXL : Hid ((Ex.texts es).length = 2) := by show _ = _; rw [HTL.out]; exact hq
          have HX := Lib.hid (xtwo_of HXL.out)
          clear b5 HAL hkr
          have b0 := box_cell HB2.out 0
          have b1 := box_cell HB2.out 1
          have b2 := box_cell HB2.out 2
          have b3 := box_cell HB2.out 3
          have b4 := box_cell HB2.out 4
          have b5 := box_cell HB2.out 5
          clear HTF
          have hnr := HNR.out
          have hnz := numB_size n (by omega) (by omega)
          have hns := HNS.out
          have HBF := Lib.hid HBB.out
          have HT2 := Lib.hid (text_two 6 nm n ty es HXL.out)
          clear HX
          have htt := HTOT.out
          have hp0 : 0 < (Ex.texts es).length := by rw [HXL.out]; omega
          have s0 := total_get (Ex.texts es) 0 hp0
          have hp1 : 1 < (Ex.texts es).length := by rw [HXL.out]; omega
          have s1 := total_get (Ex.texts es) 1 hp1
          have CJ : Calls Tryz.prog 36 #[.slice (some ⟨(w.heap.size + 1), 0, none⟩) es.length es.length, .string ⟨#[43]⟩] wr fun e w' => e = .returned (.string ((Ex.texts es)[0]'hp0 ++ ⟨#[43]⟩ ++ (Ex.texts es)[1]'hp1)) ∧ Below wr.heap.size wr w' := by
            have h := implJoin _ (Ex.texts es) ⟨#[43]⟩ (by rw [HXL.out]; omega) (by omega) (by decide) wr HST.out
            unfold JoinEnd at h
            rw [join_two HXL.out] at h
            exact h
          have HCJ := Lib.hid CJ; clear CJ
          generalize (Ex.texts es)[0]'hp0 = x0 at HT2 s0 HCJ
          generalize (Ex.texts es)[1]'hp1 = x1 at HT2 s1 HCJ
          have HT3 : Hid ((Ex.node 6 nm n ty es).text = ⟨#[40]⟩ ++ (x0 ++ ⟨#[43]⟩ ++ x1) ++ ⟨#[41]⟩) := by
            show _ = _
            rw [HT2.out]
            exact two_group
          have hjs : (x0 ++ ⟨#[43]⟩ ++ x1).size ≤ 200000000 := by simp only [ByteArray.size_append, sizes_one]; omega
          generalize x0 ++ ⟨#[43]⟩ ++ x1 = J at HT3 HCJ hjs
          have m0 : ¬ (9223372036854775807 < 1 + J.size) := by omega
          have m1 : ¬ (9223372036854775807 < 1 + J.size + 1) := by omega
          clear hnr hnz hns htt hjs hq s0 hp0 s1 hp1
          go_wp2_with fail
          refine HCJ.out.mono ?_
          rintro e w5 ⟨rfl, hb⟩
          replace HBF := Lib.hid (below_thru HBF.out (Nat.le_refl _) hb)
          clear hb
          go_wp2_with fail
          go_ret
          exact ⟨by rw [HT3.out]; rfl, HBF.out⟩
        · have hq : es.length = 2 := by have : arity 7 = 2 := rfl; omega
          have HXL : Hid ((Ex.texts es).length = 2) := by show _ = _; rw [HTL.out]; exact hq
          have HX := Lib.hid (xtwo_of HXL.out)
          clear b5 HAL hkr
          have b0 := box_cell HB2.out 0
          have b1 := box_cell HB2.out 1
          have b2 := box_cell HB2.out 2
          have b3 := box_cell HB2.out 3
          have b4 := box_cell HB2.out 4
          have b5 := box_cell HB2.out 5
          clear HTF
          have hnr := HNR.out
          have hnz := numB_size n (by omega) (by omega)
          have hns := HNS.out
          have HBF := Lib.hid HBB.out
          have HT2 := Lib.hid (text_two 7 nm n ty es HXL.out)
          clear HX
          have htt := HTOT.out
          have hp0 : 0 < (Ex.texts es).length := by rw [HXL.out]; omega
          have s0 := total_get (Ex.texts es) 0 hp0
          have hp1 : 1 < (Ex.texts es).length := by rw [HXL.out]; omega
          have s1 := total_get (Ex.texts es) 1 hp1
          have CJ : Calls Tryz.prog 36 #[.slice (some ⟨(w.heap.size + 1), 0, none⟩) es.length es.length, .string ⟨#[60]⟩] wr fun e w' => e = .returned (.string ((Ex.texts es)[0]'hp0 ++ ⟨#[60]⟩ ++ (Ex.texts es)[1]'hp1)) ∧ Below wr.heap.size wr w' := by
            have h := implJoin _ (Ex.texts es) ⟨#[60]⟩ (by rw [HXL.out]; omega) (by omega) (by decide) wr HST.out
            unfold JoinEnd at h
            rw [join_two HXL.out] at h
            exact h
          have HCJ := Lib.hid CJ; clear CJ
          generalize (Ex.texts es)[0]'hp0 = x0 at HT2 s0 HCJ
          generalize (Ex.texts es)[1]'hp1 = x1 at HT2 s1 HCJ
          have HT3 : Hid ((Ex.node 7 nm n ty es).text = ⟨#[40]⟩ ++ (x0 ++ ⟨#[60]⟩ ++ x1) ++ ⟨#[41]⟩) := by
            show _ = _
            rw [HT2.out]
            exact two_group
          have hjs : (x0 ++ ⟨#[60]⟩ ++ x1).size ≤ 200000000 := by simp only [ByteArray.size_append, sizes_one]; omega
          generalize x0 ++ ⟨#[60]⟩ ++ x1 = J at HT3 HCJ hjs
          have m0 : ¬ (9223372036854775807 < 1 + J.size) := by omega
          have m1 : ¬ (9223372036854775807 < 1 + J.size + 1) := by omega
          clear hnr hnz hns htt hjs hq s0 hp0 s1 hp1
          go_wp2_with fail
          refine HCJ.out.mono ?_
          rintro e w5 ⟨rfl, hb⟩
          replace HBF := Lib.hid (below_thru HBF.out (Nat.le_refl _) hb)
          clear hb
          go_wp2_with fail
          go_ret
          exact ⟨by rw [HT3.out]; rfl, HBF.out⟩
        · have hq : es.length = 0 := by have : arity 8 = 0 := rfl; omega
          have HXL : Hid ((Ex.texts es).length = 0) := by show _ = _; rw [HTL.out]; exact hq
          clear b5 HAL hkr
          have b0 := box_cell HB2.out 0
          have b1 := box_cell HB2.out 1
          have b2 := box_cell HB2.out 2
          have b3 := box_cell HB2.out 3
          have b4 := box_cell HB2.out 4
          have b5 := box_cell HB2.out 5
          clear HTF
          have hnr := HNR.out
          have hnz := numB_size n (by omega) (by omega)
          have hns := HNS.out
          have HBF := Lib.hid HBB.out
          clear hq
          rcases form_bool HFORM.out with rfl | rfl
          · go_wp2_with fail
            refine (implBoolText _ _).mono ?_
            rintro e w1 ⟨rfl, hw1⟩
            subst hw1
            go_wp2_with fail
            go_ret
            exact ⟨by rw [HTM.out]; rfl, HBF.out⟩
          · go_wp2_with fail
            refine (implBoolText _ _).mono ?_
            rintro e w1 ⟨rfl, hw1⟩
            subst hw1
            go_wp2_with fail
            go_ret
            exact ⟨by rw [HTM.out]; rfl, HBF.out⟩
        · have hq : es.length = 3 := by have : arity 9 = 3 := rfl; omega
          have HXL : Hid ((Ex.texts es).length = 3) := by show _ = _; rw [HTL.out]; exact hq
          have HX := Lib.hid (xthree_of HXL.out)
          clear b5 HAL hkr
          have b0 := box_cell HB2.out 0
          have b1 := box_cell HB2.out 1
          have b2 := box_cell HB2.out 2
          have b3 := box_cell HB2.out 3
          have b4 := box_cell HB2.out 4
          have b5 := box_cell HB2.out 5
          clear HTF
          have hnr := HNR.out
          have hnz := numB_size n (by omega) (by omega)
          have hns := HNS.out
          have HBF := Lib.hid HBB.out
          have HT2 := Lib.hid (text_three 9 nm n ty es HXL.out)
          clear HX
          have htt := HTOT.out
          have hp0 : 0 < (Ex.texts es).length := by rw [HXL.out]; omega
          have s0 := total_get (Ex.texts es) 0 hp0
          have hp1 : 1 < (Ex.texts es).length := by rw [HXL.out]; omega
          have s1 := total_get (Ex.texts es) 1 hp1
          have hp2 : 2 < (Ex.texts es).length := by rw [HXL.out]; omega
          have s2 := total_get (Ex.texts es) 2 hp2
          have CJ : Calls Tryz.prog 36 #[.slice (some ⟨(w.heap.size + 1), 0, none⟩) es.length es.length, .string ⟨#[32]⟩] wr fun e w' => e = .returned (.string ((Ex.texts es)[0]'hp0 ++ ⟨#[32]⟩ ++ (Ex.texts es)[1]'hp1 ++ ⟨#[32]⟩ ++ (Ex.texts es)[2]'hp2)) ∧ Below wr.heap.size wr w' := by
            have h := implJoin _ (Ex.texts es) ⟨#[32]⟩ (by rw [HXL.out]; omega) (by omega) (by decide) wr HST.out
            unfold JoinEnd at h
            rw [join_three HXL.out] at h
            exact h
          have HCJ := Lib.hid CJ; clear CJ
          generalize (Ex.texts es)[0]'hp0 = x0 at HT2 s0 HCJ
          generalize (Ex.texts es)[1]'hp1 = x1 at HT2 s1 HCJ
          generalize (Ex.texts es)[2]'hp2 = x2 at HT2 s2 HCJ
          have HT3 : Hid ((Ex.node 9 nm n ty es).text = ⟨#[40, 105, 102, 32]⟩ ++ (x0 ++ ⟨#[32]⟩ ++ x1 ++ ⟨#[32]⟩ ++ x2) ++ ⟨#[41]⟩) := by
            show _ = _
            rw [HT2.out]
            rfl
          have hjs : (x0 ++ ⟨#[32]⟩ ++ x1 ++ ⟨#[32]⟩ ++ x2).size ≤ 200000000 := by simp only [ByteArray.size_append, sizes_one]; omega
          generalize x0 ++ ⟨#[32]⟩ ++ x1 ++ ⟨#[32]⟩ ++ x2 = J at HT3 HCJ hjs
          have m0 : ¬ (9223372036854775807 < 4 + J.size) := by omega
          have m1 : ¬ (9223372036854775807 < 4 + J.size + 1) := by omega
          clear hnr hnz hns htt hjs hq s0 hp0 s1 hp1 s2 hp2
          go_wp2_with fail
          refine HCJ.out.mono ?_
          rintro e w5 ⟨rfl, hb⟩
          replace HBF := Lib.hid (below_thru HBF.out (Nat.le_refl _) hb)
          clear hb
          go_wp2_with fail
          go_ret
          exact ⟨by rw [HT3.out]; rfl, HBF.out⟩
        · have hq : es.length = 2 := by have : arity 10 = 2 := rfl; omega
          have HXL : Hid ((Ex.texts es).length = 2) := by show _ = _; rw [HTL.out]; exact hq
          have HX := Lib.hid (xtwo_of HXL.out)
          clear b5 HAL hkr
          have b0 := box_cell HB2.out 0
          have b1 := box_cell HB2.out 1
          have b2 := box_cell HB2.out 2
          have b3 := box_cell HB2.out 3
          have b4 := box_cell HB2.out 4
          have b5 := box_cell HB2.out 5
          clear HTF
          have hnr := HNR.out
          have hnz := numB_size n (by omega) (by omega)
          have hns := HNS.out
          have HBF := Lib.hid HBB.out
          have HT2 := Lib.hid (text_two 10 nm n ty es HXL.out)
          clear HX
          have htt := HTOT.out
          have hp0 : 0 < (Ex.texts es).length := by rw [HXL.out]; omega
          have s0 := total_get (Ex.texts es) 0 hp0
          have hp1 : 1 < (Ex.texts es).length := by rw [HXL.out]; omega
          have s1 := total_get (Ex.texts es) 1 hp1
          have CJ : Calls Tryz.prog 36 #[.slice (some ⟨(w.heap.size + 1), 0, none⟩) es.length es.length, .string ⟨#[44]⟩] wr fun e w' => e = .returned (.string ((Ex.texts es)[0]'hp0 ++ ⟨#[44]⟩ ++ (Ex.texts es)[1]'hp1)) ∧ Below wr.heap.size wr w' := by
            have h := implJoin _ (Ex.texts es) ⟨#[44]⟩ (by rw [HXL.out]; omega) (by omega) (by decide) wr HST.out
            unfold JoinEnd at h
            rw [join_two HXL.out] at h
            exact h
          have HCJ := Lib.hid CJ; clear CJ
          generalize (Ex.texts es)[0]'hp0 = x0 at HT2 s0 HCJ
          generalize (Ex.texts es)[1]'hp1 = x1 at HT2 s1 HCJ
          have HT3 : Hid ((Ex.node 10 nm n ty es).text = ⟨#[40]⟩ ++ (x0 ++ ⟨#[44]⟩ ++ x1) ++ ⟨#[41]⟩) := by
            show _ = _
            rw [HT2.out]
            exact two_group
          have hjs : (x0 ++ ⟨#[44]⟩ ++ x1).size ≤ 200000000 := by simp only [ByteArray.size_append, sizes_one]; omega
          generalize x0 ++ ⟨#[44]⟩ ++ x1 = J at HT3 HCJ hjs
          have m0 : ¬ (9223372036854775807 < 1 + J.size) := by omega
          have m1 : ¬ (9223372036854775807 < 1 + J.size + 1) := by omega
          clear hnr hnz hns htt hjs hq s0 hp0 s1 hp1
          go_wp2_with fail
          refine HCJ.out.mono ?_
          rintro e w5 ⟨rfl, hb⟩
          replace HBF := Lib.hid (below_thru HBF.out (Nat.le_refl _) hb)
          clear hb
          go_wp2_with fail
          go_ret
          exact ⟨by rw [HT3.out]; rfl, HBF.out⟩
        · have hq : es.length = 1 := by have : arity 11 = 1 := rfl; omega
          have HXL : Hid ((Ex.texts es).length = 1) := by show _ = _; rw [HTL.out]; exact hq
          have HX := Lib.hid (xone_of HXL.out)
          clear b5 HAL hkr
          have b0 := box_cell HB2.out 0
          have b1 := box_cell HB2.out 1
          have b2 := box_cell HB2.out 2
          have b3 := box_cell HB2.out 3
          have b4 := box_cell HB2.out 4
          have b5 := box_cell HB2.out 5
          clear HTF
          have hnr := HNR.out
          have hnz := numB_size n (by omega) (by omega)
          have hns := HNS.out
          have HBF := Lib.hid HBB.out
          have HT2 := Lib.hid (text_one 11 nm n ty es HXL.out)
          clear HX
          have htt := HTOT.out
          have hp0 : 0 < (Ex.texts es).length := by rw [HXL.out]; omega
          have s0 := total_get (Ex.texts es) 0 hp0
          have C0 := Lib.hid (show CellAt wr (w.heap.size + 1) 0 (.string (Ex.texts es)[0]) from ⟨HAR.out.1, HAR.out.2 0 hp0⟩)
          have hl0 : 0 < es.length := by omega
          generalize (Ex.texts es)[0]'hp0 = x0 at HT2 s0 C0
          clear hq
          have c0 := C0.out.2
          have m0 : ¬ (9223372036854775807 < 5 + x0.size) := by omega
          have m1 : ¬ (9223372036854775807 < 5 + x0.size + 1) := by omega
          go_wp2_with fail
          go_ret
          exact ⟨by rw [HT2.out]; rfl, HBF.out⟩
        · have hq : es.length = 1 := by have : arity 12 = 1 := rfl; omega
          have HXL : Hid ((Ex.texts es).length = 1) := by show _ = _; rw [HTL.out]; exact hq
          have HX := Lib.hid (xone_of HXL.out)
          clear b5 HAL hkr
          have b0 := box_cell HB2.out 0
          have b1 := box_cell HB2.out 1
          have b2 := box_cell HB2.out 2
          have b3 := box_cell HB2.out 3
          have b4 := box_cell HB2.out 4
          have b5 := box_cell HB2.out 5
          clear HTF
          have hnr := HNR.out
          have hnz := numB_size n (by omega) (by omega)
          have hns := HNS.out
          have HBF := Lib.hid HBB.out
          have HT2 := Lib.hid (text_one 12 nm n ty es HXL.out)
          clear HX
          have htt := HTOT.out
          have hp0 : 0 < (Ex.texts es).length := by rw [HXL.out]; omega
          have s0 := total_get (Ex.texts es) 0 hp0
          have C0 := Lib.hid (show CellAt wr (w.heap.size + 1) 0 (.string (Ex.texts es)[0]) from ⟨HAR.out.1, HAR.out.2 0 hp0⟩)
          have hl0 : 0 < es.length := by omega
          generalize (Ex.texts es)[0]'hp0 = x0 at HT2 s0 C0
          clear hq
          have c0 := C0.out.2
          have m0 : ¬ (9223372036854775807 < 5 + x0.size) := by omega
          have m1 : ¬ (9223372036854775807 < 5 + x0.size + 1) := by omega
          go_wp2_with fail
          go_ret
          exact ⟨by rw [HT2.out]; rfl, HBF.out⟩
        · have hq : es.length = 1 := by have : arity 13 = 1 := rfl; omega
          have HXL : Hid ((Ex.texts es).length = 1) := by show _ = _; rw [HTL.out]; exact hq
          have HX := Lib.hid (xone_of HXL.out)
          clear b5 HAL hkr
          have b0 := box_cell HB2.out 0
          have b1 := box_cell HB2.out 1
          have b2 := box_cell HB2.out 2
          have b3 := box_cell HB2.out 3
          have b4 := box_cell HB2.out 4
          have b5 := box_cell HB2.out 5
          have HNF := Lib.hid (note_form (by simpa [typeFor] using HTF : ty.note = true))
          have HTS := ty.text_size
          have htz := HTZ.out
          clear HTF
          have hnr := HNR.out
          have hnz := numB_size n (by omega) (by omega)
          have hns := HNS.out
          have HBF := Lib.hid HBB.out
          have HT2 := Lib.hid (text_one 13 nm n ty es HXL.out)
          clear HX
          have htt := HTOT.out
          have hp0 : 0 < (Ex.texts es).length := by rw [HXL.out]; omega
          have s0 := total_get (Ex.texts es) 0 hp0
          have C0 := Lib.hid (show CellAt wr (w.heap.size + 1) 0 (.string (Ex.texts es)[0]) from ⟨HAR.out.1, HAR.out.2 0 hp0⟩)
          have hl0 : 0 < es.length := by omega
          generalize (Ex.texts es)[0]'hp0 = x0 at HT2 s0 C0
          clear hq
          have CF : ∀ (X0 : World) (v : Value) (_ : TyAt X0 d v ty), Calls Tryz.prog 50 #[v] X0 fun e w' => e = .returned (.string ty.text) ∧ Below X0.heap.size X0 w' := fun X0 v h => by have := implFormatType d v ty X0 h HTZ.out; rw [format_good HNF.out.2] at this; exact this
          have HCF := Lib.hid CF; clear CF
          generalize ty.text = ts at HCF HT2 HTS
          have m0 : ¬ (9223372036854775807 < 1 + x0.size) := by omega
          have m1 : ¬ (9223372036854775807 < 1 + x0.size + 1) := by omega
          have m2 : ¬ (9223372036854775807 < 1 + x0.size + 1 + ts.size) := by omega
          have m3 : ¬ (9223372036854775807 < 1 + x0.size + 1 + ts.size + 1) := by omega
          clear hnr hnz hns HTS htz htt s0
          go_wp2_with fail
          have hbd := below_drew wr
          replace HBF := Lib.hid (below_thru HBF.out (Nat.le_refl _) hbd)
          have XR := Lib.hid ((box_of HB2.out).below hbd)
          have HTR := Lib.hid ((HTY.out.below HBB.out).below hbd)
          have HPR := Lib.hid ((HP.out.below HBB.out).below hbd)
          replace C0 := Lib.hid (C0.out.below hbd)
          clear hbd b0 b1 b2 b3 b4 b5
          go_region_held3 (fun w' => w'.cell? ⟨w.heap.size, 3, none⟩ = some (.int .i64 tk) ∧ w'.cell? ⟨w.heap.size, 4, none⟩ = some (.slice ta tn tc) ∧ w'.cell? ⟨(w.heap.size + 1), 0, none⟩ = some (.string x0)) (exact ⟨XR.out.2 3, XR.out.2 4, C0.out.2⟩)
            (first
             | (go_at_call 50
                refine (HCF.out _ _ HTR.out).mono ?_
                rintro e w5 ⟨rfl, hb⟩
                replace HBF := Lib.hid (below_thru HBF.out (Nat.le_refl _) hb)
                replace XR := Lib.hid (XR.out.below hb)
                replace C0 := Lib.hid (C0.out.below hb)
                clear hb))
          go_wp2_with fail
          go_ret
          exact ⟨by rw [HT2.out]; rfl, HBF.out⟩
        · have hq : es.length = 1 := by have : arity 14 = 1 := rfl; omega
          have HXL : Hid ((Ex.texts es).length = 1) := by show _ = _; rw [HTL.out]; exact hq
          have HX := Lib.hid (xone_of HXL.out)
          clear b5 HAL hkr
          have b0 := box_cell HB2.out 0
          have b1 := box_cell HB2.out 1
          have b2 := box_cell HB2.out 2
          have b3 := box_cell HB2.out 3
          have b4 := box_cell HB2.out 4
          have b5 := box_cell HB2.out 5
          clear HTF
          have hnr := HNR.out
          have hnz := numB_size n (by omega) (by omega)
          have hns := HNS.out
          have HBF := Lib.hid HBB.out
          have HT2 := Lib.hid (text_one 14 nm n ty es HXL.out)
          clear HX
          have htt := HTOT.out
          have hp0 : 0 < (Ex.texts es).length := by rw [HXL.out]; omega
          have s0 := total_get (Ex.texts es) 0 hp0
          have C0 := Lib.hid (show CellAt wr (w.heap.size + 1) 0 (.string (Ex.texts es)[0]) from ⟨HAR.out.1, HAR.out.2 0 hp0⟩)
          have hl0 : 0 < es.length := by omega
          generalize (Ex.texts es)[0]'hp0 = x0 at HT2 s0 C0
          clear hq
          have CI : ∀ (X0 : World) (_ : Pow10At X0), Calls Tryz.prog 35 #[.int .i64 n] X0 fun e w' => e = .returned (.string (numB n)) ∧ Below X0.heap.size X0 w' := fun X0 hp => implFormat n (by omega) (by omega) X0 hp
          have HCI := Lib.hid CI; clear CI
          generalize numB n = fs at HCI HT2 hnz
          have m0 : ¬ (9223372036854775807 < 1 + fs.size) := by omega
          have m1 : ¬ (9223372036854775807 < 1 + fs.size + 1) := by omega
          have m2 : ¬ (9223372036854775807 < 1 + fs.size + 1 + x0.size) := by omega
          have m3 : ¬ (9223372036854775807 < 1 + fs.size + 1 + x0.size + 1) := by omega
          clear hnr hnz hns htt s0
          go_wp2_with fail
          have hbd := below_drew wr
          replace HBF := Lib.hid (below_thru HBF.out (Nat.le_refl _) hbd)
          have XR := Lib.hid ((box_of HB2.out).below hbd)
          have HTR := Lib.hid ((HTY.out.below HBB.out).below hbd)
          have HPR := Lib.hid ((HP.out.below HBB.out).below hbd)
          replace C0 := Lib.hid (C0.out.below hbd)
          clear hbd b0 b1 b2 b3 b4 b5
          go_region_held3 (fun w' => w'.cell? ⟨w.heap.size, 2, none⟩ = some (.int .i64 n) ∧ w'.cell? ⟨(w.heap.size + 1), 0, none⟩ = some (.string x0)) (exact ⟨XR.out.2 2, C0.out.2⟩)
            (first
             | (go_at_call 35
                refine (HCI.out _ HPR.out).mono ?_
                rintro e w5 ⟨rfl, hb⟩
                replace HBF := Lib.hid (below_thru HBF.out (Nat.le_refl _) hb)
                replace XR := Lib.hid (XR.out.below hb)
                replace C0 := Lib.hid (C0.out.below hb)
                clear hb))
          go_wp2_with fail
          go_ret
          exact ⟨by rw [HT2.out]; rfl, HBF.out⟩
end Go.Proofs.YtimigpdbegfjaaaGreatDoor
/-
  Proved: spec.l6Left takes an expression's nodes but its marks from what is left; the memory that was there stays as it was.
-/
namespace Go.Proofs.YtimigpdbegfjaaaGreatDoor
open Go.RowKit

/-- What is left of a room behind an expression: below 0 only where it did not fit or has no right form. -/
def LeftsTo (t : Ex) (left r : Int) : Prop := -1 ≤ r ∧ r ≤ left ∧ (0 ≤ r → r = left - t.count) ∧ (t.form = true → (t.count : Int) ≤ left → 0 ≤ r)
/-- The same behind the first k parts. -/
def PartTo (es : List Ex) (k : Nat) (left m : Int) : Prop := -1 ≤ m ∧ m ≤ left ∧ (0 ≤ m → m = left - Ex.counts (es.take k)) ∧ (Ex.forms es = true → (Ex.counts es : Int) ≤ left → 0 ≤ m)
theorem PartTo.start {es : List Ex} {left : Int} (h : -1 ≤ left) : PartTo es 0 left left := by
  refine ⟨h, by omega, fun _ => by simp [Ex.counts], fun _ hc => by omega⟩
theorem PartTo.next {es : List Ex} {k : Nat} {left m r : Int} (h : PartTo es k left m) (hlt : k < es.length) (hm : 0 ≤ m) (h1 : LeftsTo es[k] m r) : PartTo es (k + 1) left r := by
  obtain ⟨a0, a1, a2, a3⟩ := h
  obtain ⟨b0, b1, b2, b3⟩ := h1
  have e := Ex.counts_take es k hlt
  have c := Ex.counts_le_all es (k + 1)
  have h0 := a2 hm
  refine ⟨b0, by omega, fun hr => by have := b2 hr; omega, fun hf hc => ?_⟩
  exact b3 (Ex.forms_get es k hlt hf) (by omega)
theorem LeftsTo.of_neg {kd : Int} {nm : ByteArray} {n : Int} {ty : Ty} {es : List Ex} {k c : Nat} {left l0 m : Int} (h : PartTo es k l0 m) (hn : m < 0) (hl : l0 ≤ left ∧ left - c ≤ l0 ∧ -1 ≤ l0) (hc : (Ex.node kd nm n ty es).count = c + Ex.counts es) : LeftsTo (.node kd nm n ty es) left m := by
  obtain ⟨a0, a1, a2, a3⟩ := h
  refine ⟨a0, by omega, fun hr => by omega, fun hf hcn => ?_⟩
  simp only [Ex.form, Bool.and_eq_true] at hf
  exact a3 hf.1 (by omega)
theorem LeftsTo.of_all {kd : Int} {nm : ByteArray} {n : Int} {ty : Ty} {es : List Ex} {c : Nat} {left l0 m : Int} (h : PartTo es es.length l0 m) (hl : l0 = left - c) (hc : (Ex.node kd nm n ty es).count = c + Ex.counts es) : LeftsTo (.node kd nm n ty es) left m := by
  obtain ⟨a0, a1, a2, a3⟩ := h
  rw [List.take_length] at a2
  refine ⟨a0, by omega, fun hr => by have := a2 hr; omega, fun hf hcn => ?_⟩
  simp only [Ex.form, Bool.and_eq_true] at hf
  exact a3 hf.1 (by omega)
theorem LeftsTo.bad {t : Ex} {left : Int} (hl : -1 ≤ left) (h : t.form = false) : LeftsTo t left (-1) :=
  ⟨by omega, hl, fun h => by omega, fun hf => by rw [h] at hf; cases hf⟩
set_option maxRecDepth 100000 in
set_option maxHeartbeats 4000000 in
theorem specExLeft : ∀ (d : Nat) (v : Value) (t : Ex) (left : Int) (w : World), 0 ≤ left → left ≤ 1048576 → ExAt w d v t → t.bulk ≤ 1048576 →
    Calls Tryz.prog 43 #[v, .int .i64 left] w fun e w' => ∃ r, e = .returned (.int .i64 r) ∧ LeftsTo t left r ∧ Below w.heap.size w w'
  | 0, _, _, _, _, _, _, h, _ => h.elim
  | d + 1, v, .node kd nm n ty es, left, w, hl0, hl1, h, hsz => by
    have IH : Hid (∀ (v : Value) (t : Ex) (left : Int) (w : World), 0 ≤ left → left ≤ 1048576 → ExAt w d v t → t.bulk ≤ 1048576 → Calls Tryz.prog 43 #[v, .int .i64 left] w fun e w' => ∃ r, e = .returned (.int .i64 r) ∧ LeftsTo t left r ∧ Below w.heap.size w w') := specExLeft d
    have HV := ex_parts h
    obtain ⟨c3, c4, sl, rfl, hk0, hk1, hn0, hn1, hnm, hty, a, cap, rfl, hcap, hcap2, hat⟩ := h
    obtain ⟨k', nm', n', tk, ta, tn, tc, sa, sn, sc, hv⟩ := HV
    injection hv with hv
    injection hv with hv
    simp at hv
    obtain ⟨rfl, rfl, rfl, rfl, rfl, rfl, rfl, rfl⟩ := hv
    have HAT := Lib.hid hat; clear hat
    have hbk : (Ex.node kd nm n ty es).bulk = nm.size + (ty.size - 1) + Ex.bulks es := rfl
    have HSZ : Hid (Ex.bulks es ≤ 1048576) := by show _ ≤ _; omega
    have HNM : Hid (nm.size ≤ 1048576) := by show _ ≤ _; omega
    have HTZ : Hid (ty.size ≤ 1048577) := by show _ ≤ _; omega
    have hlen : es.length ≤ 1048576 := by have := Ex.length_le es; omega
    clear hsz hbk hty
    by_cases q : kd = 14
    · subst q
      by_cases q1 : es.length = 1
      · have hpos : 0 < es.length := by omega
        have q1b : ((es.length : Int) == 1) = true := by simp [q1]
        have q1c : ((es.length : Int) != 1) = false := by simp [q1]
        clear q1
        obtain ⟨b, off, x0, x1, x2, x3, x4, x5, rfl, hbl, hc0, hc1, hc2, hc3, hc4, hc5, ht⟩ := HAT.out 0 (by omega)
        obtain ⟨yk, ynm, yn, ytk, yta, ytn, ytc, ya, ym, yc, rfl, rfl, rfl, rfl, rfl, rfl⟩ := ex_cells ht
        have HFIRST : Hid ((w.alloc (.cells #[.int .i64 14, .string nm, .int .i64 n, .int .i64 tk, .slice ta tn tc, .slice (some ⟨b, off, none⟩) es.length cap] 38)).cell? ⟨b, off, none⟩ = some (.int .i64 yk)) := by have := (below_alloc w (.cells #[.int .i64 14, .string nm, .int .i64 n, .int .i64 tk, .slice ta tn tc, .slice (some ⟨b, off, none⟩) es.length cap] 38)).cell (p := ⟨b, off, none⟩) hbl; show _ = _; rw [this]; simpa using hc0
        have e9 : w.cell? ⟨b, off, none⟩ = some (.int .i64 yk) := by simpa using hc0
        have HKIND := Lib.hid (ex_kind ht)
        clear ht hc0 hc1 hc2 hc3 hc4 hc5
        have e0 := HFIRST.out
        by_cases q2 : yk = 14
        · subst q2
          have NOFORM : Hid ((Ex.node 14 nm n ty es).form = false) := by
            have e : bareB 14 es = false := by cases es with | nil => simp at hpos | cons x r => simpa [bareB] using HKIND.out
            show _ = _; simp [Ex.form, e]
          go_enter Tryz.func43, Tryz.ntmps43
          go_wp2_with fail
          go_ret
          exact ⟨_, rfl, LeftsTo.bad (by omega) NOFORM.out, Below.refl _ _ |>.alloc (Nat.le_refl _) _⟩
        · have q2b : (yk == 14) = false := by simp [q2]
          have HFIN : Hid ((Ex.node 14 nm n ty es).count = 0 + Ex.counts es) := by show _ = _; simp [Ex.count]
          go_enter Tryz.func43, Tryz.ntmps43
          go_wp2_with fail
          refine (specBit _ _).mono ?_
          rintro e w9 ⟨rfl, rfl⟩
          go_wp2_with fail
          go_loopw [1, 5] (fun l i wr => ∃ (k : Nat) (m : Int), k ≤ es.length ∧ i = .int .i64 k ∧ l = .int .i64 m ∧ PartTo es k (left) m ∧ Below (w.heap.size + 1) (w.alloc (.cells #[.int .i64 14, .string nm, .int .i64 n, .int .i64 tk, .slice ta tn tc, .slice (some ⟨b, off, none⟩) es.length cap] 38)) wr) (fun _ i _ => es.length - (intOf i).toNat)
          case atStart => exact ⟨0, left, by omega, rfl, rfl, PartTo.start (by omega), Below.refl _ _⟩
          case round =>
            obtain ⟨k, m, hk, rfl, rfl, hm, hb⟩ := hrel
            have HM := Lib.hid hm; clear hm
            obtain ⟨mb0, mb1⟩ : -1 ≤ m ∧ m ≤ 1048576 := by have h1 := HM.out.1; have h2 := HM.out.2.1; omega
            have b0 := box_cell hb 0
            have b5 := box_cell hb 5
            have HB := Lib.hid (box_below hb)
            have HBX := Lib.hid hb; clear hb
            have HS2 := HSZ.out
            by_cases hlt : k < es.length
            · by_cases hneg : m < 0
              · go_wp2_with fail
                go_ret
                exact ⟨_, rfl, LeftsTo.of_neg (HM.out) hneg (by omega) HFIN.out, HB.out⟩
              · obtain ⟨b2, off2, x0, x1, x2, x3, x4, x5, hab, hbl, hc0, hc1, hc2, hc3, hc4, hc5, ht⟩ := HAT.out k hlt
                obtain ⟨rfl, rfl⟩ : b = b2 ∧ off = off2 := by simpa using hab
                have hg := Ex.bulk_get es k hlt
                have e0 : wr.cell? ⟨b, off + k * 6, none⟩ = some (x0) := by rw [HB.out.cell (p := ⟨b, off + k * 6, none⟩) hbl]; exact hc0
                have e1 : wr.cell? ⟨b, off + k * 6 + 1, none⟩ = some (x1) := by rw [HB.out.cell (p := ⟨b, off + k * 6 + 1, none⟩) hbl]; exact hc1
                have e2 : wr.cell? ⟨b, off + k * 6 + 2, none⟩ = some (x2) := by rw [HB.out.cell (p := ⟨b, off + k * 6 + 2, none⟩) hbl]; exact hc2
                have e3 : wr.cell? ⟨b, off + k * 6 + 3, none⟩ = some (x3) := by rw [HB.out.cell (p := ⟨b, off + k * 6 + 3, none⟩) hbl]; exact hc3
                have e4 : wr.cell? ⟨b, off + k * 6 + 4, none⟩ = some (x4) := by rw [HB.out.cell (p := ⟨b, off + k * 6 + 4, none⟩) hbl]; exact hc4
                have e5 : wr.cell? ⟨b, off + k * 6 + 5, none⟩ = some (x5) := by rw [HB.out.cell (p := ⟨b, off + k * 6 + 5, none⟩) hbl]; exact hc5
                have HT := Lib.hid (ht.below HB.out)
                clear ht hc0 hc1 hc2 hc3 hc4 hc5
                go_wp2_with fail
                refine (IH.out _ _ m wr (by omega) mb1 HT.out (by omega)).mono ?_
                rintro e w' ⟨r1, rfl, hr1, hb1⟩
                have HN := Lib.hid (box_next HBX.out hb1); clear hb1
                have HNEW := Lib.hid (HM.out.next hlt (by omega) hr1)
                clear hr1
                go_wp2_with fail
                exact ⟨⟨k + 1, _, by omega, by go_num, rfl, HNEW.out, HN.out⟩, by simp [intOf]; omega⟩
            · obtain rfl : k = es.length := by omega
              go_wp2_with fail
              go_ret
              exact ⟨_, rfl, LeftsTo.of_all HM.out (by omega) HFIN.out, HB.out⟩
      · have q1b : ((es.length : Int) == 1) = false := by simp; omega
        have NOFORM : Hid ((Ex.node 14 nm n ty es).form = false) := by
          have e : fitsB 14 nm n ty es.length = false := by
            have : ¬ ((es.length : Int) = arity 14) := by show ¬ (_ = (1 : Int)); omega
            simp [fitsB, this]
          show _ = _; simp [Ex.form, e]
        go_enter Tryz.func43, Tryz.ntmps43
        go_wp2_with fail
        go_ret
        exact ⟨_, rfl, LeftsTo.bad (by omega) NOFORM.out, Below.refl _ _ |>.alloc (Nat.le_refl _) _⟩
    · have qb0 : (kd == 14) = false := by simp [q]
      have HFIN : Hid ((Ex.node kd nm n ty es).count = 1 + Ex.counts es) := by show _ = _; simp [Ex.count, q]
      go_enter Tryz.func43, Tryz.ntmps43
      go_wp2_with fail
      refine (specBit _ _).mono ?_
      rintro e w9 ⟨rfl, rfl⟩
      go_wp2_with fail
      go_loopw [1, 5] (fun l i wr => ∃ (k : Nat) (m : Int), k ≤ es.length ∧ i = .int .i64 k ∧ l = .int .i64 m ∧ PartTo es k (left - 1) m ∧ Below (w.heap.size + 1) (w.alloc (.cells #[.int .i64 kd, .string nm, .int .i64 n, .int .i64 tk, .slice ta tn tc, .slice a es.length cap] 38)) wr) (fun _ i _ => es.length - (intOf i).toNat)
      case atStart => exact ⟨0, left - 1, by omega, rfl, rfl, PartTo.start (by omega), Below.refl _ _⟩
      case round =>
        obtain ⟨k, m, hk, rfl, rfl, hm, hb⟩ := hrel
        have HM := Lib.hid hm; clear hm
        obtain ⟨mb0, mb1⟩ : -1 ≤ m ∧ m ≤ 1048576 := by have h1 := HM.out.1; have h2 := HM.out.2.1; omega
        have b0 := box_cell hb 0
        have b5 := box_cell hb 5
        have HB := Lib.hid (box_below hb)
        have HBX := Lib.hid hb; clear hb
        have HS2 := HSZ.out
        by_cases hlt : k < es.length
        · by_cases hneg : m < 0
          · go_wp2_with fail
            go_ret
            exact ⟨_, rfl, LeftsTo.of_neg (HM.out) hneg (by omega) HFIN.out, HB.out⟩
          · obtain ⟨b, off, x0, x1, x2, x3, x4, x5, rfl, hbl, hc0, hc1, hc2, hc3, hc4, hc5, ht⟩ := HAT.out k hlt
            have hg := Ex.bulk_get es k hlt
            have e0 : wr.cell? ⟨b, off + k * 6, none⟩ = some (x0) := by rw [HB.out.cell (p := ⟨b, off + k * 6, none⟩) hbl]; exact hc0
            have e1 : wr.cell? ⟨b, off + k * 6 + 1, none⟩ = some (x1) := by rw [HB.out.cell (p := ⟨b, off + k * 6 + 1, none⟩) hbl]; exact hc1
            have e2 : wr.cell? ⟨b, off + k * 6 + 2, none⟩ = some (x2) := by rw [HB.out.cell (p := ⟨b, off + k * 6 + 2, none⟩) hbl]; exact hc2
            have e3 : wr.cell? ⟨b, off + k * 6 + 3, none⟩ = some (x3) := by rw [HB.out.cell (p := ⟨b, off + k * 6 + 3, none⟩) hbl]; exact hc3
            have e4 : wr.cell? ⟨b, off + k * 6 + 4, none⟩ = some (x4) := by rw [HB.out.cell (p := ⟨b, off + k * 6 + 4, none⟩) hbl]; exact hc4
            have e5 : wr.cell? ⟨b, off + k * 6 + 5, none⟩ = some (x5) := by rw [HB.out.cell (p := ⟨b, off + k * 6 + 5, none⟩) hbl]; exact hc5
            have HT := Lib.hid (ht.below HB.out)
            clear ht hc0 hc1 hc2 hc3 hc4 hc5
            go_wp2_with fail
            refine (IH.out _ _ m wr (by omega) mb1 HT.out (by omega)).mono ?_
            rintro e w' ⟨r1, rfl, hr1, hb1⟩
            have HN := Lib.hid (box_next HBX.out hb1); clear hb1
            have HNEW := Lib.hid (HM.out.next hlt (by omega) hr1)
            clear hr1
            go_wp2_with fail
            exact ⟨⟨k + 1, _, by omega, by go_num, rfl, HNEW.out, HN.out⟩, by simp [intOf]; omega⟩
        · obtain rfl : k = es.length := by omega
          go_wp2_with fail
          go_ret
          exact ⟨_, rfl, LeftsTo.of_all HM.out (by omega) HFIN.out, HB.out⟩
end Go.Proofs.YtimigpdbegfjaaaGreatDoor
/-
  Proved: spec.DepthOf measures the depth of an expression; the memory that was there stays as it was.
-/
namespace Go.Proofs.YtimigpdbegfjaaaGreatDoor
open Go.RowKit

set_option maxRecDepth 100000 in
set_option maxHeartbeats 2000000 in
theorem specExDepth : ∀ (d : Nat) (v : Value) (t : Ex) (w : World), ExAt w d v t → t.bulk ≤ 1048576 →
    Calls Tryz.prog 44 #[v] w fun e w' => e = .returned (.int .i64 (t.high : Int)) ∧ Below w.heap.size w w'
  | 0, _, _, _, h, _ => h.elim
  | d + 1, v, .node kd nm n ty es, w, h, hsz => by
    have IH : Hid (∀ (v : Value) (t : Ex) (w : World), ExAt w d v t → t.bulk ≤ 1048576 → Calls Tryz.prog 44 #[v] w fun e w' => e = .returned (.int .i64 (t.high : Int)) ∧ Below w.heap.size w w') := specExDepth d
    have HV := ex_parts h
    obtain ⟨c3, c4, sl, rfl, hk0, hk1, hn0, hn1, hnm, hty, a, cap, rfl, hcap, hcap2, hat⟩ := h
    obtain ⟨k', nm', n', tk, ta, tn, tc, sa, sn, sc, hv⟩ := HV
    injection hv with hv
    injection hv with hv
    simp at hv
    obtain ⟨rfl, rfl, rfl, rfl, rfl, rfl, rfl, rfl⟩ := hv
    have HAT := Lib.hid hat; clear hat
    have hbk : (Ex.node kd nm n ty es).bulk = nm.size + (ty.size - 1) + Ex.bulks es := rfl
    have HSZ : Hid (Ex.bulks es ≤ 1048576) := by show _ ≤ _; omega
    have hlen : es.length ≤ 1048576 := by have := Ex.length_le es; omega
    clear hsz hbk hty
    by_cases q : kd = 14
    · subst q
      have HFIN : Hid ((Ex.node 14 nm n ty es).high = Ex.highs es + 0) := by show _ = _; simp [Ex.high]
      go_enter Tryz.func44, Tryz.ntmps44
      go_wp2_with fail
      go_loopw [3, 4] (fun m i wr => ∃ k : Nat, k ≤ es.length ∧ i = .int .i64 k ∧ m = .int .i64 ((Ex.highs (es.take k) : Int)) ∧ Below (w.heap.size + 1) (w.alloc (.cells #[.int .i64 14, .string nm, .int .i64 n, .int .i64 tk, .slice ta tn tc, .slice a es.length cap] 38)) wr) (fun _ i _ => es.length - (intOf i).toNat)
      case atStart => exact ⟨0, by omega, rfl, by simp [Ex.highs], Below.refl _ _⟩
      case round =>
        obtain ⟨k, hk, rfl, rfl, hb⟩ := hrel
        have b0 := box_cell hb 0
        have b5 := box_cell hb 5
        have HB := Lib.hid (box_below hb)
        have HBX := Lib.hid hb; clear hb
        have HS1 := Ex.highs_part es k
        have HS2 := HSZ.out
        by_cases hlt : k < es.length
        · obtain ⟨b, off, x0, x1, x2, x3, x4, x5, rfl, hbl, hc0, hc1, hc2, hc3, hc4, hc5, ht⟩ := HAT.out k hlt
          have hg := Ex.bulk_get es k hlt
          have hg2 := Ex.high_le es[k]
          have hg3 := Ex.highs_part es (k + 1)
          have e0 : wr.cell? ⟨b, off + k * 6, none⟩ = some x0 := by rw [HB.out.cell (p := ⟨b, off + k * 6, none⟩) hbl]; exact hc0
          have e1 : wr.cell? ⟨b, off + k * 6 + 1, none⟩ = some x1 := by rw [HB.out.cell (p := ⟨b, off + k * 6 + 1, none⟩) hbl]; exact hc1
          have e2 : wr.cell? ⟨b, off + k * 6 + 2, none⟩ = some x2 := by rw [HB.out.cell (p := ⟨b, off + k * 6 + 2, none⟩) hbl]; exact hc2
          have e3 : wr.cell? ⟨b, off + k * 6 + 3, none⟩ = some x3 := by rw [HB.out.cell (p := ⟨b, off + k * 6 + 3, none⟩) hbl]; exact hc3
          have e4 : wr.cell? ⟨b, off + k * 6 + 4, none⟩ = some x4 := by rw [HB.out.cell (p := ⟨b, off + k * 6 + 4, none⟩) hbl]; exact hc4
          have e5 : wr.cell? ⟨b, off + k * 6 + 5, none⟩ = some x5 := by rw [HB.out.cell (p := ⟨b, off + k * 6 + 5, none⟩) hbl]; exact hc5
          have HT := Lib.hid (ht.below HB.out)
          have HPX := Lib.hid HBX.out
          clear ht hc0 hc1 hc2 hc3 hc4 hc5
          go_wp2_with fail
          refine (IH.out _ _ _ HT.out (by omega)).mono ?_
          rintro e w' ⟨rfl, hb1⟩
          have HN := Lib.hid (box_next HPX.out hb1); clear hb1
          have HT2 := Lib.hid (Ex.highs_take es k hlt)
          have hg4 : es[k].high ≤ 1048577 := by rw [HT2.out] at hg3; omega
          clear hg3
          go_wp2_with fail
          refine (specMax _ _ w').mono ?_
          rintro e w2 ⟨rfl, rfl⟩
          go_wp2_with fail
          exact ⟨⟨k + 1, by omega, by go_num, by rw [HT2.out]; go_num, HN.out⟩, by simp [intOf]; omega⟩
        · obtain rfl : k = es.length := by omega
          rw [List.take_length] at HS1 ⊢
          go_wp2_with fail
          refine (specBit _ _).mono ?_
          rintro e w9 ⟨rfl, rfl⟩
          go_wp2_with fail
          go_ret
          refine ⟨?_, HB.out⟩
          rw [HFIN.out]
          (first | rfl | (simp; done) | (simp; omega))
    · have qb : (kd == 14) = false := by simp [q]
      have HFIN : Hid ((Ex.node kd nm n ty es).high = Ex.highs es + 1) := by show _ = _; simp [Ex.high, q]
      go_enter Tryz.func44, Tryz.ntmps44
      go_wp2_with fail
      go_loopw [3, 4] (fun m i wr => ∃ k : Nat, k ≤ es.length ∧ i = .int .i64 k ∧ m = .int .i64 ((Ex.highs (es.take k) : Int)) ∧ Below (w.heap.size + 1) (w.alloc (.cells #[.int .i64 kd, .string nm, .int .i64 n, .int .i64 tk, .slice ta tn tc, .slice a es.length cap] 38)) wr) (fun _ i _ => es.length - (intOf i).toNat)
      case atStart => exact ⟨0, by omega, rfl, by simp [Ex.highs], Below.refl _ _⟩
      case round =>
        obtain ⟨k, hk, rfl, rfl, hb⟩ := hrel
        have b0 := box_cell hb 0
        have b5 := box_cell hb 5
        have HB := Lib.hid (box_below hb)
        have HBX := Lib.hid hb; clear hb
        have HS1 := Ex.highs_part es k
        have HS2 := HSZ.out
        by_cases hlt : k < es.length
        · obtain ⟨b, off, x0, x1, x2, x3, x4, x5, rfl, hbl, hc0, hc1, hc2, hc3, hc4, hc5, ht⟩ := HAT.out k hlt
          have hg := Ex.bulk_get es k hlt
          have hg2 := Ex.high_le es[k]
          have hg3 := Ex.highs_part es (k + 1)
          have e0 : wr.cell? ⟨b, off + k * 6, none⟩ = some x0 := by rw [HB.out.cell (p := ⟨b, off + k * 6, none⟩) hbl]; exact hc0
          have e1 : wr.cell? ⟨b, off + k * 6 + 1, none⟩ = some x1 := by rw [HB.out.cell (p := ⟨b, off + k * 6 + 1, none⟩) hbl]; exact hc1
          have e2 : wr.cell? ⟨b, off + k * 6 + 2, none⟩ = some x2 := by rw [HB.out.cell (p := ⟨b, off + k * 6 + 2, none⟩) hbl]; exact hc2
          have e3 : wr.cell? ⟨b, off + k * 6 + 3, none⟩ = some x3 := by rw [HB.out.cell (p := ⟨b, off + k * 6 + 3, none⟩) hbl]; exact hc3
          have e4 : wr.cell? ⟨b, off + k * 6 + 4, none⟩ = some x4 := by rw [HB.out.cell (p := ⟨b, off + k * 6 + 4, none⟩) hbl]; exact hc4
          have e5 : wr.cell? ⟨b, off + k * 6 + 5, none⟩ = some x5 := by rw [HB.out.cell (p := ⟨b, off + k * 6 + 5, none⟩) hbl]; exact hc5
          have HT := Lib.hid (ht.below HB.out)
          have HPX := Lib.hid HBX.out
          clear ht hc0 hc1 hc2 hc3 hc4 hc5
          go_wp2_with fail
          refine (IH.out _ _ _ HT.out (by omega)).mono ?_
          rintro e w' ⟨rfl, hb1⟩
          have HN := Lib.hid (box_next HPX.out hb1); clear hb1
          have HT2 := Lib.hid (Ex.highs_take es k hlt)
          have hg4 : es[k].high ≤ 1048577 := by rw [HT2.out] at hg3; omega
          clear hg3
          go_wp2_with fail
          refine (specMax _ _ w').mono ?_
          rintro e w2 ⟨rfl, rfl⟩
          go_wp2_with fail
          exact ⟨⟨k + 1, by omega, by go_num, by rw [HT2.out]; go_num, HN.out⟩, by simp [intOf]; omega⟩
        · obtain rfl : k = es.length := by omega
          rw [List.take_length] at HS1 ⊢
          go_wp2_with fail
          refine (specBit _ _).mono ?_
          rintro e w9 ⟨rfl, rfl⟩
          go_wp2_with fail
          go_ret
          refine ⟨?_, HB.out⟩
          rw [HFIN.out]
          (first | rfl | (simp; done) | (simp; omega))
end Go.Proofs.YtimigpdbegfjaaaGreatDoor
/-
  Proved: spec.IsValidExpr says whether an expression is valid; the memory that was there stays as it was.
-/
namespace Go.Proofs.YtimigpdbegfjaaaGreatDoor
open Go.RowKit

theorem valid_left {t : Ex} {r : Int} (h : LeftsTo t 40 r) : t.valid = (decide (0 ≤ r) && (decide (t.high ≤ 12) && t.form)) := by
  obtain ⟨a0, a1, a2, a3⟩ := h
  by_cases hr : 0 ≤ r
  · have := a2 hr
    have hc : t.count ≤ 40 := by omega
    simp [Ex.valid, hc, hr]
  · cases hf : t.form with
    | false => simp [Ex.valid, hf]
    | true =>
      have hc : ¬ (t.count ≤ 40) := fun hc => hr (a3 hf (by omega))
      simp [Ex.valid, hc, hr]
set_option maxRecDepth 100000 in
set_option maxHeartbeats 2000000 in
theorem specExValid (d : Nat) (v : Value) (t : Ex) (w : World) (h : ExAt w d v t) (hsz : t.bulk ≤ 1048576) :
    Calls Tryz.prog 25 #[v] w fun e w' => e = .returned (.bool t.valid) ∧ Below w.heap.size w w' := by
  have HT := Lib.hid h
  obtain ⟨yk, ynm, yn, ytk, yta, ytn, ytc, ya, ym, yc, rfl⟩ := ex_parts h
  clear h
  have E0 : Below w.heap.size w (w.alloc (.cells #[.int .i64 yk, .string ynm, .int .i64 yn, .int .i64 ytk, .slice yta ytn ytc, .slice ya ym yc] 38)) := below_alloc _ _
  have HT0 := Lib.hid (HT.out.below E0)
  clear E0
  go_enter Tryz.func25, Tryz.ntmps25
  go_wp2_with fail
  refine (specExLeft d _ t 40 _ (by omega) (by omega) HT0.out hsz).mono ?_
  rintro e w1 ⟨r, rfl, hr, hb1⟩
  have B1 := Lib.hid (box_next (Below.refl _ _) hb1); clear hb1
  have hv := valid_left hr
  obtain ⟨hr0, hr1, _, _⟩ := hr
  have HV := Lib.hid hv; clear hv
  have c0 := box_cell B1.out 0
  have c1 := box_cell B1.out 1
  have c2 := box_cell B1.out 2
  have c3 := box_cell B1.out 3
  have c4 := box_cell B1.out 4
  have c5 := box_cell B1.out 5
  by_cases q1 : r < 0
  · go_wp2_with fail
    go_ret
    exact ⟨by rw [HV.out]; simp; omega, box_below B1.out⟩
  · go_wp2_with fail
    refine (specExDepth d _ t _ (HT.out.below (box_below B1.out)) hsz).mono ?_
    rintro e w2 ⟨rfl, hb2⟩
    have B2 := Lib.hid (box_next B1.out hb2); clear hb2 B1 c0 c1 c2 c3 c4 c5
    have c0 := box_cell B2.out 0
    have c1 := box_cell B2.out 1
    have c2 := box_cell B2.out 2
    have c3 := box_cell B2.out 3
    have c4 := box_cell B2.out 4
    have c5 := box_cell B2.out 5
    have hdl : t.high ≤ 1048577 := by have := t.high_le; omega
    by_cases q2 : t.high ≤ 12
    · go_wp2_with fail
      refine (specExForm d _ t _ (HT.out.below (box_below B2.out)) hsz).mono ?_
      rintro e w3 ⟨rfl, hb3⟩
      have B3 := Lib.hid (box_next B2.out hb3); clear hb3 B2 c0 c1 c2 c3 c4 c5
      go_wp2_with fail
      go_ret
      exact ⟨by rw [HV.out]; simp [q2, show 0 ≤ r by omega], box_below B3.out⟩
    · go_wp2_with fail
      go_ret
      exact ⟨by rw [HV.out]; simp [q2], box_below B2.out⟩
end Go.Proofs.YtimigpdbegfjaaaGreatDoor
/-
  Proved: impl.isWord says whether a text is one of the three words; the memory that was there stays as it was.
-/
namespace Go.Proofs.YtimigpdbegfjaaaGreatDoor
open Go.RowKit

set_option maxRecDepth 100000 in
theorem implWord (s : ByteArray) (w : World) : Calls Tryz.prog 92 #[.string s] w fun e w' => e = .returned (.bool (wordB s)) ∧ w = w' := by
  cases h1 : (s.toList == [105, 102]) with
  | true =>
    go_enter Tryz.func92, Tryz.ntmps92
    go_wp2_with fail
    go_ret
    exact ⟨by simp [wordB, h1], rfl⟩
  | false =>
    cases h2 : (s.toList == [102, 115, 116]) with
    | true =>
      go_enter Tryz.func92, Tryz.ntmps92
      go_wp2_with fail
      go_ret
      exact ⟨by simp [wordB, h1, h2], rfl⟩
    | false =>
      cases h3 : (s.toList == [115, 110, 100]) with
      | true =>
        go_enter Tryz.func92, Tryz.ntmps92
        go_wp2_with fail
        go_ret
        exact ⟨by simp [wordB, h1, h2, h3], rfl⟩
      | false =>
        go_enter Tryz.func92, Tryz.ntmps92
        go_wp2_with fail
        go_ret
        exact ⟨by simp [wordB, h1, h2, h3], rfl⟩
end Go.Proofs.YtimigpdbegfjaaaGreatDoor
/-
  Proved: impl.IsName says whether a text is a name; the memory that was there stays as it was.
-/
namespace Go.Proofs.YtimigpdbegfjaaaGreatDoor
open Go.RowKit

theorem below_iter (w : World) (s : ByteArray) (k : Nat) : Below w.heap.size w (w.iter s k) := (Below.refl _ _).alloc (Nat.le_refl _) _
set_option maxRecDepth 100000 in
set_option maxHeartbeats 4000000 in
theorem implName (s : ByteArray) (w : World) (hs : s.size ≤ 9223372036854775807) : Calls Tryz.prog 81 #[.string s] w fun e w' => e = .returned (.bool (nameB s)) ∧ Below w.heap.size w w' := by
  by_cases r1 : 1 ≤ s.size
  case neg =>
    have hz : s.size = 0 := by omega
    have hl : s.toList = [] := List.eq_nil_of_length_eq_zero (by rw [size_of_toList]; exact hz)
    have h1 : (s.toList == []) = true := by rw [hl]; rfl
    have h2 : s.toList.isEmpty = true := by rw [hl]; rfl
    have HR := Lib.hid r1
    clear hz hl r1
    go_enter Tryz.func81, Tryz.ntmps81
    go_wp2_with fail
    go_ret
    exact ⟨by simp [nameB, HR.out], Below.refl _ _⟩
  have h1 : (s.toList == []) = false := toList_some r1
  have h2 : s.toList.isEmpty = false := by cases hh : s.toList with | nil => rw [hh] at h1; cases h1 | cons a r => rfl
  by_cases r2 : s.size ≤ 5
  case neg =>
    have i2 : (5 : Int) < (s.size : Int) := by omega
    go_enter Tryz.func81, Tryz.ntmps81
    go_wp2_with fail
    go_ret
    exact ⟨by simp [nameB, r2], Below.refl _ _⟩
  have i2 : ¬ ((5 : Int) < (s.size : Int)) := by omega
  cases hw : wordB s with
  | true =>
    go_enter Tryz.func81, Tryz.ntmps81
    go_wp2_with fail
    refine (implWord s w).mono ?_
    rintro e w1 ⟨rfl, rfl⟩
    go_wp2_with fail
    go_ret
    exact ⟨by simp [nameB, hw], Below.refl _ _⟩
  | false =>
    have HNB : Hid (nameB s = okB s s.size) := by show _ = _; simp [nameB, hw, r1, r2]
    go_enter Tryz.func81, Tryz.ntmps81
    go_wp2_with fail
    refine (implWord s w).mono ?_
    rintro e w1 ⟨rfl, rfl⟩
    go_wp2_with fail
    go_loopw [3] (fun _ wr => ∃ k : Nat, wr = w.iter s k ∧ k ≤ s.size ∧ okB s k = true) (fun _ wr => s.size - wr.iterPos w.heap.size)
    case atStart => exact ⟨0, rfl, by omega, rfl⟩
    case round =>
      obtain ⟨k, rfl, hk, hf⟩ := hrel
      have HF := Lib.hid hf; clear hf
      by_cases hlt : k < s.size
      · have HSUC := Lib.hid (okB_succ s k hlt)
        by_cases hasc : (s[k]'hlt).toNat < 128
        · have hnx : ∀ ty, (Instr.next (.pointer (some ⟨w.heap.size, 0, none⟩)) true ty).run Tryz.prog (w.iter s k) = _ := fun ty => run_next_ascii w s k ty hlt hasc
          by_cases l1 : 97 ≤ (s[k]'hlt).toNat ∧ (s[k]'hlt).toNat ≤ 122
          · have OK := Lib.hid (okAt_letter (k := k) l1.1 l1.2)
            obtain ⟨l1a, l1b⟩ := l1
            have l1d : decide ((97 : Int) ≤ ((s[k]'hlt).toNat : Int)) = true := by simpa using (by omega : (97 : Int) ≤ ((s[k]'hlt).toNat : Int))
            have l2d : decide (((s[k]'hlt).toNat : Int) ≤ 122) = true := by simpa using (by omega : ((s[k]'hlt).toNat : Int) ≤ 122)
            clear l1a l1b
            go_wp2_with fail
            all_goals exact ⟨⟨k + 1, rfl, hlt, by rw [HSUC.out, HF.out, OK.out]; rfl⟩, by simp; omega⟩
          · by_cases l3 : 97 ≤ (s[k]'hlt).toNat
            · skip
              by_cases z : k = 0
              · have OK := Lib.hid (okAt_bad (c := (s[k]'hlt).toNat) (k := k) (by omega) (Or.inl z))
                have l1d : decide ((97 : Int) ≤ ((s[k]'hlt).toNat : Int)) = true := by simpa using (by omega : (97 : Int) ≤ ((s[k]'hlt).toNat : Int))
                have l2d : decide (((s[k]'hlt).toNat : Int) ≤ 122) = false := by simpa using (by omega : (122 : Int) < ((s[k]'hlt).toNat : Int))
                have zb : ((k : Int) == 0) = true := by simp [z]
                clear l1 l3 z
                go_wp2_with fail
                all_goals go_ret
                all_goals exact ⟨by rw [HNB.out, okB_false s (k + 1) s.size (by rw [HSUC.out, HF.out, OK.out]; rfl) hlt]; rfl, below_iter _ _ _⟩
              · have zb : ((k : Int) == 0) = false := by simpa using z
                have z1 : 1 ≤ k := by omega
                by_cases g1 : 48 ≤ (s[k]'hlt).toNat ∧ (s[k]'hlt).toNat ≤ 57
                · have OK := Lib.hid (okAt_digit (k := k) z1 g1.1 g1.2)
                  obtain ⟨g1a, g1b⟩ := g1
                  have l1d : decide ((97 : Int) ≤ ((s[k]'hlt).toNat : Int)) = true := by simpa using (by omega : (97 : Int) ≤ ((s[k]'hlt).toNat : Int))
                  have l2d : decide (((s[k]'hlt).toNat : Int) ≤ 122) = false := by simpa using (by omega : (122 : Int) < ((s[k]'hlt).toNat : Int))
                  have g1d : decide ((48 : Int) ≤ ((s[k]'hlt).toNat : Int)) = true := by simpa using (by omega : (48 : Int) ≤ ((s[k]'hlt).toNat : Int))
                  have g2d : decide (((s[k]'hlt).toNat : Int) ≤ 57) = true := by simpa using (by omega : ((s[k]'hlt).toNat : Int) ≤ 57)
                  clear z l1 l3 g1a g1b
                  go_wp2_with fail
                  all_goals exact ⟨⟨k + 1, rfl, hlt, by rw [HSUC.out, HF.out, OK.out]; rfl⟩, by simp; omega⟩
                · have OK := Lib.hid (okAt_bad (c := (s[k]'hlt).toNat) (k := k) (by omega) (Or.inr (by omega)))
                  by_cases g2 : 48 ≤ (s[k]'hlt).toNat
                  · skip
                    have l1d : decide ((97 : Int) ≤ ((s[k]'hlt).toNat : Int)) = true := by simpa using (by omega : (97 : Int) ≤ ((s[k]'hlt).toNat : Int))
                    have l2d : decide (((s[k]'hlt).toNat : Int) ≤ 122) = false := by simpa using (by omega : (122 : Int) < ((s[k]'hlt).toNat : Int))
                    have g1d : decide ((48 : Int) ≤ ((s[k]'hlt).toNat : Int)) = true := by simpa using (by omega : (48 : Int) ≤ ((s[k]'hlt).toNat : Int))
                    have g2d : decide (((s[k]'hlt).toNat : Int) ≤ 57) = false := by simpa using (by omega : (57 : Int) < ((s[k]'hlt).toNat : Int))
                    clear z l1 l3 g1 g2
                    go_wp2_with fail
                    all_goals go_ret
                    all_goals exact ⟨by rw [HNB.out, okB_false s (k + 1) s.size (by rw [HSUC.out, HF.out, OK.out]; rfl) hlt]; rfl, below_iter _ _ _⟩
                  · skip
                    have l1d : decide ((97 : Int) ≤ ((s[k]'hlt).toNat : Int)) = true := by simpa using (by omega : (97 : Int) ≤ ((s[k]'hlt).toNat : Int))
                    have l2d : decide (((s[k]'hlt).toNat : Int) ≤ 122) = false := by simpa using (by omega : (122 : Int) < ((s[k]'hlt).toNat : Int))
                    have g1d : decide ((48 : Int) ≤ ((s[k]'hlt).toNat : Int)) = false := by simpa using (by omega : ((s[k]'hlt).toNat : Int) < 48)
                    clear z l1 l3 g1 g2
                    go_wp2_with fail
                    all_goals go_ret
                    all_goals exact ⟨by rw [HNB.out, okB_false s (k + 1) s.size (by rw [HSUC.out, HF.out, OK.out]; rfl) hlt]; rfl, below_iter _ _ _⟩
            · skip
              by_cases z : k = 0
              · have OK := Lib.hid (okAt_bad (c := (s[k]'hlt).toNat) (k := k) (by omega) (Or.inl z))
                have l1d : decide ((97 : Int) ≤ ((s[k]'hlt).toNat : Int)) = false := by simpa using (by omega : ((s[k]'hlt).toNat : Int) < 97)
                have zb : ((k : Int) == 0) = true := by simp [z]
                clear l1 l3 z
                go_wp2_with fail
                all_goals go_ret
                all_goals exact ⟨by rw [HNB.out, okB_false s (k + 1) s.size (by rw [HSUC.out, HF.out, OK.out]; rfl) hlt]; rfl, below_iter _ _ _⟩
              · have zb : ((k : Int) == 0) = false := by simpa using z
                have z1 : 1 ≤ k := by omega
                by_cases g1 : 48 ≤ (s[k]'hlt).toNat ∧ (s[k]'hlt).toNat ≤ 57
                · have OK := Lib.hid (okAt_digit (k := k) z1 g1.1 g1.2)
                  obtain ⟨g1a, g1b⟩ := g1
                  have l1d : decide ((97 : Int) ≤ ((s[k]'hlt).toNat : Int)) = false := by simpa using (by omega : ((s[k]'hlt).toNat : Int) < 97)
                  have g1d : decide ((48 : Int) ≤ ((s[k]'hlt).toNat : Int)) = true := by simpa using (by omega : (48 : Int) ≤ ((s[k]'hlt).toNat : Int))
                  have g2d : decide (((s[k]'hlt).toNat : Int) ≤ 57) = true := by simpa using (by omega : ((s[k]'hlt).toNat : Int) ≤ 57)
                  clear z l1 l3 g1a g1b
                  go_wp2_with fail
                  all_goals exact ⟨⟨k + 1, rfl, hlt, by rw [HSUC.out, HF.out, OK.out]; rfl⟩, by simp; omega⟩
                · have OK := Lib.hid (okAt_bad (c := (s[k]'hlt).toNat) (k := k) (by omega) (Or.inr (by omega)))
                  by_cases g2 : 48 ≤ (s[k]'hlt).toNat
                  · skip
                    have l1d : decide ((97 : Int) ≤ ((s[k]'hlt).toNat : Int)) = false := by simpa using (by omega : ((s[k]'hlt).toNat : Int) < 97)
                    have g1d : decide ((48 : Int) ≤ ((s[k]'hlt).toNat : Int)) = true := by simpa using (by omega : (48 : Int) ≤ ((s[k]'hlt).toNat : Int))
                    have g2d : decide (((s[k]'hlt).toNat : Int) ≤ 57) = false := by simpa using (by omega : (57 : Int) < ((s[k]'hlt).toNat : Int))
                    clear z l1 l3 g1 g2
                    go_wp2_with fail
                    all_goals go_ret
                    all_goals exact ⟨by rw [HNB.out, okB_false s (k + 1) s.size (by rw [HSUC.out, HF.out, OK.out]; rfl) hlt]; rfl, below_iter _ _ _⟩
                  · skip
                    have l1d : decide ((97 : Int) ≤ ((s[k]'hlt).toNat : Int)) = false := by simpa using (by omega : ((s[k]'hlt).toNat : Int) < 97)
                    have g1d : decide ((48 : Int) ≤ ((s[k]'hlt).toNat : Int)) = false := by simpa using (by omega : ((s[k]'hlt).toNat : Int) < 48)
                    clear z l1 l3 g1 g2
                    go_wp2_with fail
                    all_goals go_ret
                    all_goals exact ⟨by rw [HNB.out, okB_false s (k + 1) s.size (by rw [HSUC.out, HF.out, OK.out]; rfl) hlt]; rfl, below_iter _ _ _⟩
        · have hnx : ∀ ty, (Instr.next (.pointer (some ⟨w.heap.size, 0, none⟩)) true ty).run Tryz.prog (w.iter s k) = _ := fun ty => run_next_any w s k ty hlt
          have hd := (decode_high s k hlt (by omega)).1
          have OK : Hid (okAt (s[k]'hlt).toNat k = false) := okAt_bad (by omega) (Or.inr (by omega))
          have m1 : decide ((97 : Int) ≤ ((Utf8.decode s k).1 : Int)) = true := by simpa using (by omega : (97 : Int) ≤ ((Utf8.decode s k).1 : Int))
          have m2 : decide (((Utf8.decode s k).1 : Int) ≤ 122) = false := by simpa using (by omega : (122 : Int) < ((Utf8.decode s k).1 : Int))
          have m3 : decide ((48 : Int) ≤ ((Utf8.decode s k).1 : Int)) = true := by simpa using (by omega : (48 : Int) ≤ ((Utf8.decode s k).1 : Int))
          have m4 : decide (((Utf8.decode s k).1 : Int) ≤ 57) = false := by simpa using (by omega : (57 : Int) < ((Utf8.decode s k).1 : Int))
          by_cases z : k = 0
          · have zb : ((k : Int) == 0) = true := by simp [z]
            clear z
            go_wp2_with fail
            go_ret
            exact ⟨by rw [HNB.out, okB_false s (k + 1) s.size (by rw [HSUC.out, HF.out, OK.out]; rfl) hlt]; rfl, below_iter _ _ _⟩
          · have zb : ((k : Int) == 0) = false := by simpa using z
            clear z
            go_wp2_with fail
            go_ret
            exact ⟨by rw [HNB.out, okB_false s (k + 1) s.size (by rw [HSUC.out, HF.out, OK.out]; rfl) hlt]; rfl, below_iter _ _ _⟩
      · have hnx : ∀ ty, (Instr.next (.pointer (some ⟨w.heap.size, 0, none⟩)) true ty).run Tryz.prog (w.iter s k) = _ := fun ty => run_next_end w s k ty hlt
        have hks : k = s.size := by omega
        have HK := Lib.hid hks
        clear hks
        go_wp2_with fail
        go_ret
        exact ⟨by rw [HNB.out, ← HK.out, HF.out]; rfl, below_iter _ _ _⟩
end Go.Proofs.YtimigpdbegfjaaaGreatDoor
/-
  Proved: impl.IsNote says whether a type's tree is a note; it leaves the memory that was there as it was.
-/
namespace Go.Proofs.YtimigpdbegfjaaaGreatDoor
open Go.RowKit

theorem within_note (t : Ty) : within t 15 5 = t.note := by
  have e1 : decide ((t.size : Int) ≤ 15) = decide (t.size ≤ 15) := decide_eq_decide.2 (by omega)
  have e2 : decide ((t.depth : Int) ≤ 5) = decide (t.depth ≤ 5) := decide_eq_decide.2 (by omega)
  unfold within Ty.note Ty.valid
  rw [e1, e2]
  by_cases h1 : t.size ≤ 15 <;> by_cases h2 : t.depth ≤ 5
  · have h3 : t.size ≤ 800 := by omega
    have h4 : t.depth ≤ 24 := by omega
    simp [h1, h2, h3, h4]
  · simp [h2]
  · simp [h1]
  · simp [h1]

set_option maxRecDepth 100000 in
set_option maxHeartbeats 1000000 in
theorem implNote (d : Nat) (v : Value) (t : Ty) (w : World) (h : TyAt w d v t) (hsz : t.size ≤ 1048577) :
    Calls Tryz.prog 82 #[v] w fun e w' => e = .returned (.bool t.note) ∧ Below w.heap.size w w' := by
  have HT := Lib.hid h
  obtain ⟨yk, ya, yn, yc, rfl⟩ := agg_parts h
  clear h
  have X : Hid (Below w.heap.size w ((w.alloc (.cells #[.int .i64 yk, .slice ya yn yc] 35)).alloc (.cells #[.int .i64 15] 3))) := ((Below.refl _ _).alloc (Nat.le_refl _) _).alloc (by simp) _
  go_enter Tryz.func82, Tryz.ntmps82
  go_wp2_with fail
  refine (implWithin w d _ t (w.heap.size + 1) 15 5 _ HT.out X.out (by omega) hsz (by simp) (by omega) (by omega) (by omega) (by omega) (by simp [go_sem]) (by simp [go_sem])).mono ?_
  intro e w' hend
  obtain ⟨r', rfl, hr, _⟩ := hend.room
  have HB := Lib.hid (X.out.trans (hr.2.2.1.mono (Nat.le_succ _)))
  clear hend hr
  go_wp2_with fail
  go_ret
  exact ⟨by rw [within_note]; rfl, HB.out⟩
end Go.Proofs.YtimigpdbegfjaaaGreatDoor
/-
  Proved: impl.EqualType says whether two trees are equal, and leaves the memory that was there as it was.
-/
namespace Go.Proofs.YtimigpdbegfjaaaGreatDoor
open Go.RowKit

set_option maxRecDepth 100000 in
set_option maxHeartbeats 2000000 in
theorem implEqual : ∀ (d : Nat) (v1 v2 : Value) (t1 t2 : Ty) (w : World), TyAt w d v1 t1 → TyAt w d v2 t2 →
    Calls Tryz.prog 83 #[v1, v2] w fun e w' => e = .returned (.bool (t1.beq t2)) ∧ Below w.heap.size w w'
  | 0, _, _, _, _, _, h, _ => h.elim
  | d + 1, v1, v2, .node k1 cs, .node k2 bs, w, h1, h2 => by
    have IH : Hid (∀ (v1 v2 : Value) (t1 t2 : Ty) (w : World), TyAt w d v1 t1 → TyAt w d v2 t2 → Calls Tryz.prog 83 #[v1, v2] w fun e w' => e = .returned (.bool (t1.beq t2)) ∧ Below w.heap.size w w') := implEqual d
    obtain ⟨s1, rfl, hk0, hk1, a1, cap1, rfl, hcap1, hm1, hat1⟩ := h1
    obtain ⟨s2, rfl, hk2, hk3, a2, cap2, rfl, hcap2, hm2, hat2⟩ := h2
    have HA1 := Lib.hid hat1; clear hat1
    have HA2 := Lib.hid hat2; clear hat2
    by_cases q1 : k1 = k2
    · subst q1
      by_cases q2 : bs.length = cs.length
      · have HFIN : Hid ((Ty.node k1 cs).beq (Ty.node k1 bs) = Ty.beqs cs bs) := by show _ = _; simp [Ty.beq]
        rw [q2]
        go_enter Tryz.func83, Tryz.ntmps83
        go_wp2_with fail
        go_loopw [23] (fun i wr => ∃ k : Nat, k ≤ cs.length ∧ i = .int .i64 k ∧ Ty.beqs (cs.take k) (bs.take k) = true ∧ Below (w.heap.size + 2) ((w.alloc (.cells #[.int .i64 k1, .slice a1 cs.length cap1] 35)).alloc (.cells #[.int .i64 k1, .slice a2 cs.length cap2] 35)) wr) (fun i _ => cs.length - (intOf i).toNat)
        case atStart => exact ⟨0, by omega, rfl, by simp [Ty.beqs], Below.refl _ _⟩
        case round =>
          obtain ⟨k, hk, rfl, hf, hb⟩ := hrel
          have HF := Lib.hid hf; clear hf
          have y1 := two_first hb 1
          have y2 := two_next hb 1
          have HB := Lib.hid (two_below hb)
          have HBX := Lib.hid hb; clear hb
          by_cases hlt : k < cs.length
          · have hlt2 : k < bs.length := by omega
            obtain ⟨b1, off1, x0, x1, rfl, hbl1, hc10, hc11, ht1⟩ := HA1.out k hlt
            obtain ⟨b2, off2, z0, z1, rfl, hbl2, hc20, hc21, ht2⟩ := HA2.out k hlt2
            have c10 : wr.cell? ⟨b1, off1 + k * 2, none⟩ = some x0 := by rw [HB.out.cell (p := ⟨b1, off1 + k * 2, none⟩) hbl1]; exact hc10
            have c11 : wr.cell? ⟨b1, off1 + k * 2 + 1, none⟩ = some x1 := by rw [HB.out.cell (p := ⟨b1, off1 + k * 2 + 1, none⟩) hbl1]; exact hc11
            have c20 : wr.cell? ⟨b2, off2 + k * 2, none⟩ = some z0 := by rw [HB.out.cell (p := ⟨b2, off2 + k * 2, none⟩) hbl2]; exact hc20
            have c21 : wr.cell? ⟨b2, off2 + k * 2 + 1, none⟩ = some z1 := by rw [HB.out.cell (p := ⟨b2, off2 + k * 2 + 1, none⟩) hbl2]; exact hc21
            have HT1 := Lib.hid (ht1.below HB.out.drew)
            have HT2 := Lib.hid (ht2.below HB.out.drew)
            clear ht1 ht2 hc10 hc11 hc20 hc21
            go_wp2_with fail
            go_still_tail 10, (by kernel_rfl)
            change wpList _ _ _ _ _ wr.drew
            go_wp2_with fail
            refine (IH.out _ _ _ _ wr.drew HT1.out HT2.out).mono ?_
            rintro e w' ⟨rfl, hb1⟩
            have HN := Lib.hid (two_on HBX.out.drew hb1); clear hb1
            have HTK := Lib.hid (Ty.beqs_take cs bs k hlt hlt2)
            cases hfk : cs[k].beq bs[k] with
            | true =>
              have HFK := Lib.hid hfk; clear hfk
              go_wp2_with fail
              exact ⟨⟨k + 1, by omega, by go_num, by rw [HTK.out, HF.out, HFK.out]; rfl, HN.out⟩, by simp [intOf]; omega⟩
            | false =>
              have HFK := Lib.hid hfk; clear hfk
              go_wp2_with fail
              go_ret
              have e : Ty.beqs cs bs = false := Ty.beqs_false cs bs (k + 1) (by rw [HTK.out, HF.out, HFK.out]; rfl) q2.symm
              exact ⟨by rw [HFIN.out, e]; rfl, two_below HN.out⟩
          · obtain rfl : k = cs.length := by omega
            have e : Hid (Ty.beqs cs bs = true) := by
              have := HF.out
              rw [List.take_length, ← q2, List.take_length] at this; exact this
            go_wp2_with fail
            go_ret
            exact ⟨by rw [HFIN.out, e.out]; rfl, HB.out⟩
      · have HFIN : Hid ((Ty.node k1 cs).beq (Ty.node k1 bs) = false) := by show _ = _; simp [Ty.beq, Ty.beqs_len cs bs (fun e => q2 e.symm)]
        have q3 : ¬ ((cs.length : Int) = (bs.length : Int)) := by omega
        go_enter Tryz.func83, Tryz.ntmps83
        go_wp2_with fail
        go_ret
        exact ⟨by rw [HFIN.out]; rfl, ((Below.refl _ _).alloc (Nat.le_refl _) _).alloc (by simp) _⟩
    · have HFIN : Hid ((Ty.node k1 cs).beq (Ty.node k2 bs) = false) := by show _ = _; simp [Ty.beq, q1]
      go_enter Tryz.func83, Tryz.ntmps83
      go_wp2_with fail
      go_ret
      exact ⟨by rw [HFIN.out]; rfl, ((Below.refl _ _).alloc (Nat.le_refl _) _).alloc (by simp) _⟩
end Go.Proofs.YtimigpdbegfjaaaGreatDoor
/-
  Proved: plain facts on ground types; the memory that was there stays as it was.
-/
namespace Go.Proofs.YtimigpdbegfjaaaGreatDoor
open Go.RowKit

/-- The ground type of a type's kind; the zero type for others. -/
def Ty.ground : Ty → Ty
  | .node k ts => if (Ty.node k ts).valid = true then (if k = 2 then .node 2 [] else if k = 3 then .node 3 [] else if k = 4 then .node 4 [.node 1 [], .node 1 []] else if k = 5 then .node 5 [.node 1 [], .node 1 []] else .node 0 []) else .node 0 []
theorem Ty.ground_size (t : Ty) : t.ground.size ≤ 3 := by
  cases t with
  | node k ts =>
    simp only [Ty.ground]
    (repeat' split) <;> decide
theorem own_zero (w : World) (d : Nat) (k : Int) (h0 : -9223372036854775808 ≤ k) (h1 : k ≤ 9223372036854775807) : TyOwn w (d + 1) (.agg #[.int .i64 k, .slice none 0 0]) (.node k []) [] :=
  ⟨_, rfl, h0, h1, none, 0, [], [], rfl, Nat.le_refl _, by omega, rfl, rfl, (fun b hb => by cases hb), fun j hj => by simp at hj⟩
end Go.Proofs.YtimigpdbegfjaaaGreatDoor
/-
  Proved: the table of arities reads as it is written while old memory stays.
-/
namespace Go.Proofs.YtimigpdbegfjaaaGreatDoor
open Go.RowKit

def TabAt (w : World) : Prop := Lib.TabIs Tryz.prog w "loop.example/g00585/impl.arities" .i64 arTab
theorem TabAt.below {w w' : World} (h : TabAt w) (hb : Below w.heap.size w w') : TabAt w' := Law.tab_below hb h
theorem implArityAt (n : Int) (w : World) (h : TabAt w) : Calls Tryz.prog 69 #[.int .i64 n] w fun e w' => e = .returned (.int .i64 (arity n)) ∧ Below w.heap.size w w' := implArity n w h
end Go.Proofs.YtimigpdbegfjaaaGreatDoor
/-
  Proved: impl.isNameFor, impl.isNumberFor, impl.isTypeFor and impl.isExprNode say whether the fields of a node belong to its kind; the memory that was there stays as it was.
-/
namespace Go.Proofs.YtimigpdbegfjaaaGreatDoor
open Go.RowKit

set_option maxRecDepth 100000 in
theorem implNameFor (k : Int) (nm : ByteArray) (w : World) (hs : nm.size ≤ 9223372036854775807) : Calls Tryz.prog 70 #[.int .i64 k, .string nm] w fun e w' => e = .returned (.bool (nameFor k nm)) ∧ Below w.heap.size w w' := by
  by_cases q2 : k = 2
  · subst q2
    go_enter Tryz.func70, Tryz.ntmps70
    go_wp2_with fail
    refine (implName nm _ hs).mono ?_
    rintro e w1 ⟨rfl, hb⟩
    go_wp2_with fail
    go_ret
    exact ⟨by simp [nameFor], hb⟩
  by_cases q3 : k = 3
  · subst q3
    go_enter Tryz.func70, Tryz.ntmps70
    go_wp2_with fail
    refine (implName nm _ hs).mono ?_
    rintro e w1 ⟨rfl, hb⟩
    go_wp2_with fail
    go_ret
    exact ⟨by simp [nameFor], hb⟩
  have z2 : (k == 2) = false := by simp [q2]
  have z3 : (k == 3) = false := by simp [q3]
  by_cases qz : nm.size = 0
  · have e1 := text_zero qz
    have HZ : Hid (nameFor k nm = true) := by show _ = _; simp [nameFor, q2, q3, qz]
    go_enter Tryz.func70, Tryz.ntmps70
    go_wp2_with fail
    go_ret
    exact ⟨by rw [HZ.out]; rfl, Below.refl _ _⟩
  · have e1 := toList_some (s := nm) (by omega)
    have HZ : Hid (nameFor k nm = false) := by show _ = _; simp [nameFor, q2, q3, qz]
    go_enter Tryz.func70, Tryz.ntmps70
    go_wp2_with fail
    go_ret
    exact ⟨by rw [HZ.out]; rfl, Below.refl _ _⟩
set_option maxRecDepth 100000 in
theorem implNumFor (k n : Int) (w : World) : Calls Tryz.prog 71 #[.int .i64 k, .int .i64 n] w fun e w' => e = .returned (.bool (numFor k n)) ∧ Below w.heap.size w w' := by
  by_cases q1 : k = 1
  · subst q1
    by_cases r1 : 1 ≤ n
    · by_cases r2 : n ≤ 99
      · go_enter Tryz.func71, Tryz.ntmps71
        go_wp2_with fail
        go_ret
        exact ⟨by first | (simp [numFor, *]; done) | (simp [numFor, *]; omega), Below.refl _ _⟩
      · go_enter Tryz.func71, Tryz.ntmps71
        go_wp2_with fail
        go_ret
        exact ⟨by first | (simp [numFor, *]; done) | (simp [numFor, *]; omega), Below.refl _ _⟩
    · go_enter Tryz.func71, Tryz.ntmps71
      go_wp2_with fail
      go_ret
      exact ⟨by first | (simp [numFor, *]; done) | (simp [numFor, *]; omega), Below.refl _ _⟩
  by_cases q14 : k = 14
  · subst q14
    by_cases r1 : 1 ≤ n
    · by_cases r2 : n ≤ 99
      · go_enter Tryz.func71, Tryz.ntmps71
        go_wp2_with fail
        go_ret
        exact ⟨by first | (simp [numFor, *]; done) | (simp [numFor, *]; omega), Below.refl _ _⟩
      · go_enter Tryz.func71, Tryz.ntmps71
        go_wp2_with fail
        go_ret
        exact ⟨by first | (simp [numFor, *]; done) | (simp [numFor, *]; omega), Below.refl _ _⟩
    · go_enter Tryz.func71, Tryz.ntmps71
      go_wp2_with fail
      go_ret
      exact ⟨by first | (simp [numFor, *]; done) | (simp [numFor, *]; omega), Below.refl _ _⟩
  by_cases q5 : k = 5
  · subst q5
    by_cases r1 : 0 ≤ n
    · by_cases r2 : n ≤ 999
      · go_enter Tryz.func71, Tryz.ntmps71
        go_wp2_with fail
        go_ret
        exact ⟨by first | (simp [numFor, *]; done) | (simp [numFor, *]; omega), Below.refl _ _⟩
      · go_enter Tryz.func71, Tryz.ntmps71
        go_wp2_with fail
        go_ret
        exact ⟨by first | (simp [numFor, *]; done) | (simp [numFor, *]; omega), Below.refl _ _⟩
    · go_enter Tryz.func71, Tryz.ntmps71
      go_wp2_with fail
      go_ret
      exact ⟨by first | (simp [numFor, *]; done) | (simp [numFor, *]; omega), Below.refl _ _⟩
  by_cases q8 : k = 8
  · subst q8
    by_cases r0 : n = 0
    · subst r0
      go_enter Tryz.func71, Tryz.ntmps71
      go_wp2_with fail
      go_ret
      exact ⟨by simp [numFor], Below.refl _ _⟩
    · have r0b : (n == 0) = false := by simp [r0]
      by_cases r1 : n = 1
      · subst r1
        go_enter Tryz.func71, Tryz.ntmps71
        go_wp2_with fail
        go_ret
        exact ⟨by simp [numFor], Below.refl _ _⟩
      · have r1b : (n == 1) = false := by simp [r1]
        go_enter Tryz.func71, Tryz.ntmps71
        go_wp2_with fail
        go_ret
        exact ⟨by simp [numFor]; omega, Below.refl _ _⟩
  by_cases r0 : n = 0
  · subst r0
    go_enter Tryz.func71, Tryz.ntmps71
    go_wp2_with fail
    go_ret
    exact ⟨by first | (simp [numFor, *]; done) | (simp [numFor, *]; omega), Below.refl _ _⟩
  · have r0b : (n == 0) = false := by simp [r0]
    go_enter Tryz.func71, Tryz.ntmps71
    go_wp2_with fail
    go_ret
    exact ⟨by first | (simp [numFor, *]; done) | (simp [numFor, *]; omega), Below.refl _ _⟩
set_option maxRecDepth 100000 in
theorem implTypeFor (d : Nat) (v : Value) (k : Int) (ty : Ty) (w : World) (h : TyAt w d v ty) (hsz : ty.size ≤ 1048577) : Calls Tryz.prog 72 #[.int .i64 k, v] w fun e w' => e = .returned (.bool (typeFor k ty)) ∧ Below w.heap.size w w' := by
  have HT := Lib.hid h
  obtain ⟨yk, ya, yn, yc, rfl⟩ := agg_parts h
  clear h
  have E0 := below_alloc w (.cells #[.int .i64 yk, .slice ya yn yc] 35)
  have HT0 := Lib.hid (HT.out.below E0)
  have HE := Lib.hid E0
  clear E0 HT
  by_cases q3 : k = 3
  · subst q3
    go_enter Tryz.func72, Tryz.ntmps72
    go_wp2_with fail
    refine (implNote d _ ty _ HT0.out hsz).mono ?_
    rintro e w1 ⟨rfl, hb⟩
    have HB := Lib.hid (below_thru HE.out (Nat.le_refl _) hb)
    clear hb
    go_wp2_with fail
    go_ret
    exact ⟨by simp [typeFor], HB.out⟩
  by_cases q13 : k = 13
  · subst q13
    go_enter Tryz.func72, Tryz.ntmps72
    go_wp2_with fail
    refine (implNote d _ ty _ HT0.out hsz).mono ?_
    rintro e w1 ⟨rfl, hb⟩
    have HB := Lib.hid (below_thru HE.out (Nat.le_refl _) hb)
    clear hb
    go_wp2_with fail
    go_ret
    exact ⟨by simp [typeFor], HB.out⟩
  have z3 : (k == 3) = false := by simp [q3]
  have z13 : (k == 13) = false := by simp [q13]
  have qf : typeFor k ty = ty.beq (.node 0 []) := by first | (simp [typeFor, *]; done) | (simp [typeFor, *]; omega)
  cases d with
  | zero => exact HT0.out.elim
  | succ d =>
  go_enter Tryz.func72, Tryz.ntmps72
  go_wp2_with fail
  refine (implEqual (d + 1) _ _ ty (.node 0 []) _ HT0.out (own_zero _ d 0 (by omega) (by omega)).at_).mono ?_
  rintro e w1 ⟨rfl, hb⟩
  have HB := Lib.hid (below_thru HE.out (Nat.le_refl _) hb)
  clear hb
  go_wp2_with fail
  go_ret
  exact ⟨by rw [qf]; rfl, HB.out⟩
end Go.Proofs.YtimigpdbegfjaaaGreatDoor
namespace Go.Proofs.YtimigpdbegfjaaaGreatDoor
open Go.RowKit

set_option maxRecDepth 100000 in
set_option maxHeartbeats 1000000 in
theorem implFits (d : Nat) (v : Value) (kd : Int) (nm : ByteArray) (n : Int) (ty : Ty) (es : List Ex) (w : World) (h : ExAt w (d + 1) v (.node kd nm n ty es)) (hsz : (Ex.node kd nm n ty es).bulk ≤ 1048576) (htab : TabAt w) :
    Calls Tryz.prog 60 #[v] w fun e w' => e = .returned (.bool (fitsB kd nm n ty es.length)) ∧ Below w.heap.size w w' := by
  have HV := ex_parts h
  obtain ⟨c3, c4, sl, rfl, hk0, hk1, hn0, hn1, hnm, hty, a, cap, rfl, hcap, hcap2, hat⟩ := h
  obtain ⟨k', nm', n', tk, ta, tn, tc, sa, sn, sc, hv⟩ := HV
  injection hv with hv
  injection hv with hv
  simp at hv
  obtain ⟨rfl, rfl, rfl, rfl, rfl, rfl, rfl, rfl⟩ := hv
  have HAT := Lib.hid hat; clear hat
  have hbk : (Ex.node kd nm n ty es).bulk = nm.size + (ty.size - 1) + Ex.bulks es := rfl
  have HSZ : Hid (Ex.bulks es ≤ 1048576) := by show _ ≤ _; omega
  have HNM : Hid (nm.size ≤ 1048576) := by show _ ≤ _; omega
  have HTZ : Hid (ty.size ≤ 1048577) := by show _ ≤ _; omega
  have hlen : es.length ≤ 1048576 := by have := Ex.length_le es; omega
  have HTY := Lib.hid hty
  clear hsz hbk hty
  clear HAT HSZ
  have HNS : Hid (nm.size ≤ 9223372036854775807) := by have := HNM.out; show _ ≤ _; omega
  obtain ⟨W, hW⟩ : ∃ W, W = w.alloc (.cells #[.int .i64 kd, .string nm, .int .i64 n, .int .i64 tk, .slice ta tn tc, .slice a es.length cap] 38) := ⟨_, rfl⟩
  have B : Hid (Below w.heap.size w W) := by rw [hW]; exact below_alloc _ _
  have HTYb := Lib.hid (HTY.out.below B.out)
  have HTAB := Lib.hid (htab.below B.out)
  clear HTY htab
  have XA : Hid (BoxAt W w.heap.size #[.int .i64 kd, .string nm, .int .i64 n, .int .i64 tk, .slice ta tn tc, .slice a es.length cap]) := by rw [hW]; exact BoxAt.new _ _ _
  have C1 : ∀ q : Grown W.heap.size W, Calls Tryz.prog 69 #[.int .i64 kd] q.val fun e w' => e = .returned (.int .i64 (arity kd)) ∧ Below q.val.heap.size q.val w' := fun q => implArityAt _ _ (HTAB.out.below q.old)
  have C2 : ∀ q : Grown W.heap.size W, Calls Tryz.prog 70 #[.int .i64 kd, .string nm] q.val fun e w' => e = .returned (.bool (nameFor kd nm)) ∧ Below q.val.heap.size q.val w' := fun q => implNameFor _ _ _ HNS.out
  have C3 : ∀ q : Grown W.heap.size W, Calls Tryz.prog 71 #[.int .i64 kd, .int .i64 n] q.val fun e w' => e = .returned (.bool (numFor kd n)) ∧ Below q.val.heap.size q.val w' := fun q => implNumFor _ _ _
  have C4 : ∀ q : Grown W.heap.size W, Calls Tryz.prog 72 #[.int .i64 kd, .agg #[.int .i64 tk, .slice ta tn tc]] q.val fun e w' => e = .returned (.bool (typeFor kd ty)) ∧ Below q.val.heap.size q.val w' := fun q => implTypeFor d _ _ ty _ (HTYb.out.below q.old) HTZ.out
  have hfit : fitsB kd nm n ty es.length = (decide ((es.length : Int) = arity kd) && (nameFor kd nm && (numFor kd n && typeFor kd ty))) := rfl
  generalize fitsB kd nm n ty es.length = m at hfit ⊢
  generalize arity kd = r at hfit C1
  generalize nameFor kd nm = bn at hfit C2
  generalize numFor kd n = bu at hfit C3
  generalize typeFor kd ty = bt at hfit C4
  have HM := Lib.hid hfit
  clear hfit
  go_enter Tryz.func60, Tryz.ntmps60
  go_wp2_with fail
  rw [← hW]
  clear hW
  have a0 : ∀ q : Grown W.heap.size W, q.val.cell? ⟨w.heap.size, 0, none⟩ = _ := fun q => (XA.out.grown q).2 0
  have a1 : ∀ q : Grown W.heap.size W, q.val.cell? ⟨w.heap.size, 1, none⟩ = _ := fun q => (XA.out.grown q).2 1
  have a2 : ∀ q : Grown W.heap.size W, q.val.cell? ⟨w.heap.size, 2, none⟩ = _ := fun q => (XA.out.grown q).2 2
  have a3 : ∀ q : Grown W.heap.size W, q.val.cell? ⟨w.heap.size, 3, none⟩ = _ := fun q => (XA.out.grown q).2 3
  have a4 : ∀ q : Grown W.heap.size W, q.val.cell? ⟨w.heap.size, 4, none⟩ = _ := fun q => (XA.out.grown q).2 4
  have a5 : ∀ q : Grown W.heap.size W, q.val.cell? ⟨w.heap.size, 5, none⟩ = _ := fun q => (XA.out.grown q).2 5
  clear XA HTYb HTAB
  by_cases qa : (es.length : Int) = r
  case neg =>
    have qb : ((es.length : Int) == r) = false := by simp [qa]
    refine wp_region_grown W.heap.size (by kernel_rfl) (by kernel_rfl) ?_
    repeat (go_big_quiet_step ((first | (go_at_call 69; exact grown_of (Nat.le_refl _) (C1 _)) | (go_at_call 70; exact grown_of (Nat.le_refl _) (C2 _)) | (go_at_call 71; exact grown_of (Nat.le_refl _) (C3 _)) | (go_at_call 72; exact grown_of (Nat.le_refl _) (C4 _)))))
    refine wpQuiet_nil ?_
    rintro _ ⟨⟨wq, hq⟩, rfl⟩
    go_wp2_with fail
    go_ret
    exact ⟨by rw [HM.out]; simp [*], below_thru B.out (Nat.le_of_eq rfl) hq⟩
  have qb : ((es.length : Int) == r) = true := by simp [qa]
  cases bn
  case false =>
    refine wp_region_grown W.heap.size (by kernel_rfl) (by kernel_rfl) ?_
    repeat (go_big_quiet_step ((first | (go_at_call 69; exact grown_of (Nat.le_refl _) (C1 _)) | (go_at_call 70; exact grown_of (Nat.le_refl _) (C2 _)) | (go_at_call 71; exact grown_of (Nat.le_refl _) (C3 _)) | (go_at_call 72; exact grown_of (Nat.le_refl _) (C4 _)))))
    refine wpQuiet_nil ?_
    rintro _ ⟨⟨wq, hq⟩, rfl⟩
    go_wp2_with fail
    go_ret
    exact ⟨by rw [HM.out]; simp [*], below_thru B.out (Nat.le_of_eq rfl) hq⟩
  cases bu
  case false =>
    refine wp_region_grown W.heap.size (by kernel_rfl) (by kernel_rfl) ?_
    repeat (go_big_quiet_step ((first | (go_at_call 69; exact grown_of (Nat.le_refl _) (C1 _)) | (go_at_call 70; exact grown_of (Nat.le_refl _) (C2 _)) | (go_at_call 71; exact grown_of (Nat.le_refl _) (C3 _)) | (go_at_call 72; exact grown_of (Nat.le_refl _) (C4 _)))))
    refine wpQuiet_nil ?_
    rintro _ ⟨⟨wq, hq⟩, rfl⟩
    go_wp2_with fail
    go_ret
    exact ⟨by rw [HM.out]; simp [*], below_thru B.out (Nat.le_of_eq rfl) hq⟩
  refine wp_region_grown W.heap.size (by kernel_rfl) (by kernel_rfl) ?_
  repeat (go_big_quiet_step ((first | (go_at_call 69; exact grown_of (Nat.le_refl _) (C1 _)) | (go_at_call 70; exact grown_of (Nat.le_refl _) (C2 _)) | (go_at_call 71; exact grown_of (Nat.le_refl _) (C3 _)) | (go_at_call 72; exact grown_of (Nat.le_refl _) (C4 _)))))
  refine wpQuiet_nil ?_
  rintro _ ⟨⟨wq, hq⟩, rfl⟩
  go_wp2_with fail
  go_ret
  exact ⟨by rw [HM.out]; simp [*], below_thru B.out (Nat.le_of_eq rfl) hq⟩
end Go.Proofs.YtimigpdbegfjaaaGreatDoor
