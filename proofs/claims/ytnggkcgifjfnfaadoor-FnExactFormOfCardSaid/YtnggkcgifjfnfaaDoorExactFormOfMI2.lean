/-
  Proved: impl.formOf and impl.FormOf give the form of a core expression: none, value or open; the memory that was there stays as it was.
-/
import Derived.Test.YtnggkcgifjfnfaaDoorCoFm
import Derived.Test.YtnggkcgifjfnfaaDoorExactFormOfMI1
import Derived.Test.YtnggkcgifjfnfaaDoorSzCore
import Derived.Test.YtnggkcgifjfnfaaDoorHold
import Derived.Test.YtnggkcgifjfnfaaDoorGrown
import Derived.Test.YtnggkcgifjfnfaaDoorCoLite
import Derived.Test.YtnggkcgifjfnfaaDoorSetAt
import Derived.Test.YtnggkcgifjfnfaaDoorName
import Derived.Laws.RangeAny
import Derived.Test.YtnggkcgifjfnfaaDoorCoForm
import Derived.Test.YtnggkcgifjfnfaaDoorCoreTab
import Derived.Test.YtnggkcgifjfnfaaDoorCoreArity
import Derived.Deep.RegionHeld3
import Derived.Test.YtnggkcgifjfnfaaDoorFmOf
/-
  Proved: impl.formOf, with what it calls, gives the form of a core expression of the right form: none, value or open; the memory that was there stays as it was.
-/
namespace Go.Proofs.YtnggkcgifjfnfaaDoor
open Go.RowKit

theorem ty_kd {w : World} {d : Nat} {k : Int} {c : Value} {t : Ty} (h : TyAt w d (.agg #[.int .i64 k, c]) t) : t.kd = k := by
  cases d with
  | zero => exact h.elim
  | succ d =>
    cases t with
    | node j ts =>
      obtain ⟨s, hs, _⟩ := h
      injection hs with hs
      injection hs with hs
      simp at hs
      exact hs.1.symm
def bits3 (a b c : Bool) : Int := (if a then 1 else 0) + (if b then 2 else 0) + (if c then 4 else 0)
theorem bits3_range (a b c : Bool) : bits3 a b c = 0 ∨ bits3 a b c = 1 ∨ bits3 a b c = 2 ∨ bits3 a b c = 3 ∨ bits3 a b c = 4 ∨ bits3 a b c = 5 ∨ bits3 a b c = 6 ∨ bits3 a b c = 7 := by
  cases a <;> cases b <;> cases c <;> simp [bits3]
/-- The bits of the forms on a list. -/
def bitsF (l : List Int) : Int := bits3 (hasF 0 l) (hasF 1 l) (hasF 2 l)
theorem bitsF_nil : bitsF [] = 0 := rfl
def orF (m f : Int) : Int := if f = 0 then (if m % 2 = 1 then m else m + 1) else if f = 1 then (if m / 2 % 2 = 1 then m else m + 2) else (if m / 4 % 2 = 1 then m else m + 4)
theorem bitsF_snoc (l : List Int) {f : Int} (h : f = 0 ∨ f = 1 ∨ f = 2) : bitsF (l ++ [f]) = orF (bitsF l) f := by
  unfold bitsF
  rw [hasF_append, hasF_append, hasF_append]
  generalize hasF 0 l = a
  generalize hasF 1 l = b
  generalize hasF 2 l = c
  rcases h with rfl | rfl | rfl <;> cases a <;> cases b <;> cases c <;> rfl
theorem bitsF_next {l : List Int} {m f m' : Int} (hm : m = bitsF l) (h : f = 0 ∨ f = 1 ∨ f = 2) (hm' : orF m f = m') : m' = bitsF (l ++ [f]) := by
  rw [bitsF_snoc l h, ← hm, hm']
theorem Co.fms_snoc (es : List Co) (k : Nat) (h : k < es.length) : Co.fms (es.take (k + 1)) = Co.fms (es.take k) ++ [es[k].fm] := by
  rw [List.take_succ_eq_append_getElem h, Co.fms_append]; rfl
theorem bitsF_none {l : List Int} {m : Int} (h : m = bitsF l) : (m % 2 = 1 ↔ hasF 0 l = true) := by
  subst h
  unfold bitsF
  cases hasF 0 l <;> cases hasF 1 l <;> cases hasF 2 l <;> simp [bits3]
theorem bitsF_open {l : List Int} {m : Int} (h : m = bitsF l) : (m / 4 % 2 = 1 ↔ hasF 2 l = true) := by
  subst h
  unfold bitsF
  cases hasF 0 l <;> cases hasF 1 l <;> cases hasF 2 l <;> simp [bits3]
theorem no_of {l : List Int} {m : Int} (h : m = bitsF l) (hm : m % 2 = 0) : hasF 0 l = false := by
  have := (bitsF_none h)
  cases e : hasF 0 l with
  | false => rfl
  | true => rw [e] at this; have := this.2 rfl; omega
theorem yes_of {l : List Int} {m : Int} (h : m = bitsF l) (hm : m % 2 = 1) : hasF 0 l = true := (bitsF_none h).1 hm
theorem allF_bits {l : List Int} {m : Int} (h : m = bitsF l) : allF l = if m % 2 = 1 then 0 else if m / 4 % 2 = 1 then 2 else 1 := by
  subst h
  unfold allF bitsF
  generalize hasF 0 l = a
  generalize hasF 1 l = b
  generalize hasF 2 l = c
  cases a <;> cases b <;> cases c <;> rfl
set_option maxRecDepth 100000 in
set_option maxHeartbeats 4000000 in
theorem implOpenIf (b : Bool) (w : World) : Calls Tryd.prog 42 #[.bool b] w fun e w' => e = .returned (.int .i64 (opn b)) ∧ w' = w := by
  cases b with
  | true =>
    go_enter Tryd.func42, Tryd.ntmps42
    go_wp2_with fail
    go_ret
    exact ⟨rfl, rfl⟩
  | false =>
    go_enter Tryd.func42, Tryd.ntmps42
    go_wp2_with fail
    go_ret
    exact ⟨rfl, rfl⟩
set_option maxRecDepth 100000 in
set_option maxHeartbeats 4000000 in
theorem implFormPair (m : Int) (h : m = 0 ∨ m = 1 ∨ m = 2 ∨ m = 3 ∨ m = 4 ∨ m = 5 ∨ m = 6 ∨ m = 7) (w : World) : Calls Tryd.prog 39 #[.int .i64 m] w fun e w' => e = .returned (.int .i64 (if m % 2 = 1 then 0 else if m / 4 % 2 = 1 then 2 else 1)) ∧ w' = w := by
  rcases h with rfl | rfl | rfl | rfl | rfl | rfl | rfl | rfl
  · go_enter Tryd.func39, Tryd.ntmps39
    go_wp2_with fail
    go_ret
    exact ⟨rfl, rfl⟩
  · go_enter Tryd.func39, Tryd.ntmps39
    go_wp2_with fail
    go_ret
    exact ⟨rfl, rfl⟩
  · go_enter Tryd.func39, Tryd.ntmps39
    go_wp2_with fail
    go_ret
    exact ⟨rfl, rfl⟩
  · go_enter Tryd.func39, Tryd.ntmps39
    go_wp2_with fail
    go_ret
    exact ⟨rfl, rfl⟩
  · go_enter Tryd.func39, Tryd.ntmps39
    go_wp2_with fail
    go_ret
    exact ⟨rfl, rfl⟩
  · go_enter Tryd.func39, Tryd.ntmps39
    go_wp2_with fail
    go_ret
    exact ⟨rfl, rfl⟩
  · go_enter Tryd.func39, Tryd.ntmps39
    go_wp2_with fail
    go_ret
    exact ⟨rfl, rfl⟩
  · go_enter Tryd.func39, Tryd.ntmps39
    go_wp2_with fail
    go_ret
    exact ⟨rfl, rfl⟩
set_option maxRecDepth 100000 in
set_option maxHeartbeats 4000000 in
theorem implCastWithin (d : Nat) (v : Value) (t : Co) (w : World) (h : PtrCo w d v t) (k : Int) : Calls Tryd.prog 44 #[v, .int .i64 k] w fun e w' => e = .returned (.bool (t.btw k)) ∧ w' = w := by
  cases d with
  | zero =>
    obtain ⟨_, _, _, _, _, _, _, _, _, _, _, _, _, _, _, _, _, _, _, _, _, _, h⟩ := h
    exact h.elim
  | succ d =>
  cases t with
  | node kd nm0 n0 fr ty es ns vs =>
    obtain ⟨pb, po, x0, x1, x2, x3, x4, x5, x6, x7, x8, rfl, hpl, k0, k1, k2, k3, k4, k5, k6, k7, k8, hco⟩ := h
    have HV := co_parts hco
    have HCO := Lib.hid hco
    obtain ⟨c3, c4, c5, c6, sl, el, hx, hk0, hk1, hn0, hn1, hnm, hfr, hty, ⟨a, cap, rfl, hcap, hcap2, hat⟩, hln, a2, cap2, rfl, hcpe, hcpe2, hae⟩ := hco
    injection hx with hx
    injection hx with hx
    simp at hx
    obtain ⟨rfl, rfl, rfl, rfl, rfl, rfl, rfl, rfl, rfl⟩ := hx
    obtain ⟨yk, ynm, yn, fk, fa, fn, fc, tk, ta, tn, tc, ya, ym, yc, za, zm, zc, hv⟩ := HV
    injection hv with hv
    injection hv with hv
    simp at hv
    obtain ⟨rfl, rfl, rfl, rfl, rfl, rfl, rfl, HVR⟩ := hv
    clear HVR
    have HAT := Lib.hid hat; clear hat
    have HAE := Lib.hid hae; clear hae
    have HLN := Lib.hid hln; clear hln
    have EFK := Lib.hid (ty_kd hfr)
    have ETK := Lib.hid (ty_kd hty)
    have HFR := Lib.hid hfr; clear hfr
    have HTY := Lib.hid hty; clear hty
    clear HAT HAE HLN HFR HTY HCO
    have K0 := Lib.hid k0
    have K1 := Lib.hid k1
    have K2 := Lib.hid k2
    have K3 := Lib.hid k3
    have K4 := Lib.hid k4
    have K5 := Lib.hid k5
    have K6 := Lib.hid k6
    have K7 := Lib.hid k7
    have K8 := Lib.hid k8
    clear k0 k1 k2 k3 k4 k5 k6 k7 k8
    by_cases q : kd = 14
    · have q1 : (kd == 14) = true := by simp [q]
      by_cases q3 : fk = k
      · have q4 : (fk == k) = true := by simp [q3]
        by_cases q5 : tk = k
        · have q6 : (tk == k) = true := by simp [q5]
          have HR : Hid ((Co.node kd nm0 n0 fr ty es ns vs).btw k = true) := by show _ = _; simp [Co.btw, EFK.out, ETK.out, q, q3, q5]
          have z0 := K0.out
          have z3 := K3.out
          have z5 := K5.out
          go_enter Tryd.func44, Tryd.ntmps44
          go_wp2_with fail
          go_ret
          exact ⟨by rw [HR.out]; rfl, rfl⟩
        · have q6 : (tk == k) = false := by simp [q5]
          have HR : Hid ((Co.node kd nm0 n0 fr ty es ns vs).btw k = false) := by show _ = _; simp [Co.btw, EFK.out, ETK.out, q5]
          have z0 := K0.out
          have z3 := K3.out
          have z5 := K5.out
          go_enter Tryd.func44, Tryd.ntmps44
          go_wp2_with fail
          go_ret
          exact ⟨by rw [HR.out]; rfl, rfl⟩
      · have q4 : (fk == k) = false := by simp [q3]
        have HR : Hid ((Co.node kd nm0 n0 fr ty es ns vs).btw k = false) := by show _ = _; simp [Co.btw, EFK.out, ETK.out, q3]
        have z0 := K0.out
        have z3 := K3.out
        have z5 := K5.out
        go_enter Tryd.func44, Tryd.ntmps44
        go_wp2_with fail
        go_ret
        exact ⟨by rw [HR.out]; rfl, rfl⟩
    · have q1 : (kd == 14) = false := by simp [q]
      have HR : Hid ((Co.node kd nm0 n0 fr ty es ns vs).btw k = false) := by show _ = _; simp [Co.btw, EFK.out, ETK.out, q]
      have z0 := K0.out
      have z3 := K3.out
      have z5 := K5.out
      go_enter Tryd.func44, Tryd.ntmps44
      go_wp2_with fail
      go_ret
      exact ⟨by rw [HR.out]; rfl, rfl⟩
end Go.Proofs.YtnggkcgifjfnfaaDoor
/-
  Proved: impl.formOf, with what it calls, gives the form of a core expression of the right form: none, value or open; the memory that was there stays as it was.
-/
namespace Go.Proofs.YtnggkcgifjfnfaaDoor
open Go.RowKit

set_option maxRecDepth 100000 in
set_option maxHeartbeats 8000000 in
theorem implKeeps (d : Nat) (v : Value) (nm0 : ByteArray) (n0 : Int) (fr ty : Ty) (es : List Co) (ns : List ByteArray) (vs : List Co) (w : World) (h : PtrCo w (d + 1) v (.node 14 nm0 n0 fr ty es ns vs)) (hv1 : ty.valid = true) (hsz : fr.size ≤ 1048577) :
    Calls Tryd.prog 63 #[v] w fun e w' => e = .returned (.bool ((btwT fr ty && !fr.beq ty) || boxT fr ty)) ∧ Below w.heap.size w w' := by
  have HP := Lib.hid h
  obtain ⟨pb, po, x0, x1, x2, x3, x4, x5, x6, x7, x8, rfl, hpl, k0, k1, k2, k3, k4, k5, k6, k7, k8, hco⟩ := h
  have HV := co_parts hco
  have HCO := Lib.hid hco
  obtain ⟨c3, c4, c5, c6, sl, el, hx, hk0, hk1, hn0, hn1, hnm, hfr, hty, ⟨a, cap, rfl, hcap, hcap2, hat⟩, hln, a2, cap2, rfl, hcpe, hcpe2, hae⟩ := hco
  injection hx with hx
  injection hx with hx
  simp at hx
  obtain ⟨rfl, rfl, rfl, rfl, rfl, rfl, rfl, rfl, rfl⟩ := hx
  obtain ⟨yk, ynm, yn, fk, fa, fn, fc, tk, ta, tn, tc, ya, ym, yc, za, zm, zc, hv⟩ := HV
  injection hv with hv
  injection hv with hv
  simp at hv
  obtain ⟨rfl, rfl, rfl, rfl, rfl, rfl, rfl, HVR⟩ := hv
  clear HVR
  have HAT := Lib.hid hat; clear hat
  have HAE := Lib.hid hae; clear hae
  have HLN := Lib.hid hln; clear hln
  have EFK := Lib.hid (ty_kd hfr)
  have ETK := Lib.hid (ty_kd hty)
  have HFR := Lib.hid hfr; clear hfr
  have HTY := Lib.hid hty; clear hty
  clear HAT HAE HLN HCO
  have K0 := Lib.hid k0
  have K1 := Lib.hid k1
  have K2 := Lib.hid k2
  have K3 := Lib.hid k3
  have K4 := Lib.hid k4
  have K5 := Lib.hid k5
  have K6 := Lib.hid k6
  have K7 := Lib.hid k7
  have K8 := Lib.hid k8
  clear k0 k1 k2 k3 k4 k5 k6 k7 k8
  have HBU := Lib.hid (beq_unknown hv1)
  clear hv1
  by_cases q : tk = 1
  · have q1 : (tk == 1) = true := by simp [q]
    have HR : Hid (((btwT fr ty && !fr.beq ty) || boxT fr ty) = (fr.valid && fr.beq fr.ground)) := by
      show _ = _
      have e1 : btwT fr ty = false := by simp [btwT, ETK.out, q]
      have e2 : ty.beq (.node 1 []) = true := by rw [HBU.out, ETK.out, decide_eq_true q]
      rw [e1, boxT, e2, Bool.and_true]; rfl
    have z3 := K3.out
    have z4 := K4.out
    have z5 := K5.out
    go_enter Tryd.func63, Tryd.ntmps63
    go_wp2_with fail
    refine (implIsGround d _ fr _ HFR.out hsz).mono ?_
    rintro e w1 ⟨rfl, hb⟩
    go_wp2_with fail
    go_ret
    exact ⟨by rw [HR.out]; rfl, hb⟩
  · have q1 : (tk == 1) = false := by simp [q]
    have e2 : ty.beq (.node 1 []) = false := by rw [HBU.out, ETK.out, decide_eq_false q]
    have HBX : Hid (boxT fr ty = false) := by show _ = _; rw [boxT, e2, Bool.and_false]
    clear e2
    obtain ⟨b4, h4⟩ : ∃ b, b = (Co.node 14 nm0 n0 fr ty es ns vs).btw 4 := ⟨_, rfl⟩
    obtain ⟨b5, h5⟩ : ∃ b, b = (Co.node 14 nm0 n0 fr ty es ns vs).btw 5 := ⟨_, rfl⟩
    obtain ⟨be, he⟩ : ∃ b, b = fr.beq ty := ⟨_, rfl⟩
    have HR : Hid (((btwT fr ty && !fr.beq ty) || boxT fr ty) = ((b4 || b5) && !be)) := by
      show _ = _
      rw [HBX.out, Bool.or_false, ← he, h4, h5]
      simp [btwT, Co.btw]
    have C4 : ∀ q : Grown w.heap.size w, Calls Tryd.prog 44 #[.pointer (some ⟨pb, po, none⟩), .int .i64 4] q.val fun e w' => e = .returned (.bool b4) ∧ Below q.val.heap.size q.val w' := fun q => (implCastWithin (d + 1) _ _ q.val (HP.out.below q.old) 4).mono fun e w' ⟨h1, h2⟩ => ⟨by rw [h1, h4], by rw [h2]; exact Below.refl _ _⟩
    have C5 : ∀ q : Grown w.heap.size w, Calls Tryd.prog 44 #[.pointer (some ⟨pb, po, none⟩), .int .i64 5] q.val fun e w' => e = .returned (.bool b5) ∧ Below q.val.heap.size q.val w' := fun q => (implCastWithin (d + 1) _ _ q.val (HP.out.below q.old) 5).mono fun e w' ⟨h1, h2⟩ => ⟨by rw [h1, h5], by rw [h2]; exact Below.refl _ _⟩
    have CE : ∀ q : Grown w.heap.size w, Calls Tryd.prog 83 #[.agg #[.int .i64 fk, .slice fa fn fc], .agg #[.int .i64 tk, .slice ta tn tc]] q.val fun e w' => e = .returned (.bool be) ∧ Below q.val.heap.size q.val w' := fun q => by rw [he]; exact implEqual d _ _ fr ty q.val (HFR.out.below q.old) (HTY.out.below q.old)
    have z5 := K5.out
    go_enter Tryd.func63, Tryd.ntmps63
    go_wp2_with fail
    have g3 : ∀ q : Grown w.heap.size w, q.val.cell? ⟨pb, po + 3, none⟩ = _ := fun q => (q.old.cell (p := ⟨pb, po + 3, none⟩) hpl).trans K3.out
    have g4 : ∀ q : Grown w.heap.size w, q.val.cell? ⟨pb, po + 4, none⟩ = _ := fun q => (q.old.cell (p := ⟨pb, po + 4, none⟩) hpl).trans K4.out
    have g5 : ∀ q : Grown w.heap.size w, q.val.cell? ⟨pb, po + 5, none⟩ = _ := fun q => (q.old.cell (p := ⟨pb, po + 5, none⟩) hpl).trans K5.out
    have g6 : ∀ q : Grown w.heap.size w, q.val.cell? ⟨pb, po + 6, none⟩ = _ := fun q => (q.old.cell (p := ⟨pb, po + 6, none⟩) hpl).trans K6.out
    clear h4 h5 he HP HFR HTY EFK ETK z5
    cases b4
    case false =>
      cases b5
      case false =>
        cases be
        case false =>
          refine wp_region_grown w.heap.size (by kernel_rfl) (by kernel_rfl) ?_
          repeat (go_big_quiet_step ((first | (go_at_call 44; first | with_reducible exact grown_of (Nat.le_refl _) (C4 _) | with_reducible exact grown_of (Nat.le_refl _) (C5 _)) | (go_at_call 83; exact grown_of (Nat.le_refl _) (CE _)))))
          refine wpQuiet_nil ?_
          rintro _ ⟨⟨wq, hq⟩, rfl⟩
          go_wp2_with fail
          go_ret
          exact ⟨by rw [HR.out]; rfl, hq⟩
        case true =>
          refine wp_region_grown w.heap.size (by kernel_rfl) (by kernel_rfl) ?_
          repeat (go_big_quiet_step ((first | (go_at_call 44; first | with_reducible exact grown_of (Nat.le_refl _) (C4 _) | with_reducible exact grown_of (Nat.le_refl _) (C5 _)) | (go_at_call 83; exact grown_of (Nat.le_refl _) (CE _)))))
          refine wpQuiet_nil ?_
          rintro _ ⟨⟨wq, hq⟩, rfl⟩
          go_wp2_with fail
          go_ret
          exact ⟨by rw [HR.out]; rfl, hq⟩
      case true =>
        cases be
        case false =>
          refine wp_region_grown w.heap.size (by kernel_rfl) (by kernel_rfl) ?_
          repeat (go_big_quiet_step ((first | (go_at_call 44; first | with_reducible exact grown_of (Nat.le_refl _) (C4 _) | with_reducible exact grown_of (Nat.le_refl _) (C5 _)) | (go_at_call 83; exact grown_of (Nat.le_refl _) (CE _)))))
          refine wpQuiet_nil ?_
          rintro _ ⟨⟨wq, hq⟩, rfl⟩
          go_wp2_with fail
          go_ret
          exact ⟨by rw [HR.out]; rfl, hq⟩
        case true =>
          refine wp_region_grown w.heap.size (by kernel_rfl) (by kernel_rfl) ?_
          repeat (go_big_quiet_step ((first | (go_at_call 44; first | with_reducible exact grown_of (Nat.le_refl _) (C4 _) | with_reducible exact grown_of (Nat.le_refl _) (C5 _)) | (go_at_call 83; exact grown_of (Nat.le_refl _) (CE _)))))
          refine wpQuiet_nil ?_
          rintro _ ⟨⟨wq, hq⟩, rfl⟩
          go_wp2_with fail
          go_ret
          exact ⟨by rw [HR.out]; rfl, hq⟩
    case true =>
      cases b5
      case false =>
        cases be
        case false =>
          refine wp_region_grown w.heap.size (by kernel_rfl) (by kernel_rfl) ?_
          repeat (go_big_quiet_step ((first | (go_at_call 44; first | with_reducible exact grown_of (Nat.le_refl _) (C4 _) | with_reducible exact grown_of (Nat.le_refl _) (C5 _)) | (go_at_call 83; exact grown_of (Nat.le_refl _) (CE _)))))
          refine wpQuiet_nil ?_
          rintro _ ⟨⟨wq, hq⟩, rfl⟩
          go_wp2_with fail
          go_ret
          exact ⟨by rw [HR.out]; rfl, hq⟩
        case true =>
          refine wp_region_grown w.heap.size (by kernel_rfl) (by kernel_rfl) ?_
          repeat (go_big_quiet_step ((first | (go_at_call 44; first | with_reducible exact grown_of (Nat.le_refl _) (C4 _) | with_reducible exact grown_of (Nat.le_refl _) (C5 _)) | (go_at_call 83; exact grown_of (Nat.le_refl _) (CE _)))))
          refine wpQuiet_nil ?_
          rintro _ ⟨⟨wq, hq⟩, rfl⟩
          go_wp2_with fail
          go_ret
          exact ⟨by rw [HR.out]; rfl, hq⟩
      case true =>
        cases be
        case false =>
          refine wp_region_grown w.heap.size (by kernel_rfl) (by kernel_rfl) ?_
          repeat (go_big_quiet_step ((first | (go_at_call 44; first | with_reducible exact grown_of (Nat.le_refl _) (C4 _) | with_reducible exact grown_of (Nat.le_refl _) (C5 _)) | (go_at_call 83; exact grown_of (Nat.le_refl _) (CE _)))))
          refine wpQuiet_nil ?_
          rintro _ ⟨⟨wq, hq⟩, rfl⟩
          go_wp2_with fail
          go_ret
          exact ⟨by rw [HR.out]; rfl, hq⟩
        case true =>
          refine wp_region_grown w.heap.size (by kernel_rfl) (by kernel_rfl) ?_
          repeat (go_big_quiet_step ((first | (go_at_call 44; first | with_reducible exact grown_of (Nat.le_refl _) (C4 _) | with_reducible exact grown_of (Nat.le_refl _) (C5 _)) | (go_at_call 83; exact grown_of (Nat.le_refl _) (CE _)))))
          refine wpQuiet_nil ?_
          rintro _ ⟨⟨wq, hq⟩, rfl⟩
          go_wp2_with fail
          go_ret
          exact ⟨by rw [HR.out]; rfl, hq⟩
end Go.Proofs.YtnggkcgifjfnfaaDoor
/-
  Proved: impl.formOf, with what it calls, gives the form of a core expression of the right form: none, value or open; the memory that was there stays as it was.
-/
namespace Go.Proofs.YtnggkcgifjfnfaaDoor
open Go.RowKit

set_option maxRecDepth 100000 in
set_option maxHeartbeats 8000000 in
theorem implFormsWithin (d : Nat) (IH : Hid (∀ (v : Value) (t : Co) (w : World), PtrCo w d v t → t.form = true → t.bulk ≤ 1048576 → Calls Tryd.prog 21 #[v] w fun e w' => e = .returned (.int .i64 t.fm) ∧ Below w.heap.size w w')) (v : Value) (kd : Int) (nm0 : ByteArray) (n0 : Int) (fr ty : Ty) (es : List Co) (ns : List ByteArray) (vs : List Co) (w : World) (h : PtrCo w (d + 1) v (.node kd nm0 n0 fr ty es ns vs)) (hform : Co.forms es = true ∧ Co.forms vs = true) (hsz : (Co.node kd nm0 n0 fr ty es ns vs).bulk ≤ 1048576) :
    Calls Tryd.prog 40 #[v] w fun e w' => ∃ m, e = .returned (.int .i64 m) ∧ m = bitsF (Co.fms es ++ Co.fms vs) ∧ Below w.heap.size w w' := by
  obtain ⟨pb, po, x0, x1, x2, x3, x4, x5, x6, x7, x8, rfl, hpl, k0, k1, k2, k3, k4, k5, k6, k7, k8, hco⟩ := h
  have HV := co_parts hco
  have HCO := Lib.hid hco
  obtain ⟨c3, c4, c5, c6, sl, el, hx, hk0, hk1, hn0, hn1, hnm, hfr, hty, ⟨a, cap, rfl, hcap, hcap2, hat⟩, hln, a2, cap2, rfl, hcpe, hcpe2, hae⟩ := hco
  injection hx with hx
  injection hx with hx
  simp at hx
  obtain ⟨rfl, rfl, rfl, rfl, rfl, rfl, rfl, rfl, rfl⟩ := hx
  obtain ⟨yk, ynm, yn, fk, fa, fn, fc, tk, ta, tn, tc, ya, ym, yc, za, zm, zc, hv⟩ := HV
  injection hv with hv
  injection hv with hv
  simp at hv
  obtain ⟨rfl, rfl, rfl, rfl, rfl, rfl, rfl, HVR⟩ := hv
  clear HVR
  have HAT := Lib.hid hat; clear hat
  have HAE := Lib.hid hae; clear hae
  have HLN := Lib.hid hln; clear hln
  have EFK := Lib.hid (ty_kd hfr)
  have ETK := Lib.hid (ty_kd hty)
  have HFR := Lib.hid hfr; clear hfr
  have HTY := Lib.hid hty; clear hty
  have hbk : (Co.node kd nm0 n0 fr ty es ns vs).bulk = nm0.size + (fr.size - 1) + (ty.size - 1) + Co.bulks es + (txs ns + Co.bulks vs) := rfl
  have HSZ : Hid (Co.bulks es + Co.bulks vs ≤ 1048576) := by show _ ≤ _; omega
  have hlen : es.length ≤ 1048576 := by have := Co.length_le es; omega
  have hlen2 : vs.length ≤ 1048576 := by have := Co.length_le vs; omega
  clear hsz hbk HFR HTY EFK ETK HCO
  have HFO := Lib.hid hform; clear hform
  have K0 := Lib.hid k0
  have K1 := Lib.hid k1
  have K2 := Lib.hid k2
  have K3 := Lib.hid k3
  have K4 := Lib.hid k4
  have K5 := Lib.hid k5
  have K6 := Lib.hid k6
  have K7 := Lib.hid k7
  have K8 := Lib.hid k8
  clear k0 k1 k2 k3 k4 k5 k6 k7 k8
  have z7 := K7.out
  have z8 := K8.out
  go_enter Tryd.func40, Tryd.ntmps40
  go_wp2_with fail
  clear z7 z8
  go_loopw [3, 11] (fun f i wr => ∃ (k : Nat) (m : Int), k ≤ es.length ∧ i = .int .i64 k ∧ f = .int .i64 m ∧ m = bitsF (Co.fms (es.take k)) ∧ Below w.heap.size w wr) (fun _ i _ => es.length - (intOf i).toNat)
  case atStart => exact ⟨0, 0, by omega, rfl, rfl, rfl, Below.refl _ _⟩
  case round =>
    obtain ⟨k, m, hk, rfl, rfl, hm, hb⟩ := hrel
    have HB := Lib.hid hb; clear hb
    have HM := Lib.hid hm
    have hrg : m = 0 ∨ m = 1 ∨ m = 2 ∨ m = 3 ∨ m = 4 ∨ m = 5 ∨ m = 6 ∨ m = 7 := by rw [hm]; exact bits3_range _ _ _
    clear hm
    have HS2 := HSZ.out
    have z7 := (HB.out.cell (p := ⟨pb, po + 7, none⟩) hpl).trans K7.out
    have z8 := (HB.out.cell (p := ⟨pb, po + 8, none⟩) hpl).trans K8.out
    by_cases hlt : k < es.length
    · obtain ⟨b, off, x0, x1, x2, x3, x4, x5, x6, x7, x8, rfl, hbl, hc0, hc1, hc2, hc3, hc4, hc5, hc6, hc7, hc8, ht⟩ := HAT.out k hlt
      have HP : Hid (PtrCo w d (.pointer (some ⟨b, off + k * 9, none⟩)) es[k]) := ⟨b, off + k * 9, _, _, _, _, _, _, _, _, _, rfl, hbl, hc0, hc1, hc2, hc3, hc4, hc5, hc6, hc7, hc8, ht⟩
      have HFK := Lib.hid (Co.forms_get es k hlt HFO.out.1)
      clear ht hc0 hc1 hc2 hc3 hc4 hc5 hc6 hc7 hc8
      have hg := Co.bulk_get es k hlt
      go_wp2_with fail
      refine (IH.out _ es[k] wr (HP.out.below HB.out) HFK.out (by omega)).mono ?_
      rintro e w1 ⟨rfl, hb1⟩
      have HN := Lib.hid (HB.out.trans (hb1.mono HB.out.size)); clear hb1 z7 z8
      have hfr := Co.fm_range es[k]
      have HTK := Lib.hid (Co.fms_snoc es k hlt)
      obtain ⟨x, hx⟩ : ∃ x, x = es[k].fm := ⟨_, rfl⟩
      rw [← hx] at hfr HTK
      rw [← hx]
      clear hx hg
      rcases hfr with rfl | rfl | rfl <;> rcases hrg with rfl | rfl | rfl | rfl | rfl | rfl | rfl | rfl
      all_goals
        go_wp2_with fail
        exact ⟨⟨k + 1, _, by omega, by go_num, rfl, by rw [HTK.out]; exact bitsF_next HM.out (by simp) rfl, HN.out⟩, by simp [intOf]; omega⟩
    · obtain rfl : k = es.length := by omega
      have HME : Hid (m = bitsF (Co.fms es)) := by have := HM.out; rw [List.take_length] at this; exact this
      clear hrg HM z7
      go_wp2_with fail
      clear z8
      go_loopw [3, 30] (fun f i wr => ∃ (k : Nat) (m : Int), k ≤ vs.length ∧ i = .int .i64 k ∧ f = .int .i64 m ∧ m = bitsF ((Co.fms es ++ Co.fms (vs.take k))) ∧ Below w.heap.size w wr) (fun _ i _ => vs.length - (intOf i).toNat)
      case atStart => exact ⟨0, m, by omega, rfl, rfl, by rw [List.take_zero]; show m = bitsF (Co.fms es ++ []); rw [List.append_nil]; exact HME.out, HB.out⟩
      case round =>
        obtain ⟨k, m, hk, rfl, rfl, hm, hb⟩ := hrel
        have HB := Lib.hid hb; clear hb
        have HM := Lib.hid hm
        have hrg : m = 0 ∨ m = 1 ∨ m = 2 ∨ m = 3 ∨ m = 4 ∨ m = 5 ∨ m = 6 ∨ m = 7 := by rw [hm]; exact bits3_range _ _ _
        clear hm
        have HS2 := HSZ.out
        have z7 := (HB.out.cell (p := ⟨pb, po + 7, none⟩) hpl).trans K7.out
        have z8 := (HB.out.cell (p := ⟨pb, po + 8, none⟩) hpl).trans K8.out
        by_cases hlt : k < vs.length
        · have hlt2 : k < ns.length := by have := HLN.out; omega
          obtain ⟨b, off, x0, x1, x2, x3, x4, x5, x6, x7, x8, rfl, hbl, hnz, hcn, hc0, hc1, hc2, hc3, hc4, hc5, hc6, hc7, hc8, ht⟩ := HAE.out k hlt hlt2
          have HP : Hid (PtrCo w d (.pointer (some ⟨b, off + k * 10 + 1, none⟩)) vs[k]) := ⟨b, off + k * 10 + 1, _, _, _, _, _, _, _, _, _, rfl, hbl, hc0, hc1, hc2, hc3, hc4, hc5, hc6, hc7, hc8, ht⟩
          have HFK := Lib.hid (Co.forms_get vs k hlt HFO.out.2)
          clear ht hc0 hc1 hc2 hc3 hc4 hc5 hc6 hc7 hc8 hcn hnz
          have hg := Co.bulk_get vs k hlt
          go_wp2_with fail
          refine (IH.out _ vs[k] wr (HP.out.below HB.out) HFK.out (by omega)).mono ?_
          rintro e w1 ⟨rfl, hb1⟩
          have HN := Lib.hid (HB.out.trans (hb1.mono HB.out.size)); clear hb1 z7 z8
          have hfr := Co.fm_range vs[k]
          have HTK := Lib.hid (Co.fms_snoc vs k hlt)
          obtain ⟨x, hx⟩ : ∃ x, x = vs[k].fm := ⟨_, rfl⟩
          rw [← hx] at hfr HTK
          rw [← hx]
          clear hx hg
          rcases hfr with rfl | rfl | rfl <;> rcases hrg with rfl | rfl | rfl | rfl | rfl | rfl | rfl | rfl
          all_goals
            go_wp2_with fail
            exact ⟨⟨k + 1, _, by omega, by go_num, rfl, by rw [HTK.out, ← List.append_assoc]; exact bitsF_next HM.out (by simp) rfl, HN.out⟩, by simp [intOf]; omega⟩
        · obtain rfl : k = vs.length := by omega
          have HME : Hid (m = bitsF (Co.fms es ++ Co.fms vs)) := by have := HM.out; rw [List.take_length] at this; exact this
          clear hrg
          go_wp2_with fail
          go_ret
          exact ⟨m, rfl, HME.out, HB.out⟩
end Go.Proofs.YtnggkcgifjfnfaaDoor
/-
  Proved: impl.formOf, with what it calls, gives the form of a core expression of the right form: none, value or open; the memory that was there stays as it was.
-/
namespace Go.Proofs.YtnggkcgifjfnfaaDoor
open Go.RowKit

set_option maxRecDepth 100000 in
set_option maxHeartbeats 4000000 in
theorem implFinal (d : Nat) (IH : Hid (∀ (v : Value) (t : Co) (w : World), PtrCo w d v t → t.form = true → t.bulk ≤ 1048576 → Calls Tryd.prog 21 #[v] w fun e w' => e = .returned (.int .i64 t.fm) ∧ Below w.heap.size w w')) (v : Value) (kd : Int) (nm0 : ByteArray) (n0 : Int) (fr ty : Ty) (es : List Co) (ns : List ByteArray) (vs : List Co) (w : World) (h : PtrCo w (d + 1) v (.node kd nm0 n0 fr ty es ns vs)) (hform : Co.forms es = true ∧ Co.forms vs = true) (hsz : (Co.node kd nm0 n0 fr ty es ns vs).bulk ≤ 1048576) :
    Calls Tryd.prog 43 #[v] w fun e w' => e = .returned (.bool (!hasF 0 (Co.fms es ++ Co.fms vs))) ∧ Below w.heap.size w w' := by
  have CW := Lib.hid (implFormsWithin d IH v kd nm0 n0 fr ty es ns vs w h hform hsz)
  obtain ⟨pb, po, rfl⟩ : ∃ pb po, v = .pointer (some ⟨pb, po, none⟩) := by
    obtain ⟨pb, po, _, _, _, _, _, _, _, _, _, rfl, _⟩ := h
    exact ⟨pb, po, rfl⟩
  clear h
  go_enter Tryd.func43, Tryd.ntmps43
  go_wp2_with fail
  refine CW.out.mono ?_
  rintro e w1 ⟨m, rfl, hm, hb⟩
  have HB := Lib.hid hb; clear hb
  have hrg : m = 0 ∨ m = 1 ∨ m = 2 ∨ m = 3 ∨ m = 4 ∨ m = 5 ∨ m = 6 ∨ m = 7 := by rw [hm]; exact bits3_range _ _ _
  have HM := Lib.hid hm; clear hm
  rcases hrg with rfl | rfl | rfl | rfl | rfl | rfl | rfl | rfl
  · have HR := Lib.hid (no_of HM.out rfl)
    go_wp2_with fail
    go_ret
    exact ⟨by rw [HR.out]; rfl, HB.out⟩
  · have HR := Lib.hid (yes_of HM.out rfl)
    go_wp2_with fail
    go_ret
    exact ⟨by rw [HR.out]; rfl, HB.out⟩
  · have HR := Lib.hid (no_of HM.out rfl)
    go_wp2_with fail
    go_ret
    exact ⟨by rw [HR.out]; rfl, HB.out⟩
  · have HR := Lib.hid (yes_of HM.out rfl)
    go_wp2_with fail
    go_ret
    exact ⟨by rw [HR.out]; rfl, HB.out⟩
  · have HR := Lib.hid (no_of HM.out rfl)
    go_wp2_with fail
    go_ret
    exact ⟨by rw [HR.out]; rfl, HB.out⟩
  · have HR := Lib.hid (yes_of HM.out rfl)
    go_wp2_with fail
    go_ret
    exact ⟨by rw [HR.out]; rfl, HB.out⟩
  · have HR := Lib.hid (no_of HM.out rfl)
    go_wp2_with fail
    go_ret
    exact ⟨by rw [HR.out]; rfl, HB.out⟩
  · have HR := Lib.hid (yes_of HM.out rfl)
    go_wp2_with fail
    go_ret
    exact ⟨by rw [HR.out]; rfl, HB.out⟩
set_option maxRecDepth 100000 in
set_option maxHeartbeats 8000000 in
theorem implFormCast (d : Nat) (IH : Hid (∀ (v : Value) (t : Co) (w : World), PtrCo w d v t → t.form = true → t.bulk ≤ 1048576 → Calls Tryd.prog 21 #[v] w fun e w' => e = .returned (.int .i64 t.fm) ∧ Below w.heap.size w w')) (v : Value) (nm0 : ByteArray) (n0 : Int) (fr ty : Ty) (a0 : Co) (ns : List ByteArray) (vs : List Co) (w : World) (h : PtrCo w (d + 1) v (.node 14 nm0 n0 fr ty [a0] ns vs)) (hform : a0.form = true) (hv1 : ty.valid = true) (hsz : (Co.node 14 nm0 n0 fr ty [a0] ns vs).bulk ≤ 1048576) :
    Calls Tryd.prog 41 #[v] w fun e w' => e = .returned (.int .i64 (castF fr ty a0.boxB a0.fm)) ∧ Below w.heap.size w w' := by
  have HP := Lib.hid h
  have hbk : (Co.node 14 nm0 n0 fr ty [a0] ns vs).bulk = nm0.size + (fr.size - 1) + (ty.size - 1) + (1 + a0.bulk + 0) + (txs ns + Co.bulks vs) := rfl
  have hfz : fr.size ≤ 1048577 := by omega
  have htz : ty.size ≤ 1048577 := by omega
  have haz : a0.bulk ≤ 1048576 := by omega
  clear hbk hsz
  obtain ⟨pb, po, x0, x1, x2, x3, x4, x5, x6, x7, x8, rfl, hpl, k0, k1, k2, k3, k4, k5, k6, k7, k8, hco⟩ := h
  have HV := co_parts hco
  have HCO := Lib.hid hco
  obtain ⟨c3, c4, c5, c6, sl, el, hx, hk0, hk1, hn0, hn1, hnm, hfr, hty, ⟨a, cap, rfl, hcap, hcap2, hat⟩, hln, a2, cap2, rfl, hcpe, hcpe2, hae⟩ := hco
  injection hx with hx
  injection hx with hx
  simp at hx
  obtain ⟨rfl, rfl, rfl, rfl, rfl, rfl, rfl, rfl, rfl⟩ := hx
  obtain ⟨yk, ynm, yn, fk, fa, fn, fc, tk, ta, tn, tc, ya, ym, yc, za, zm, zc, hv⟩ := HV
  injection hv with hv
  injection hv with hv
  simp at hv
  obtain ⟨rfl, rfl, rfl, rfl, rfl, rfl, rfl, HVR⟩ := hv
  clear HVR
  have HAT := Lib.hid hat; clear hat
  have HAE := Lib.hid hae; clear hae
  have HLN := Lib.hid hln; clear hln
  have EFK := Lib.hid (ty_kd hfr)
  have ETK := Lib.hid (ty_kd hty)
  have HFR := Lib.hid hfr; clear hfr
  have HTY := Lib.hid hty; clear hty
  clear HAE HLN HCO
  have K0 := Lib.hid k0
  have K1 := Lib.hid k1
  have K2 := Lib.hid k2
  have K3 := Lib.hid k3
  have K4 := Lib.hid k4
  have K5 := Lib.hid k5
  have K6 := Lib.hid k6
  have K7 := Lib.hid k7
  have K8 := Lib.hid k8
  clear k0 k1 k2 k3 k4 k5 k6 k7 k8
  obtain ⟨b, off, x0, x1, x2, x3, x4, x5, x6, x7, x8, rfl, hbl, hc0, hc1, hc2, hc3, hc4, hc5, hc6, hc7, hc8, ht⟩ := HAT.out 0 (by simp)
  simp only [Nat.zero_mul, Nat.add_zero, List.getElem_cons_zero] at hc0 hc1 hc2 hc3 hc4 hc5 hc6 hc7 hc8 ht
  have HP0 : Hid (PtrCo w d (.pointer (some ⟨b, off, none⟩)) a0) := ⟨b, off, _, _, _, _, _, _, _, _, _, rfl, hbl, hc0, hc1, hc2, hc3, hc4, hc5, hc6, hc7, hc8, ht⟩
  have HA0 := Lib.hid ht
  have E0 := Lib.hid hc0
  have E1 := Lib.hid hc1
  have E2 := Lib.hid hc2
  have E3 := Lib.hid hc3
  have E4 := Lib.hid hc4
  have E5 := Lib.hid hc5
  have E6 := Lib.hid hc6
  have E7 := Lib.hid hc7
  have E8 := Lib.hid hc8
  clear ht hc0 hc1 hc2 hc3 hc4 hc5 hc6 hc7 hc8 HAT
  have HKP : Hid (∀ W, Below w.heap.size w W → Calls Tryd.prog 63 #[.pointer (some ⟨pb, po, none⟩)] W fun e w' => e = .returned (.bool ((btwT fr ty && !fr.beq ty) || boxT fr ty)) ∧ Below W.heap.size W w') := fun W hW => implKeeps d _ nm0 n0 fr ty [a0] ns vs W (HP.out.below hW) hv1 hfz
  obtain ⟨rr, hrr⟩ : ∃ r, r = castF fr ty a0.boxB a0.fm := ⟨_, rfl⟩
  have HC0 : Hid (castF fr ty a0.boxB a0.fm = rr) := hrr.symm
  have HCF : Hid (rr = if ((btwT fr ty && !fr.beq ty) || boxT fr ty) then a0.fm else opn (decide (a0.fm = 2) && (decide (fr.kd = 1) && ((ty.valid && ty.beq ty.ground) && !a0.boxB)))) := hrr
  clear hrr
  have EF := EFK.out
  rw [EF] at HCF
  clear EF EFK ETK hv1 HP
  have hrg := Co.fm_range a0
  generalize ((btwT fr ty && !fr.beq ty) || boxT fr ty) = kp at HKP HCF
  have z7 := K7.out
  go_enter Tryd.func41, Tryd.ntmps41
  go_wp2_with fail
  clear z7
  refine (IH.out _ a0 w HP0.out hform haz).mono ?_
  rintro e w1 ⟨rfl, hb⟩
  have HB := Lib.hid hb; clear hb
  go_wp2_with fail
  refine (HKP.out w1 HB.out).mono ?_
  rintro e w2 ⟨rfl, hb⟩
  replace HB := Lib.hid (HB.out.trans (hb.mono HB.out.size)); clear hb
  cases kp with
  | true =>
    go_wp2_with fail
    go_ret
    exact ⟨by rw [HC0.out, HCF.out]; rfl, HB.out⟩
  | false =>
    have z3 := (HB.out.cell (p := ⟨pb, po + 3, none⟩) hpl).trans K3.out
    have z5 := (HB.out.cell (p := ⟨pb, po + 5, none⟩) hpl).trans K5.out
    have z6 := (HB.out.cell (p := ⟨pb, po + 6, none⟩) hpl).trans K6.out
    by_cases q : fk = 1
    · have q1 : (fk == 1) = true := by simp [q]
      have qd : decide (fk = 1) = true := decide_eq_true q
      rw [qd] at HCF
      clear qd
      go_wp2_with fail
      refine (implIsGround d _ ty _ (HTY.out.below HB.out) htz).mono ?_
      rintro e w3 ⟨rfl, hb⟩
      replace HB := Lib.hid (HB.out.trans (hb.mono HB.out.size)); clear hb z3 z5 z6
      generalize (ty.valid && ty.beq ty.ground) = gd at HCF ⊢
      cases gd with
      | false =>
        go_wp2_with fail
        go_ret
        exact ⟨by rw [HC0.out, HCF.out]; simp [opn], HB.out⟩
      | true =>
        have z7 := (HB.out.cell (p := ⟨pb, po + 7, none⟩) hpl).trans K7.out
        have y0 := (HB.out.cell (p := ⟨b, off, none⟩) hbl).trans E0.out
        have y1 := (HB.out.cell (p := ⟨b, off + 1, none⟩) hbl).trans E1.out
        have y2 := (HB.out.cell (p := ⟨b, off + 2, none⟩) hbl).trans E2.out
        have y3 := (HB.out.cell (p := ⟨b, off + 3, none⟩) hbl).trans E3.out
        have y4 := (HB.out.cell (p := ⟨b, off + 4, none⟩) hbl).trans E4.out
        have y5 := (HB.out.cell (p := ⟨b, off + 5, none⟩) hbl).trans E5.out
        have y6 := (HB.out.cell (p := ⟨b, off + 6, none⟩) hbl).trans E6.out
        have y7 := (HB.out.cell (p := ⟨b, off + 7, none⟩) hbl).trans E7.out
        have y8 := (HB.out.cell (p := ⟨b, off + 8, none⟩) hbl).trans E8.out
        obtain ⟨x, hx⟩ : ∃ x, x = a0.fm := ⟨_, rfl⟩
        rw [← hx] at hrg HCF
        rw [← hx]
        clear hx
        rcases hrg with rfl | rfl | rfl
        · go_wp2_with fail
          refine (implOpenIf _ _).mono ?_
          rintro e w' ⟨rfl, rfl⟩
          go_wp2_with fail
          go_ret
          exact ⟨by rw [HC0.out, HCF.out]; rfl, HB.out⟩
        · go_wp2_with fail
          refine (implOpenIf _ _).mono ?_
          rintro e w' ⟨rfl, rfl⟩
          go_wp2_with fail
          go_ret
          exact ⟨by rw [HC0.out, HCF.out]; rfl, HB.out⟩
        · go_wp2_with fail
          refine (implBoxed d _ a0 _ (HA0.out.below HB.out) haz).mono ?_
          rintro e w4 ⟨rfl, hb⟩
          replace HB := Lib.hid (HB.out.trans (hb.mono HB.out.size)); clear hb
          generalize a0.boxB = bx at HCF ⊢
          cases bx with
          | false =>
            go_wp2_with fail
            refine (implOpenIf _ _).mono ?_
            rintro e w' ⟨rfl, rfl⟩
            go_wp2_with fail
            go_ret
            exact ⟨by rw [HC0.out, HCF.out]; rfl, HB.out⟩
          | true =>
            go_wp2_with fail
            refine (implOpenIf _ _).mono ?_
            rintro e w' ⟨rfl, rfl⟩
            go_wp2_with fail
            go_ret
            exact ⟨by rw [HC0.out, HCF.out]; rfl, HB.out⟩
    · have q1 : (fk == 1) = false := by simp [q]
      have qd : decide (fk = 1) = false := decide_eq_false q
      rw [qd] at HCF
      go_wp2_with fail
      go_ret
      exact ⟨by rw [HC0.out, HCF.out]; simp [opn], HB.out⟩
end Go.Proofs.YtnggkcgifjfnfaaDoor
/-
  Proved: a look-up in a map that a call has made and uses as a set, behind '&&' or '||', where its guard wants it.
-/
namespace Go.Proofs.YtnggkcgifjfnfaaDoor
open Go.RowKit Go.Maps

theorem set_lookup_w {α : Type} {P : Program} {K E : TypeId} {lit : α → Lit} {b n : Nat} {f : α → Bool} {ops : Array Oper} {rest : List Oper} {o : Oper} {a : Act} {Q : Exit → Act → World → Prop} (w : World)
    (hw : Region.wanted o (yielded ops a.tmps) = true) (m x : Operand) (t : TypeId) (hop : o.op = Op.lookup t m x false)
    (KD : Keyed P K) (ht : P.underlying t = some (.map K E)) (he : P.underlying E = some .bool) (hz : (zeroValue E).run P w = .ok (.bool false) w)
    (hm : a.eval m = .map (some b)) (hown : SetAt P K E lit w b n f) (key : Value) (s : α) (hx : a.eval x = key) (hkey : keyOf P K key = some (lit s))
    (hK : wpList P ops Q rest (a.put o.dst (.bool (f s))) w) :
    wpList P ops Q (o :: rest) a w := by
  refine wpList_step fun K' hK' => ?_
  rw [if_pos hw]
  obtain ⟨D, hown, hat⟩ := hown
  obtain ⟨v, ps, hrun, hv⟩ := hown.lookup KD ht hz (plainElem_bool he false) hkey
  obtain ⟨c, rfl, hc⟩ := plainElem_bool_inv he hv
  simp only [Prod.mk.injEq] at hc
  obtain rfl : c = f s := by
    have := (hat s).symm.trans hc.1
    injection this with this
    injection this with this
    exact this.symm
  unfold Oper.wp
  simp [execOp, hop, hm, hx, hrun, Result.andThen]
  exact hK' _ _ hK
end Go.Proofs.YtnggkcgifjfnfaaDoor
/-
  Proved: impl.isWord says whether a text is one of the three words; the memory that was there stays as it was.
-/
namespace Go.Proofs.YtnggkcgifjfnfaaDoor
open Go.RowKit

set_option maxRecDepth 100000 in
theorem implWord (s : ByteArray) (w : World) : Calls Tryd.prog 96 #[.string s] w fun e w' => e = .returned (.bool (wordB s)) ∧ w = w' := by
  cases h1 : (s.toList == [105, 102]) with
  | true =>
    go_enter Tryd.func96, Tryd.ntmps96
    go_wp2_with fail
    go_ret
    exact ⟨by simp [wordB, h1], rfl⟩
  | false =>
    cases h2 : (s.toList == [102, 115, 116]) with
    | true =>
      go_enter Tryd.func96, Tryd.ntmps96
      go_wp2_with fail
      go_ret
      exact ⟨by simp [wordB, h1, h2], rfl⟩
    | false =>
      cases h3 : (s.toList == [115, 110, 100]) with
      | true =>
        go_enter Tryd.func96, Tryd.ntmps96
        go_wp2_with fail
        go_ret
        exact ⟨by simp [wordB, h1, h2, h3], rfl⟩
      | false =>
        go_enter Tryd.func96, Tryd.ntmps96
        go_wp2_with fail
        go_ret
        exact ⟨by simp [wordB, h1, h2, h3], rfl⟩
end Go.Proofs.YtnggkcgifjfnfaaDoor
/-
  Proved: impl.IsName says whether a text is a name; the memory that was there stays as it was.
-/
namespace Go.Proofs.YtnggkcgifjfnfaaDoor
open Go.RowKit

theorem below_iter (w : World) (s : ByteArray) (k : Nat) : Below w.heap.size w (w.iter s k) := (Below.refl _ _).alloc (Nat.le_refl _) _
set_option maxRecDepth 100000 in
set_option maxHeartbeats 4000000 in
theorem implName (s : ByteArray) (w : World) (hs : s.size ≤ 9223372036854775807) : Calls Tryd.prog 80 #[.string s] w fun e w' => e = .returned (.bool (nameB s)) ∧ Below w.heap.size w w' := by
  by_cases r1 : 1 ≤ s.size
  case neg =>
    have hz : s.size = 0 := by omega
    have hl : s.toList = [] := List.eq_nil_of_length_eq_zero (by rw [size_of_toList]; exact hz)
    have h1 : (s.toList == []) = true := by rw [hl]; rfl
    have h2 : s.toList.isEmpty = true := by rw [hl]; rfl
    have HR := Lib.hid r1
    clear hz hl r1
    go_enter Tryd.func80, Tryd.ntmps80
    go_wp2_with fail
    go_ret
    exact ⟨by simp [nameB, HR.out], Below.refl _ _⟩
  have h1 : (s.toList == []) = false := toList_some r1
  have h2 : s.toList.isEmpty = false := by cases hh : s.toList with | nil => rw [hh] at h1; cases h1 | cons a r => rfl
  by_cases r2 : s.size ≤ 5
  case neg =>
    have i2 : (5 : Int) < (s.size : Int) := by omega
    go_enter Tryd.func80, Tryd.ntmps80
    go_wp2_with fail
    go_ret
    exact ⟨by simp [nameB, r2], Below.refl _ _⟩
  have i2 : ¬ ((5 : Int) < (s.size : Int)) := by omega
  cases hw : wordB s with
  | true =>
    go_enter Tryd.func80, Tryd.ntmps80
    go_wp2_with fail
    refine (implWord s w).mono ?_
    rintro e w1 ⟨rfl, rfl⟩
    go_wp2_with fail
    go_ret
    exact ⟨by simp [nameB, hw], Below.refl _ _⟩
  | false =>
    have HNB : Hid (nameB s = okB s s.size) := by show _ = _; simp [nameB, hw, r1, r2]
    go_enter Tryd.func80, Tryd.ntmps80
    go_wp2_with fail
    refine (implWord s w).mono ?_
    rintro e w1 ⟨rfl, rfl⟩
    go_wp2_with fail
    go_loopw [3] (fun _ wr => ∃ k : Nat, wr = w.iter s k ∧ k ≤ s.size ∧ okB s k = true) (fun _ wr => s.size - wr.iterPos w.heap.size)
    case atStart => exact ⟨0, rfl, by omega, rfl⟩
    case round =>
      obtain ⟨k, rfl, hk, hf⟩ := hrel
      have HF := Lib.hid hf; clear hf
      by_cases hlt : k < s.size
      · have HSUC := Lib.hid (okB_succ s k hlt)
        by_cases hasc : (s[k]'hlt).toNat < 128
        · have hnx : ∀ ty, (Instr.next (.pointer (some ⟨w.heap.size, 0, none⟩)) true ty).run Tryd.prog (w.iter s k) = _ := fun ty => run_next_ascii w s k ty hlt hasc
          by_cases l1 : 97 ≤ (s[k]'hlt).toNat ∧ (s[k]'hlt).toNat ≤ 122
          · have OK := Lib.hid (okAt_letter (k := k) l1.1 l1.2)
            obtain ⟨l1a, l1b⟩ := l1
            have l1d : decide ((97 : Int) ≤ ((s[k]'hlt).toNat : Int)) = true := by simpa using (by omega : (97 : Int) ≤ ((s[k]'hlt).toNat : Int))
            have l2d : decide (((s[k]'hlt).toNat : Int) ≤ 122) = true := by simpa using (by omega : ((s[k]'hlt).toNat : Int) ≤ 122)
            clear l1a l1b
            go_wp2_with fail
            all_goals exact ⟨⟨k + 1, rfl, hlt, by rw [HSUC.out, HF.out, OK.out]; rfl⟩, by simp; omega⟩
          · by_cases l3 : 97 ≤ (s[k]'hlt).toNat
            · skip
              by_cases z : k = 0
              · have OK := Lib.hid (okAt_bad (c := (s[k]'hlt).toNat) (k := k) (by omega) (Or.inl z))
                have l1d : decide ((97 : Int) ≤ ((s[k]'hlt).toNat : Int)) = true := by simpa using (by omega : (97 : Int) ≤ ((s[k]'hlt).toNat : Int))
                have l2d : decide (((s[k]'hlt).toNat : Int) ≤ 122) = false := by simpa using (by omega : (122 : Int) < ((s[k]'hlt).toNat : Int))
                have zb : ((k : Int) == 0) = true := by simp [z]
                clear l1 l3 z
                go_wp2_with fail
                all_goals go_ret
                all_goals exact ⟨by rw [HNB.out, okB_false s (k + 1) s.size (by rw [HSUC.out, HF.out, OK.out]; rfl) hlt]; rfl, below_iter _ _ _⟩
              · have zb : ((k : Int) == 0) = false := by simpa using z
                have z1 : 1 ≤ k := by omega
                by_cases g1 : 48 ≤ (s[k]'hlt).toNat ∧ (s[k]'hlt).toNat ≤ 57
                · have OK := Lib.hid (okAt_digit (k := k) z1 g1.1 g1.2)
                  obtain ⟨g1a, g1b⟩ := g1
                  have l1d : decide ((97 : Int) ≤ ((s[k]'hlt).toNat : Int)) = true := by simpa using (by omega : (97 : Int) ≤ ((s[k]'hlt).toNat : Int))
                  have l2d : decide (((s[k]'hlt).toNat : Int) ≤ 122) = false := by simpa using (by omega : (122 : Int) < ((s[k]'hlt).toNat : Int))
                  have g1d : decide ((48 : Int) ≤ ((s[k]'hlt).toNat : Int)) = true := by simpa using (by omega : (48 : Int) ≤ ((s[k]'hlt).toNat : Int))
                  have g2d : decide (((s[k]'hlt).toNat : Int) ≤ 57) = true := by simpa using (by omega : ((s[k]'hlt).toNat : Int) ≤ 57)
                  clear z l1 l3 g1a g1b
                  go_wp2_with fail
                  all_goals exact ⟨⟨k + 1, rfl, hlt, by rw [HSUC.out, HF.out, OK.out]; rfl⟩, by simp; omega⟩
                · have OK := Lib.hid (okAt_bad (c := (s[k]'hlt).toNat) (k := k) (by omega) (Or.inr (by omega)))
                  by_cases g2 : 48 ≤ (s[k]'hlt).toNat
                  · skip
                    have l1d : decide ((97 : Int) ≤ ((s[k]'hlt).toNat : Int)) = true := by simpa using (by omega : (97 : Int) ≤ ((s[k]'hlt).toNat : Int))
                    have l2d : decide (((s[k]'hlt).toNat : Int) ≤ 122) = false := by simpa using (by omega : (122 : Int) < ((s[k]'hlt).toNat : Int))
                    have g1d : decide ((48 : Int) ≤ ((s[k]'hlt).toNat : Int)) = true := by simpa using (by omega : (48 : Int) ≤ ((s[k]'hlt).toNat : Int))
                    have g2d : decide (((s[k]'hlt).toNat : Int) ≤ 57) = false := by simpa using (by omega : (57 : Int) < ((s[k]'hlt).toNat : Int))
                    clear z l1 l3 g1 g2
                    go_wp2_with fail
                    all_goals go_ret
                    all_goals exact ⟨by rw [HNB.out, okB_false s (k + 1) s.size (by rw [HSUC.out, HF.out, OK.out]; rfl) hlt]; rfl, below_iter _ _ _⟩
                  · skip
                    have l1d : decide ((97 : Int) ≤ ((s[k]'hlt).toNat : Int)) = true := by simpa using (by omega : (97 : Int) ≤ ((s[k]'hlt).toNat : Int))
                    have l2d : decide (((s[k]'hlt).toNat : Int) ≤ 122) = false := by simpa using (by omega : (122 : Int) < ((s[k]'hlt).toNat : Int))
                    have g1d : decide ((48 : Int) ≤ ((s[k]'hlt).toNat : Int)) = false := by simpa using (by omega : ((s[k]'hlt).toNat : Int) < 48)
                    clear z l1 l3 g1 g2
                    go_wp2_with fail
                    all_goals go_ret
                    all_goals exact ⟨by rw [HNB.out, okB_false s (k + 1) s.size (by rw [HSUC.out, HF.out, OK.out]; rfl) hlt]; rfl, below_iter _ _ _⟩
            · skip
              by_cases z : k = 0
              · have OK := Lib.hid (okAt_bad (c := (s[k]'hlt).toNat) (k := k) (by omega) (Or.inl z))
                have l1d : decide ((97 : Int) ≤ ((s[k]'hlt).toNat : Int)) = false := by simpa using (by omega : ((s[k]'hlt).toNat : Int) < 97)
                have zb : ((k : Int) == 0) = true := by simp [z]
                clear l1 l3 z
                go_wp2_with fail
                all_goals go_ret
                all_goals exact ⟨by rw [HNB.out, okB_false s (k + 1) s.size (by rw [HSUC.out, HF.out, OK.out]; rfl) hlt]; rfl, below_iter _ _ _⟩
              · have zb : ((k : Int) == 0) = false := by simpa using z
                have z1 : 1 ≤ k := by omega
                by_cases g1 : 48 ≤ (s[k]'hlt).toNat ∧ (s[k]'hlt).toNat ≤ 57
                · have OK := Lib.hid (okAt_digit (k := k) z1 g1.1 g1.2)
                  obtain ⟨g1a, g1b⟩ := g1
                  have l1d : decide ((97 : Int) ≤ ((s[k]'hlt).toNat : Int)) = false := by simpa using (by omega : ((s[k]'hlt).toNat : Int) < 97)
                  have g1d : decide ((48 : Int) ≤ ((s[k]'hlt).toNat : Int)) = true := by simpa using (by omega : (48 : Int) ≤ ((s[k]'hlt).toNat : Int))
                  have g2d : decide (((s[k]'hlt).toNat : Int) ≤ 57) = true := by simpa using (by omega : ((s[k]'hlt).toNat : Int) ≤ 57)
                  clear z l1 l3 g1a g1b
                  go_wp2_with fail
                  all_goals exact ⟨⟨k + 1, rfl, hlt, by rw [HSUC.out, HF.out, OK.out]; rfl⟩, by simp; omega⟩
                · have OK := Lib.hid (okAt_bad (c := (s[k]'hlt).toNat) (k := k) (by omega) (Or.inr (by omega)))
                  by_cases g2 : 48 ≤ (s[k]'hlt).toNat
                  · skip
                    have l1d : decide ((97 : Int) ≤ ((s[k]'hlt).toNat : Int)) = false := by simpa using (by omega : ((s[k]'hlt).toNat : Int) < 97)
                    have g1d : decide ((48 : Int) ≤ ((s[k]'hlt).toNat : Int)) = true := by simpa using (by omega : (48 : Int) ≤ ((s[k]'hlt).toNat : Int))
                    have g2d : decide (((s[k]'hlt).toNat : Int) ≤ 57) = false := by simpa using (by omega : (57 : Int) < ((s[k]'hlt).toNat : Int))
                    clear z l1 l3 g1 g2
                    go_wp2_with fail
                    all_goals go_ret
                    all_goals exact ⟨by rw [HNB.out, okB_false s (k + 1) s.size (by rw [HSUC.out, HF.out, OK.out]; rfl) hlt]; rfl, below_iter _ _ _⟩
                  · skip
                    have l1d : decide ((97 : Int) ≤ ((s[k]'hlt).toNat : Int)) = false := by simpa using (by omega : ((s[k]'hlt).toNat : Int) < 97)
                    have g1d : decide ((48 : Int) ≤ ((s[k]'hlt).toNat : Int)) = false := by simpa using (by omega : ((s[k]'hlt).toNat : Int) < 48)
                    clear z l1 l3 g1 g2
                    go_wp2_with fail
                    all_goals go_ret
                    all_goals exact ⟨by rw [HNB.out, okB_false s (k + 1) s.size (by rw [HSUC.out, HF.out, OK.out]; rfl) hlt]; rfl, below_iter _ _ _⟩
        · have hnx : ∀ ty, (Instr.next (.pointer (some ⟨w.heap.size, 0, none⟩)) true ty).run Tryd.prog (w.iter s k) = _ := fun ty => run_next_any w s k ty hlt
          have hd := (decode_high s k hlt (by omega)).1
          have OK : Hid (okAt (s[k]'hlt).toNat k = false) := okAt_bad (by omega) (Or.inr (by omega))
          have m1 : decide ((97 : Int) ≤ ((Utf8.decode s k).1 : Int)) = true := by simpa using (by omega : (97 : Int) ≤ ((Utf8.decode s k).1 : Int))
          have m2 : decide (((Utf8.decode s k).1 : Int) ≤ 122) = false := by simpa using (by omega : (122 : Int) < ((Utf8.decode s k).1 : Int))
          have m3 : decide ((48 : Int) ≤ ((Utf8.decode s k).1 : Int)) = true := by simpa using (by omega : (48 : Int) ≤ ((Utf8.decode s k).1 : Int))
          have m4 : decide (((Utf8.decode s k).1 : Int) ≤ 57) = false := by simpa using (by omega : (57 : Int) < ((Utf8.decode s k).1 : Int))
          by_cases z : k = 0
          · have zb : ((k : Int) == 0) = true := by simp [z]
            clear z
            go_wp2_with fail
            go_ret
            exact ⟨by rw [HNB.out, okB_false s (k + 1) s.size (by rw [HSUC.out, HF.out, OK.out]; rfl) hlt]; rfl, below_iter _ _ _⟩
          · have zb : ((k : Int) == 0) = false := by simpa using z
            clear z
            go_wp2_with fail
            go_ret
            exact ⟨by rw [HNB.out, okB_false s (k + 1) s.size (by rw [HSUC.out, HF.out, OK.out]; rfl) hlt]; rfl, below_iter _ _ _⟩
      · have hnx : ∀ ty, (Instr.next (.pointer (some ⟨w.heap.size, 0, none⟩)) true ty).run Tryd.prog (w.iter s k) = _ := fun ty => run_next_end w s k ty hlt
        have hks : k = s.size := by omega
        have HK := Lib.hid hks
        clear hks
        go_wp2_with fail
        go_ret
        exact ⟨by rw [HNB.out, ← HK.out, HF.out]; rfl, below_iter _ _ _⟩
end Go.Proofs.YtnggkcgifjfnfaaDoor
/-
  Proved: impl.isCoreNumberFor, impl.isCoreTypeIf and impl.hasOwnNames say whether the number, a type and the names of an environment belong to a node; the memory that was there stays as it was.
-/
namespace Go.Proofs.YtnggkcgifjfnfaaDoor
open Go.RowKit Go.Maps Go.WideMaps

set_option maxRecDepth 100000 in
set_option maxHeartbeats 4000000 in
theorem implCoNum (kd n : Int) (w : World) : Calls Tryd.prog 79 #[.int .i64 kd, .int .i64 n] w fun e w' => e = .returned (.bool (coNumFor kd n)) ∧ Below w.heap.size w w' := by
  by_cases q1 : kd = 1
  · subst q1
    by_cases r1 : 1 ≤ n
    · by_cases r2 : n ≤ 99
      · skip
        go_enter Tryd.func79, Tryd.ntmps79
        go_wp2_with fail
        go_ret
        exact ⟨by first | (simp [coNumFor, *]; done) | (simp [coNumFor, *]; omega), Below.refl _ _⟩
      · skip
        go_enter Tryd.func79, Tryd.ntmps79
        go_wp2_with fail
        go_ret
        exact ⟨by first | (simp [coNumFor, *]; done) | (simp [coNumFor, *]; omega), Below.refl _ _⟩
    · skip
      go_enter Tryd.func79, Tryd.ntmps79
      go_wp2_with fail
      go_ret
      exact ⟨by first | (simp [coNumFor, *]; done) | (simp [coNumFor, *]; omega), Below.refl _ _⟩
  by_cases q2 : kd = 2
  · subst q2
    by_cases r1 : 1 ≤ n
    · by_cases r2 : n ≤ 99
      · skip
        go_enter Tryd.func79, Tryd.ntmps79
        go_wp2_with fail
        go_ret
        exact ⟨by first | (simp [coNumFor, *]; done) | (simp [coNumFor, *]; omega), Below.refl _ _⟩
      · skip
        go_enter Tryd.func79, Tryd.ntmps79
        go_wp2_with fail
        go_ret
        exact ⟨by first | (simp [coNumFor, *]; done) | (simp [coNumFor, *]; omega), Below.refl _ _⟩
    · skip
      go_enter Tryd.func79, Tryd.ntmps79
      go_wp2_with fail
      go_ret
      exact ⟨by first | (simp [coNumFor, *]; done) | (simp [coNumFor, *]; omega), Below.refl _ _⟩
  by_cases q9 : kd = 9
  · subst q9
    by_cases r0 : n = 0
    · subst r0
      go_enter Tryd.func79, Tryd.ntmps79
      go_wp2_with fail
      go_ret
      exact ⟨by simp [coNumFor], Below.refl _ _⟩
    · have r0b : (n == 0) = false := by simp [r0]
      by_cases r1 : n = 1
      · subst r1
        go_enter Tryd.func79, Tryd.ntmps79
        go_wp2_with fail
        go_ret
        exact ⟨by simp [coNumFor], Below.refl _ _⟩
      · have r1b : (n == 1) = false := by simp [r1]
        go_enter Tryd.func79, Tryd.ntmps79
        go_wp2_with fail
        go_ret
        exact ⟨by simp [coNumFor]; omega, Below.refl _ _⟩
  have z1 : (kd == 1) = false := by simp [q1]
  have z2 : (kd == 2) = false := by simp [q2]
  have z9 : (kd == 9) = false := by simp [q9]
  by_cases r0 : n = 0
  · subst r0
    go_enter Tryd.func79, Tryd.ntmps79
    go_wp2_with fail
    go_ret
    exact ⟨by simp [coNumFor, q1, q2, q9], Below.refl _ _⟩
  have r0b : (n == 0) = false := by simp [r0]
  by_cases q6 : kd = 6
  · subst q6
    go_enter Tryd.func79, Tryd.ntmps79
    go_wp2_with fail
    go_ret
    exact ⟨by simp [coNumFor], Below.refl _ _⟩
  have z6 : (kd == 6) = false := by simp [q6]
  go_enter Tryd.func79, Tryd.ntmps79
  go_wp2_with fail
  go_ret
  exact ⟨by simp [coNumFor, q1, q2, q9, q6, r0], Below.refl _ _⟩
theorem nil_ty (w : World) {d : Nat} {v : Value} {t : Ty} (h : TyAt w d v t) : TyAt w d (.agg #[.int .i64 0, .slice none 0 0]) (.node 0 []) := by
  cases d with
  | zero => exact h.elim
  | succ d => exact ⟨_, rfl, by omega, by omega, none, 0, rfl, Nat.le_refl _, by omega, fun j hj => by simp at hj⟩
set_option maxRecDepth 100000 in
set_option maxHeartbeats 4000000 in
theorem implCoTyIf (d : Nat) (b : Bool) (v : Value) (t : Ty) (w : World) (h : TyAt w d v t) (hsz : t.size ≤ 1048577) : Calls Tryd.prog 82 #[.bool b, v] w fun e w' => e = .returned (.bool (coTyFor b t)) ∧ Below w.heap.size w w' := by
  have HT := Lib.hid h
  obtain ⟨yk, ya, yn, yc, rfl⟩ := agg_parts h
  clear h
  cases b with
  | true =>
    go_enter Tryd.func82, Tryd.ntmps82
    go_wp2_with fail
    refine (implValid d _ t _ (HT.out.below (below_alloc _ _)) hsz).mono ?_
    rintro e w2 ⟨rfl, hb2⟩
    go_wp2_with fail
    go_ret
    exact ⟨rfl, below_on (below_alloc _ _) hb2 (by simp)⟩
  | false =>
    go_enter Tryd.func82, Tryd.ntmps82
    go_wp2_with fail
    refine (implEqual d _ _ t (.node 0 []) _ (HT.out.below (below_alloc _ _)) (nil_ty _ (HT.out.below (below_alloc _ _)))).mono ?_
    rintro e w2 ⟨rfl, hb2⟩
    go_wp2_with fail
    go_ret
    exact ⟨rfl, below_on (below_alloc _ _) hb2 (by simp)⟩
set_option maxRecDepth 100000 in
set_option maxHeartbeats 4000000 in
theorem own_step {ns : List ByteArray} {k : Nat} (h : k < ns.length) (hb : (nameB ns[k] && !seenB (ns.take k) ns[k].data.toList) = false) : ownNames [] ns = false := by
  have e := ownNames_take ns [] k h
  rw [List.nil_append, hb, Bool.and_false] at e
  exact ownNames_false ns [] (k + 1) e
set_option maxRecDepth 100000 in
set_option maxHeartbeats 4000000 in
theorem implOwnNames (d : Nat) (v : Value) (ns : List ByteArray) (vs : List Co) (w : World) (h : CbsAt w d v ns vs) (hn : vs.length ≤ 1048576) :
    Calls Tryd.prog 81 #[v] w fun e w' => e = .returned (.bool (ownNames [] ns)) ∧ Below w.heap.size w w' := by
  obtain ⟨hln, a, cap, rfl, hcap, hcap2, hat⟩ := h
  have HAT := Lib.hid hat; clear hat
  have HLN := Lib.hid hln; clear hln
  have hmm := @run_makeMap Tryd.prog
  go_enter Tryd.func81, Tryd.ntmps81
  go_wp2_with fail
  clear hmm
  go_loopw [9] (fun i wr => ∃ (k : Nat) (L : List ByteArray), k ≤ vs.length ∧ i = .int .i64 k ∧ L = ns.take k ∧ ownNames [] (ns.take k) = true ∧ NamesAt wr w.heap.size k L ∧ Below w.heap.size w wr) (fun i _ => vs.length - (intOf i).toNat)
  case atStart => exact ⟨0, [], by omega, rfl, by simp, by simp [ownNames], by show SetAt _ _ _ _ _ _ _ _; rw [← seenB_nil]; exact SetAt.new _ _ _ _ _, (Below.refl _ _).alloc (Nat.le_refl _) _⟩
  case round =>
    obtain ⟨k, L, hk, rfl, hL, hon, hset, hb⟩ := hrel
    have HL := Lib.hid hL; clear hL
    have HON := Lib.hid hon; clear hon
    have HB := Lib.hid hb; clear hb
    have HN := Lib.hid hset; clear hset
    by_cases hlt : k < vs.length
    · have hlt2 : k < ns.length := by have := HLN.out; omega
      obtain ⟨b, off, x0, x1, x2, x3, x4, x5, x6, x7, x8, rfl, hbl, hnz, hcn, _⟩ := HAT.out k hlt hlt2
      have HTK := Lib.hid (take_add ns k hlt2)
      have HOT := Lib.hid (ownNames_take ns [] k hlt2)
      have HNAME : Hid ((nameB ns[k] && !seenB L ns[k].data.toList) = false → ownNames [] ns = false) := by intro hq; rw [HL.out] at hq; exact own_step hlt2 hq
      obtain ⟨x, hx⟩ : ∃ x, x = ns[k] := ⟨_, rfl⟩
      rw [← hx] at hcn hnz
      rw [← hx] at HTK HOT HNAME
      clear hx
      have en : wr.cell? ⟨b, off + k * 10, none⟩ = some (.string x) := (HB.out.cell (p := ⟨b, off + k * 10, none⟩) hbl).trans hcn
      have hkey : keyOf Tryd.prog 9 (.string x) = some (.string x.data.toList) := keyOf_string_mk Tryd.underlying9 hnz
      have HK := Lib.hid hkey; clear hkey hcn
      go_wp2_with fail
      refine (implName x _ hnz).mono ?_
      rintro e w2 ⟨rfl, hb2⟩
      replace HN := Lib.hid (HN.out.below hb2)
      replace HB := Lib.hid (HB.out.trans (hb2.mono HB.out.size))
      clear hb2 en
      cases hnb : nameB x with
      | false =>
        have HNO := Lib.hid (HNAME.out (by rw [hnb]; rfl))
        clear hnb
        go_wp2_with fail
        go_ret
        exact ⟨by rw [HNO.out]; rfl, HB.out⟩
      | true =>
        have HNB := Lib.hid hnb; clear hnb
        go_wp2_with (first
          | (at_lookup; refine set_lookup_w _ (by first | rfl | kernel_rfl) _ _ 119 rfl law_str Tryd.underlying119 Tryd.underlying4 (zero_bool _) rfl HN.out _ x.data.toList rfl HK.out ?_)
          | (at_mapUpdate; refine set_store _ rfl _ _ _ 119 rfl law_str Tryd.underlying119 Tryd.underlying4 rfl HN.out (by unfold maxLen; omega) _ x.data.toList rfl true rfl HK.out (fun _ h => by injection h) trivial ?_; intro w1 hset1 hg1))
        · have hq : seenB L x.data.toList = true := by assumption
          have HNO := Lib.hid (HNAME.out (by rw [HNB.out, hq]; rfl))
          go_ret
          exact ⟨by rw [HNO.out]; rfl, HB.out⟩
        · have hq : seenB L x.data.toList = false := by assumption
          have HQ := Lib.hid hq
          have hn1 : NamesAt w1 w.heap.size (k + 1) (L ++ [x]) := by
            show SetAt _ _ _ _ _ _ _ _
            rw [← seenB_put]; exact hset1
          have HN1 := Lib.hid hn1
          have HB1 := Lib.hid (HB.out.grown hg1 HB.out.size (fun j hj => by cases hj; exact Nat.le_refl _))
          clear hset1 hg1 hn1 hq
          go_roundw
          case rel => exact ⟨k + 1, L ++ [x], by omega, by go_num, by rw [HTK.out, HL.out], by have h := HQ.out; rw [HL.out] at h; rw [HOT.out, HON.out, HNB.out, List.nil_append, h]; rfl, HN1.out, HB1.out⟩
          case measure => simp [intOf]; omega
    · obtain rfl : k = vs.length := by omega
      have HEN : Hid (ownNames [] ns = true) := by have h1 := HON.out; rw [← HLN.out, List.take_length] at h1; exact h1
      go_wp2_with fail
      go_ret
      exact ⟨by rw [HEN.out]; rfl, HB.out⟩
end Go.Proofs.YtnggkcgifjfnfaaDoor
/-
  Proved: the pinned table of the forms of core expressions holds, five cells a kind, what the program's text says.
-/
namespace Go.Proofs.YtnggkcgifjfnfaaDoor
open Go.RowKit Go.ChangeShapes Go.WideShapes Go.ChangeAt

theorem und_types : Tryd.prog.underlying 90 = some (.struct #[⟨"source", 4, 0, false, "", "loop.example/g00585/impl", 0⟩, ⟨"target", 4, 1, false, "", "loop.example/g00585/impl", 1⟩]) := by kernel_rfl
theorem cells_fbool : Tryd.prog.cellsOf 4 = 1 := by kernel_rfl
theorem cells_ftypes : Tryd.prog.cellsOf 90 = 2 := by kernel_rfl
theorem bool_cell {H : Type} {enc : TypeId × Value → H} {w : World} {base : Nat} {sp : Nat → Bool} {held : Bool} {n : Nat} {l : List Value} {y : DataW H × List MemPlace} {z : Bool}
    (h : DataW.trod enc Tryd.prog w base sp held n 4 (l.take 1) = some y) (hy : y.1 = .lit (.bool z)) : l[0]? = some (.bool z) := by
  obtain ⟨b, hb, rfl⟩ := DataW.trod_bool Tryd.underlying4 h
  simp at hy; subst hy
  have := congrArg (·[0]?) hb
  simpa [List.getElem?_take] using this
theorem quadList_of {α : Type} {xs : List α} (h : xs.length = 4) : ∃ a b c d, xs = [a, b, c, d] := by
  match xs, h with
  | [a, b, c, d], _ => exact ⟨a, b, c, d, rfl⟩
theorem pairList_of {α : Type} {xs : List α} (h : xs.length = 2) : ∃ a b, xs = [a, b] := by
  match xs, h with
  | [a, b], _ => exact ⟨a, b, rfl⟩
set_option maxRecDepth 100000 in
theorem form_row {H : Type} {enc : TypeId × Value → H} {w : World} {base : Nat} {sp : Nat → Bool} {held : Bool} {fuel : Nat} {cs : List Value} {ds : List (DataW H)} {p : List MemPlace}
    (h : DataW.trod enc Tryd.prog w base sp held fuel 93 cs = some (.agg ds, p)) (i : Nat) (hi : i < 16) (n b s t : Bool) (z : DataW H)
    (hd : ds[i]? = some (.agg [z, .lit (.bool n), .lit (.bool b), .agg [.lit (.bool s), .lit (.bool t)]])) :
    cs[i * 5 + 1]? = some (.bool n) ∧ cs[i * 5 + 2]? = some (.bool b) ∧ cs[i * 5 + 3]? = some (.bool s) ∧ cs[i * 5 + 4]? = some (.bool t) := by
  obtain ⟨m, d, q, hm, hdd⟩ := forms_cells und_forms cells_form h i hi
  rw [hd] at hdd
  obtain rfl := Option.some.inj hdd
  obtain ⟨xs, n1, _, hx, hl, hlen, hf⟩ := DataW.trod_struct und_form hm
  obtain ⟨x0, x1, x2, x3, rfl⟩ := quadList_of (show xs.length = 4 from hlen)
  have hmap := congrArg Prod.fst hx
  simp only [List.map_cons, List.map_nil, DataW.agg.injEq, List.cons.injEq, and_true] at hmap
  obtain ⟨_, m1, m2, m3⟩ := hmap
  have g1 : DataW.trod enc Tryd.prog w base sp held n1 4 ((((cs.drop (i * 5)).take 5).drop 1).take (Tryd.prog.cellsOf 4)) = some x1 := hf 1 ⟨"named", 4, 1, false, "", "loop.example/g00585/impl", 8⟩ rfl
  have g2 : DataW.trod enc Tryd.prog w base sp held n1 4 ((((cs.drop (i * 5)).take 5).drop 2).take (Tryd.prog.cellsOf 4)) = some x2 := hf 2 ⟨"bound", 4, 2, false, "", "loop.example/g00585/impl", 9⟩ rfl
  have g3 : DataW.trod enc Tryd.prog w base sp held n1 90 ((((cs.drop (i * 5)).take 5).drop 3).take (Tryd.prog.cellsOf 90)) = some x3 := hf 3 ⟨"coreTypes", 90, 3, true, "", "loop.example/g00585/impl", 10⟩ rfl
  rw [cells_fbool] at g1 g2
  rw [cells_ftypes] at g3
  have r1 := bool_cell g1 m1.symm
  have r2 := bool_cell g2 m2.symm
  obtain ⟨x3a, x3b⟩ := x3
  simp only at m3
  subst m3
  obtain ⟨ys, n2, _, hy, hl2, hlen2, hf2⟩ := DataW.trod_struct und_types g3
  obtain ⟨y0, y1, rfl⟩ := pairList_of (show ys.length = 2 from hlen2)
  have hmap2 := congrArg Prod.fst hy
  simp only [List.map_cons, List.map_nil, DataW.agg.injEq, List.cons.injEq, and_true] at hmap2
  obtain ⟨m4, m5⟩ := hmap2
  have g4 : DataW.trod enc Tryd.prog w base sp held n2 4 (((((((cs.drop (i * 5)).take 5).drop 3).take 2)).drop 0).take (Tryd.prog.cellsOf 4)) = some y0 := hf2 0 ⟨"source", 4, 0, false, "", "loop.example/g00585/impl", 0⟩ rfl
  have g5 : DataW.trod enc Tryd.prog w base sp held n2 4 (((((((cs.drop (i * 5)).take 5).drop 3).take 2)).drop 1).take (Tryd.prog.cellsOf 4)) = some y1 := hf2 1 ⟨"target", 4, 1, false, "", "loop.example/g00585/impl", 1⟩ rfl
  rw [cells_fbool] at g4 g5
  have r3 := bool_cell g4 m4.symm
  have r4 := bool_cell g5 m5.symm
  refine ⟨?_, ?_, ?_, ?_⟩
  · simpa [List.getElem?_take, List.getElem?_drop] using r1
  · simpa [List.getElem?_take, List.getElem?_drop] using r2
  · simpa [List.getElem?_take, List.getElem?_drop] using r3
  · simpa [List.getElem?_take, List.getElem?_drop, Nat.add_assoc] using r4
abbrev rowNamed : List Bool := [false, false, false, true, true, false, false, false, false, false, false, false, false, false, false, false]
abbrev rowBound : List Bool := [false, true, true, false, false, false, false, false, false, false, false, false, false, false, false, false]
abbrev rowSrc : List Bool := [false, false, false, false, false, false, false, false, false, false, false, false, false, false, true, true]
abbrev rowTgt : List Bool := [false, false, false, false, true, false, false, false, false, false, false, false, false, false, true, true]
/-- All cells of the table as the program reads them. -/
def CoreFull (w : World) : Prop := CoreTab w ∧ ∀ i, i < 16 → w.cell? ⟨0, i * 5 + 1, none⟩ = some (.bool (rowNamed.getD i false)) ∧ w.cell? ⟨0, i * 5 + 2, none⟩ = some (.bool (rowBound.getD i false)) ∧ w.cell? ⟨0, i * 5 + 3, none⟩ = some (.bool (rowSrc.getD i false)) ∧ w.cell? ⟨0, i * 5 + 4, none⟩ = some (.bool (rowTgt.getD i false))
theorem CoreFull.below {w w' : World} (h : CoreFull w) (hb : Below w.heap.size w w') : CoreFull w' := by
  have hk : ∀ o, w'.cell? ⟨0, o, none⟩ = w.cell? ⟨0, o, none⟩ := fun o => hb.cell (p := ⟨0, o, none⟩) h.1.1
  refine ⟨h.1.below hb, fun i hi => ?_⟩
  obtain ⟨h1, h2, h3, h4⟩ := h.2 i hi
  exact ⟨(hk _).trans h1, (hk _).trans h2, (hk _).trans h3, (hk _).trans h4⟩
set_option maxRecDepth 100000 in
theorem coreFull_of {W : World} (h : laidMet Tryd.prog [("loop.example/g00585/impl.coreForms", Rows.laid_loop_example_g00585_impl_coreForms)] W) : CoreFull W := by
  refine ⟨coreTab_of h, ?_⟩
  have hg : Tryd.prog.globalNamed "loop.example/g00585/impl.coreForms" = some 0 := by kernel_rfl
  have hty : (Tryd.prog.globals[0]?).map (·.type) = some 93 := by kernel_rfl
  obtain ⟨ps, ⟨g', t', cs, fuel, p, q, hg', ht', hvar, hd, _, _⟩, _⟩ := h
  obtain rfl := Option.some.inj (hg.symm.trans hg')
  obtain rfl := Option.some.inj (hty.symm.trans ht')
  have hc : ∀ off, W.cell? ⟨0, off, none⟩ = cs.toList[off]? := fun off => by have := World.var?_cell hg hvar off; simpa using this
  intro i hi
  simp only [hc]
  match i, hi with
  | 0, _ => exact form_row hd 0 (by decide) _ _ _ _ _ rfl
  | 1, _ => exact form_row hd 1 (by decide) _ _ _ _ _ rfl
  | 2, _ => exact form_row hd 2 (by decide) _ _ _ _ _ rfl
  | 3, _ => exact form_row hd 3 (by decide) _ _ _ _ _ rfl
  | 4, _ => exact form_row hd 4 (by decide) _ _ _ _ _ rfl
  | 5, _ => exact form_row hd 5 (by decide) _ _ _ _ _ rfl
  | 6, _ => exact form_row hd 6 (by decide) _ _ _ _ _ rfl
  | 7, _ => exact form_row hd 7 (by decide) _ _ _ _ _ rfl
  | 8, _ => exact form_row hd 8 (by decide) _ _ _ _ _ rfl
  | 9, _ => exact form_row hd 9 (by decide) _ _ _ _ _ rfl
  | 10, _ => exact form_row hd 10 (by decide) _ _ _ _ _ rfl
  | 11, _ => exact form_row hd 11 (by decide) _ _ _ _ _ rfl
  | 12, _ => exact form_row hd 12 (by decide) _ _ _ _ _ rfl
  | 13, _ => exact form_row hd 13 (by decide) _ _ _ _ _ rfl
  | 14, _ => exact form_row hd 14 (by decide) _ _ _ _ _ rfl
  | 15, _ => exact form_row hd 15 (by decide) _ _ _ _ _ rfl
  | _ + 16, h => exact absurd h (by omega)
end Go.Proofs.YtnggkcgifjfnfaaDoor
/-
  Proved: impl.isCoreNode says whether the fields, the names of the environment and the number of parts of a node belong to its kind; the memory that was there stays as it was.
-/
namespace Go.Proofs.YtnggkcgifjfnfaaDoor
open Go.RowKit

def namedB (k : Int) : Bool := decide (k = 3) || decide (k = 4)
def coNodeB (k : Int) (nm : ByteArray) (n : Int) (fr ty : Ty) (len : Nat) (ns : List ByteArray) : Bool := coFieldsB k nm n fr ty && ((ownNames [] ns && envK k ns) && decide ((len : Int) = coArity k))
theorem coName_eq (k : Int) (nm : ByteArray) : coNameFor k nm = if namedB k then nameB nm else decide (nm.size = 0) := by
  unfold coNameFor namedB
  by_cases h3 : k = 3
  · simp [h3]
  · by_cases h4 : k = 4
    · simp [h4]
    · simp [h3, h4]
theorem coNode_eq (k : Int) (nm : ByteArray) (n : Int) (fr ty : Ty) (len : Nat) (ns : List ByteArray) : coNodeB k nm n fr ty len ns = (decide ((len : Int) = coArity k) && (coNumFor k n && ((if namedB k then nameB nm else decide (nm.size = 0)) && ((boundB k || decide (ns.length = 0)) && (ownNames [] ns && (coTyFor (srcB k) fr && coTyFor (tgtB k) ty)))))) := by
  rw [← coName_eq]
  unfold coNodeB coFieldsB coTypesB envK
  generalize decide ((len : Int) = coArity k) = b1
  generalize coNumFor k n = b2
  generalize coNameFor k nm = b3
  generalize boundB k = b4
  generalize decide (ns.length = 0) = b5
  generalize ownNames [] ns = b6
  generalize coTyFor (srcB k) fr = b7
  generalize coTyFor (tgtB k) ty = b8
  cases b1 <;> cases b2 <;> cases b3 <;> cases b4 <;> cases b5 <;> cases b6 <;> cases b7 <;> cases b8 <;> rfl
theorem rowNamed_eq : ∀ k, k < 16 → rowNamed.getD k false = namedB (k : Int) := by decide
theorem rowBound_eq : ∀ k, k < 16 → rowBound.getD k false = boundB (k : Int) := by decide
theorem rowSrc_eq : ∀ k, k < 16 → rowSrc.getD k false = srcB (k : Int) := by decide
theorem rowTgt_eq : ∀ k, k < 16 → rowTgt.getD k false = tgtB (k : Int) := by decide
/-- A row of the table. -/
theorem CoreFull.row {w : World} (h : CoreFull w) {k : Nat} (hk : k < 16) : w.cell? ⟨0, k * 5, none⟩ = some (.int .i64 (coTab.getD k 0)) ∧ w.cell? ⟨0, k * 5 + 1, none⟩ = some (.bool (namedB k)) ∧ w.cell? ⟨0, k * 5 + 2, none⟩ = some (.bool (boundB k)) ∧ w.cell? ⟨0, k * 5 + 3, none⟩ = some (.bool (srcB k)) ∧ w.cell? ⟨0, k * 5 + 4, none⟩ = some (.bool (tgtB k)) := by
  obtain ⟨h1, h2, h3, h4⟩ := h.2 k hk
  rw [rowNamed_eq k hk] at h1
  rw [rowBound_eq k hk] at h2
  rw [rowSrc_eq k hk] at h3
  rw [rowTgt_eq k hk] at h4
  exact ⟨h.1.2 k hk, h1, h2, h3, h4⟩
set_option maxRecDepth 100000 in
set_option maxHeartbeats 8000000 in
theorem implCoNode (d : Nat) (v : Value) (kd : Int) (nm0 : ByteArray) (n0 : Int) (fr ty : Ty) (es : List Co) (ns : List ByteArray) (vs : List Co) (w : World) (h : PtrCo w (d + 1) v (.node kd nm0 n0 fr ty es ns vs)) (hsz : (Co.node kd nm0 n0 fr ty es ns vs).bulk ≤ 1048576) (htab : CoreFull w) :
    Calls Tryd.prog 62 #[v] w fun e w' => e = .returned (.bool (coNodeB kd nm0 n0 fr ty es.length ns)) ∧ Below w.heap.size w w' := by
  obtain ⟨pb, po, x0, x1, x2, x3, x4, x5, x6, x7, x8, rfl, hpl, k0, k1, k2, k3, k4, k5, k6, k7, k8, ht⟩ := h
  obtain ⟨c3, c4, c5, c6, sl, el, hv, hk0, hk1, hn0, hn1, hnm, hfr, hty, ⟨a, cap, rfl, hcap, hcap2, hat⟩, hln, a2, cap2, rfl, hcpe, hcpe2, hae⟩ := ht
  injection hv with hv
  injection hv with hv
  simp at hv
  obtain ⟨rfl, rfl, rfl, rfl, rfl, rfl, rfl, rfl, rfl⟩ := hv
  obtain ⟨fk, fa, fn, fc, rfl, rfl⟩ := at_parts hfr
  obtain ⟨tk, ta, tn, tc, rfl, rfl⟩ := at_parts hty
  have HEN : Hid (CbsAt w d (.slice a2 vs.length cap2) ns vs) := ⟨hln, a2, cap2, rfl, hcpe, hcpe2, hae⟩
  have hbk : (Co.node kd nm0 n0 fr ty es ns vs).bulk = nm0.size + (fr.size - 1) + (ty.size - 1) + Co.bulks es + (txs ns + Co.bulks vs) := rfl
  have hlen : es.length ≤ 1048576 := by have := Co.length_le es; omega
  have hlen2 : vs.length ≤ 1048576 := by have := Co.length_le vs; omega
  have HNS : Hid (nm0.size ≤ 9223372036854775807) := by show _ ≤ _; omega
  have HFZ : Hid (fr.size ≤ 1048577) := by show _ ≤ _; omega
  have HTZ : Hid (ty.size ≤ 1048577) := by show _ ≤ _; omega
  have HFR := Lib.hid hfr
  have HTY := Lib.hid hty
  have HLN := Lib.hid hln
  have HTB := Lib.hid htab
  clear hat hae hfr hty hln hbk hsz htab
  have HM := Lib.hid (coNode_eq kd nm0 n0 fr ty es.length ns)
  obtain ⟨m, hm⟩ : ∃ m, m = coNodeB kd nm0 n0 fr ty es.length ns := ⟨_, rfl⟩
  rw [← hm] at HM ⊢
  clear hm
  have K0 := Lib.hid k0
  have K1 := Lib.hid k1
  have K2 := Lib.hid k2
  have K3 := Lib.hid k3
  have K4 := Lib.hid k4
  have K5 := Lib.hid k5
  have K6 := Lib.hid k6
  have K7 := Lib.hid k7
  have K8 := Lib.hid k8
  clear k0 k1 k2 k3 k4 k5 k6 k7 k8
  have C1 : ∀ q : Grown w.heap.size w, Calls Tryd.prog 78 #[.int .i64 kd] q.val fun e w' => e = .returned (.int .i64 (coArity kd)) ∧ Below q.val.heap.size q.val w' := fun q => implCoArity _ _ (HTB.out.1.below q.old)
  have C2 : ∀ q : Grown w.heap.size w, Calls Tryd.prog 79 #[.int .i64 kd, .int .i64 n0] q.val fun e w' => e = .returned (.bool (coNumFor kd n0)) ∧ Below q.val.heap.size q.val w' := fun q => implCoNum _ _ _
  obtain ⟨r, hr⟩ : ∃ r, r = coArity kd := ⟨_, rfl⟩
  obtain ⟨bu, hbu⟩ : ∃ b, b = coNumFor kd n0 := ⟨_, rfl⟩
  rw [← hr] at C1 HM
  rw [← hbu] at C2 HM
  have HR := Lib.hid hr
  clear hr hbu
  go_enter Tryd.func62, Tryd.ntmps62
  go_wp2_with fail
  have HB0 : Hid (Below w.heap.size w w) := Below.refl _ _
  have g0 : ∀ q : Grown w.heap.size w, q.val.cell? ⟨pb, po, none⟩ = some (.int .i64 kd) := fun q => (q.old.cell (p := ⟨pb, po, none⟩) (Nat.lt_of_lt_of_le hpl HB0.out.size)).trans ((HB0.out.cell (p := ⟨pb, po, none⟩) hpl).trans K0.out)
  have g1 : ∀ q : Grown w.heap.size w, q.val.cell? ⟨pb, po + 1, none⟩ = some (.string nm0) := fun q => (q.old.cell (p := ⟨pb, po + 1, none⟩) (Nat.lt_of_lt_of_le hpl HB0.out.size)).trans ((HB0.out.cell (p := ⟨pb, po + 1, none⟩) hpl).trans K1.out)
  have g2 : ∀ q : Grown w.heap.size w, q.val.cell? ⟨pb, po + 2, none⟩ = some (.int .i64 n0) := fun q => (q.old.cell (p := ⟨pb, po + 2, none⟩) (Nat.lt_of_lt_of_le hpl HB0.out.size)).trans ((HB0.out.cell (p := ⟨pb, po + 2, none⟩) hpl).trans K2.out)
  have g3 : ∀ q : Grown w.heap.size w, q.val.cell? ⟨pb, po + 3, none⟩ = some (.int .i64 fk) := fun q => (q.old.cell (p := ⟨pb, po + 3, none⟩) (Nat.lt_of_lt_of_le hpl HB0.out.size)).trans ((HB0.out.cell (p := ⟨pb, po + 3, none⟩) hpl).trans K3.out)
  have g4 : ∀ q : Grown w.heap.size w, q.val.cell? ⟨pb, po + 4, none⟩ = some (.slice fa fn fc) := fun q => (q.old.cell (p := ⟨pb, po + 4, none⟩) (Nat.lt_of_lt_of_le hpl HB0.out.size)).trans ((HB0.out.cell (p := ⟨pb, po + 4, none⟩) hpl).trans K4.out)
  have g5 : ∀ q : Grown w.heap.size w, q.val.cell? ⟨pb, po + 5, none⟩ = some (.int .i64 tk) := fun q => (q.old.cell (p := ⟨pb, po + 5, none⟩) (Nat.lt_of_lt_of_le hpl HB0.out.size)).trans ((HB0.out.cell (p := ⟨pb, po + 5, none⟩) hpl).trans K5.out)
  have g6 : ∀ q : Grown w.heap.size w, q.val.cell? ⟨pb, po + 6, none⟩ = some (.slice ta tn tc) := fun q => (q.old.cell (p := ⟨pb, po + 6, none⟩) (Nat.lt_of_lt_of_le hpl HB0.out.size)).trans ((HB0.out.cell (p := ⟨pb, po + 6, none⟩) hpl).trans K6.out)
  have g7 : ∀ q : Grown w.heap.size w, q.val.cell? ⟨pb, po + 7, none⟩ = some (.slice a es.length cap) := fun q => (q.old.cell (p := ⟨pb, po + 7, none⟩) (Nat.lt_of_lt_of_le hpl HB0.out.size)).trans ((HB0.out.cell (p := ⟨pb, po + 7, none⟩) hpl).trans K7.out)
  have g8 : ∀ q : Grown w.heap.size w, q.val.cell? ⟨pb, po + 8, none⟩ = some (.slice a2 vs.length cap2) := fun q => (q.old.cell (p := ⟨pb, po + 8, none⟩) (Nat.lt_of_lt_of_le hpl HB0.out.size)).trans ((HB0.out.cell (p := ⟨pb, po + 8, none⟩) hpl).trans K8.out)
  obtain ⟨bq, hbq⟩ : ∃ x, x = decide ((es.length : Int) = r) := ⟨_, rfl⟩
  rw [← hbq] at HM
  have HBQ := Lib.hid hbq; clear hbq
  obtain ⟨be, hbe⟩ : ∃ x, x = decide (nm0.size = 0) := ⟨_, rfl⟩
  rw [← hbe] at HM
  have HBE := Lib.hid hbe; clear hbe
  obtain ⟨bv, hbv⟩ : ∃ x, x = decide (ns.length = 0) := ⟨_, rfl⟩
  rw [← hbv] at HM
  have HBV := Lib.hid hbv; clear hbv
  obtain ⟨bo, hbo⟩ : ∃ x, x = ownNames [] ns := ⟨_, rfl⟩
  rw [← hbo] at HM
  have HBO := Lib.hid hbo; clear hbo
  cases bq
  case false =>
    have qa : ¬ ((es.length : Int) = r) := of_decide_eq_false HBQ.out.symm
    have qb : ((es.length : Int) == r) = false := by simp [qa]
    have qc : ((es.length : Int) != r) = true := by simp [qa]
    refine wp_region_grown w.heap.size (by kernel_rfl) (by kernel_rfl) ?_
    repeat (go_big_quiet_step ((first | (go_at_call 78; exact grown_of (Nat.le_refl _) (C1 _)) | (go_at_call 79; exact grown_of (Nat.le_refl _) (C2 _)))))
    refine wpQuiet_nil ?_
    rintro w9 ⟨⟨wq, hq⟩, rfl⟩
    go_wp2_with fail
    go_ret
    exact ⟨by rw [HM.out]; rfl, hq⟩
  case true =>
    have qa : (es.length : Int) = r := of_decide_eq_true HBQ.out.symm
    have qb : ((es.length : Int) == r) = true := by simp [qa]
    have qc : ((es.length : Int) != r) = false := by simp [qa]
    cases bu
    case false =>
      refine wp_region_grown w.heap.size (by kernel_rfl) (by kernel_rfl) ?_
      repeat (go_big_quiet_step ((first | (go_at_call 78; exact grown_of (Nat.le_refl _) (C1 _)) | (go_at_call 79; exact grown_of (Nat.le_refl _) (C2 _)))))
      refine wpQuiet_nil ?_
      rintro w9 ⟨⟨wq, hq⟩, rfl⟩
      go_wp2_with fail
      go_ret
      exact ⟨by rw [HM.out]; rfl, hq⟩
    refine wp_region_grown w.heap.size (by kernel_rfl) (by kernel_rfl) ?_
    repeat (go_big_quiet_step ((first | (go_at_call 78; exact grown_of (Nat.le_refl _) (C1 _)) | (go_at_call 79; exact grown_of (Nat.le_refl _) (C2 _)))))
    refine wpQuiet_nil ?_
    rintro w9 ⟨⟨wq, hq⟩, rfl⟩
    have HQ := Lib.hid hq
    clear hq g0 g1 g2 g3 g4 g5 g6 g7 g8 C1 C2
    have hkd : 1 ≤ kd ∧ kd ≤ 15 := by
      have h1 := HR.out
      by_cases h : 1 ≤ kd ∧ kd ≤ 15
      · exact h
      · rw [coArity_out h] at h1; omega
    obtain ⟨k, hk⟩ : ∃ k : Nat, kd = (k : Int) := ⟨kd.toNat, by omega⟩
    subst hk
    have hk16 : k < 16 := by omega
    obtain ⟨t0, t1, t2, t3, t4⟩ := (HTB.out.below HQ.out).row hk16
    obtain ⟨ar, har⟩ : ∃ x, x = coTab.getD k 0 := ⟨_, rfl⟩
    rw [← har] at t0
    obtain ⟨bn, hbn⟩ : ∃ x, x = namedB k := ⟨_, rfl⟩
    rw [← hbn] at t1 HM
    obtain ⟨bb, hbb⟩ : ∃ x, x = boundB k := ⟨_, rfl⟩
    rw [← hbb] at t2 HM
    obtain ⟨bs, hbs⟩ : ∃ x, x = srcB k := ⟨_, rfl⟩
    rw [← hbs] at t3 HM
    obtain ⟨bt, hbt⟩ : ∃ x, x = tgtB k := ⟨_, rfl⟩
    rw [← hbt] at t4 HM
    clear har hbn hbb hbs hbt HR HTB
    have z0 := (HQ.out.cell (p := ⟨pb, po, none⟩) hpl).trans K0.out
    go_wp2_with fail
    obtain ⟨p9, hp9⟩ : ∃ p, p = w9.heap.size := ⟨_, rfl⟩
    obtain ⟨W, hW⟩ : ∃ W, W = w9.alloc (.cells #[.int .i64 ar, .bool bn, .bool bb, .bool bs, .bool bt] 92) := ⟨_, rfl⟩
    have BW : Hid (Below w.heap.size w W) := by rw [hW]; exact HQ.out.alloc HQ.out.size _
    have XF : Hid (BoxAt W p9 #[.int .i64 ar, .bool bn, .bool bb, .bool bs, .bool bt]) := by rw [hW, hp9]; exact BoxAt.new _ _ _
    rw [← hW, ← hp9]
    clear hW hp9 HQ t0 t1 t2 t3 t4 z0
    have HNB := Lib.hid (co_nameB_empty (s := nm0))
    have C3 : ∀ q : Grown W.heap.size W, Calls Tryd.prog 80 #[.string nm0] q.val fun e w' => e = .returned (.bool (nameB nm0)) ∧ Below q.val.heap.size q.val w' := fun q => implName _ _ HNS.out
    obtain ⟨bm, hbm⟩ : ∃ x, x = nameB nm0 := ⟨_, rfl⟩
    rw [← hbm] at C3 HM HNB
    clear hbm
    have g0 : ∀ q : Grown W.heap.size W, q.val.cell? ⟨pb, po, none⟩ = some (.int .i64 k) := fun q => (q.old.cell (p := ⟨pb, po, none⟩) (Nat.lt_of_lt_of_le hpl BW.out.size)).trans ((BW.out.cell (p := ⟨pb, po, none⟩) hpl).trans K0.out)
    have g1 : ∀ q : Grown W.heap.size W, q.val.cell? ⟨pb, po + 1, none⟩ = some (.string nm0) := fun q => (q.old.cell (p := ⟨pb, po + 1, none⟩) (Nat.lt_of_lt_of_le hpl BW.out.size)).trans ((BW.out.cell (p := ⟨pb, po + 1, none⟩) hpl).trans K1.out)
    have g2 : ∀ q : Grown W.heap.size W, q.val.cell? ⟨pb, po + 2, none⟩ = some (.int .i64 n0) := fun q => (q.old.cell (p := ⟨pb, po + 2, none⟩) (Nat.lt_of_lt_of_le hpl BW.out.size)).trans ((BW.out.cell (p := ⟨pb, po + 2, none⟩) hpl).trans K2.out)
    have g3 : ∀ q : Grown W.heap.size W, q.val.cell? ⟨pb, po + 3, none⟩ = some (.int .i64 fk) := fun q => (q.old.cell (p := ⟨pb, po + 3, none⟩) (Nat.lt_of_lt_of_le hpl BW.out.size)).trans ((BW.out.cell (p := ⟨pb, po + 3, none⟩) hpl).trans K3.out)
    have g4 : ∀ q : Grown W.heap.size W, q.val.cell? ⟨pb, po + 4, none⟩ = some (.slice fa fn fc) := fun q => (q.old.cell (p := ⟨pb, po + 4, none⟩) (Nat.lt_of_lt_of_le hpl BW.out.size)).trans ((BW.out.cell (p := ⟨pb, po + 4, none⟩) hpl).trans K4.out)
    have g5 : ∀ q : Grown W.heap.size W, q.val.cell? ⟨pb, po + 5, none⟩ = some (.int .i64 tk) := fun q => (q.old.cell (p := ⟨pb, po + 5, none⟩) (Nat.lt_of_lt_of_le hpl BW.out.size)).trans ((BW.out.cell (p := ⟨pb, po + 5, none⟩) hpl).trans K5.out)
    have g6 : ∀ q : Grown W.heap.size W, q.val.cell? ⟨pb, po + 6, none⟩ = some (.slice ta tn tc) := fun q => (q.old.cell (p := ⟨pb, po + 6, none⟩) (Nat.lt_of_lt_of_le hpl BW.out.size)).trans ((BW.out.cell (p := ⟨pb, po + 6, none⟩) hpl).trans K6.out)
    have g7 : ∀ q : Grown W.heap.size W, q.val.cell? ⟨pb, po + 7, none⟩ = some (.slice a es.length cap) := fun q => (q.old.cell (p := ⟨pb, po + 7, none⟩) (Nat.lt_of_lt_of_le hpl BW.out.size)).trans ((BW.out.cell (p := ⟨pb, po + 7, none⟩) hpl).trans K7.out)
    have g8 : ∀ q : Grown W.heap.size W, q.val.cell? ⟨pb, po + 8, none⟩ = some (.slice a2 vs.length cap2) := fun q => (q.old.cell (p := ⟨pb, po + 8, none⟩) (Nat.lt_of_lt_of_le hpl BW.out.size)).trans ((BW.out.cell (p := ⟨pb, po + 8, none⟩) hpl).trans K8.out)
    have f0 : ∀ q : Grown W.heap.size W, q.val.cell? ⟨p9, 0, none⟩ = _ := fun q => (XF.out.grown q).2 0
    have f1 : ∀ q : Grown W.heap.size W, q.val.cell? ⟨p9, 1, none⟩ = _ := fun q => (XF.out.grown q).2 1
    have f2 : ∀ q : Grown W.heap.size W, q.val.cell? ⟨p9, 2, none⟩ = _ := fun q => (XF.out.grown q).2 2
    have f3 : ∀ q : Grown W.heap.size W, q.val.cell? ⟨p9, 3, none⟩ = _ := fun q => (XF.out.grown q).2 3
    have f4 : ∀ q : Grown W.heap.size W, q.val.cell? ⟨p9, 4, none⟩ = _ := fun q => (XF.out.grown q).2 4
    cases be
    case true =>
      have NZ : nm0.size = 0 := of_decide_eq_true HBE.out.symm
      have e1 := co_text_zero NZ
      have hb0 := HNB.out NZ
      subst hb0
      cases bn
      case true =>
        refine wp_region_grown W.heap.size (by kernel_rfl) (by kernel_rfl) ?_
        repeat (go_big_quiet_step ((first | (go_at_call 80; exact grown_of (Nat.le_refl _) (C3 _)))))
        refine wpQuiet_nil ?_
        rintro w8 ⟨⟨wq, hq8⟩, rfl⟩
        go_wp2_with fail
        go_ret
        exact ⟨by rw [HM.out]; rfl, BW.out.trans (hq8.mono BW.out.size)⟩
      case false =>
        refine wp_region_grown W.heap.size (by kernel_rfl) (by kernel_rfl) ?_
        repeat (go_big_quiet_step ((first | (go_at_call 80; exact grown_of (Nat.le_refl _) (C3 _)))))
        refine wpQuiet_nil ?_
        rintro w8 ⟨⟨wq, hq8⟩, rfl⟩
        have BX := Lib.hid (BW.out.trans (hq8.mono BW.out.size))
        have XX := Lib.hid (XF.out.below hq8)
        clear hq8 g0 g1 g2 g3 g4 g5 g6 g7 g8 f0 f1 f2 f3 f4 C3 BW XF
        have z8 := (BX.out.cell (p := ⟨pb, po + 8, none⟩) hpl).trans K8.out
        have y2 := XX.out.2 2
        cases bb
        case true =>
          go_wp2_with fail
          refine (implOwnNames d _ ns vs _ (HEN.out.below BX.out) hlen2).mono ?_
          rintro e w6 ⟨rfl, hb6⟩
          have BY := Lib.hid (BX.out.trans (hb6.mono BX.out.size))
          have XY := Lib.hid (XX.out.below hb6)
          clear hb6 BX XX z8 y2
          rw [← HBO.out]
          cases bo
          case false =>
            go_wp2_with fail
            go_ret
            exact ⟨by rw [HM.out]; rfl, BY.out⟩
          case true =>
            have C5 : ∀ q : Grown w6.heap.size w6, Calls Tryd.prog 82 #[.bool bs, .agg #[.int .i64 fk, .slice fa fn fc]] q.val fun e w' => e = .returned (.bool (coTyFor bs fr)) ∧ Below q.val.heap.size q.val w' := fun q => implCoTyIf d _ _ fr _ (HFR.out.below (BY.out.trans (q.old.mono BY.out.size))) HFZ.out
            have C6 : ∀ q : Grown w6.heap.size w6, Calls Tryd.prog 82 #[.bool bt, .agg #[.int .i64 tk, .slice ta tn tc]] q.val fun e w' => e = .returned (.bool (coTyFor bt ty)) ∧ Below q.val.heap.size q.val w' := fun q => implCoTyIf d _ _ ty _ (HTY.out.below (BY.out.trans (q.old.mono BY.out.size))) HTZ.out
            obtain ⟨xf, hxf⟩ : ∃ x, x = coTyFor bs fr := ⟨_, rfl⟩
            rw [← hxf] at C5 HM
            obtain ⟨xt, hxt⟩ : ∃ x, x = coTyFor bt ty := ⟨_, rfl⟩
            rw [← hxt] at C6 HM
            clear hxf hxt
            go_wp2_with fail
            have g0 : ∀ q : Grown w6.heap.size w6, q.val.cell? ⟨pb, po, none⟩ = some (.int .i64 k) := fun q => (q.old.cell (p := ⟨pb, po, none⟩) (Nat.lt_of_lt_of_le hpl BY.out.size)).trans ((BY.out.cell (p := ⟨pb, po, none⟩) hpl).trans K0.out)
            have g1 : ∀ q : Grown w6.heap.size w6, q.val.cell? ⟨pb, po + 1, none⟩ = some (.string nm0) := fun q => (q.old.cell (p := ⟨pb, po + 1, none⟩) (Nat.lt_of_lt_of_le hpl BY.out.size)).trans ((BY.out.cell (p := ⟨pb, po + 1, none⟩) hpl).trans K1.out)
            have g2 : ∀ q : Grown w6.heap.size w6, q.val.cell? ⟨pb, po + 2, none⟩ = some (.int .i64 n0) := fun q => (q.old.cell (p := ⟨pb, po + 2, none⟩) (Nat.lt_of_lt_of_le hpl BY.out.size)).trans ((BY.out.cell (p := ⟨pb, po + 2, none⟩) hpl).trans K2.out)
            have g3 : ∀ q : Grown w6.heap.size w6, q.val.cell? ⟨pb, po + 3, none⟩ = some (.int .i64 fk) := fun q => (q.old.cell (p := ⟨pb, po + 3, none⟩) (Nat.lt_of_lt_of_le hpl BY.out.size)).trans ((BY.out.cell (p := ⟨pb, po + 3, none⟩) hpl).trans K3.out)
            have g4 : ∀ q : Grown w6.heap.size w6, q.val.cell? ⟨pb, po + 4, none⟩ = some (.slice fa fn fc) := fun q => (q.old.cell (p := ⟨pb, po + 4, none⟩) (Nat.lt_of_lt_of_le hpl BY.out.size)).trans ((BY.out.cell (p := ⟨pb, po + 4, none⟩) hpl).trans K4.out)
            have g5 : ∀ q : Grown w6.heap.size w6, q.val.cell? ⟨pb, po + 5, none⟩ = some (.int .i64 tk) := fun q => (q.old.cell (p := ⟨pb, po + 5, none⟩) (Nat.lt_of_lt_of_le hpl BY.out.size)).trans ((BY.out.cell (p := ⟨pb, po + 5, none⟩) hpl).trans K5.out)
            have g6 : ∀ q : Grown w6.heap.size w6, q.val.cell? ⟨pb, po + 6, none⟩ = some (.slice ta tn tc) := fun q => (q.old.cell (p := ⟨pb, po + 6, none⟩) (Nat.lt_of_lt_of_le hpl BY.out.size)).trans ((BY.out.cell (p := ⟨pb, po + 6, none⟩) hpl).trans K6.out)
            have g7 : ∀ q : Grown w6.heap.size w6, q.val.cell? ⟨pb, po + 7, none⟩ = some (.slice a es.length cap) := fun q => (q.old.cell (p := ⟨pb, po + 7, none⟩) (Nat.lt_of_lt_of_le hpl BY.out.size)).trans ((BY.out.cell (p := ⟨pb, po + 7, none⟩) hpl).trans K7.out)
            have g8 : ∀ q : Grown w6.heap.size w6, q.val.cell? ⟨pb, po + 8, none⟩ = some (.slice a2 vs.length cap2) := fun q => (q.old.cell (p := ⟨pb, po + 8, none⟩) (Nat.lt_of_lt_of_le hpl BY.out.size)).trans ((BY.out.cell (p := ⟨pb, po + 8, none⟩) hpl).trans K8.out)
            have f0 : ∀ q : Grown w6.heap.size w6, q.val.cell? ⟨p9, 0, none⟩ = _ := fun q => (XY.out.grown q).2 0
            have f1 : ∀ q : Grown w6.heap.size w6, q.val.cell? ⟨p9, 1, none⟩ = _ := fun q => (XY.out.grown q).2 1
            have f2 : ∀ q : Grown w6.heap.size w6, q.val.cell? ⟨p9, 2, none⟩ = _ := fun q => (XY.out.grown q).2 2
            have f3 : ∀ q : Grown w6.heap.size w6, q.val.cell? ⟨p9, 3, none⟩ = _ := fun q => (XY.out.grown q).2 3
            have f4 : ∀ q : Grown w6.heap.size w6, q.val.cell? ⟨p9, 4, none⟩ = _ := fun q => (XY.out.grown q).2 4
            cases xf
            case false =>
              refine wp_region_grown w6.heap.size (by kernel_rfl) (by kernel_rfl) ?_
              repeat (go_big_quiet_step ((first | (go_at_call_of 82 (Value.bool bs); exact grown_of (Nat.le_refl _) (C5 _)) | (go_at_call_of 82 (Value.bool bt); exact grown_of (Nat.le_refl _) (C6 _)))))
              refine wpQuiet_nil ?_
              rintro w7 ⟨⟨wq, hq7⟩, rfl⟩
              clear g0 g1 g2 g3 g4 g5 g6 g7 g8 f0 f1 f2 f3 f4 C5 C6
              go_wp2_with fail
              go_ret
              exact ⟨by rw [HM.out]; rfl, BY.out.trans (hq7.mono BY.out.size)⟩
            case true =>
              refine wp_region_grown w6.heap.size (by kernel_rfl) (by kernel_rfl) ?_
              repeat (go_big_quiet_step ((first | (go_at_call_of 82 (Value.bool bs); exact grown_of (Nat.le_refl _) (C5 _)) | (go_at_call_of 82 (Value.bool bt); exact grown_of (Nat.le_refl _) (C6 _)))))
              refine wpQuiet_nil ?_
              rintro w7 ⟨⟨wq, hq7⟩, rfl⟩
              clear g0 g1 g2 g3 g4 g5 g6 g7 g8 f0 f1 f2 f3 f4 C5 C6
              go_wp2_with fail
              go_ret
              exact ⟨by rw [HM.out]; rfl, BY.out.trans (hq7.mono BY.out.size)⟩
        case false =>
          cases bv
          case true =>
            have hv : vs.length = 0 := by have h1 := of_decide_eq_true HBV.out.symm; have h2 := HLN.out; omega
            have hen0 := HEN.out
            rw [hv] at z8 hen0
            have HEN0 := Lib.hid hen0
            clear hv hen0
            go_wp2_with fail
            refine (implOwnNames d _ ns vs _ (HEN0.out.below BX.out) hlen2).mono ?_
            rintro e w6 ⟨rfl, hb6⟩
            have BY := Lib.hid (BX.out.trans (hb6.mono BX.out.size))
            have XY := Lib.hid (XX.out.below hb6)
            clear hb6 BX XX z8 y2
            rw [← HBO.out]
            cases bo
            case false =>
              go_wp2_with fail
              go_ret
              exact ⟨by rw [HM.out]; rfl, BY.out⟩
            case true =>
              have C5 : ∀ q : Grown w6.heap.size w6, Calls Tryd.prog 82 #[.bool bs, .agg #[.int .i64 fk, .slice fa fn fc]] q.val fun e w' => e = .returned (.bool (coTyFor bs fr)) ∧ Below q.val.heap.size q.val w' := fun q => implCoTyIf d _ _ fr _ (HFR.out.below (BY.out.trans (q.old.mono BY.out.size))) HFZ.out
              have C6 : ∀ q : Grown w6.heap.size w6, Calls Tryd.prog 82 #[.bool bt, .agg #[.int .i64 tk, .slice ta tn tc]] q.val fun e w' => e = .returned (.bool (coTyFor bt ty)) ∧ Below q.val.heap.size q.val w' := fun q => implCoTyIf d _ _ ty _ (HTY.out.below (BY.out.trans (q.old.mono BY.out.size))) HTZ.out
              obtain ⟨xf, hxf⟩ : ∃ x, x = coTyFor bs fr := ⟨_, rfl⟩
              rw [← hxf] at C5 HM
              obtain ⟨xt, hxt⟩ : ∃ x, x = coTyFor bt ty := ⟨_, rfl⟩
              rw [← hxt] at C6 HM
              clear hxf hxt
              go_wp2_with fail
              have g0 : ∀ q : Grown w6.heap.size w6, q.val.cell? ⟨pb, po, none⟩ = some (.int .i64 k) := fun q => (q.old.cell (p := ⟨pb, po, none⟩) (Nat.lt_of_lt_of_le hpl BY.out.size)).trans ((BY.out.cell (p := ⟨pb, po, none⟩) hpl).trans K0.out)
              have g1 : ∀ q : Grown w6.heap.size w6, q.val.cell? ⟨pb, po + 1, none⟩ = some (.string nm0) := fun q => (q.old.cell (p := ⟨pb, po + 1, none⟩) (Nat.lt_of_lt_of_le hpl BY.out.size)).trans ((BY.out.cell (p := ⟨pb, po + 1, none⟩) hpl).trans K1.out)
              have g2 : ∀ q : Grown w6.heap.size w6, q.val.cell? ⟨pb, po + 2, none⟩ = some (.int .i64 n0) := fun q => (q.old.cell (p := ⟨pb, po + 2, none⟩) (Nat.lt_of_lt_of_le hpl BY.out.size)).trans ((BY.out.cell (p := ⟨pb, po + 2, none⟩) hpl).trans K2.out)
              have g3 : ∀ q : Grown w6.heap.size w6, q.val.cell? ⟨pb, po + 3, none⟩ = some (.int .i64 fk) := fun q => (q.old.cell (p := ⟨pb, po + 3, none⟩) (Nat.lt_of_lt_of_le hpl BY.out.size)).trans ((BY.out.cell (p := ⟨pb, po + 3, none⟩) hpl).trans K3.out)
              have g4 : ∀ q : Grown w6.heap.size w6, q.val.cell? ⟨pb, po + 4, none⟩ = some (.slice fa fn fc) := fun q => (q.old.cell (p := ⟨pb, po + 4, none⟩) (Nat.lt_of_lt_of_le hpl BY.out.size)).trans ((BY.out.cell (p := ⟨pb, po + 4, none⟩) hpl).trans K4.out)
              have g5 : ∀ q : Grown w6.heap.size w6, q.val.cell? ⟨pb, po + 5, none⟩ = some (.int .i64 tk) := fun q => (q.old.cell (p := ⟨pb, po + 5, none⟩) (Nat.lt_of_lt_of_le hpl BY.out.size)).trans ((BY.out.cell (p := ⟨pb, po + 5, none⟩) hpl).trans K5.out)
              have g6 : ∀ q : Grown w6.heap.size w6, q.val.cell? ⟨pb, po + 6, none⟩ = some (.slice ta tn tc) := fun q => (q.old.cell (p := ⟨pb, po + 6, none⟩) (Nat.lt_of_lt_of_le hpl BY.out.size)).trans ((BY.out.cell (p := ⟨pb, po + 6, none⟩) hpl).trans K6.out)
              have g7 : ∀ q : Grown w6.heap.size w6, q.val.cell? ⟨pb, po + 7, none⟩ = some (.slice a es.length cap) := fun q => (q.old.cell (p := ⟨pb, po + 7, none⟩) (Nat.lt_of_lt_of_le hpl BY.out.size)).trans ((BY.out.cell (p := ⟨pb, po + 7, none⟩) hpl).trans K7.out)
              have g8 : ∀ q : Grown w6.heap.size w6, q.val.cell? ⟨pb, po + 8, none⟩ = some (.slice a2 vs.length cap2) := fun q => (q.old.cell (p := ⟨pb, po + 8, none⟩) (Nat.lt_of_lt_of_le hpl BY.out.size)).trans ((BY.out.cell (p := ⟨pb, po + 8, none⟩) hpl).trans K8.out)
              have f0 : ∀ q : Grown w6.heap.size w6, q.val.cell? ⟨p9, 0, none⟩ = _ := fun q => (XY.out.grown q).2 0
              have f1 : ∀ q : Grown w6.heap.size w6, q.val.cell? ⟨p9, 1, none⟩ = _ := fun q => (XY.out.grown q).2 1
              have f2 : ∀ q : Grown w6.heap.size w6, q.val.cell? ⟨p9, 2, none⟩ = _ := fun q => (XY.out.grown q).2 2
              have f3 : ∀ q : Grown w6.heap.size w6, q.val.cell? ⟨p9, 3, none⟩ = _ := fun q => (XY.out.grown q).2 3
              have f4 : ∀ q : Grown w6.heap.size w6, q.val.cell? ⟨p9, 4, none⟩ = _ := fun q => (XY.out.grown q).2 4
              cases xf
              case false =>
                refine wp_region_grown w6.heap.size (by kernel_rfl) (by kernel_rfl) ?_
                repeat (go_big_quiet_step ((first | (go_at_call_of 82 (Value.bool bs); exact grown_of (Nat.le_refl _) (C5 _)) | (go_at_call_of 82 (Value.bool bt); exact grown_of (Nat.le_refl _) (C6 _)))))
                refine wpQuiet_nil ?_
                rintro w7 ⟨⟨wq, hq7⟩, rfl⟩
                clear g0 g1 g2 g3 g4 g5 g6 g7 g8 f0 f1 f2 f3 f4 C5 C6
                go_wp2_with fail
                go_ret
                exact ⟨by rw [HM.out]; rfl, BY.out.trans (hq7.mono BY.out.size)⟩
              case true =>
                refine wp_region_grown w6.heap.size (by kernel_rfl) (by kernel_rfl) ?_
                repeat (go_big_quiet_step ((first | (go_at_call_of 82 (Value.bool bs); exact grown_of (Nat.le_refl _) (C5 _)) | (go_at_call_of 82 (Value.bool bt); exact grown_of (Nat.le_refl _) (C6 _)))))
                refine wpQuiet_nil ?_
                rintro w7 ⟨⟨wq, hq7⟩, rfl⟩
                clear g0 g1 g2 g3 g4 g5 g6 g7 g8 f0 f1 f2 f3 f4 C5 C6
                go_wp2_with fail
                go_ret
                exact ⟨by rw [HM.out]; rfl, BY.out.trans (hq7.mono BY.out.size)⟩
          case false =>
            have hp : 0 < vs.length := by have h1 := of_decide_eq_false HBV.out.symm; have h2 := HLN.out; omega
            go_wp2_with fail
            go_ret
            exact ⟨by rw [HM.out]; rfl, BX.out⟩
    case false =>
      have NZ : ¬ (nm0.size = 0) := of_decide_eq_false HBE.out.symm
      have e1 := toList_some (s := nm0) (by omega)
      cases bn
      case false =>
        refine wp_region_grown W.heap.size (by kernel_rfl) (by kernel_rfl) ?_
        repeat (go_big_quiet_step ((first | (go_at_call 80; exact grown_of (Nat.le_refl _) (C3 _)))))
        refine wpQuiet_nil ?_
        rintro w8 ⟨⟨wq, hq8⟩, rfl⟩
        go_wp2_with fail
        go_ret
        exact ⟨by rw [HM.out]; rfl, BW.out.trans (hq8.mono BW.out.size)⟩
      case true =>
        cases bm
        case false =>
          refine wp_region_grown W.heap.size (by kernel_rfl) (by kernel_rfl) ?_
          repeat (go_big_quiet_step ((first | (go_at_call 80; exact grown_of (Nat.le_refl _) (C3 _)))))
          refine wpQuiet_nil ?_
          rintro w8 ⟨⟨wq, hq8⟩, rfl⟩
          go_wp2_with fail
          go_ret
          exact ⟨by rw [HM.out]; rfl, BW.out.trans (hq8.mono BW.out.size)⟩
        case true =>
          refine wp_region_grown W.heap.size (by kernel_rfl) (by kernel_rfl) ?_
          repeat (go_big_quiet_step ((first | (go_at_call 80; exact grown_of (Nat.le_refl _) (C3 _)))))
          refine wpQuiet_nil ?_
          rintro w8 ⟨⟨wq, hq8⟩, rfl⟩
          have BX := Lib.hid (BW.out.trans (hq8.mono BW.out.size))
          have XX := Lib.hid (XF.out.below hq8)
          clear hq8 g0 g1 g2 g3 g4 g5 g6 g7 g8 f0 f1 f2 f3 f4 C3 BW XF
          have z8 := (BX.out.cell (p := ⟨pb, po + 8, none⟩) hpl).trans K8.out
          have y2 := XX.out.2 2
          cases bb
          case true =>
            go_wp2_with fail
            refine (implOwnNames d _ ns vs _ (HEN.out.below BX.out) hlen2).mono ?_
            rintro e w6 ⟨rfl, hb6⟩
            have BY := Lib.hid (BX.out.trans (hb6.mono BX.out.size))
            have XY := Lib.hid (XX.out.below hb6)
            clear hb6 BX XX z8 y2
            rw [← HBO.out]
            cases bo
            case false =>
              go_wp2_with fail
              go_ret
              exact ⟨by rw [HM.out]; rfl, BY.out⟩
            case true =>
              have C5 : ∀ q : Grown w6.heap.size w6, Calls Tryd.prog 82 #[.bool bs, .agg #[.int .i64 fk, .slice fa fn fc]] q.val fun e w' => e = .returned (.bool (coTyFor bs fr)) ∧ Below q.val.heap.size q.val w' := fun q => implCoTyIf d _ _ fr _ (HFR.out.below (BY.out.trans (q.old.mono BY.out.size))) HFZ.out
              have C6 : ∀ q : Grown w6.heap.size w6, Calls Tryd.prog 82 #[.bool bt, .agg #[.int .i64 tk, .slice ta tn tc]] q.val fun e w' => e = .returned (.bool (coTyFor bt ty)) ∧ Below q.val.heap.size q.val w' := fun q => implCoTyIf d _ _ ty _ (HTY.out.below (BY.out.trans (q.old.mono BY.out.size))) HTZ.out
              obtain ⟨xf, hxf⟩ : ∃ x, x = coTyFor bs fr := ⟨_, rfl⟩
              rw [← hxf] at C5 HM
              obtain ⟨xt, hxt⟩ : ∃ x, x = coTyFor bt ty := ⟨_, rfl⟩
              rw [← hxt] at C6 HM
              clear hxf hxt
              go_wp2_with fail
              have g0 : ∀ q : Grown w6.heap.size w6, q.val.cell? ⟨pb, po, none⟩ = some (.int .i64 k) := fun q => (q.old.cell (p := ⟨pb, po, none⟩) (Nat.lt_of_lt_of_le hpl BY.out.size)).trans ((BY.out.cell (p := ⟨pb, po, none⟩) hpl).trans K0.out)
              have g1 : ∀ q : Grown w6.heap.size w6, q.val.cell? ⟨pb, po + 1, none⟩ = some (.string nm0) := fun q => (q.old.cell (p := ⟨pb, po + 1, none⟩) (Nat.lt_of_lt_of_le hpl BY.out.size)).trans ((BY.out.cell (p := ⟨pb, po + 1, none⟩) hpl).trans K1.out)
              have g2 : ∀ q : Grown w6.heap.size w6, q.val.cell? ⟨pb, po + 2, none⟩ = some (.int .i64 n0) := fun q => (q.old.cell (p := ⟨pb, po + 2, none⟩) (Nat.lt_of_lt_of_le hpl BY.out.size)).trans ((BY.out.cell (p := ⟨pb, po + 2, none⟩) hpl).trans K2.out)
              have g3 : ∀ q : Grown w6.heap.size w6, q.val.cell? ⟨pb, po + 3, none⟩ = some (.int .i64 fk) := fun q => (q.old.cell (p := ⟨pb, po + 3, none⟩) (Nat.lt_of_lt_of_le hpl BY.out.size)).trans ((BY.out.cell (p := ⟨pb, po + 3, none⟩) hpl).trans K3.out)
              have g4 : ∀ q : Grown w6.heap.size w6, q.val.cell? ⟨pb, po + 4, none⟩ = some (.slice fa fn fc) := fun q => (q.old.cell (p := ⟨pb, po + 4, none⟩) (Nat.lt_of_lt_of_le hpl BY.out.size)).trans ((BY.out.cell (p := ⟨pb, po + 4, none⟩) hpl).trans K4.out)
              have g5 : ∀ q : Grown w6.heap.size w6, q.val.cell? ⟨pb, po + 5, none⟩ = some (.int .i64 tk) := fun q => (q.old.cell (p := ⟨pb, po + 5, none⟩) (Nat.lt_of_lt_of_le hpl BY.out.size)).trans ((BY.out.cell (p := ⟨pb, po + 5, none⟩) hpl).trans K5.out)
              have g6 : ∀ q : Grown w6.heap.size w6, q.val.cell? ⟨pb, po + 6, none⟩ = some (.slice ta tn tc) := fun q => (q.old.cell (p := ⟨pb, po + 6, none⟩) (Nat.lt_of_lt_of_le hpl BY.out.size)).trans ((BY.out.cell (p := ⟨pb, po + 6, none⟩) hpl).trans K6.out)
              have g7 : ∀ q : Grown w6.heap.size w6, q.val.cell? ⟨pb, po + 7, none⟩ = some (.slice a es.length cap) := fun q => (q.old.cell (p := ⟨pb, po + 7, none⟩) (Nat.lt_of_lt_of_le hpl BY.out.size)).trans ((BY.out.cell (p := ⟨pb, po + 7, none⟩) hpl).trans K7.out)
              have g8 : ∀ q : Grown w6.heap.size w6, q.val.cell? ⟨pb, po + 8, none⟩ = some (.slice a2 vs.length cap2) := fun q => (q.old.cell (p := ⟨pb, po + 8, none⟩) (Nat.lt_of_lt_of_le hpl BY.out.size)).trans ((BY.out.cell (p := ⟨pb, po + 8, none⟩) hpl).trans K8.out)
              have f0 : ∀ q : Grown w6.heap.size w6, q.val.cell? ⟨p9, 0, none⟩ = _ := fun q => (XY.out.grown q).2 0
              have f1 : ∀ q : Grown w6.heap.size w6, q.val.cell? ⟨p9, 1, none⟩ = _ := fun q => (XY.out.grown q).2 1
              have f2 : ∀ q : Grown w6.heap.size w6, q.val.cell? ⟨p9, 2, none⟩ = _ := fun q => (XY.out.grown q).2 2
              have f3 : ∀ q : Grown w6.heap.size w6, q.val.cell? ⟨p9, 3, none⟩ = _ := fun q => (XY.out.grown q).2 3
              have f4 : ∀ q : Grown w6.heap.size w6, q.val.cell? ⟨p9, 4, none⟩ = _ := fun q => (XY.out.grown q).2 4
              cases xf
              case false =>
                refine wp_region_grown w6.heap.size (by kernel_rfl) (by kernel_rfl) ?_
                repeat (go_big_quiet_step ((first | (go_at_call_of 82 (Value.bool bs); exact grown_of (Nat.le_refl _) (C5 _)) | (go_at_call_of 82 (Value.bool bt); exact grown_of (Nat.le_refl _) (C6 _)))))
                refine wpQuiet_nil ?_
                rintro w7 ⟨⟨wq, hq7⟩, rfl⟩
                clear g0 g1 g2 g3 g4 g5 g6 g7 g8 f0 f1 f2 f3 f4 C5 C6
                go_wp2_with fail
                go_ret
                exact ⟨by rw [HM.out]; rfl, BY.out.trans (hq7.mono BY.out.size)⟩
              case true =>
                refine wp_region_grown w6.heap.size (by kernel_rfl) (by kernel_rfl) ?_
                repeat (go_big_quiet_step ((first | (go_at_call_of 82 (Value.bool bs); exact grown_of (Nat.le_refl _) (C5 _)) | (go_at_call_of 82 (Value.bool bt); exact grown_of (Nat.le_refl _) (C6 _)))))
                refine wpQuiet_nil ?_
                rintro w7 ⟨⟨wq, hq7⟩, rfl⟩
                clear g0 g1 g2 g3 g4 g5 g6 g7 g8 f0 f1 f2 f3 f4 C5 C6
                go_wp2_with fail
                go_ret
                exact ⟨by rw [HM.out]; rfl, BY.out.trans (hq7.mono BY.out.size)⟩
          case false =>
            cases bv
            case true =>
              have hv : vs.length = 0 := by have h1 := of_decide_eq_true HBV.out.symm; have h2 := HLN.out; omega
              have hen0 := HEN.out
              rw [hv] at z8 hen0
              have HEN0 := Lib.hid hen0
              clear hv hen0
              go_wp2_with fail
              refine (implOwnNames d _ ns vs _ (HEN0.out.below BX.out) hlen2).mono ?_
              rintro e w6 ⟨rfl, hb6⟩
              have BY := Lib.hid (BX.out.trans (hb6.mono BX.out.size))
              have XY := Lib.hid (XX.out.below hb6)
              clear hb6 BX XX z8 y2
              rw [← HBO.out]
              cases bo
              case false =>
                go_wp2_with fail
                go_ret
                exact ⟨by rw [HM.out]; rfl, BY.out⟩
              case true =>
                have C5 : ∀ q : Grown w6.heap.size w6, Calls Tryd.prog 82 #[.bool bs, .agg #[.int .i64 fk, .slice fa fn fc]] q.val fun e w' => e = .returned (.bool (coTyFor bs fr)) ∧ Below q.val.heap.size q.val w' := fun q => implCoTyIf d _ _ fr _ (HFR.out.below (BY.out.trans (q.old.mono BY.out.size))) HFZ.out
                have C6 : ∀ q : Grown w6.heap.size w6, Calls Tryd.prog 82 #[.bool bt, .agg #[.int .i64 tk, .slice ta tn tc]] q.val fun e w' => e = .returned (.bool (coTyFor bt ty)) ∧ Below q.val.heap.size q.val w' := fun q => implCoTyIf d _ _ ty _ (HTY.out.below (BY.out.trans (q.old.mono BY.out.size))) HTZ.out
                obtain ⟨xf, hxf⟩ : ∃ x, x = coTyFor bs fr := ⟨_, rfl⟩
                rw [← hxf] at C5 HM
                obtain ⟨xt, hxt⟩ : ∃ x, x = coTyFor bt ty := ⟨_, rfl⟩
                rw [← hxt] at C6 HM
                clear hxf hxt
                go_wp2_with fail
                have g0 : ∀ q : Grown w6.heap.size w6, q.val.cell? ⟨pb, po, none⟩ = some (.int .i64 k) := fun q => (q.old.cell (p := ⟨pb, po, none⟩) (Nat.lt_of_lt_of_le hpl BY.out.size)).trans ((BY.out.cell (p := ⟨pb, po, none⟩) hpl).trans K0.out)
                have g1 : ∀ q : Grown w6.heap.size w6, q.val.cell? ⟨pb, po + 1, none⟩ = some (.string nm0) := fun q => (q.old.cell (p := ⟨pb, po + 1, none⟩) (Nat.lt_of_lt_of_le hpl BY.out.size)).trans ((BY.out.cell (p := ⟨pb, po + 1, none⟩) hpl).trans K1.out)
                have g2 : ∀ q : Grown w6.heap.size w6, q.val.cell? ⟨pb, po + 2, none⟩ = some (.int .i64 n0) := fun q => (q.old.cell (p := ⟨pb, po + 2, none⟩) (Nat.lt_of_lt_of_le hpl BY.out.size)).trans ((BY.out.cell (p := ⟨pb, po + 2, none⟩) hpl).trans K2.out)
                have g3 : ∀ q : Grown w6.heap.size w6, q.val.cell? ⟨pb, po + 3, none⟩ = some (.int .i64 fk) := fun q => (q.old.cell (p := ⟨pb, po + 3, none⟩) (Nat.lt_of_lt_of_le hpl BY.out.size)).trans ((BY.out.cell (p := ⟨pb, po + 3, none⟩) hpl).trans K3.out)
                have g4 : ∀ q : Grown w6.heap.size w6, q.val.cell? ⟨pb, po + 4, none⟩ = some (.slice fa fn fc) := fun q => (q.old.cell (p := ⟨pb, po + 4, none⟩) (Nat.lt_of_lt_of_le hpl BY.out.size)).trans ((BY.out.cell (p := ⟨pb, po + 4, none⟩) hpl).trans K4.out)
                have g5 : ∀ q : Grown w6.heap.size w6, q.val.cell? ⟨pb, po + 5, none⟩ = some (.int .i64 tk) := fun q => (q.old.cell (p := ⟨pb, po + 5, none⟩) (Nat.lt_of_lt_of_le hpl BY.out.size)).trans ((BY.out.cell (p := ⟨pb, po + 5, none⟩) hpl).trans K5.out)
                have g6 : ∀ q : Grown w6.heap.size w6, q.val.cell? ⟨pb, po + 6, none⟩ = some (.slice ta tn tc) := fun q => (q.old.cell (p := ⟨pb, po + 6, none⟩) (Nat.lt_of_lt_of_le hpl BY.out.size)).trans ((BY.out.cell (p := ⟨pb, po + 6, none⟩) hpl).trans K6.out)
                have g7 : ∀ q : Grown w6.heap.size w6, q.val.cell? ⟨pb, po + 7, none⟩ = some (.slice a es.length cap) := fun q => (q.old.cell (p := ⟨pb, po + 7, none⟩) (Nat.lt_of_lt_of_le hpl BY.out.size)).trans ((BY.out.cell (p := ⟨pb, po + 7, none⟩) hpl).trans K7.out)
                have g8 : ∀ q : Grown w6.heap.size w6, q.val.cell? ⟨pb, po + 8, none⟩ = some (.slice a2 vs.length cap2) := fun q => (q.old.cell (p := ⟨pb, po + 8, none⟩) (Nat.lt_of_lt_of_le hpl BY.out.size)).trans ((BY.out.cell (p := ⟨pb, po + 8, none⟩) hpl).trans K8.out)
                have f0 : ∀ q : Grown w6.heap.size w6, q.val.cell? ⟨p9, 0, none⟩ = _ := fun q => (XY.out.grown q).2 0
                have f1 : ∀ q : Grown w6.heap.size w6, q.val.cell? ⟨p9, 1, none⟩ = _ := fun q => (XY.out.grown q).2 1
                have f2 : ∀ q : Grown w6.heap.size w6, q.val.cell? ⟨p9, 2, none⟩ = _ := fun q => (XY.out.grown q).2 2
                have f3 : ∀ q : Grown w6.heap.size w6, q.val.cell? ⟨p9, 3, none⟩ = _ := fun q => (XY.out.grown q).2 3
                have f4 : ∀ q : Grown w6.heap.size w6, q.val.cell? ⟨p9, 4, none⟩ = _ := fun q => (XY.out.grown q).2 4
                cases xf
                case false =>
                  refine wp_region_grown w6.heap.size (by kernel_rfl) (by kernel_rfl) ?_
                  repeat (go_big_quiet_step ((first | (go_at_call_of 82 (Value.bool bs); exact grown_of (Nat.le_refl _) (C5 _)) | (go_at_call_of 82 (Value.bool bt); exact grown_of (Nat.le_refl _) (C6 _)))))
                  refine wpQuiet_nil ?_
                  rintro w7 ⟨⟨wq, hq7⟩, rfl⟩
                  clear g0 g1 g2 g3 g4 g5 g6 g7 g8 f0 f1 f2 f3 f4 C5 C6
                  go_wp2_with fail
                  go_ret
                  exact ⟨by rw [HM.out]; rfl, BY.out.trans (hq7.mono BY.out.size)⟩
                case true =>
                  refine wp_region_grown w6.heap.size (by kernel_rfl) (by kernel_rfl) ?_
                  repeat (go_big_quiet_step ((first | (go_at_call_of 82 (Value.bool bs); exact grown_of (Nat.le_refl _) (C5 _)) | (go_at_call_of 82 (Value.bool bt); exact grown_of (Nat.le_refl _) (C6 _)))))
                  refine wpQuiet_nil ?_
                  rintro w7 ⟨⟨wq, hq7⟩, rfl⟩
                  clear g0 g1 g2 g3 g4 g5 g6 g7 g8 f0 f1 f2 f3 f4 C5 C6
                  go_wp2_with fail
                  go_ret
                  exact ⟨by rw [HM.out]; rfl, BY.out.trans (hq7.mono BY.out.size)⟩
            case false =>
              have hp : 0 < vs.length := by have h1 := of_decide_eq_false HBV.out.symm; have h2 := HLN.out; omega
              go_wp2_with fail
              go_ret
              exact ⟨by rw [HM.out]; rfl, BX.out⟩
end Go.Proofs.YtnggkcgifjfnfaaDoor
/-
  Proved: impl.coreWithin says whether a core expression is of the right form and fits into the room that is left; it counts the room down, and touches nothing else. impl.IsCore says whether it is valid.
-/
namespace Go.Proofs.YtnggkcgifjfnfaaDoor
open Go.RowKit

def cwithin (t : Co) (r : Int) : Bool := decide ((t.count : Int) ≤ r) && t.form
def CWEnd (p : Nat) (r : Int) (t : Co) (w : World) (e : Ending) (w' : World) : Prop :=
  ∃ r' : Int, e = .returned (.bool (cwithin t r)) ∧ Room p r' w w' ∧ (cwithin t r = true → r' = r - t.count)
theorem CWEnd.of {p : Nat} {r r' : Int} {t : Co} {w w' : World} {b : Bool} (hb : cwithin t r = b) (hr : Room p r' w w') (h : b = true → r' = r - t.count) : CWEnd p r t w (.returned (.bool b)) w' := by
  subst hb; exact ⟨r', rfl, hr, h⟩
theorem cwithin_true {t : Co} {r : Int} (h : cwithin t r = true) : (t.count : Int) ≤ r ∧ t.form = true := by
  simp only [cwithin, Bool.and_eq_true, decide_eq_true_eq] at h
  exact h
theorem cwithin_mk {t : Co} {r : Int} (h1 : (t.count : Int) ≤ r) (h3 : t.form = true) : cwithin t r = true := by
  simp only [cwithin, Bool.and_eq_true, decide_eq_true_eq]
  exact ⟨h1, h3⟩
theorem cwithin_not {t : Co} {r : Int} (h : ¬ ((t.count : Int) ≤ r ∧ t.form = true)) : cwithin t r = false := by
  cases hw : cwithin t r with
  | false => rfl
  | true => exact absurd (cwithin_true hw) h
theorem coform_parts {kd : Int} {nm : ByteArray} {n : Int} {fr ty : Ty} {es : List Co} {ns : List ByteArray} {vs : List Co} : (Co.node kd nm n fr ty es ns vs).form = true ↔ Co.forms es = true ∧ coNodeB kd nm n fr ty es.length ns = true ∧ Co.forms vs = true := by
  simp only [Co.form, coNodeB, Bool.and_eq_true]
  constructor
  · rintro ⟨h1, h2, ⟨h3, h4, h5⟩, h6⟩; exact ⟨h1, ⟨h2, ⟨h3, h5⟩, h6⟩, h4⟩
  · rintro ⟨h1, ⟨h2, ⟨h3, h5⟩, h6⟩, h4⟩; exact ⟨h1, h2, ⟨h3, h4, h5⟩, h6⟩
set_option maxRecDepth 100000 in
set_option maxHeartbeats 8000000 in
theorem implCoWithin (w0 : World) (htab : CoreFull w0) : ∀ (d : Nat) (v : Value) (t : Co) (p : Nat) (r : Int) (w : World), PtrCo w0 d v t → Below w0.heap.size w0 w → w0.heap.size ≤ p → t.bulk ≤ 1048576 → p < w.heap.size → 0 ≤ r → r ≤ 1048576 → w.cell? ⟨p, 0, none⟩ = some (.int .i64 r) → w.frozen? ⟨p, 0, none⟩ = false → Calls Tryd.prog 38 #[v, .pointer (some ⟨p, 0, none⟩)] w (CWEnd p r t w)
  | 0, _, _, _, _, _, h, _, _, _, _, _, _, _, _ => by
    obtain ⟨_, _, _, _, _, _, _, _, _, _, _, _, _, _, _, _, _, _, _, _, _, _, h⟩ := h
    exact h.elim
  | d + 1, v, .node kd nm0 n0 fr ty es ns vs, p, r, w, h, hw0, hp0, hsz, hp, hr0, hr1, hcell, hfroz => by
    have IH : Hid (∀ (v : Value) (t : Co) (p : Nat) (r : Int) (w : World), PtrCo w0 d v t → Below w0.heap.size w0 w → w0.heap.size ≤ p → t.bulk ≤ 1048576 → p < w.heap.size → 0 ≤ r → r ≤ 1048576 → w.cell? ⟨p, 0, none⟩ = some (.int .i64 r) → w.frozen? ⟨p, 0, none⟩ = false → Calls Tryd.prog 38 #[v, .pointer (some ⟨p, 0, none⟩)] w (CWEnd p r t w)) := implCoWithin w0 htab d
    have HWH := Lib.hid h
    have HBK := Lib.hid hsz
    obtain ⟨pb, po, x0, x1, x2, x3, x4, x5, x6, x7, x8, rfl, hpl, k0, k1, k2, k3, k4, k5, k6, k7, k8, ht⟩ := h
    obtain ⟨c3, c4, c5, c6, sl, el, hv, hk0, hk1, hn0, hn1, hnm, hfr, hty, ⟨a, cap, rfl, hcap, hcap2, hat⟩, hln, a2, cap2, rfl, hcpe, hcpe2, hae⟩ := ht
    injection hv with hv
    injection hv with hv
    simp at hv
    obtain ⟨rfl, rfl, rfl, rfl, rfl, rfl, rfl, rfl, rfl⟩ := hv
    have HAT := Lib.hid hat; clear hat
    have HAE := Lib.hid hae; clear hae
    have HLN := Lib.hid hln; clear hln
    have hbk : (Co.node kd nm0 n0 fr ty es ns vs).bulk = nm0.size + (fr.size - 1) + (ty.size - 1) + Co.bulks es + (txs ns + Co.bulks vs) := rfl
    have HSZ : Hid (Co.bulks es + Co.bulks vs ≤ 1048576) := by show _ ≤ _; omega
    have hlen : es.length ≤ 1048576 := by have := Co.length_le es; omega
    have hlen2 : vs.length ≤ 1048576 := by have := Co.length_le vs; omega
    have HCT : Hid ((Co.node kd nm0 n0 fr ty es ns vs).count = 1 + Co.counts es + Co.counts vs) := by show _ = _; simp [Co.count]
    have K7 := Lib.hid k7
    have K8 := Lib.hid k8
    clear hsz hbk hfr hty k0 k1 k2 k3 k4 k5 k6 k7 k8
    have HW0 := Lib.hid hw0; clear hw0
    have HC0 := Lib.hid hcell
    have R1 := Lib.hid (Room.stored (r := r - 1) hp (Below.refl _ w) hcell hfroz)
    have HW1 : Hid (Below w0.heap.size w0 (w.setCell ⟨p, 0, none⟩ (.int .i64 (r - 1)))) := HW0.out.trans (R1.out.2.2.1.mono hp0)
    have hz1 : (w.setCell ⟨p, 0, none⟩ (.int .i64 (r - 1))).heap.size = w.heap.size := by simp
    by_cases hr : r < 1
    · have HNO : Hid (cwithin (.node kd nm0 n0 fr ty es ns vs) r = false) := cwithin_not (by rw [HCT.out]; omega)
      go_enter Tryd.func38, Tryd.ntmps38
      go_wp2_with fail
      go_ret
      exact CWEnd.of HNO.out R1.out (fun h => by cases h)
    go_enter Tryd.func38, Tryd.ntmps38
    go_wp2_with fail
    refine (implCoNode d _ kd nm0 n0 fr ty es ns vs _ (HWH.out.below HW1.out) HBK.out (htab.below HW1.out)).mono ?_
    rintro e w2 ⟨rfl, hb2⟩
    have R2 := Lib.hid (R1.out.below hp hb2)
    have HW2 : Hid (Below w0.heap.size w0 w2) := HW0.out.trans (R2.out.2.2.1.mono hp0)
    clear hb2 HW1 hcell hfroz
    have z7 : w2.cell? ⟨pb, po + 7, none⟩ = some (.slice a es.length cap) := (HW2.out.cell (p := ⟨pb, po + 7, none⟩) hpl).trans K7.out
    have z8 : w2.cell? ⟨pb, po + 8, none⟩ = some (.slice a2 vs.length cap2) := (HW2.out.cell (p := ⟨pb, po + 8, none⟩) hpl).trans K8.out
    cases hnode : coNodeB kd nm0 n0 fr ty es.length ns with
    | false =>
      have HNO : Hid (cwithin (.node kd nm0 n0 fr ty es ns vs) r = false) := cwithin_not (fun h => by have := (coform_parts.1 h.2).2.1; rw [hnode] at this; cases this)
      clear hnode
      go_wp2_with fail
      go_ret
      exact CWEnd.of HNO.out R2.out (fun h => by cases h)
    | true =>
      have HND := Lib.hid hnode; clear hnode
      go_wp2_with fail
      go_loopw [26] (fun i wr => ∃ k : Nat, k ≤ es.length ∧ i = .int .i64 k ∧ 0 ≤ r - 1 - (Co.counts (es.take k) : Int) ∧ Co.forms (es.take k) = true ∧ Room p (r - 1 - Co.counts (es.take k)) w wr) (fun i _ => es.length - (intOf i).toNat)
      case atStart => exact ⟨0, by omega, rfl, by simp [Co.counts]; omega, by simp [Co.forms], by simpa [Co.counts] using R2.out⟩
      case round =>
        obtain ⟨k, hk, rfl, hs, hf, hroom⟩ := hrel
        have HS := Lib.hid hs
        have HF := Lib.hid hf
        have HR := Lib.hid hroom
        clear hs hf hroom
        have HWR : Hid (Below w0.heap.size w0 wr) := HW0.out.trans (HR.out.2.2.1.mono hp0)
        have hzr : w.heap.size ≤ wr.heap.size := HR.out.2.2.1.size
        have HS2 := HSZ.out
        have z7 : wr.cell? ⟨pb, po + 7, none⟩ = some (.slice a es.length cap) := (HWR.out.cell (p := ⟨pb, po + 7, none⟩) hpl).trans K7.out
        have z8 : wr.cell? ⟨pb, po + 8, none⟩ = some (.slice a2 vs.length cap2) := (HWR.out.cell (p := ⟨pb, po + 8, none⟩) hpl).trans K8.out
        by_cases hlt : k < es.length
        · obtain ⟨b, off, x0, x1, x2, x3, x4, x5, x6, x7, x8, rfl, hbl, hc0, hc1, hc2, hc3, hc4, hc5, hc6, hc7, hc8, ht⟩ := HAT.out k hlt
          have HP : Hid (PtrCo w0 d (.pointer (some ⟨b, off + k * 9, none⟩)) es[k]) := ⟨b, off + k * 9, _, _, _, _, _, _, _, _, _, rfl, hbl, hc0, hc1, hc2, hc3, hc4, hc5, hc6, hc7, hc8, ht⟩
          clear ht hc0 hc1 hc2 hc3 hc4 hc5 hc6 hc7 hc8
          have hg := Co.bulk_get es k hlt
          have hs0 := HS.out
          have hcl : (Co.counts (es.take k) : Int) ≤ 1048576 := by have := Co.counts_part es k; omega
          go_wp2_with fail
          refine (IH.out _ es[k] p (r - 1 - Co.counts (es.take k)) wr HP.out HWR.out hp0 (by omega) (by omega) (by omega) (by omega) HR.out.1 HR.out.2.1).mono ?_
          rintro e w3 ⟨r3, rfl, hR3, h3⟩
          have HR3 := Lib.hid (HR.out.on hR3)
          have H3 := Lib.hid h3
          clear hR3 h3
          have HT2 := Lib.hid (Co.counts_take es k hlt)
          have HFT := Lib.hid (Co.forms_take es k hlt)
          cases hw : cwithin es[k] (r - 1 - Co.counts (es.take k)) with
          | false =>
            have HNO : Hid (cwithin (.node kd nm0 n0 fr ty es ns vs) r = false) := cwithin_not (fun h => by
              have hp3 := coform_parts.1 h.2
              have h1 := Co.forms_get es k hlt hp3.1
              have h2 := Co.counts_le_all es (k + 1)
              have h4 := h.1
              rw [HCT.out] at h4
              rw [HT2.out] at h2
              rw [cwithin_mk (by omega) h1] at hw; cases hw)
            clear hw
            go_wp2_with fail
            go_ret
            exact CWEnd.of HNO.out HR3.out (fun h => by cases h)
          | true =>
            obtain ⟨v1, v3⟩ := cwithin_true hw
            have hr3 := H3.out hw
            have HV1 := Lib.hid v1
            have HV3 := Lib.hid v3
            have HRR := Lib.hid hr3
            clear hw v1 v3 hr3
            go_wp2_with fail
            refine ⟨⟨k + 1, by omega, by go_num, ?_, ?_, ?_⟩, by simp [intOf]; omega⟩
            · have h1 := HV1.out; rw [HT2.out]; omega
            · rw [HFT.out, HF.out, HV3.out]; rfl
            · have h1 := HR3.out; rw [HRR.out] at h1; rw [HT2.out]; have e : r - 1 - (Co.counts (es.take k) : Int) - (es[k].count : Int) = r - 1 - ((Co.counts (es.take k) + es[k].count : Nat) : Int) := by omega
              rw [e] at h1; exact h1
        · obtain rfl : k = es.length := by omega
          have HFE : Hid (Co.forms es = true) := by have := HF.out; rw [List.take_length] at this; exact this
          have HSE : Hid (0 ≤ r - 1 - (Co.counts es : Int)) := by have := HS.out; rw [List.take_length] at this; exact this
          have HRE : Hid (Room p (r - 1 - Co.counts es) w wr) := by have := HR.out; rw [List.take_length] at this; exact this
          clear HF HS HR
          go_wp2_with fail
          go_loopw [44] (fun i wr => ∃ k : Nat, k ≤ vs.length ∧ i = .int .i64 k ∧ 0 ≤ r - 1 - (Co.counts es : Int) - (Co.counts (vs.take k) : Int) ∧ Co.forms (vs.take k) = true ∧ Room p (r - 1 - (Co.counts es : Int) - Co.counts (vs.take k)) w wr) (fun i _ => vs.length - (intOf i).toNat)
          case atStart => exact ⟨0, by omega, rfl, by have := HSE.out; simp [Co.counts]; omega, by simp [Co.forms], by simpa [Co.counts] using HRE.out⟩
          case round =>
            obtain ⟨k, hk, rfl, hs, hf, hroom⟩ := hrel
            have HS := Lib.hid hs
            have HF := Lib.hid hf
            have HR := Lib.hid hroom
            clear hs hf hroom
            have HWR : Hid (Below w0.heap.size w0 wr) := HW0.out.trans (HR.out.2.2.1.mono hp0)
            have hzr : w.heap.size ≤ wr.heap.size := HR.out.2.2.1.size
            have HS2 := HSZ.out
            have z7 : wr.cell? ⟨pb, po + 7, none⟩ = some (.slice a es.length cap) := (HWR.out.cell (p := ⟨pb, po + 7, none⟩) hpl).trans K7.out
            have z8 : wr.cell? ⟨pb, po + 8, none⟩ = some (.slice a2 vs.length cap2) := (HWR.out.cell (p := ⟨pb, po + 8, none⟩) hpl).trans K8.out
            by_cases hlt : k < vs.length
            · have hlt2 : k < ns.length := by have := HLN.out; omega
              obtain ⟨b, off, x0, x1, x2, x3, x4, x5, x6, x7, x8, rfl, hbl, hnz, hcn, hc0, hc1, hc2, hc3, hc4, hc5, hc6, hc7, hc8, ht⟩ := HAE.out k hlt hlt2
              have HP : Hid (PtrCo w0 d (.pointer (some ⟨b, off + k * 10 + 1, none⟩)) vs[k]) := ⟨b, off + k * 10 + 1, _, _, _, _, _, _, _, _, _, rfl, hbl, hc0, hc1, hc2, hc3, hc4, hc5, hc6, hc7, hc8, ht⟩
              clear ht hc0 hc1 hc2 hc3 hc4 hc5 hc6 hc7 hc8 hcn hnz
              have hg := Co.bulk_get vs k hlt
              have hs0 := HS.out
              have hcl : (Co.counts (vs.take k) : Int) ≤ 1048576 := by have := Co.counts_part vs k; omega
              go_wp2_with fail
              refine (IH.out _ vs[k] p (r - 1 - (Co.counts es : Int) - Co.counts (vs.take k)) wr HP.out HWR.out hp0 (by omega) (by omega) (by omega) (by omega) HR.out.1 HR.out.2.1).mono ?_
              rintro e w3 ⟨r3, rfl, hR3, h3⟩
              have HR3 := Lib.hid (HR.out.on hR3)
              have H3 := Lib.hid h3
              clear hR3 h3
              have HT2 := Lib.hid (Co.counts_take vs k hlt)
              have HFT := Lib.hid (Co.forms_take vs k hlt)
              cases hw : cwithin vs[k] (r - 1 - (Co.counts es : Int) - Co.counts (vs.take k)) with
              | false =>
                have HNO : Hid (cwithin (.node kd nm0 n0 fr ty es ns vs) r = false) := cwithin_not (fun h => by
                  have hp3 := coform_parts.1 h.2
                  have h1 := Co.forms_get vs k hlt hp3.2.2
                  have h2 := Co.counts_le_all vs (k + 1)
                  have h4 := h.1
                  rw [HCT.out] at h4
                  rw [HT2.out] at h2
                  rw [cwithin_mk (by omega) h1] at hw; cases hw)
                clear hw
                go_wp2_with fail
                go_ret
                exact CWEnd.of HNO.out HR3.out (fun h => by cases h)
              | true =>
                obtain ⟨v1, v3⟩ := cwithin_true hw
                have hr3 := H3.out hw
                have HV1 := Lib.hid v1
                have HV3 := Lib.hid v3
                have HRR := Lib.hid hr3
                clear hw v1 v3 hr3
                go_wp2_with fail
                refine ⟨⟨k + 1, by omega, by go_num, ?_, ?_, ?_⟩, by simp [intOf]; omega⟩
                · have h1 := HV1.out; rw [HT2.out]; omega
                · rw [HFT.out, HF.out, HV3.out]; rfl
                · have h1 := HR3.out; rw [HRR.out] at h1; rw [HT2.out]; have e : r - 1 - (Co.counts es : Int) - (Co.counts (vs.take k) : Int) - (vs[k].count : Int) = r - 1 - (Co.counts es : Int) - ((Co.counts (vs.take k) + vs[k].count : Nat) : Int) := by omega
                  rw [e] at h1; exact h1
            · obtain rfl : k = vs.length := by omega
              have HNO : Hid (cwithin (.node kd nm0 n0 fr ty es ns vs) r = true) := by
                have h1 := HS.out
                have h3 := HF.out
                rw [List.take_length] at h1 h3
                exact cwithin_mk (by rw [HCT.out]; omega) (coform_parts.2 ⟨HFE.out, HND.out, h3⟩)
              have HRL : Hid (Room p (r - 1 - Co.counts es - Co.counts vs) w wr) := by have := HR.out; rw [List.take_length] at this; exact this
              go_wp2_with fail
              go_ret
              exact CWEnd.of HNO.out HRL.out (fun _ => by rw [HCT.out]; omega)
set_option maxRecDepth 100000 in
set_option maxHeartbeats 2000000 in
theorem cwithin_valid (t : Co) : cwithin t 600 = t.valid := by
  have e1 : decide ((t.count : Int) ≤ 600) = decide (t.count ≤ 600) := decide_eq_decide.2 (by omega)
  unfold cwithin Co.valid
  rw [e1]
theorem ptr_box {w : World} {d : Nat} {t : Co} {yk yn yfk ytk : Int} {ynm : ByteArray} {yfa yta ya za : Option Addr} {yfn yfc ytn ytc ym yc zm zc : Nat} (h : CoAt w d (.agg #[.int .i64 yk, .string ynm, .int .i64 yn, .int .i64 yfk, .slice yfa yfn yfc, .int .i64 ytk, .slice yta ytn ytc, .slice ya ym yc, .slice za zm zc]) t) :
    PtrCo (w.alloc (.cells #[.int .i64 yk, .string ynm, .int .i64 yn, .int .i64 yfk, .slice yfa yfn yfc, .int .i64 ytk, .slice yta ytn ytc, .slice ya ym yc, .slice za zm zc] 37)) d (.pointer (some ⟨w.heap.size, 0, none⟩)) t := by
  have X := BoxAt.new w #[.int .i64 yk, .string ynm, .int .i64 yn, .int .i64 yfk, .slice yfa yfn yfc, .int .i64 ytk, .slice yta ytn ytc, .slice ya ym yc, .slice za zm zc] 37
  exact ⟨_, 0, _, _, _, _, _, _, _, _, _, rfl, X.1, X.2 0, X.2 1, X.2 2, X.2 3, X.2 4, X.2 5, X.2 6, X.2 7, X.2 8, h.below (below_alloc _ _)⟩
set_option maxRecDepth 100000 in
set_option maxHeartbeats 2000000 in
theorem implIsCore (d : Nat) (v : Value) (t : Co) (w : World) (h : CoAt w d v t) (hsz : t.bulk ≤ 1048576) (htab : CoreFull w) :
    Calls Tryd.prog 20 #[v] w fun e w' => e = .returned (.bool t.valid) ∧ Below w.heap.size w w' := by
  obtain ⟨yk, ynm, yn, yfk, yfa, yfn, yfc, ytk, yta, ytn, ytc, ya, ym, yc, za, zm, zc, rfl⟩ := co_parts h
  have HP := Lib.hid (ptr_box h)
  have HTB := Lib.hid (htab.below (below_alloc w (.cells #[.int .i64 yk, .string ynm, .int .i64 yn, .int .i64 yfk, .slice yfa yfn yfc, .int .i64 ytk, .slice yta ytn ytc, .slice ya ym yc, .slice za zm zc] 37)))
  clear h htab
  have X : Hid (Below (w.heap.size + 1) (w.alloc (.cells #[.int .i64 yk, .string ynm, .int .i64 yn, .int .i64 yfk, .slice yfa yfn yfc, .int .i64 ytk, .slice yta ytn ytc, .slice ya ym yc, .slice za zm zc] 37)) ((w.alloc (.cells #[.int .i64 yk, .string ynm, .int .i64 yn, .int .i64 yfk, .slice yfa yfn yfc, .int .i64 ytk, .slice yta ytn ytc, .slice ya ym yc, .slice za zm zc] 37)).alloc (.cells #[.int .i64 600] 3))) := (Below.refl _ _).alloc (by simp) _
  go_enter Tryd.func20, Tryd.ntmps20
  go_wp2_with fail
  refine (implCoWithin (w.alloc (.cells #[.int .i64 yk, .string ynm, .int .i64 yn, .int .i64 yfk, .slice yfa yfn yfc, .int .i64 ytk, .slice yta ytn ytc, .slice ya ym yc, .slice za zm zc] 37)) HTB.out d _ t (w.heap.size + 1) 600 _ HP.out (by have := X.out; simpa using this) (by simp) hsz (by simp) (by omega) (by omega) (by simp [go_sem]) (by simp [go_sem])).mono ?_
  rintro e w' ⟨r', rfl, hr, _⟩
  have HB : Hid (Below w.heap.size w w') := ((below_alloc w _).alloc (by simp) _).trans (hr.2.2.1.mono (Nat.le_succ _))
  clear hr
  go_wp2_with fail
  go_ret
  exact ⟨by rw [cwithin_valid]; rfl, HB.out⟩
end Go.Proofs.YtnggkcgifjfnfaaDoor
namespace Go.Proofs.YtnggkcgifjfnfaaDoor
open Go.RowKit

theorem co_kd {w : World} {d : Nat} {k : Int} {c1 c2 c3 c4 c5 c6 c7 c8 : Value} {t : Co} (h : CoAt w d (.agg #[.int .i64 k, c1, c2, c3, c4, c5, c6, c7, c8]) t) : t.kd = k := by
  cases d with
  | zero => exact h.elim
  | succ d =>
    cases t with
    | node j nm n fr ty es ns vs =>
      obtain ⟨_, _, _, _, _, _, hv, _⟩ := h
      injection hv with hv
      injection hv with hv
      simp at hv
      exact hv.1.symm
theorem fm_one (a : Co) : Co.fms [a] = [a.fm] := rfl
theorem fm_two (a b : Co) : Co.fms [a, b] = [a.fm, b.fm] := rfl
theorem fm_three (a b c : Co) : Co.fms [a, b, c] = [a.fm, b.fm, c.fm] := rfl
set_option maxRecDepth 100000 in
set_option maxHeartbeats 8000000 in
theorem implFormOf : ∀ (d : Nat) (v : Value) (t : Co) (w : World), PtrCo w d v t → t.form = true → t.bulk ≤ 1048576 → Calls Tryd.prog 21 #[v] w fun e w' => e = .returned (.int .i64 t.fm) ∧ Below w.heap.size w w'
  | 0, _, _, _, h, _, _ => by
    obtain ⟨_, _, _, _, _, _, _, _, _, _, _, _, _, _, _, _, _, _, _, _, _, _, h⟩ := h
    exact h.elim
  | d + 1, v, .node kd nm0 n0 fr ty es ns vs, w, h, hform, hsz => by
    have IH : Hid (∀ (v : Value) (t : Co) (w : World), PtrCo w d v t → t.form = true → t.bulk ≤ 1048576 → Calls Tryd.prog 21 #[v] w fun e w' => e = .returned (.int .i64 t.fm) ∧ Below w.heap.size w w') := implFormOf d
    have HP := Lib.hid h
    have HBK := Lib.hid hsz
    have HFS := Lib.hid (co_forms hform)
    have HAR := co_arity hform
    have HEN : Hid (kd ≠ 1 → kd ≠ 2 → ns.length = 0) := fun h1 h2 => co_env hform h1 h2
    have HTV : Hid (kd = 14 → fr.valid = true ∧ ty.valid = true) := fun h1 => co_types hform h1
    have hkr := co_kind hform
    clear hform hsz
    obtain ⟨pb, po, x0, x1, x2, x3, x4, x5, x6, x7, x8, rfl, hpl, k0, k1, k2, k3, k4, k5, k6, k7, k8, hco⟩ := h
    have HV := co_parts hco
    have HCO := Lib.hid hco
    obtain ⟨c3, c4, c5, c6, sl, el, hx, hk0, hk1, hn0, hn1, hnm, hfr, hty, ⟨a, cap, rfl, hcap, hcap2, hat⟩, hln, a2, cap2, rfl, hcpe, hcpe2, hae⟩ := hco
    injection hx with hx
    injection hx with hx
    simp at hx
    obtain ⟨rfl, rfl, rfl, rfl, rfl, rfl, rfl, rfl, rfl⟩ := hx
    obtain ⟨yk, ynm, yn, fk, fa, fn, fc, tk, ta, tn, tc, ya, ym, yc, za, zm, zc, hv⟩ := HV
    injection hv with hv
    injection hv with hv
    simp at hv
    obtain ⟨rfl, rfl, rfl, rfl, rfl, rfl, rfl, HVR⟩ := hv
    clear HVR
    have HAT := Lib.hid hat; clear hat
    have HAE := Lib.hid hae; clear hae
    have HLN := Lib.hid hln; clear hln
    have EFK := Lib.hid (ty_kd hfr)
    have ETK := Lib.hid (ty_kd hty)
    have HFR := Lib.hid hfr; clear hfr
    have HTY := Lib.hid hty; clear hty
    clear HAE HFR HTY EFK ETK HCO
    have K0 := Lib.hid k0
    have K1 := Lib.hid k1
    have K2 := Lib.hid k2
    have K3 := Lib.hid k3
    have K4 := Lib.hid k4
    have K5 := Lib.hid k5
    have K6 := Lib.hid k6
    have K7 := Lib.hid k7
    have K8 := Lib.hid k8
    clear k0 k1 k2 k3 k4 k5 k6 k7 k8
    have z0 := K0.out
    have HVE : Hid (kd ≠ 1 → kd ≠ 2 → Co.fms vs = []) := by
      intro h1 h2
      have e1 := HEN.out h1 h2
      have e2 := HLN.out
      have e3 : vs = [] := List.length_eq_zero_iff.1 (by omega)
      rw [e3]; rfl
    rcases (by omega : kd = 1 ∨ kd = 2 ∨ kd = 3 ∨ kd = 4 ∨ kd = 5 ∨ kd = 6 ∨ kd = 7 ∨ kd = 8 ∨ kd = 9 ∨ kd = 10 ∨ kd = 11 ∨ kd = 12 ∨ kd = 13 ∨ kd = 14 ∨ kd = 15) with rfl | rfl | rfl | rfl | rfl | rfl | rfl | rfl | rfl | rfl | rfl | rfl | rfl | rfl | rfl
    · have HR : Hid ((Co.node 1 nm0 n0 fr ty es ns vs).fm = opn (!hasF 0 (Co.fms es ++ Co.fms vs))) := by show _ = _; simp [Co.fm, fmNode]
      clear HAR hkr HAT
      go_enter Tryd.func21, Tryd.ntmps21
      go_wp2_with fail
      refine (implFinal d IH _ 1 nm0 n0 fr ty es ns vs _ HP.out HFS.out HBK.out).mono ?_
      rintro e w1 ⟨rfl, hb⟩
      go_wp2_with fail
      refine (implOpenIf _ _).mono ?_
      rintro e w' ⟨rfl, rfl⟩
      go_wp2_with fail
      go_ret
      exact ⟨by rw [HR.out]; rfl, hb⟩
    · have HR : Hid ((Co.node 2 nm0 n0 fr ty es ns vs).fm = opn (!hasF 0 (Co.fms es ++ Co.fms vs))) := by show _ = _; simp [Co.fm, fmNode]
      clear HAR hkr HAT
      go_enter Tryd.func21, Tryd.ntmps21
      go_wp2_with fail
      refine (implFinal d IH _ 2 nm0 n0 fr ty es ns vs _ HP.out HFS.out HBK.out).mono ?_
      rintro e w1 ⟨rfl, hb⟩
      go_wp2_with fail
      refine (implOpenIf _ _).mono ?_
      rintro e w' ⟨rfl, rfl⟩
      go_wp2_with fail
      go_ret
      exact ⟨by rw [HR.out]; rfl, hb⟩
    · have HL : es.length = 0 := by have : coArity 3 = 0 := rfl; omega
      obtain rfl : es = [] := List.length_eq_zero_iff.1 HL
      clear HL HAR hkr HAT
      go_enter Tryd.func21, Tryd.ntmps21
      go_wp2_with fail
      go_ret
      exact ⟨rfl, Below.refl _ _⟩
    · clear HAR hkr HAT
      go_enter Tryd.func21, Tryd.ntmps21
      go_wp2_with fail
      go_ret
      exact ⟨rfl, Below.refl _ _⟩
    · have HL2 : es.length = 2 := by have : coArity 5 = 2 := rfl; omega
      obtain ⟨a0, b0, rfl⟩ := xlen_two HL2
      clear HL2 HAR
      clear hkr
      obtain ⟨b, off, x0, x1, x2, x3, x4, x5, x6, x7, x8, rfl, hbl, hc0, hc1, hc2, hc3, hc4, hc5, hc6, hc7, hc8, ht⟩ := HAT.out 0 (by simp)
      simp only [Nat.zero_mul, Nat.add_zero, List.getElem_cons_zero] at hc0 hc1 hc2 hc3 hc4 hc5 hc6 hc7 hc8 ht
      have HPA : Hid (PtrCo w d (.pointer (some ⟨b, off, none⟩)) a0) := ⟨b, off, _, _, _, _, _, _, _, _, _, rfl, hbl, hc0, hc1, hc2, hc3, hc4, hc5, hc6, hc7, hc8, ht⟩
      obtain ⟨ka, _, _, _, _, _, _, _, _, _, _, _, _, _, _, _, _, rfl, _⟩ := co_cells ht
      have HKA := Lib.hid (co_kd ht)
      have A0 := Lib.hid hc0
      clear ht hc0 hc1 hc2 hc3 hc4 hc5 hc6 hc7 hc8
      have HR : Hid ((Co.node 5 nm0 n0 fr ty [a0, b0] ns vs).fm = opn (!hasF 0 (Co.fms [a0, b0] ++ Co.fms vs) && (!decide (a0.kd = 4) && !a0.btw 4))) := by show _ = _; rw [HVE.out (by decide) (by decide), List.append_nil]; simp [Co.fm, fmNode, fm_two]
      rw [HKA.out] at HR
      have z7 := K7.out
      clear HAT
      go_enter Tryd.func21, Tryd.ntmps21
      go_wp2_with fail
      refine (implFinal d IH _ 5 nm0 n0 fr ty [a0, b0] ns vs _ HP.out HFS.out HBK.out).mono ?_
      rintro e w1 ⟨rfl, hb⟩
      have HB := Lib.hid hb; clear hb
      have y0 := (HB.out.cell (p := ⟨b, off, none⟩) hbl).trans A0.out
      cases hq : (!hasF 0 (Co.fms [a0, b0] ++ Co.fms vs)) with
      | false =>
        have HQ := Lib.hid hq; clear hq
        go_wp2_with fail
        refine (implOpenIf _ _).mono ?_
        rintro e w' ⟨rfl, rfl⟩
        go_wp2_with fail
        go_ret
        exact ⟨by rw [HR.out, HQ.out]; rfl, HB.out⟩
      | true =>
        have HQ := Lib.hid hq; clear hq
        by_cases qa : ka = 4
        · have qa1 : (ka == 4) = true := by simp [qa]
          have qa2 : (ka != 4) = false := by simp [qa]
          go_wp2_with fail
          refine (implOpenIf _ _).mono ?_
          rintro e w' ⟨rfl, rfl⟩
          go_wp2_with fail
          go_ret
          exact ⟨by rw [HR.out, HQ.out]; simp [opn, qa], HB.out⟩
        · have qa1 : (ka == 4) = false := by simp [qa]
          have qa2 : (ka != 4) = true := by simp [qa]
          go_wp2_with fail
          refine (implCastWithin d _ a0 _ (HPA.out.below HB.out) 4).mono ?_
          rintro e w' ⟨rfl, rfl⟩
          cases hb4 : a0.btw 4 with
          | false =>
            have HB4 := Lib.hid hb4; clear hb4
            go_wp2_with fail
            refine (implOpenIf _ _).mono ?_
            rintro e w' ⟨rfl, rfl⟩
            go_wp2_with fail
            go_ret
            exact ⟨by rw [HR.out, HQ.out, HB4.out]; simp [opn, qa], HB.out⟩
          | true =>
            have HB4 := Lib.hid hb4; clear hb4
            go_wp2_with fail
            refine (implOpenIf _ _).mono ?_
            rintro e w' ⟨rfl, rfl⟩
            go_wp2_with fail
            go_ret
            exact ⟨by rw [HR.out, HQ.out, HB4.out]; simp [opn, qa], HB.out⟩
    · clear HAR hkr HAT
      go_enter Tryd.func21, Tryd.ntmps21
      go_wp2_with fail
      go_ret
      exact ⟨rfl, Below.refl _ _⟩
    · have HL2 : es.length = 2 := by have : coArity 7 = 2 := rfl; omega
      obtain ⟨a0, b0, rfl⟩ := xlen_two HL2
      clear HL2 HAR
      clear hkr
      obtain ⟨b, off, x0, x1, x2, x3, x4, x5, x6, x7, x8, rfl, hbl, hc0, hc1, hc2, hc3, hc4, hc5, hc6, hc7, hc8, ht⟩ := HAT.out 0 (by simp)
      simp only [Nat.zero_mul, Nat.add_zero, List.getElem_cons_zero] at hc0 hc1 hc2 hc3 hc4 hc5 hc6 hc7 hc8 ht
      have HPA : Hid (PtrCo w d (.pointer (some ⟨b, off, none⟩)) a0) := ⟨b, off, _, _, _, _, _, _, _, _, _, rfl, hbl, hc0, hc1, hc2, hc3, hc4, hc5, hc6, hc7, hc8, ht⟩
      obtain ⟨ka, _, _, _, _, _, _, _, _, _, _, _, _, _, _, _, _, rfl, _⟩ := co_cells ht
      have HKA := Lib.hid (co_kd ht)
      have A0 := Lib.hid hc0
      clear ht hc0 hc1 hc2 hc3 hc4 hc5 hc6 hc7 hc8
      obtain ⟨b2, off2, y0, y1, y2, y3, y4, y5, y6, y7, y8, hab, hbl2, hc0, hc1, hc2, hc3, hc4, hc5, hc6, hc7, hc8, ht⟩ := HAT.out 1 (by simp)
      obtain ⟨rfl, rfl⟩ : b = b2 ∧ off = off2 := by simpa using hab
      simp only [Nat.one_mul, List.getElem_cons_succ, List.getElem_cons_zero] at hc0 hc1 hc2 hc3 hc4 hc5 hc6 hc7 hc8 ht
      obtain ⟨kb, _, _, _, _, _, _, _, _, _, _, _, _, _, _, _, _, rfl, _⟩ := co_cells ht
      have HKB := Lib.hid (co_kd ht)
      have B0 := Lib.hid hc0
      clear ht hab hbl2 hc0 hc1 hc2 hc3 hc4 hc5 hc6 hc7 hc8
      have HR : Hid ((Co.node 7 nm0 n0 fr ty [a0, b0] ns vs).fm = opn (!hasF 0 (Co.fms [a0, b0] ++ Co.fms vs) && !(decide (a0.kd = 6) && decide (b0.kd = 6)))) := by show _ = _; rw [HVE.out (by decide) (by decide), List.append_nil]; simp [Co.fm, fmNode, fm_two]
      rw [HKA.out, HKB.out] at HR
      have z7 := K7.out
      have y0 := A0.out
      have y9 := B0.out
      clear HAT
      by_cases qa : ka = 6
      · have qa1 : (ka == 6) = true := by simp [qa]
        by_cases qb : kb = 6
        · have qb1 : (kb == 6) = true := by simp [qb]
          go_enter Tryd.func21, Tryd.ntmps21
          go_wp2_with fail
          refine (implFinal d IH _ 7 nm0 n0 fr ty [a0, b0] ns vs _ HP.out HFS.out HBK.out).mono ?_
          rintro e w1 ⟨rfl, hb⟩
          cases hq : (!hasF 0 (Co.fms [a0, b0] ++ Co.fms vs)) with
          | false =>
            have HQ := Lib.hid hq; clear hq
            go_wp2_with fail
            refine (implOpenIf _ _).mono ?_
            rintro e w' ⟨rfl, rfl⟩
            go_wp2_with fail
            go_ret
            exact ⟨by rw [HR.out, HQ.out]; simp [opn, qa, qb], hb⟩
          | true =>
            have HQ := Lib.hid hq; clear hq
            go_wp2_with fail
            refine (implOpenIf _ _).mono ?_
            rintro e w' ⟨rfl, rfl⟩
            go_wp2_with fail
            go_ret
            exact ⟨by rw [HR.out, HQ.out]; simp [opn, qa, qb], hb⟩
        · have qb1 : (kb == 6) = false := by simp [qb]
          go_enter Tryd.func21, Tryd.ntmps21
          go_wp2_with fail
          refine (implFinal d IH _ 7 nm0 n0 fr ty [a0, b0] ns vs _ HP.out HFS.out HBK.out).mono ?_
          rintro e w1 ⟨rfl, hb⟩
          cases hq : (!hasF 0 (Co.fms [a0, b0] ++ Co.fms vs)) with
          | false =>
            have HQ := Lib.hid hq; clear hq
            go_wp2_with fail
            refine (implOpenIf _ _).mono ?_
            rintro e w' ⟨rfl, rfl⟩
            go_wp2_with fail
            go_ret
            exact ⟨by rw [HR.out, HQ.out]; simp [opn, qa, qb], hb⟩
          | true =>
            have HQ := Lib.hid hq; clear hq
            go_wp2_with fail
            refine (implOpenIf _ _).mono ?_
            rintro e w' ⟨rfl, rfl⟩
            go_wp2_with fail
            go_ret
            exact ⟨by rw [HR.out, HQ.out]; simp [opn, qa, qb], hb⟩
      · have qa1 : (ka == 6) = false := by simp [qa]
        go_enter Tryd.func21, Tryd.ntmps21
        go_wp2_with fail
        refine (implFinal d IH _ 7 nm0 n0 fr ty [a0, b0] ns vs _ HP.out HFS.out HBK.out).mono ?_
        rintro e w1 ⟨rfl, hb⟩
        cases hq : (!hasF 0 (Co.fms [a0, b0] ++ Co.fms vs)) with
        | false =>
          have HQ := Lib.hid hq; clear hq
          go_wp2_with fail
          refine (implOpenIf _ _).mono ?_
          rintro e w' ⟨rfl, rfl⟩
          go_wp2_with fail
          go_ret
          exact ⟨by rw [HR.out, HQ.out]; simp [opn, qa], hb⟩
        | true =>
          have HQ := Lib.hid hq; clear hq
          go_wp2_with fail
          refine (implOpenIf _ _).mono ?_
          rintro e w' ⟨rfl, rfl⟩
          go_wp2_with fail
          go_ret
          exact ⟨by rw [HR.out, HQ.out]; simp [opn, qa], hb⟩
    · have HL2 : es.length = 2 := by have : coArity 8 = 2 := rfl; omega
      obtain ⟨a0, b0, rfl⟩ := xlen_two HL2
      clear HL2 HAR
      clear hkr
      obtain ⟨b, off, x0, x1, x2, x3, x4, x5, x6, x7, x8, rfl, hbl, hc0, hc1, hc2, hc3, hc4, hc5, hc6, hc7, hc8, ht⟩ := HAT.out 0 (by simp)
      simp only [Nat.zero_mul, Nat.add_zero, List.getElem_cons_zero] at hc0 hc1 hc2 hc3 hc4 hc5 hc6 hc7 hc8 ht
      have HPA : Hid (PtrCo w d (.pointer (some ⟨b, off, none⟩)) a0) := ⟨b, off, _, _, _, _, _, _, _, _, _, rfl, hbl, hc0, hc1, hc2, hc3, hc4, hc5, hc6, hc7, hc8, ht⟩
      obtain ⟨ka, _, _, _, _, _, _, _, _, _, _, _, _, _, _, _, _, rfl, _⟩ := co_cells ht
      have HKA := Lib.hid (co_kd ht)
      have A0 := Lib.hid hc0
      clear ht hc0 hc1 hc2 hc3 hc4 hc5 hc6 hc7 hc8
      obtain ⟨b2, off2, y0, y1, y2, y3, y4, y5, y6, y7, y8, hab, hbl2, hc0, hc1, hc2, hc3, hc4, hc5, hc6, hc7, hc8, ht⟩ := HAT.out 1 (by simp)
      obtain ⟨rfl, rfl⟩ : b = b2 ∧ off = off2 := by simpa using hab
      simp only [Nat.one_mul, List.getElem_cons_succ, List.getElem_cons_zero] at hc0 hc1 hc2 hc3 hc4 hc5 hc6 hc7 hc8 ht
      obtain ⟨kb, _, _, _, _, _, _, _, _, _, _, _, _, _, _, _, _, rfl, _⟩ := co_cells ht
      have HKB := Lib.hid (co_kd ht)
      have B0 := Lib.hid hc0
      clear ht hab hbl2 hc0 hc1 hc2 hc3 hc4 hc5 hc6 hc7 hc8
      have HR : Hid ((Co.node 8 nm0 n0 fr ty [a0, b0] ns vs).fm = opn (!hasF 0 (Co.fms [a0, b0] ++ Co.fms vs) && !(decide (a0.kd = 6) && decide (b0.kd = 6)))) := by show _ = _; rw [HVE.out (by decide) (by decide), List.append_nil]; simp [Co.fm, fmNode, fm_two]
      rw [HKA.out, HKB.out] at HR
      have z7 := K7.out
      have y0 := A0.out
      have y9 := B0.out
      clear HAT
      by_cases qa : ka = 6
      · have qa1 : (ka == 6) = true := by simp [qa]
        by_cases qb : kb = 6
        · have qb1 : (kb == 6) = true := by simp [qb]
          go_enter Tryd.func21, Tryd.ntmps21
          go_wp2_with fail
          refine (implFinal d IH _ 8 nm0 n0 fr ty [a0, b0] ns vs _ HP.out HFS.out HBK.out).mono ?_
          rintro e w1 ⟨rfl, hb⟩
          cases hq : (!hasF 0 (Co.fms [a0, b0] ++ Co.fms vs)) with
          | false =>
            have HQ := Lib.hid hq; clear hq
            go_wp2_with fail
            refine (implOpenIf _ _).mono ?_
            rintro e w' ⟨rfl, rfl⟩
            go_wp2_with fail
            go_ret
            exact ⟨by rw [HR.out, HQ.out]; simp [opn, qa, qb], hb⟩
          | true =>
            have HQ := Lib.hid hq; clear hq
            go_wp2_with fail
            refine (implOpenIf _ _).mono ?_
            rintro e w' ⟨rfl, rfl⟩
            go_wp2_with fail
            go_ret
            exact ⟨by rw [HR.out, HQ.out]; simp [opn, qa, qb], hb⟩
        · have qb1 : (kb == 6) = false := by simp [qb]
          go_enter Tryd.func21, Tryd.ntmps21
          go_wp2_with fail
          refine (implFinal d IH _ 8 nm0 n0 fr ty [a0, b0] ns vs _ HP.out HFS.out HBK.out).mono ?_
          rintro e w1 ⟨rfl, hb⟩
          cases hq : (!hasF 0 (Co.fms [a0, b0] ++ Co.fms vs)) with
          | false =>
            have HQ := Lib.hid hq; clear hq
            go_wp2_with fail
            refine (implOpenIf _ _).mono ?_
            rintro e w' ⟨rfl, rfl⟩
            go_wp2_with fail
            go_ret
            exact ⟨by rw [HR.out, HQ.out]; simp [opn, qa, qb], hb⟩
          | true =>
            have HQ := Lib.hid hq; clear hq
            go_wp2_with fail
            refine (implOpenIf _ _).mono ?_
            rintro e w' ⟨rfl, rfl⟩
            go_wp2_with fail
            go_ret
            exact ⟨by rw [HR.out, HQ.out]; simp [opn, qa, qb], hb⟩
      · have qa1 : (ka == 6) = false := by simp [qa]
        go_enter Tryd.func21, Tryd.ntmps21
        go_wp2_with fail
        refine (implFinal d IH _ 8 nm0 n0 fr ty [a0, b0] ns vs _ HP.out HFS.out HBK.out).mono ?_
        rintro e w1 ⟨rfl, hb⟩
        cases hq : (!hasF 0 (Co.fms [a0, b0] ++ Co.fms vs)) with
        | false =>
          have HQ := Lib.hid hq; clear hq
          go_wp2_with fail
          refine (implOpenIf _ _).mono ?_
          rintro e w' ⟨rfl, rfl⟩
          go_wp2_with fail
          go_ret
          exact ⟨by rw [HR.out, HQ.out]; simp [opn, qa], hb⟩
        | true =>
          have HQ := Lib.hid hq; clear hq
          go_wp2_with fail
          refine (implOpenIf _ _).mono ?_
          rintro e w' ⟨rfl, rfl⟩
          go_wp2_with fail
          go_ret
          exact ⟨by rw [HR.out, HQ.out]; simp [opn, qa], hb⟩
    · clear HAR hkr HAT
      go_enter Tryd.func21, Tryd.ntmps21
      go_wp2_with fail
      go_ret
      exact ⟨rfl, Below.refl _ _⟩
    · have HL3 : es.length = 3 := by have : coArity 10 = 3 := rfl; omega
      obtain ⟨a0, b0, c0, rfl⟩ := xlen_three HL3
      clear HL3 HAR
      clear hkr
      obtain ⟨b, off, x0, x1, x2, x3, x4, x5, x6, x7, x8, rfl, hbl, hc0, hc1, hc2, hc3, hc4, hc5, hc6, hc7, hc8, ht⟩ := HAT.out 0 (by simp)
      simp only [Nat.zero_mul, Nat.add_zero, List.getElem_cons_zero] at hc0 hc1 hc2 hc3 hc4 hc5 hc6 hc7 hc8 ht
      have HPA : Hid (PtrCo w d (.pointer (some ⟨b, off, none⟩)) a0) := ⟨b, off, _, _, _, _, _, _, _, _, _, rfl, hbl, hc0, hc1, hc2, hc3, hc4, hc5, hc6, hc7, hc8, ht⟩
      obtain ⟨ka, _, _, _, _, _, _, _, _, _, _, _, _, _, _, _, _, rfl, _⟩ := co_cells ht
      have HKA := Lib.hid (co_kd ht)
      have A0 := Lib.hid hc0
      clear ht hc0 hc1 hc2 hc3 hc4 hc5 hc6 hc7 hc8
      have HR : Hid ((Co.node 10 nm0 n0 fr ty [a0, b0, c0] ns vs).fm = opn (decide (a0.fm = 2))) := by show _ = _; simp [Co.fm, fmNode, fm_three]
      have HFA : a0.form = true := by have := HFS.out.1; simp only [Co.forms, Bool.and_eq_true] at this; exact this.1
      have HBA : a0.bulk ≤ 1048576 := by have h1 := HBK.out; simp only [Co.bulk, Co.bulks] at h1; omega
      have z7 := K7.out
      clear HAT
      go_enter Tryd.func21, Tryd.ntmps21
      go_wp2_with fail
      refine (IH.out _ a0 _ HPA.out HFA HBA).mono ?_
      rintro e w1 ⟨rfl, hb⟩
      have hrg := Co.fm_range a0
      obtain ⟨x, hx⟩ : ∃ x, x = a0.fm := ⟨_, rfl⟩
      rw [← hx] at hrg HR
      rw [← hx]
      clear hx
      rcases hrg with rfl | rfl | rfl
      · go_wp2_with fail
        refine (implOpenIf _ _).mono ?_
        rintro e w' ⟨rfl, rfl⟩
        go_wp2_with fail
        go_ret
        exact ⟨by rw [HR.out]; rfl, hb⟩
      · go_wp2_with fail
        refine (implOpenIf _ _).mono ?_
        rintro e w' ⟨rfl, rfl⟩
        go_wp2_with fail
        go_ret
        exact ⟨by rw [HR.out]; rfl, hb⟩
      · go_wp2_with fail
        refine (implOpenIf _ _).mono ?_
        rintro e w' ⟨rfl, rfl⟩
        go_wp2_with fail
        go_ret
        exact ⟨by rw [HR.out]; rfl, hb⟩
    · have HR : Hid ((Co.node 11 nm0 n0 fr ty es ns vs).fm = allF (Co.fms es ++ Co.fms vs)) := by show _ = _; rw [HVE.out (by decide) (by decide), List.append_nil]; simp [Co.fm, fmNode]
      clear HAR hkr HAT
      go_enter Tryd.func21, Tryd.ntmps21
      go_wp2_with fail
      refine (implFormsWithin d IH _ 11 nm0 n0 fr ty es ns vs _ HP.out HFS.out HBK.out).mono ?_
      rintro e w1 ⟨m, rfl, hm, hb⟩
      have HM := Lib.hid (allF_bits hm)
      have hrg : m = 0 ∨ m = 1 ∨ m = 2 ∨ m = 3 ∨ m = 4 ∨ m = 5 ∨ m = 6 ∨ m = 7 := by rw [hm]; exact bits3_range _ _ _
      clear hm
      go_wp2_with fail
      refine (implFormPair m hrg _).mono ?_
      rintro e w' ⟨rfl, rfl⟩
      rw [← HM.out]
      go_wp2_with fail
      go_ret
      exact ⟨by rw [HR.out]; rfl, hb⟩
    · have HL1 : es.length = 1 := by have : coArity 12 = 1 := rfl; omega
      obtain ⟨a0, rfl⟩ := xlen_one HL1
      clear HL1 HAR
      clear hkr
      obtain ⟨b, off, x0, x1, x2, x3, x4, x5, x6, x7, x8, rfl, hbl, hc0, hc1, hc2, hc3, hc4, hc5, hc6, hc7, hc8, ht⟩ := HAT.out 0 (by simp)
      simp only [Nat.zero_mul, Nat.add_zero, List.getElem_cons_zero] at hc0 hc1 hc2 hc3 hc4 hc5 hc6 hc7 hc8 ht
      have HPA : Hid (PtrCo w d (.pointer (some ⟨b, off, none⟩)) a0) := ⟨b, off, _, _, _, _, _, _, _, _, _, rfl, hbl, hc0, hc1, hc2, hc3, hc4, hc5, hc6, hc7, hc8, ht⟩
      obtain ⟨ka, _, _, _, _, _, _, _, _, _, _, _, _, _, _, _, _, rfl, _⟩ := co_cells ht
      have HKA := Lib.hid (co_kd ht)
      have A0 := Lib.hid hc0
      clear ht hc0 hc1 hc2 hc3 hc4 hc5 hc6 hc7 hc8
      have HR : Hid ((Co.node 12 nm0 n0 fr ty [a0] ns vs).fm = opn (decide (a0.fm = 2) && (!decide (a0.kd = 11) && !a0.btw 5))) := by show _ = _; simp [Co.fm, fmNode, fm_one]
      rw [HKA.out] at HR
      have HFA : a0.form = true := by have := HFS.out.1; simp only [Co.forms, Bool.and_eq_true] at this; exact this.1
      have HBA : a0.bulk ≤ 1048576 := by have h1 := HBK.out; simp only [Co.bulk, Co.bulks] at h1; omega
      have z7 := K7.out
      clear HAT
      go_enter Tryd.func21, Tryd.ntmps21
      go_wp2_with fail
      refine (IH.out _ a0 _ HPA.out HFA HBA).mono ?_
      rintro e w1 ⟨rfl, hb⟩
      have HB := Lib.hid hb; clear hb
      have y0 := (HB.out.cell (p := ⟨b, off, none⟩) hbl).trans A0.out
      have hrg := Co.fm_range a0
      obtain ⟨x, hx⟩ : ∃ x, x = a0.fm := ⟨_, rfl⟩
      rw [← hx] at hrg HR
      rw [← hx]
      clear hx
      rcases hrg with rfl | rfl | rfl
      · go_wp2_with fail
        refine (implOpenIf _ _).mono ?_
        rintro e w' ⟨rfl, rfl⟩
        go_wp2_with fail
        go_ret
        exact ⟨by rw [HR.out]; rfl, HB.out⟩
      · go_wp2_with fail
        refine (implOpenIf _ _).mono ?_
        rintro e w' ⟨rfl, rfl⟩
        go_wp2_with fail
        go_ret
        exact ⟨by rw [HR.out]; rfl, HB.out⟩
      · by_cases qa : ka = 11
        · have qa1 : (ka == 11) = true := by simp [qa]
          have qa2 : (ka != 11) = false := by simp [qa]
          go_wp2_with fail
          refine (implOpenIf _ _).mono ?_
          rintro e w' ⟨rfl, rfl⟩
          go_wp2_with fail
          go_ret
          exact ⟨by rw [HR.out]; simp [opn, qa], HB.out⟩
        · have qa1 : (ka == 11) = false := by simp [qa]
          have qa2 : (ka != 11) = true := by simp [qa]
          go_wp2_with fail
          refine (implCastWithin d _ a0 _ (HPA.out.below HB.out) 5).mono ?_
          rintro e w' ⟨rfl, rfl⟩
          cases hb4 : a0.btw 5 with
          | false =>
            have HB4 := Lib.hid hb4; clear hb4
            go_wp2_with fail
            refine (implOpenIf _ _).mono ?_
            rintro e w' ⟨rfl, rfl⟩
            go_wp2_with fail
            go_ret
            exact ⟨by rw [HR.out, HB4.out]; simp [opn, qa], HB.out⟩
          | true =>
            have HB4 := Lib.hid hb4; clear hb4
            go_wp2_with fail
            refine (implOpenIf _ _).mono ?_
            rintro e w' ⟨rfl, rfl⟩
            go_wp2_with fail
            go_ret
            exact ⟨by rw [HR.out, HB4.out]; simp [opn, qa], HB.out⟩
    · have HL1 : es.length = 1 := by have : coArity 13 = 1 := rfl; omega
      obtain ⟨a0, rfl⟩ := xlen_one HL1
      clear HL1 HAR
      clear hkr
      obtain ⟨b, off, x0, x1, x2, x3, x4, x5, x6, x7, x8, rfl, hbl, hc0, hc1, hc2, hc3, hc4, hc5, hc6, hc7, hc8, ht⟩ := HAT.out 0 (by simp)
      simp only [Nat.zero_mul, Nat.add_zero, List.getElem_cons_zero] at hc0 hc1 hc2 hc3 hc4 hc5 hc6 hc7 hc8 ht
      have HPA : Hid (PtrCo w d (.pointer (some ⟨b, off, none⟩)) a0) := ⟨b, off, _, _, _, _, _, _, _, _, _, rfl, hbl, hc0, hc1, hc2, hc3, hc4, hc5, hc6, hc7, hc8, ht⟩
      obtain ⟨ka, _, _, _, _, _, _, _, _, _, _, _, _, _, _, _, _, rfl, _⟩ := co_cells ht
      have HKA := Lib.hid (co_kd ht)
      have A0 := Lib.hid hc0
      clear ht hc0 hc1 hc2 hc3 hc4 hc5 hc6 hc7 hc8
      have HR : Hid ((Co.node 13 nm0 n0 fr ty [a0] ns vs).fm = opn (decide (a0.fm = 2) && (!decide (a0.kd = 11) && !a0.btw 5))) := by show _ = _; simp [Co.fm, fmNode, fm_one]
      rw [HKA.out] at HR
      have HFA : a0.form = true := by have := HFS.out.1; simp only [Co.forms, Bool.and_eq_true] at this; exact this.1
      have HBA : a0.bulk ≤ 1048576 := by have h1 := HBK.out; simp only [Co.bulk, Co.bulks] at h1; omega
      have z7 := K7.out
      clear HAT
      go_enter Tryd.func21, Tryd.ntmps21
      go_wp2_with fail
      refine (IH.out _ a0 _ HPA.out HFA HBA).mono ?_
      rintro e w1 ⟨rfl, hb⟩
      have HB := Lib.hid hb; clear hb
      have y0 := (HB.out.cell (p := ⟨b, off, none⟩) hbl).trans A0.out
      have hrg := Co.fm_range a0
      obtain ⟨x, hx⟩ : ∃ x, x = a0.fm := ⟨_, rfl⟩
      rw [← hx] at hrg HR
      rw [← hx]
      clear hx
      rcases hrg with rfl | rfl | rfl
      · go_wp2_with fail
        refine (implOpenIf _ _).mono ?_
        rintro e w' ⟨rfl, rfl⟩
        go_wp2_with fail
        go_ret
        exact ⟨by rw [HR.out]; rfl, HB.out⟩
      · go_wp2_with fail
        refine (implOpenIf _ _).mono ?_
        rintro e w' ⟨rfl, rfl⟩
        go_wp2_with fail
        go_ret
        exact ⟨by rw [HR.out]; rfl, HB.out⟩
      · by_cases qa : ka = 11
        · have qa1 : (ka == 11) = true := by simp [qa]
          have qa2 : (ka != 11) = false := by simp [qa]
          go_wp2_with fail
          refine (implOpenIf _ _).mono ?_
          rintro e w' ⟨rfl, rfl⟩
          go_wp2_with fail
          go_ret
          exact ⟨by rw [HR.out]; simp [opn, qa], HB.out⟩
        · have qa1 : (ka == 11) = false := by simp [qa]
          have qa2 : (ka != 11) = true := by simp [qa]
          go_wp2_with fail
          refine (implCastWithin d _ a0 _ (HPA.out.below HB.out) 5).mono ?_
          rintro e w' ⟨rfl, rfl⟩
          cases hb4 : a0.btw 5 with
          | false =>
            have HB4 := Lib.hid hb4; clear hb4
            go_wp2_with fail
            refine (implOpenIf _ _).mono ?_
            rintro e w' ⟨rfl, rfl⟩
            go_wp2_with fail
            go_ret
            exact ⟨by rw [HR.out, HB4.out]; simp [opn, qa], HB.out⟩
          | true =>
            have HB4 := Lib.hid hb4; clear hb4
            go_wp2_with fail
            refine (implOpenIf _ _).mono ?_
            rintro e w' ⟨rfl, rfl⟩
            go_wp2_with fail
            go_ret
            exact ⟨by rw [HR.out, HB4.out]; simp [opn, qa], HB.out⟩
    · have HL1 : es.length = 1 := by have : coArity 14 = 1 := rfl; omega
      obtain ⟨a0, rfl⟩ := xlen_one HL1
      clear HL1 HAR
      have HFA : a0.form = true := by have := HFS.out.1; simp only [Co.forms, Bool.and_eq_true] at this; exact this.1
      have HTY2 := (HTV.out rfl).2
      clear hkr HAT
      go_enter Tryd.func21, Tryd.ntmps21
      go_wp2_with fail
      refine (implFormCast d IH _ nm0 n0 fr ty a0 ns vs _ HP.out HFA HTY2 HBK.out).mono ?_
      rintro e w1 ⟨rfl, hb⟩
      go_wp2_with fail
      go_ret
      exact ⟨rfl, hb⟩
    · have HR : Hid ((Co.node 15 nm0 n0 fr ty es ns vs).fm = opn (!hasF 0 (Co.fms es ++ Co.fms vs))) := by show _ = _; simp [Co.fm, fmNode]
      clear HAR hkr HAT
      go_enter Tryd.func21, Tryd.ntmps21
      go_wp2_with fail
      refine (implFinal d IH _ 15 nm0 n0 fr ty es ns vs _ HP.out HFS.out HBK.out).mono ?_
      rintro e w1 ⟨rfl, hb⟩
      go_wp2_with fail
      refine (implOpenIf _ _).mono ?_
      rintro e w' ⟨rfl, rfl⟩
      go_wp2_with fail
      go_ret
      exact ⟨by rw [HR.out]; rfl, hb⟩
set_option maxRecDepth 100000 in
set_option maxHeartbeats 2000000 in
theorem implFormOfTop (d : Nat) (v : Value) (t : Co) (w : World) (h : CoAt w d v t) (hsz : t.bulk ≤ 1048576) (htab : CoreFull w) :
    Calls Tryd.prog 8 #[v] w fun e w' => e = .returned (.int .i64 (formOf t)) ∧ Below w.heap.size w w' := by
  have HT := Lib.hid h
  obtain ⟨yk, ynm, yn, yfk, yfa, yfn, yfc, ytk, yta, ytn, ytc, ya, ym, yc, za, zm, zc, rfl⟩ := co_parts h
  have HP := Lib.hid (ptr_box h)
  clear h
  have B0 : Hid (Below (w.heap.size + 1) (w.alloc (.cells #[.int .i64 yk, .string ynm, .int .i64 yn, .int .i64 yfk, .slice yfa yfn yfc, .int .i64 ytk, .slice yta ytn ytc, .slice ya ym yc, .slice za zm zc] 37)) (w.alloc (.cells #[.int .i64 yk, .string ynm, .int .i64 yn, .int .i64 yfk, .slice yfa yfn yfc, .int .i64 ytk, .slice yta ytn ytc, .slice ya ym yc, .slice za zm zc] 37))) := Below.refl _ _
  have HT0 := Lib.hid (HT.out.below (box_below B0.out))
  have HTB := Lib.hid (htab.below (box_below B0.out))
  clear htab
  go_enter Tryd.func8, Tryd.ntmps8
  go_wp2_with fail
  refine (implIsCore d _ t _ HT0.out hsz HTB.out).mono ?_
  rintro e w1 ⟨rfl, hb1⟩
  have HP1 := Lib.hid (HP.out.below hb1)
  have B1 := Lib.hid (box_next B0.out hb1); clear hb1
  cases hv : t.valid with
  | false =>
    have HR : Hid (formOf t = 0) := formOf_none hv
    go_wp2_with fail
    go_ret
    exact ⟨by rw [HR.out]; rfl, box_below B1.out⟩
  | true =>
    have HR : Hid (formOf t = t.fm) := formOf_some hv
    have hf : t.form = true := by simp only [Co.valid, Bool.and_eq_true] at hv; exact hv.2
    go_wp2_with fail
    refine (implFormOf d _ t _ HP1.out hf hsz).mono ?_
    rintro e w3 ⟨rfl, hb3⟩
    have B3 := Lib.hid (box_next B1.out hb3); clear hb3
    go_wp2_with fail
    go_ret
    exact ⟨by rw [HR.out]; rfl, box_below B3.out⟩
end Go.Proofs.YtnggkcgifjfnfaaDoor
