/-
  Proved: spec.l6Fields says whether the fields of a node belong to its kind; the memory that was there stays as it was.
-/
import Derived.Test.YteffjeejbdjjpaaGreatDoorWellG8
import Derived.Test.YteffjeejbdjjpaaGreatDoorWellG7
import Derived.Test.YteffjeejbdjjpaaGreatDoorWellG9
import Derived.Test.YteffjeejbdjjpaaGreatDoorWellG3
namespace Go.Proofs.YteffjeejbdjjpaaGreatDoor
open Go.RowKit

theorem ty_zero {w : World} {d : Nat} {tk : Int} {ta : Option Addr} {tn tc : Nat} {ty : Ty} (h : TyAt w d (.agg #[.int .i64 tk, .slice ta tn tc]) ty) : ty.beq (.node 0 []) = (decide (tk = 0) && decide (tn = 0)) := by
  cases d with
  | zero => exact h.elim
  | succ d =>
    cases ty with
    | node k ts =>
      obtain ⟨sl, hv, h0, h1, a, cap, rfl, h2⟩ := h
      injection hv with hv
      injection hv with hv
      simp at hv
      obtain ⟨rfl, rfl, rfl, rfl⟩ := hv
      exact beq_zero _ _
theorem name_some {s : ByteArray} (h : nameB s = true) : s.size ≠ 0 := fun e => by rw [nameB_empty e] at h; cases h
theorem note_some {t : Ty} (h : t.note = true) : t.beq (.node 0 []) = false := by
  cases t with
  | node k ts =>
    rw [beq_zero]
    cases hk : decide (k = 0) with
    | false => rfl
    | true =>
      have e := of_decide_eq_true hk
      subst e
      exfalso
      simp [Ty.note, Ty.valid, Ty.form, kindOk] at h
theorem text_zero {s : ByteArray} (h : s.size = 0) : (s.toList == []) = true := by
  have : s.toList = [] := List.eq_nil_of_length_eq_zero (by rw [size_of_toList]; exact h)
  rw [this]; rfl
/-- What the fields of a node say. -/
def fieldsB (k : Int) (nm : ByteArray) (n : Int) (ty : Ty) : Bool := nameFor k nm && (numFor k n && typeFor k ty)
set_option maxRecDepth 100000 in
set_option maxHeartbeats 4000000 in
theorem specFields (d : Nat) (v : Value) (kd : Int) (nm : ByteArray) (n : Int) (ty : Ty) (es : List Ex) (w : World) (h : ExAt w (d + 1) v (.node kd nm n ty es)) (hsz : (Ex.node kd nm n ty es).bulk ≤ 1048576) :
    Calls Tryz.prog 99 #[v] w fun e w' => e = .returned (.bool (fieldsB kd nm n ty)) ∧ Below w.heap.size w w' := by
  have HV := ex_parts h
  obtain ⟨c3, c4, sl, rfl, hk0, hk1, hn0, hn1, hnm, hty, a, cap, rfl, hcap, hcap2, hat⟩ := h
  obtain ⟨k', nm', n', tk, ta, tn, tc, sa, sn, sc, hv⟩ := HV
  injection hv with hv
  injection hv with hv
  simp at hv
  obtain ⟨rfl, rfl, rfl, rfl, rfl, rfl, rfl, rfl⟩ := hv
  have HAT := Lib.hid hat; clear hat
  have hbk : (Ex.node kd nm n ty es).bulk = nm.size + (ty.size - 1) + Ex.bulks es := rfl
  have HSZ : Hid (Ex.bulks es ≤ 1048576) := by show _ ≤ _; omega
  have HNM : Hid (nm.size ≤ 1048576) := by show _ ≤ _; omega
  have HTZ : Hid (ty.size ≤ 1048577) := by show _ ≤ _; omega
  have hlen : es.length ≤ 1048576 := by have := Ex.length_le es; omega
  have HTY := Lib.hid hty
  clear hsz hbk hty
  clear HAT HSZ
  have hz0 := ty_zero HTY.out
  have HZ0 := Lib.hid hz0; clear hz0
  have hnz := HNM.out
  have B0 : Hid (Below (w.heap.size + 1) (w.alloc (.cells #[.int .i64 kd, .string nm, .int .i64 n, .int .i64 tk, .slice ta tn tc, .slice a es.length cap] 40)) (w.alloc (.cells #[.int .i64 kd, .string nm, .int .i64 n, .int .i64 tk, .slice ta tn tc, .slice a es.length cap] 40))) := Below.refl _ _
  have HTYb := Lib.hid (HTY.out.below (box_below B0.out))
  clear HTY
  by_cases q1 : kd = 1
  · subst q1
    go_enter Tryz.func99, Tryz.ntmps99
    go_wp2_with fail
    refine (specName nm _ (by omega)).mono ?_
    rintro e w1 ⟨rfl, hw1⟩
    subst hw1
    cases hnb : nameB nm with
    | true =>
      have NZ := name_some hnb
      have c0 := box_cell B0.out 0
      have c1 := box_cell B0.out 1
      have c2 := box_cell B0.out 2
      have c3 := box_cell B0.out 3
      have c4 := box_cell B0.out 4
      have c5 := box_cell B0.out 5
      go_wp2_with fail
      go_ret
      exact ⟨by simp [fieldsB, nameFor, numFor, typeFor, *], box_below B0.out⟩
    | false =>
      by_cases NZ : nm.size = 0
      · have e1 := text_zero NZ
        have c0 := box_cell B0.out 0
        have c1 := box_cell B0.out 1
        have c2 := box_cell B0.out 2
        have c3 := box_cell B0.out 3
        have c4 := box_cell B0.out 4
        have c5 := box_cell B0.out 5
        go_wp2_with fail
        refine (specNote d _ ty _ (HTYb.out) HTZ.out).mono ?_
        rintro e w2 ⟨rfl, hb2⟩
        have B2 := Lib.hid (box_next B0.out hb2); clear hb2
        clear c0 c1 c2 c3 c4 c5
        cases hno : ty.note with
        | true =>
          have TZ := note_some hno
          have c0 := box_cell B2.out 0
          have c1 := box_cell B2.out 1
          have c2 := box_cell B2.out 2
          have c3 := box_cell B2.out 3
          have c4 := box_cell B2.out 4
          have c5 := box_cell B2.out 5
          go_wp2_with fail
          go_ret
          exact ⟨by simp [fieldsB, nameFor, numFor, typeFor, *], box_below B2.out⟩
        | false =>
          by_cases qt : tk = 0
          · by_cases qs : tn = 0
            · have TZ : ty.beq (.node 0 []) = true := by rw [HZ0.out]; simp [qt, qs]
              subst qt
              subst qs
              have c0 := box_cell B2.out 0
              have c1 := box_cell B2.out 1
              have c2 := box_cell B2.out 2
              have c3 := box_cell B2.out 3
              have c4 := box_cell B2.out 4
              have c5 := box_cell B2.out 5
              go_wp2_with fail
              refine (specIn n 1 99 _).mono ?_
              rintro e w9 ⟨rfl, hw9⟩
              subst hw9
              go_wp2_with fail
              go_ret
              exact ⟨by simp [fieldsB, nameFor, numFor, typeFor, *], box_below B2.out⟩
            · have TZ : ty.beq (.node 0 []) = false := by rw [HZ0.out]; simp [qs]
              subst qt
              have c0 := box_cell B2.out 0
              have c1 := box_cell B2.out 1
              have c2 := box_cell B2.out 2
              have c3 := box_cell B2.out 3
              have c4 := box_cell B2.out 4
              have c5 := box_cell B2.out 5
              go_wp2_with fail
              go_ret
              exact ⟨by simp [fieldsB, nameFor, numFor, typeFor, *], box_below B2.out⟩
          · have TZ : ty.beq (.node 0 []) = false := by rw [HZ0.out]; simp [qt]
            have c0 := box_cell B2.out 0
            have c1 := box_cell B2.out 1
            have c2 := box_cell B2.out 2
            have c3 := box_cell B2.out 3
            have c4 := box_cell B2.out 4
            have c5 := box_cell B2.out 5
            go_wp2_with fail
            go_ret
            exact ⟨by simp [fieldsB, nameFor, numFor, typeFor, *], box_below B2.out⟩
      · have e1 := toList_some (s := nm) (by omega)
        have c0 := box_cell B0.out 0
        have c1 := box_cell B0.out 1
        have c2 := box_cell B0.out 2
        have c3 := box_cell B0.out 3
        have c4 := box_cell B0.out 4
        have c5 := box_cell B0.out 5
        go_wp2_with fail
        go_ret
        exact ⟨by simp [fieldsB, nameFor, numFor, typeFor, *], box_below B0.out⟩
  by_cases q2 : kd = 2
  · subst q2
    go_enter Tryz.func99, Tryz.ntmps99
    go_wp2_with fail
    refine (specName nm _ (by omega)).mono ?_
    rintro e w1 ⟨rfl, hw1⟩
    subst hw1
    cases hnb : nameB nm with
    | false =>
      have c0 := box_cell B0.out 0
      have c1 := box_cell B0.out 1
      have c2 := box_cell B0.out 2
      have c3 := box_cell B0.out 3
      have c4 := box_cell B0.out 4
      have c5 := box_cell B0.out 5
      go_wp2_with fail
      go_ret
      exact ⟨by simp [fieldsB, nameFor, numFor, typeFor, *], box_below B0.out⟩
    | true =>
      have NZ := hnb
      have c0 := box_cell B0.out 0
      have c1 := box_cell B0.out 1
      have c2 := box_cell B0.out 2
      have c3 := box_cell B0.out 3
      have c4 := box_cell B0.out 4
      have c5 := box_cell B0.out 5
      go_wp2_with fail
      refine (specNote d _ ty _ (HTYb.out) HTZ.out).mono ?_
      rintro e w2 ⟨rfl, hb2⟩
      have B2 := Lib.hid (box_next B0.out hb2); clear hb2
      clear c0 c1 c2 c3 c4 c5
      cases hno : ty.note with
      | true =>
        have TZ := note_some hno
        have c0 := box_cell B2.out 0
        have c1 := box_cell B2.out 1
        have c2 := box_cell B2.out 2
        have c3 := box_cell B2.out 3
        have c4 := box_cell B2.out 4
        have c5 := box_cell B2.out 5
        go_wp2_with fail
        go_ret
        exact ⟨by simp [fieldsB, nameFor, numFor, typeFor, *], box_below B2.out⟩
      | false =>
        by_cases qt : tk = 0
        · by_cases qs : tn = 0
          · have TZ : ty.beq (.node 0 []) = true := by rw [HZ0.out]; simp [qt, qs]
            subst qt
            subst qs
            by_cases qn : n = 0
            · subst qn
              have c0 := box_cell B2.out 0
              have c1 := box_cell B2.out 1
              have c2 := box_cell B2.out 2
              have c3 := box_cell B2.out 3
              have c4 := box_cell B2.out 4
              have c5 := box_cell B2.out 5
              go_wp2_with fail
              go_ret
              exact ⟨by simp [fieldsB, nameFor, numFor, typeFor, *], box_below B2.out⟩
            · have qnb : (n == 0) = false := by simp [qn]
              have c0 := box_cell B2.out 0
              have c1 := box_cell B2.out 1
              have c2 := box_cell B2.out 2
              have c3 := box_cell B2.out 3
              have c4 := box_cell B2.out 4
              have c5 := box_cell B2.out 5
              go_wp2_with fail
              go_ret
              exact ⟨by simp [fieldsB, nameFor, numFor, typeFor, *], box_below B2.out⟩
          · have TZ : ty.beq (.node 0 []) = false := by rw [HZ0.out]; simp [qs]
            subst qt
            have c0 := box_cell B2.out 0
            have c1 := box_cell B2.out 1
            have c2 := box_cell B2.out 2
            have c3 := box_cell B2.out 3
            have c4 := box_cell B2.out 4
            have c5 := box_cell B2.out 5
            go_wp2_with fail
            go_ret
            exact ⟨by simp [fieldsB, nameFor, numFor, typeFor, *], box_below B2.out⟩
        · have TZ : ty.beq (.node 0 []) = false := by rw [HZ0.out]; simp [qt]
          have c0 := box_cell B2.out 0
          have c1 := box_cell B2.out 1
          have c2 := box_cell B2.out 2
          have c3 := box_cell B2.out 3
          have c4 := box_cell B2.out 4
          have c5 := box_cell B2.out 5
          go_wp2_with fail
          go_ret
          exact ⟨by simp [fieldsB, nameFor, numFor, typeFor, *], box_below B2.out⟩
  by_cases q3 : kd = 3
  · subst q3
    go_enter Tryz.func99, Tryz.ntmps99
    go_wp2_with fail
    refine (specName nm _ (by omega)).mono ?_
    rintro e w1 ⟨rfl, hw1⟩
    subst hw1
    cases hnb : nameB nm with
    | false =>
      have c0 := box_cell B0.out 0
      have c1 := box_cell B0.out 1
      have c2 := box_cell B0.out 2
      have c3 := box_cell B0.out 3
      have c4 := box_cell B0.out 4
      have c5 := box_cell B0.out 5
      go_wp2_with fail
      go_ret
      exact ⟨by simp [fieldsB, nameFor, numFor, typeFor, *], box_below B0.out⟩
    | true =>
      have NZ := hnb
      have c0 := box_cell B0.out 0
      have c1 := box_cell B0.out 1
      have c2 := box_cell B0.out 2
      have c3 := box_cell B0.out 3
      have c4 := box_cell B0.out 4
      have c5 := box_cell B0.out 5
      go_wp2_with fail
      refine (specNote d _ ty _ (HTYb.out) HTZ.out).mono ?_
      rintro e w2 ⟨rfl, hb2⟩
      have B2 := Lib.hid (box_next B0.out hb2); clear hb2
      clear c0 c1 c2 c3 c4 c5
      cases hno : ty.note with
      | false =>
        have c0 := box_cell B2.out 0
        have c1 := box_cell B2.out 1
        have c2 := box_cell B2.out 2
        have c3 := box_cell B2.out 3
        have c4 := box_cell B2.out 4
        have c5 := box_cell B2.out 5
        go_wp2_with fail
        go_ret
        exact ⟨by simp [fieldsB, nameFor, numFor, typeFor, *], box_below B2.out⟩
      | true =>
        have TZ := hno
        by_cases qn : n = 0
        · subst qn
          have c0 := box_cell B2.out 0
          have c1 := box_cell B2.out 1
          have c2 := box_cell B2.out 2
          have c3 := box_cell B2.out 3
          have c4 := box_cell B2.out 4
          have c5 := box_cell B2.out 5
          go_wp2_with fail
          go_ret
          exact ⟨by simp [fieldsB, nameFor, numFor, typeFor, *], box_below B2.out⟩
        · have qnb : (n == 0) = false := by simp [qn]
          have c0 := box_cell B2.out 0
          have c1 := box_cell B2.out 1
          have c2 := box_cell B2.out 2
          have c3 := box_cell B2.out 3
          have c4 := box_cell B2.out 4
          have c5 := box_cell B2.out 5
          go_wp2_with fail
          go_ret
          exact ⟨by simp [fieldsB, nameFor, numFor, typeFor, *], box_below B2.out⟩
  by_cases q5 : kd = 5
  · subst q5
    go_enter Tryz.func99, Tryz.ntmps99
    go_wp2_with fail
    refine (specName nm _ (by omega)).mono ?_
    rintro e w1 ⟨rfl, hw1⟩
    subst hw1
    cases hnb : nameB nm with
    | true =>
      have NZ := name_some hnb
      have c0 := box_cell B0.out 0
      have c1 := box_cell B0.out 1
      have c2 := box_cell B0.out 2
      have c3 := box_cell B0.out 3
      have c4 := box_cell B0.out 4
      have c5 := box_cell B0.out 5
      go_wp2_with fail
      go_ret
      exact ⟨by simp [fieldsB, nameFor, numFor, typeFor, *], box_below B0.out⟩
    | false =>
      by_cases NZ : nm.size = 0
      · have e1 := text_zero NZ
        have c0 := box_cell B0.out 0
        have c1 := box_cell B0.out 1
        have c2 := box_cell B0.out 2
        have c3 := box_cell B0.out 3
        have c4 := box_cell B0.out 4
        have c5 := box_cell B0.out 5
        go_wp2_with fail
        refine (specNote d _ ty _ (HTYb.out) HTZ.out).mono ?_
        rintro e w2 ⟨rfl, hb2⟩
        have B2 := Lib.hid (box_next B0.out hb2); clear hb2
        clear c0 c1 c2 c3 c4 c5
        cases hno : ty.note with
        | true =>
          have TZ := note_some hno
          have c0 := box_cell B2.out 0
          have c1 := box_cell B2.out 1
          have c2 := box_cell B2.out 2
          have c3 := box_cell B2.out 3
          have c4 := box_cell B2.out 4
          have c5 := box_cell B2.out 5
          go_wp2_with fail
          go_ret
          exact ⟨by simp [fieldsB, nameFor, numFor, typeFor, *], box_below B2.out⟩
        | false =>
          by_cases qt : tk = 0
          · by_cases qs : tn = 0
            · have TZ : ty.beq (.node 0 []) = true := by rw [HZ0.out]; simp [qt, qs]
              subst qt
              subst qs
              have c0 := box_cell B2.out 0
              have c1 := box_cell B2.out 1
              have c2 := box_cell B2.out 2
              have c3 := box_cell B2.out 3
              have c4 := box_cell B2.out 4
              have c5 := box_cell B2.out 5
              go_wp2_with fail
              refine (specIn n 0 999 _).mono ?_
              rintro e w9 ⟨rfl, hw9⟩
              subst hw9
              go_wp2_with fail
              go_ret
              exact ⟨by simp [fieldsB, nameFor, numFor, typeFor, *], box_below B2.out⟩
            · have TZ : ty.beq (.node 0 []) = false := by rw [HZ0.out]; simp [qs]
              subst qt
              have c0 := box_cell B2.out 0
              have c1 := box_cell B2.out 1
              have c2 := box_cell B2.out 2
              have c3 := box_cell B2.out 3
              have c4 := box_cell B2.out 4
              have c5 := box_cell B2.out 5
              go_wp2_with fail
              go_ret
              exact ⟨by simp [fieldsB, nameFor, numFor, typeFor, *], box_below B2.out⟩
          · have TZ : ty.beq (.node 0 []) = false := by rw [HZ0.out]; simp [qt]
            have c0 := box_cell B2.out 0
            have c1 := box_cell B2.out 1
            have c2 := box_cell B2.out 2
            have c3 := box_cell B2.out 3
            have c4 := box_cell B2.out 4
            have c5 := box_cell B2.out 5
            go_wp2_with fail
            go_ret
            exact ⟨by simp [fieldsB, nameFor, numFor, typeFor, *], box_below B2.out⟩
      · have e1 := toList_some (s := nm) (by omega)
        have c0 := box_cell B0.out 0
        have c1 := box_cell B0.out 1
        have c2 := box_cell B0.out 2
        have c3 := box_cell B0.out 3
        have c4 := box_cell B0.out 4
        have c5 := box_cell B0.out 5
        go_wp2_with fail
        go_ret
        exact ⟨by simp [fieldsB, nameFor, numFor, typeFor, *], box_below B0.out⟩
  by_cases q8 : kd = 8
  · subst q8
    go_enter Tryz.func99, Tryz.ntmps99
    go_wp2_with fail
    refine (specName nm _ (by omega)).mono ?_
    rintro e w1 ⟨rfl, hw1⟩
    subst hw1
    cases hnb : nameB nm with
    | true =>
      have NZ := name_some hnb
      have c0 := box_cell B0.out 0
      have c1 := box_cell B0.out 1
      have c2 := box_cell B0.out 2
      have c3 := box_cell B0.out 3
      have c4 := box_cell B0.out 4
      have c5 := box_cell B0.out 5
      go_wp2_with fail
      go_ret
      exact ⟨by simp [fieldsB, nameFor, numFor, typeFor, *], box_below B0.out⟩
    | false =>
      by_cases NZ : nm.size = 0
      · have e1 := text_zero NZ
        have c0 := box_cell B0.out 0
        have c1 := box_cell B0.out 1
        have c2 := box_cell B0.out 2
        have c3 := box_cell B0.out 3
        have c4 := box_cell B0.out 4
        have c5 := box_cell B0.out 5
        go_wp2_with fail
        refine (specNote d _ ty _ (HTYb.out) HTZ.out).mono ?_
        rintro e w2 ⟨rfl, hb2⟩
        have B2 := Lib.hid (box_next B0.out hb2); clear hb2
        clear c0 c1 c2 c3 c4 c5
        cases hno : ty.note with
        | true =>
          have TZ := note_some hno
          have c0 := box_cell B2.out 0
          have c1 := box_cell B2.out 1
          have c2 := box_cell B2.out 2
          have c3 := box_cell B2.out 3
          have c4 := box_cell B2.out 4
          have c5 := box_cell B2.out 5
          go_wp2_with fail
          go_ret
          exact ⟨by simp [fieldsB, nameFor, numFor, typeFor, *], box_below B2.out⟩
        | false =>
          by_cases qt : tk = 0
          · by_cases qs : tn = 0
            · have TZ : ty.beq (.node 0 []) = true := by rw [HZ0.out]; simp [qt, qs]
              subst qt
              subst qs
              have c0 := box_cell B2.out 0
              have c1 := box_cell B2.out 1
              have c2 := box_cell B2.out 2
              have c3 := box_cell B2.out 3
              have c4 := box_cell B2.out 4
              have c5 := box_cell B2.out 5
              go_wp2_with fail
              refine (specIn n 0 1 _).mono ?_
              rintro e w9 ⟨rfl, hw9⟩
              subst hw9
              go_wp2_with fail
              go_ret
              exact ⟨by simp [fieldsB, nameFor, numFor, typeFor, *], box_below B2.out⟩
            · have TZ : ty.beq (.node 0 []) = false := by rw [HZ0.out]; simp [qs]
              subst qt
              have c0 := box_cell B2.out 0
              have c1 := box_cell B2.out 1
              have c2 := box_cell B2.out 2
              have c3 := box_cell B2.out 3
              have c4 := box_cell B2.out 4
              have c5 := box_cell B2.out 5
              go_wp2_with fail
              go_ret
              exact ⟨by simp [fieldsB, nameFor, numFor, typeFor, *], box_below B2.out⟩
          · have TZ : ty.beq (.node 0 []) = false := by rw [HZ0.out]; simp [qt]
            have c0 := box_cell B2.out 0
            have c1 := box_cell B2.out 1
            have c2 := box_cell B2.out 2
            have c3 := box_cell B2.out 3
            have c4 := box_cell B2.out 4
            have c5 := box_cell B2.out 5
            go_wp2_with fail
            go_ret
            exact ⟨by simp [fieldsB, nameFor, numFor, typeFor, *], box_below B2.out⟩
      · have e1 := toList_some (s := nm) (by omega)
        have c0 := box_cell B0.out 0
        have c1 := box_cell B0.out 1
        have c2 := box_cell B0.out 2
        have c3 := box_cell B0.out 3
        have c4 := box_cell B0.out 4
        have c5 := box_cell B0.out 5
        go_wp2_with fail
        go_ret
        exact ⟨by simp [fieldsB, nameFor, numFor, typeFor, *], box_below B0.out⟩
  by_cases q13 : kd = 13
  · subst q13
    go_enter Tryz.func99, Tryz.ntmps99
    go_wp2_with fail
    refine (specName nm _ (by omega)).mono ?_
    rintro e w1 ⟨rfl, hw1⟩
    subst hw1
    cases hnb : nameB nm with
    | true =>
      have NZ := name_some hnb
      have c0 := box_cell B0.out 0
      have c1 := box_cell B0.out 1
      have c2 := box_cell B0.out 2
      have c3 := box_cell B0.out 3
      have c4 := box_cell B0.out 4
      have c5 := box_cell B0.out 5
      go_wp2_with fail
      go_ret
      exact ⟨by simp [fieldsB, nameFor, numFor, typeFor, *], box_below B0.out⟩
    | false =>
      by_cases NZ : nm.size = 0
      · have e1 := text_zero NZ
        have c0 := box_cell B0.out 0
        have c1 := box_cell B0.out 1
        have c2 := box_cell B0.out 2
        have c3 := box_cell B0.out 3
        have c4 := box_cell B0.out 4
        have c5 := box_cell B0.out 5
        go_wp2_with fail
        refine (specNote d _ ty _ (HTYb.out) HTZ.out).mono ?_
        rintro e w2 ⟨rfl, hb2⟩
        have B2 := Lib.hid (box_next B0.out hb2); clear hb2
        clear c0 c1 c2 c3 c4 c5
        cases hno : ty.note with
        | false =>
          have c0 := box_cell B2.out 0
          have c1 := box_cell B2.out 1
          have c2 := box_cell B2.out 2
          have c3 := box_cell B2.out 3
          have c4 := box_cell B2.out 4
          have c5 := box_cell B2.out 5
          go_wp2_with fail
          go_ret
          exact ⟨by simp [fieldsB, nameFor, numFor, typeFor, *], box_below B2.out⟩
        | true =>
          have TZ := hno
          by_cases qn : n = 0
          · subst qn
            have c0 := box_cell B2.out 0
            have c1 := box_cell B2.out 1
            have c2 := box_cell B2.out 2
            have c3 := box_cell B2.out 3
            have c4 := box_cell B2.out 4
            have c5 := box_cell B2.out 5
            go_wp2_with fail
            go_ret
            exact ⟨by simp [fieldsB, nameFor, numFor, typeFor, *], box_below B2.out⟩
          · have qnb : (n == 0) = false := by simp [qn]
            have c0 := box_cell B2.out 0
            have c1 := box_cell B2.out 1
            have c2 := box_cell B2.out 2
            have c3 := box_cell B2.out 3
            have c4 := box_cell B2.out 4
            have c5 := box_cell B2.out 5
            go_wp2_with fail
            go_ret
            exact ⟨by simp [fieldsB, nameFor, numFor, typeFor, *], box_below B2.out⟩
      · have e1 := toList_some (s := nm) (by omega)
        have c0 := box_cell B0.out 0
        have c1 := box_cell B0.out 1
        have c2 := box_cell B0.out 2
        have c3 := box_cell B0.out 3
        have c4 := box_cell B0.out 4
        have c5 := box_cell B0.out 5
        go_wp2_with fail
        go_ret
        exact ⟨by simp [fieldsB, nameFor, numFor, typeFor, *], box_below B0.out⟩
  by_cases q14 : kd = 14
  · subst q14
    go_enter Tryz.func99, Tryz.ntmps99
    go_wp2_with fail
    refine (specName nm _ (by omega)).mono ?_
    rintro e w1 ⟨rfl, hw1⟩
    subst hw1
    cases hnb : nameB nm with
    | true =>
      have NZ := name_some hnb
      have c0 := box_cell B0.out 0
      have c1 := box_cell B0.out 1
      have c2 := box_cell B0.out 2
      have c3 := box_cell B0.out 3
      have c4 := box_cell B0.out 4
      have c5 := box_cell B0.out 5
      go_wp2_with fail
      go_ret
      exact ⟨by simp [fieldsB, nameFor, numFor, typeFor, *], box_below B0.out⟩
    | false =>
      by_cases NZ : nm.size = 0
      · have e1 := text_zero NZ
        have c0 := box_cell B0.out 0
        have c1 := box_cell B0.out 1
        have c2 := box_cell B0.out 2
        have c3 := box_cell B0.out 3
        have c4 := box_cell B0.out 4
        have c5 := box_cell B0.out 5
        go_wp2_with fail
        refine (specNote d _ ty _ (HTYb.out) HTZ.out).mono ?_
        rintro e w2 ⟨rfl, hb2⟩
        have B2 := Lib.hid (box_next B0.out hb2); clear hb2
        clear c0 c1 c2 c3 c4 c5
        cases hno : ty.note with
        | true =>
          have TZ := note_some hno
          have c0 := box_cell B2.out 0
          have c1 := box_cell B2.out 1
          have c2 := box_cell B2.out 2
          have c3 := box_cell B2.out 3
          have c4 := box_cell B2.out 4
          have c5 := box_cell B2.out 5
          go_wp2_with fail
          go_ret
          exact ⟨by simp [fieldsB, nameFor, numFor, typeFor, *], box_below B2.out⟩
        | false =>
          by_cases qt : tk = 0
          · by_cases qs : tn = 0
            · have TZ : ty.beq (.node 0 []) = true := by rw [HZ0.out]; simp [qt, qs]
              subst qt
              subst qs
              have c0 := box_cell B2.out 0
              have c1 := box_cell B2.out 1
              have c2 := box_cell B2.out 2
              have c3 := box_cell B2.out 3
              have c4 := box_cell B2.out 4
              have c5 := box_cell B2.out 5
              go_wp2_with fail
              refine (specIn n 1 99 _).mono ?_
              rintro e w9 ⟨rfl, hw9⟩
              subst hw9
              go_wp2_with fail
              go_ret
              exact ⟨by simp [fieldsB, nameFor, numFor, typeFor, *], box_below B2.out⟩
            · have TZ : ty.beq (.node 0 []) = false := by rw [HZ0.out]; simp [qs]
              subst qt
              have c0 := box_cell B2.out 0
              have c1 := box_cell B2.out 1
              have c2 := box_cell B2.out 2
              have c3 := box_cell B2.out 3
              have c4 := box_cell B2.out 4
              have c5 := box_cell B2.out 5
              go_wp2_with fail
              go_ret
              exact ⟨by simp [fieldsB, nameFor, numFor, typeFor, *], box_below B2.out⟩
          · have TZ : ty.beq (.node 0 []) = false := by rw [HZ0.out]; simp [qt]
            have c0 := box_cell B2.out 0
            have c1 := box_cell B2.out 1
            have c2 := box_cell B2.out 2
            have c3 := box_cell B2.out 3
            have c4 := box_cell B2.out 4
            have c5 := box_cell B2.out 5
            go_wp2_with fail
            go_ret
            exact ⟨by simp [fieldsB, nameFor, numFor, typeFor, *], box_below B2.out⟩
      · have e1 := toList_some (s := nm) (by omega)
        have c0 := box_cell B0.out 0
        have c1 := box_cell B0.out 1
        have c2 := box_cell B0.out 2
        have c3 := box_cell B0.out 3
        have c4 := box_cell B0.out 4
        have c5 := box_cell B0.out 5
        go_wp2_with fail
        go_ret
        exact ⟨by simp [fieldsB, nameFor, numFor, typeFor, *], box_below B0.out⟩
  have z1 : (kd == 1) = false := by simp [q1]
  have z2 : (kd == 2) = false := by simp [q2]
  have z3 : (kd == 3) = false := by simp [q3]
  have z5 : (kd == 5) = false := by simp [q5]
  have z8 : (kd == 8) = false := by simp [q8]
  have z13 : (kd == 13) = false := by simp [q13]
  have z14 : (kd == 14) = false := by simp [q14]
  go_enter Tryz.func99, Tryz.ntmps99
  go_wp2_with fail
  refine (specName nm _ (by omega)).mono ?_
  rintro e w1 ⟨rfl, hw1⟩
  subst hw1
  cases hnb : nameB nm with
  | true =>
    have NZ := name_some hnb
    have c0 := box_cell B0.out 0
    have c1 := box_cell B0.out 1
    have c2 := box_cell B0.out 2
    have c3 := box_cell B0.out 3
    have c4 := box_cell B0.out 4
    have c5 := box_cell B0.out 5
    go_wp2_with fail
    go_ret
    exact ⟨by simp [fieldsB, nameFor, numFor, typeFor, *], box_below B0.out⟩
  | false =>
    by_cases NZ : nm.size = 0
    · have e1 := text_zero NZ
      have c0 := box_cell B0.out 0
      have c1 := box_cell B0.out 1
      have c2 := box_cell B0.out 2
      have c3 := box_cell B0.out 3
      have c4 := box_cell B0.out 4
      have c5 := box_cell B0.out 5
      go_wp2_with fail
      refine (specNote d _ ty _ (HTYb.out) HTZ.out).mono ?_
      rintro e w2 ⟨rfl, hb2⟩
      have B2 := Lib.hid (box_next B0.out hb2); clear hb2
      clear c0 c1 c2 c3 c4 c5
      cases hno : ty.note with
      | true =>
        have TZ := note_some hno
        have c0 := box_cell B2.out 0
        have c1 := box_cell B2.out 1
        have c2 := box_cell B2.out 2
        have c3 := box_cell B2.out 3
        have c4 := box_cell B2.out 4
        have c5 := box_cell B2.out 5
        go_wp2_with fail
        go_ret
        exact ⟨by simp [fieldsB, nameFor, numFor, typeFor, *], box_below B2.out⟩
      | false =>
        by_cases qt : tk = 0
        · by_cases qs : tn = 0
          · have TZ : ty.beq (.node 0 []) = true := by rw [HZ0.out]; simp [qt, qs]
            subst qt
            subst qs
            by_cases qn : n = 0
            · subst qn
              have c0 := box_cell B2.out 0
              have c1 := box_cell B2.out 1
              have c2 := box_cell B2.out 2
              have c3 := box_cell B2.out 3
              have c4 := box_cell B2.out 4
              have c5 := box_cell B2.out 5
              go_wp2_with fail
              go_ret
              exact ⟨by simp [fieldsB, nameFor, numFor, typeFor, *], box_below B2.out⟩
            · have qnb : (n == 0) = false := by simp [qn]
              have c0 := box_cell B2.out 0
              have c1 := box_cell B2.out 1
              have c2 := box_cell B2.out 2
              have c3 := box_cell B2.out 3
              have c4 := box_cell B2.out 4
              have c5 := box_cell B2.out 5
              go_wp2_with fail
              go_ret
              exact ⟨by simp [fieldsB, nameFor, numFor, typeFor, *], box_below B2.out⟩
          · have TZ : ty.beq (.node 0 []) = false := by rw [HZ0.out]; simp [qs]
            subst qt
            have c0 := box_cell B2.out 0
            have c1 := box_cell B2.out 1
            have c2 := box_cell B2.out 2
            have c3 := box_cell B2.out 3
            have c4 := box_cell B2.out 4
            have c5 := box_cell B2.out 5
            go_wp2_with fail
            go_ret
            exact ⟨by simp [fieldsB, nameFor, numFor, typeFor, *], box_below B2.out⟩
        · have TZ : ty.beq (.node 0 []) = false := by rw [HZ0.out]; simp [qt]
          have c0 := box_cell B2.out 0
          have c1 := box_cell B2.out 1
          have c2 := box_cell B2.out 2
          have c3 := box_cell B2.out 3
          have c4 := box_cell B2.out 4
          have c5 := box_cell B2.out 5
          go_wp2_with fail
          go_ret
          exact ⟨by simp [fieldsB, nameFor, numFor, typeFor, *], box_below B2.out⟩
    · have e1 := toList_some (s := nm) (by omega)
      have c0 := box_cell B0.out 0
      have c1 := box_cell B0.out 1
      have c2 := box_cell B0.out 2
      have c3 := box_cell B0.out 3
      have c4 := box_cell B0.out 4
      have c5 := box_cell B0.out 5
      go_wp2_with fail
      go_ret
      exact ⟨by simp [fieldsB, nameFor, numFor, typeFor, *], box_below B0.out⟩
end Go.Proofs.YteffjeejbdjjpaaGreatDoor
