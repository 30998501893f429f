/-
  Proved: a core expression that came in as an argument reads as a tree.
-/
import Derived.Test.YteeojgefnoaajaaDoorSpecFields
import Derived.Test.YteeojgefnoaajaaDoorImplName
import Derived.Test.YteeojgefnoaajaaDoorImplNote
import Derived.Test.YteeojgefnoaajaaDoorImplEqual
import Derived.Test.YteeojgefnoaajaaDoorGround
import Derived.Test.YteeojgefnoaajaaDoorTab
import Derived.Deep.RegionHeld3
import Derived.Deep.RegionLaw
import Derived.Test.YteeojgefnoaajaaDoorGrown
import Derived.Test.YteeojgefnoaajaaDoorArity
import Derived.Test.YteeojgefnoaajaaDoorHold
import Derived.Test.YteeojgefnoaajaaDoorToType
import Derived.Test.YteeojgefnoaajaaDoorTypeWithin
import Derived.Test.YteeojgefnoaajaaDoorImplCoNode
import Derived.Test.YteeojgefnoaajaaDoorCoForm
import Derived.Test.YteeojgefnoaajaaDoorSzCore
import Derived.Test.YteeojgefnoaajaaDoorSpecName
import Derived.Test.YteeojgefnoaajaaDoorSpecIn
import Derived.Test.YteeojgefnoaajaaDoorSpecValid
import Derived.Test.YteeojgefnoaajaaDoorStrs
import Derived.Test.YteeojgefnoaajaaDoorCoreArity
import Derived.Test.YteeojgefnoaajaaDoorLaw
import Derived.OpenVars
import Derived.Test.YteeojgefnoaajaaDoorTree
import Derived.SliceStrings
import Derived.Test.YteeojgefnoaajaaDoorCoTree
/-
  Proved: impl.isNameFor, impl.isNumberFor, impl.isTypeFor and impl.isExprNode say whether the fields of a node belong to its kind; the memory that was there stays as it was.
-/
namespace Go.Proofs.YteeojgefnoaajaaDoor
open Go.RowKit

set_option maxRecDepth 100000 in
theorem implNameFor (k : Int) (nm : ByteArray) (w : World) (hs : nm.size ≤ 9223372036854775807) : Calls Tryd.prog 172 #[.int .i64 k, .string nm] w fun e w' => e = .returned (.bool (nameFor k nm)) ∧ Below w.heap.size w w' := by
  by_cases q2 : k = 2
  · subst q2
    go_enter Tryd.func172, Tryd.ntmps172
    go_wp2_with fail
    refine (implName nm _ hs).mono ?_
    rintro e w1 ⟨rfl, hb⟩
    go_wp2_with fail
    go_ret
    exact ⟨by simp [nameFor], hb⟩
  by_cases q3 : k = 3
  · subst q3
    go_enter Tryd.func172, Tryd.ntmps172
    go_wp2_with fail
    refine (implName nm _ hs).mono ?_
    rintro e w1 ⟨rfl, hb⟩
    go_wp2_with fail
    go_ret
    exact ⟨by simp [nameFor], hb⟩
  have z2 : (k == 2) = false := by simp [q2]
  have z3 : (k == 3) = false := by simp [q3]
  by_cases qz : nm.size = 0
  · have e1 := text_zero qz
    have HZ : Hid (nameFor k nm = true) := by show _ = _; simp [nameFor, q2, q3, qz]
    go_enter Tryd.func172, Tryd.ntmps172
    go_wp2_with fail
    go_ret
    exact ⟨by rw [HZ.out]; rfl, Below.refl _ _⟩
  · have e1 := toList_some (s := nm) (by omega)
    have HZ : Hid (nameFor k nm = false) := by show _ = _; simp [nameFor, q2, q3, qz]
    go_enter Tryd.func172, Tryd.ntmps172
    go_wp2_with fail
    go_ret
    exact ⟨by rw [HZ.out]; rfl, Below.refl _ _⟩
set_option maxRecDepth 100000 in
theorem implNumFor (k n : Int) (w : World) : Calls Tryd.prog 173 #[.int .i64 k, .int .i64 n] w fun e w' => e = .returned (.bool (numFor k n)) ∧ Below w.heap.size w w' := by
  by_cases q1 : k = 1
  · subst q1
    by_cases r1 : 1 ≤ n
    · by_cases r2 : n ≤ 99
      · go_enter Tryd.func173, Tryd.ntmps173
        go_wp2_with fail
        go_ret
        exact ⟨by first | (simp [numFor, *]; done) | (simp [numFor, *]; omega), Below.refl _ _⟩
      · go_enter Tryd.func173, Tryd.ntmps173
        go_wp2_with fail
        go_ret
        exact ⟨by first | (simp [numFor, *]; done) | (simp [numFor, *]; omega), Below.refl _ _⟩
    · go_enter Tryd.func173, Tryd.ntmps173
      go_wp2_with fail
      go_ret
      exact ⟨by first | (simp [numFor, *]; done) | (simp [numFor, *]; omega), Below.refl _ _⟩
  by_cases q14 : k = 14
  · subst q14
    by_cases r1 : 1 ≤ n
    · by_cases r2 : n ≤ 99
      · go_enter Tryd.func173, Tryd.ntmps173
        go_wp2_with fail
        go_ret
        exact ⟨by first | (simp [numFor, *]; done) | (simp [numFor, *]; omega), Below.refl _ _⟩
      · go_enter Tryd.func173, Tryd.ntmps173
        go_wp2_with fail
        go_ret
        exact ⟨by first | (simp [numFor, *]; done) | (simp [numFor, *]; omega), Below.refl _ _⟩
    · go_enter Tryd.func173, Tryd.ntmps173
      go_wp2_with fail
      go_ret
      exact ⟨by first | (simp [numFor, *]; done) | (simp [numFor, *]; omega), Below.refl _ _⟩
  by_cases q5 : k = 5
  · subst q5
    by_cases r1 : 0 ≤ n
    · by_cases r2 : n ≤ 999
      · go_enter Tryd.func173, Tryd.ntmps173
        go_wp2_with fail
        go_ret
        exact ⟨by first | (simp [numFor, *]; done) | (simp [numFor, *]; omega), Below.refl _ _⟩
      · go_enter Tryd.func173, Tryd.ntmps173
        go_wp2_with fail
        go_ret
        exact ⟨by first | (simp [numFor, *]; done) | (simp [numFor, *]; omega), Below.refl _ _⟩
    · go_enter Tryd.func173, Tryd.ntmps173
      go_wp2_with fail
      go_ret
      exact ⟨by first | (simp [numFor, *]; done) | (simp [numFor, *]; omega), Below.refl _ _⟩
  by_cases q8 : k = 8
  · subst q8
    by_cases r0 : n = 0
    · subst r0
      go_enter Tryd.func173, Tryd.ntmps173
      go_wp2_with fail
      go_ret
      exact ⟨by simp [numFor], Below.refl _ _⟩
    · have r0b : (n == 0) = false := by simp [r0]
      by_cases r1 : n = 1
      · subst r1
        go_enter Tryd.func173, Tryd.ntmps173
        go_wp2_with fail
        go_ret
        exact ⟨by simp [numFor], Below.refl _ _⟩
      · have r1b : (n == 1) = false := by simp [r1]
        go_enter Tryd.func173, Tryd.ntmps173
        go_wp2_with fail
        go_ret
        exact ⟨by simp [numFor]; omega, Below.refl _ _⟩
  by_cases r0 : n = 0
  · subst r0
    go_enter Tryd.func173, Tryd.ntmps173
    go_wp2_with fail
    go_ret
    exact ⟨by first | (simp [numFor, *]; done) | (simp [numFor, *]; omega), Below.refl _ _⟩
  · have r0b : (n == 0) = false := by simp [r0]
    go_enter Tryd.func173, Tryd.ntmps173
    go_wp2_with fail
    go_ret
    exact ⟨by first | (simp [numFor, *]; done) | (simp [numFor, *]; omega), Below.refl _ _⟩
set_option maxRecDepth 100000 in
theorem implTypeFor (d : Nat) (v : Value) (k : Int) (ty : Ty) (w : World) (h : TyAt w d v ty) (hsz : ty.size ≤ 1048577) : Calls Tryd.prog 174 #[.int .i64 k, v] w fun e w' => e = .returned (.bool (typeFor k ty)) ∧ Below w.heap.size w w' := by
  have HT := Lib.hid h
  obtain ⟨yk, ya, yn, yc, rfl⟩ := agg_parts h
  clear h
  have E0 := below_alloc w (.cells #[.int .i64 yk, .slice ya yn yc] 33)
  have HT0 := Lib.hid (HT.out.below E0)
  have HE := Lib.hid E0
  clear E0 HT
  by_cases q3 : k = 3
  · subst q3
    go_enter Tryd.func174, Tryd.ntmps174
    go_wp2_with fail
    refine (implNote d _ ty _ HT0.out hsz).mono ?_
    rintro e w1 ⟨rfl, hb⟩
    have HB := Lib.hid (below_thru HE.out (Nat.le_refl _) hb)
    clear hb
    go_wp2_with fail
    go_ret
    exact ⟨by simp [typeFor], HB.out⟩
  by_cases q13 : k = 13
  · subst q13
    go_enter Tryd.func174, Tryd.ntmps174
    go_wp2_with fail
    refine (implNote d _ ty _ HT0.out hsz).mono ?_
    rintro e w1 ⟨rfl, hb⟩
    have HB := Lib.hid (below_thru HE.out (Nat.le_refl _) hb)
    clear hb
    go_wp2_with fail
    go_ret
    exact ⟨by simp [typeFor], HB.out⟩
  have z3 : (k == 3) = false := by simp [q3]
  have z13 : (k == 13) = false := by simp [q13]
  have qf : typeFor k ty = ty.beq (.node 0 []) := by first | (simp [typeFor, *]; done) | (simp [typeFor, *]; omega)
  cases d with
  | zero => exact HT0.out.elim
  | succ d =>
  go_enter Tryd.func174, Tryd.ntmps174
  go_wp2_with fail
  refine (implEqual (d + 1) _ _ ty (.node 0 []) _ HT0.out (own_zero _ d 0 (by omega) (by omega)).at_).mono ?_
  rintro e w1 ⟨rfl, hb⟩
  have HB := Lib.hid (below_thru HE.out (Nat.le_refl _) hb)
  clear hb
  go_wp2_with fail
  go_ret
  exact ⟨by rw [qf]; rfl, HB.out⟩
end Go.Proofs.YteeojgefnoaajaaDoor
/-
  Proved: impl.isExprNode says whether the fields and the number of parts of a node belong to its kind; the memory that was there stays as it was.
-/
namespace Go.Proofs.YteeojgefnoaajaaDoor
open Go.RowKit

set_option maxRecDepth 100000 in
set_option maxHeartbeats 1000000 in
theorem implFits (d : Nat) (v : Value) (kd : Int) (nm : ByteArray) (n : Int) (ty : Ty) (es : List Ex) (w : World) (h : ExAt w (d + 1) v (.node kd nm n ty es)) (hsz : (Ex.node kd nm n ty es).bulk ≤ 1048576) (htab : TabAt w) :
    Calls Tryd.prog 148 #[v] w fun e w' => e = .returned (.bool (fitsB kd nm n ty es.length)) ∧ Below w.heap.size w w' := by
  have HV := ex_parts h
  obtain ⟨c3, c4, sl, rfl, hk0, hk1, hn0, hn1, hnm, hty, a, cap, rfl, hcap, hcap2, hat⟩ := h
  obtain ⟨k', nm', n', tk, ta, tn, tc, sa, sn, sc, hv⟩ := HV
  injection hv with hv
  injection hv with hv
  simp at hv
  obtain ⟨rfl, rfl, rfl, rfl, rfl, rfl, rfl, rfl⟩ := hv
  have HAT := Lib.hid hat; clear hat
  have hbk : (Ex.node kd nm n ty es).bulk = nm.size + (ty.size - 1) + Ex.bulks es := rfl
  have HSZ : Hid (Ex.bulks es ≤ 1048576) := by show _ ≤ _; omega
  have HNM : Hid (nm.size ≤ 1048576) := by show _ ≤ _; omega
  have HTZ : Hid (ty.size ≤ 1048577) := by show _ ≤ _; omega
  have hlen : es.length ≤ 1048576 := by have := Ex.length_le es; omega
  have HTY := Lib.hid hty
  clear hsz hbk hty
  clear HAT HSZ
  have HNS : Hid (nm.size ≤ 9223372036854775807) := by have := HNM.out; show _ ≤ _; omega
  obtain ⟨W, hW⟩ : ∃ W, W = w.alloc (.cells #[.int .i64 kd, .string nm, .int .i64 n, .int .i64 tk, .slice ta tn tc, .slice a es.length cap] 50) := ⟨_, rfl⟩
  have B : Hid (Below w.heap.size w W) := by rw [hW]; exact below_alloc _ _
  have HTYb := Lib.hid (HTY.out.below B.out)
  have HTAB := Lib.hid (htab.below B.out)
  clear HTY htab
  have XA : Hid (BoxAt W w.heap.size #[.int .i64 kd, .string nm, .int .i64 n, .int .i64 tk, .slice ta tn tc, .slice a es.length cap]) := by rw [hW]; exact BoxAt.new _ _ _
  have C1 : ∀ q : Grown W.heap.size W, Calls Tryd.prog 171 #[.int .i64 kd] q.val fun e w' => e = .returned (.int .i64 (arity kd)) ∧ Below q.val.heap.size q.val w' := fun q => implArityAt _ _ (HTAB.out.below q.old)
  have C2 : ∀ q : Grown W.heap.size W, Calls Tryd.prog 172 #[.int .i64 kd, .string nm] q.val fun e w' => e = .returned (.bool (nameFor kd nm)) ∧ Below q.val.heap.size q.val w' := fun q => implNameFor _ _ _ HNS.out
  have C3 : ∀ q : Grown W.heap.size W, Calls Tryd.prog 173 #[.int .i64 kd, .int .i64 n] q.val fun e w' => e = .returned (.bool (numFor kd n)) ∧ Below q.val.heap.size q.val w' := fun q => implNumFor _ _ _
  have C4 : ∀ q : Grown W.heap.size W, Calls Tryd.prog 174 #[.int .i64 kd, .agg #[.int .i64 tk, .slice ta tn tc]] q.val fun e w' => e = .returned (.bool (typeFor kd ty)) ∧ Below q.val.heap.size q.val w' := fun q => implTypeFor d _ _ ty _ (HTYb.out.below q.old) HTZ.out
  have hfit : fitsB kd nm n ty es.length = (decide ((es.length : Int) = arity kd) && (nameFor kd nm && (numFor kd n && typeFor kd ty))) := rfl
  generalize fitsB kd nm n ty es.length = m at hfit ⊢
  generalize arity kd = r at hfit C1
  generalize nameFor kd nm = bn at hfit C2
  generalize numFor kd n = bu at hfit C3
  generalize typeFor kd ty = bt at hfit C4
  have HM := Lib.hid hfit
  clear hfit
  go_enter Tryd.func148, Tryd.ntmps148
  go_wp2_with fail
  rw [← hW]
  clear hW
  have a0 : ∀ q : Grown W.heap.size W, q.val.cell? ⟨w.heap.size, 0, none⟩ = _ := fun q => (XA.out.grown q).2 0
  have a1 : ∀ q : Grown W.heap.size W, q.val.cell? ⟨w.heap.size, 1, none⟩ = _ := fun q => (XA.out.grown q).2 1
  have a2 : ∀ q : Grown W.heap.size W, q.val.cell? ⟨w.heap.size, 2, none⟩ = _ := fun q => (XA.out.grown q).2 2
  have a3 : ∀ q : Grown W.heap.size W, q.val.cell? ⟨w.heap.size, 3, none⟩ = _ := fun q => (XA.out.grown q).2 3
  have a4 : ∀ q : Grown W.heap.size W, q.val.cell? ⟨w.heap.size, 4, none⟩ = _ := fun q => (XA.out.grown q).2 4
  have a5 : ∀ q : Grown W.heap.size W, q.val.cell? ⟨w.heap.size, 5, none⟩ = _ := fun q => (XA.out.grown q).2 5
  clear XA HTYb HTAB
  by_cases qa : (es.length : Int) = r
  case neg =>
    have qb : ((es.length : Int) == r) = false := by simp [qa]
    refine wp_region_grown W.heap.size (by kernel_rfl) (by kernel_rfl) ?_
    repeat (go_big_quiet_step ((first | (go_at_call 171; exact grown_of (Nat.le_refl _) (C1 _)) | (go_at_call 172; exact grown_of (Nat.le_refl _) (C2 _)) | (go_at_call 173; exact grown_of (Nat.le_refl _) (C3 _)) | (go_at_call 174; exact grown_of (Nat.le_refl _) (C4 _)))))
    refine wpQuiet_nil ?_
    rintro _ ⟨⟨wq, hq⟩, rfl⟩
    go_wp2_with fail
    go_ret
    exact ⟨by rw [HM.out]; simp [*], below_thru B.out (Nat.le_of_eq rfl) hq⟩
  have qb : ((es.length : Int) == r) = true := by simp [qa]
  cases bn
  case false =>
    refine wp_region_grown W.heap.size (by kernel_rfl) (by kernel_rfl) ?_
    repeat (go_big_quiet_step ((first | (go_at_call 171; exact grown_of (Nat.le_refl _) (C1 _)) | (go_at_call 172; exact grown_of (Nat.le_refl _) (C2 _)) | (go_at_call 173; exact grown_of (Nat.le_refl _) (C3 _)) | (go_at_call 174; exact grown_of (Nat.le_refl _) (C4 _)))))
    refine wpQuiet_nil ?_
    rintro _ ⟨⟨wq, hq⟩, rfl⟩
    go_wp2_with fail
    go_ret
    exact ⟨by rw [HM.out]; simp [*], below_thru B.out (Nat.le_of_eq rfl) hq⟩
  cases bu
  case false =>
    refine wp_region_grown W.heap.size (by kernel_rfl) (by kernel_rfl) ?_
    repeat (go_big_quiet_step ((first | (go_at_call 171; exact grown_of (Nat.le_refl _) (C1 _)) | (go_at_call 172; exact grown_of (Nat.le_refl _) (C2 _)) | (go_at_call 173; exact grown_of (Nat.le_refl _) (C3 _)) | (go_at_call 174; exact grown_of (Nat.le_refl _) (C4 _)))))
    refine wpQuiet_nil ?_
    rintro _ ⟨⟨wq, hq⟩, rfl⟩
    go_wp2_with fail
    go_ret
    exact ⟨by rw [HM.out]; simp [*], below_thru B.out (Nat.le_of_eq rfl) hq⟩
  refine wp_region_grown W.heap.size (by kernel_rfl) (by kernel_rfl) ?_
  repeat (go_big_quiet_step ((first | (go_at_call 171; exact grown_of (Nat.le_refl _) (C1 _)) | (go_at_call 172; exact grown_of (Nat.le_refl _) (C2 _)) | (go_at_call 173; exact grown_of (Nat.le_refl _) (C3 _)) | (go_at_call 174; exact grown_of (Nat.le_refl _) (C4 _)))))
  refine wpQuiet_nil ?_
  rintro _ ⟨⟨wq, hq⟩, rfl⟩
  go_wp2_with fail
  go_ret
  exact ⟨by rw [HM.out]; simp [*], below_thru B.out (Nat.le_of_eq rfl) hq⟩
end Go.Proofs.YteeojgefnoaajaaDoor
/-
  Proved: spec.l6Form says whether every node of an expression has its kind's form; the memory that was there stays as it was.
-/
namespace Go.Proofs.YteeojgefnoaajaaDoor
open Go.RowKit

theorem box_of {w wr : World} {cs : Array Value} {T : TypeId} (h : Below (w.heap.size + 1) (w.alloc (.cells cs T)) wr) : BoxAt wr w.heap.size cs :=
  (BoxAt.new w cs T).below (by simpa using h)
theorem ex_kind {w : World} {d : Nat} {k : Int} {c1 c2 c3 c4 c5 : Value} {e : Ex} (h : ExAt w d (.agg #[.int .i64 k, c1, c2, c3, c4, c5]) e) : e.kind = k := by
  cases d with
  | zero => exact h.elim
  | succ d =>
    cases e with
    | node kd nm n ty es =>
      obtain ⟨d3, d4, sl, hv, _⟩ := h
      injection hv with hv
      injection hv with hv
      simp at hv
      exact hv.1.symm
theorem form_of {kd : Int} {nm : ByteArray} {n : Int} {ty : Ty} {es : List Ex} {b c : Bool} {r : Int} (h1 : Ex.forms es = true) (h2 : bareB kd es = true) (h3 : fieldsB kd nm n ty = b) (h4 : arity kd = r) (h5 : c = (b && decide ((es.length : Int) = r))) : (Ex.node kd nm n ty es).form = c := by
  subst h3 h4 h5
  simp only [Ex.form, h1, h2, fitsB, fieldsB, Bool.true_and]
  rw [Bool.and_comm]
set_option maxRecDepth 100000 in
set_option maxHeartbeats 4000000 in
theorem specExForm : ∀ (d : Nat) (v : Value) (t : Ex) (w : World), ExAt w d v t → t.bulk ≤ 1048576 →
    Calls Tryd.prog 111 #[v] w fun e w' => e = .returned (.bool t.form) ∧ Below w.heap.size w w'
  | 0, _, _, _, h, _ => h.elim
  | d + 1, v, .node kd nm n ty es, w, h, hsz => by
    have IH : Hid (∀ (v : Value) (t : Ex) (w : World), ExAt w d v t → t.bulk ≤ 1048576 → Calls Tryd.prog 111 #[v] w fun e w' => e = .returned (.bool t.form) ∧ Below w.heap.size w w') := specExForm d
    have HWH := Lib.hid h
    have HBK := Lib.hid hsz
    have HV := ex_parts h
    obtain ⟨c3, c4, sl, rfl, hk0, hk1, hn0, hn1, hnm, hty, a, cap, rfl, hcap, hcap2, hat⟩ := h
    obtain ⟨k', nm', n', tk, ta, tn, tc, sa, sn, sc, hv⟩ := HV
    injection hv with hv
    injection hv with hv
    simp at hv
    obtain ⟨rfl, rfl, rfl, rfl, rfl, rfl, rfl, rfl⟩ := hv
    have HAT := Lib.hid hat; clear hat
    have hbk : (Ex.node kd nm n ty es).bulk = nm.size + (ty.size - 1) + Ex.bulks es := rfl
    have HSZ : Hid (Ex.bulks es ≤ 1048576) := by show _ ≤ _; omega
    have HNM : Hid (nm.size ≤ 1048576) := by show _ ≤ _; omega
    have HTZ : Hid (ty.size ≤ 1048577) := by show _ ≤ _; omega
    have hlen : es.length ≤ 1048576 := by have := Ex.length_le es; omega
    clear hsz hbk hty
    go_enter Tryd.func111, Tryd.ntmps111
    go_wp2_with fail
    go_loopw [3] (fun i wr => ∃ k : Nat, k ≤ es.length ∧ i = .int .i64 k ∧ Ex.forms (es.take k) = true ∧ Below (w.heap.size + 1) (w.alloc (.cells #[.int .i64 kd, .string nm, .int .i64 n, .int .i64 tk, .slice ta tn tc, .slice a es.length cap] 50)) wr) (fun i _ => es.length - (intOf i).toNat)
    case atStart => exact ⟨0, by omega, rfl, by simp [Ex.forms], Below.refl _ _⟩
    case round =>
      obtain ⟨k, hk, rfl, hf, hb⟩ := hrel
      have HF := Lib.hid hf; clear hf
      have b0 := box_cell hb 0
      have b1 := box_cell hb 1
      have b2 := box_cell hb 2
      have b3 := box_cell hb 3
      have b4 := box_cell hb 4
      have b5 := box_cell hb 5
      have HB := Lib.hid (box_below hb)
      have HBX := Lib.hid hb; clear hb
      have HS2 := HSZ.out
      by_cases hlt : k < es.length
      · obtain ⟨b, off, x0, x1, x2, x3, x4, x5, rfl, hbl, hc0, hc1, hc2, hc3, hc4, hc5, ht⟩ := HAT.out k hlt
        have hg := Ex.bulk_get es k hlt
        have e0 : wr.cell? ⟨b, off + k * 6, none⟩ = some (x0) := by rw [HB.out.cell (p := ⟨b, off + k * 6, none⟩) hbl]; exact hc0
        have e1 : wr.cell? ⟨b, off + k * 6 + 1, none⟩ = some (x1) := by rw [HB.out.cell (p := ⟨b, off + k * 6 + 1, none⟩) hbl]; exact hc1
        have e2 : wr.cell? ⟨b, off + k * 6 + 2, none⟩ = some (x2) := by rw [HB.out.cell (p := ⟨b, off + k * 6 + 2, none⟩) hbl]; exact hc2
        have e3 : wr.cell? ⟨b, off + k * 6 + 3, none⟩ = some (x3) := by rw [HB.out.cell (p := ⟨b, off + k * 6 + 3, none⟩) hbl]; exact hc3
        have e4 : wr.cell? ⟨b, off + k * 6 + 4, none⟩ = some (x4) := by rw [HB.out.cell (p := ⟨b, off + k * 6 + 4, none⟩) hbl]; exact hc4
        have e5 : wr.cell? ⟨b, off + k * 6 + 5, none⟩ = some (x5) := by rw [HB.out.cell (p := ⟨b, off + k * 6 + 5, none⟩) hbl]; exact hc5
        have HT := Lib.hid (ht.below HB.out)
        clear ht hc0 hc1 hc2 hc3 hc4 hc5
        go_wp2_with fail
        refine (IH.out _ _ _ HT.out (by omega)).mono ?_
        rintro e w' ⟨rfl, hb1⟩
        have HN := Lib.hid (box_next HBX.out hb1); clear hb1
        have HT2 := Lib.hid (Ex.forms_take es k hlt)
        cases hfk : es[k].form with
        | true =>
          have HFK := Lib.hid hfk; clear hfk
          go_wp2_with fail
          exact ⟨⟨k + 1, by omega, by go_num, by rw [HT2.out, HF.out, HFK.out]; rfl, HN.out⟩, by simp [intOf]; omega⟩
        | false =>
          have HFK := Lib.hid hfk; clear hfk
          go_wp2_with fail
          go_ret
          have e : Ex.forms es = false := Ex.forms_false es (k + 1) (by rw [HT2.out, HF.out, HFK.out]; rfl)
          exact ⟨by simp [Ex.form, e], box_below HN.out⟩
      · obtain rfl : k = es.length := by omega
        have HFT : Hid (Ex.forms es = true) := by have := HF.out; rw [List.take_length] at this; exact this
        clear HF
        have XA := Lib.hid (box_of HBX.out)
        have HW2 := Lib.hid (HWH.out.below HB.out)
        clear HWH HBX
        by_cases q : kd = 14
        · subst q
          by_cases q0 : es.length = 0
          · have HBARE : Hid (bareB 14 es = true) := by
              have e0 : es = [] := List.length_eq_zero_iff.1 q0
              show _ = _
              rw [e0]; rfl
            go_wp2_with fail
            clear q0
            have C1 : ∀ q : Grown wr.heap.size wr, Calls Tryd.prog 146 #[.agg #[.int .i64 14, .string nm, .int .i64 n, .int .i64 tk, .slice ta tn tc, .slice a es.length cap]] q.val fun e w' => e = .returned (.bool (fieldsB 14 nm n ty)) ∧ Below q.val.heap.size q.val w' := fun q => specFields d _ 14 nm n ty es _ (HW2.out.below q.old) HBK.out
            have C2 : ∀ q : Grown wr.heap.size wr, Calls Tryd.prog 147 #[.int .i64 14] q.val fun e w' => e = .returned (.int .i64 (arity 14)) ∧ Below q.val.heap.size q.val w' := fun q => specArity _ _
            obtain ⟨fb, hfb⟩ : ∃ b, fieldsB 14 nm n ty = b := ⟨_, rfl⟩
            obtain ⟨r, hr⟩ : ∃ r, arity 14 = r := ⟨_, rfl⟩
            rw [hfb] at C1
            rw [hr] at C2
            have HFB := Lib.hid hfb
            have HR := Lib.hid hr
            clear hfb hr
            have g0 : ∀ q : Grown wr.heap.size wr, q.val.cell? ⟨w.heap.size, 0, none⟩ = _ := fun q => (XA.out.grown q).2 0
            have g1 : ∀ q : Grown wr.heap.size wr, q.val.cell? ⟨w.heap.size, 1, none⟩ = _ := fun q => (XA.out.grown q).2 1
            have g2 : ∀ q : Grown wr.heap.size wr, q.val.cell? ⟨w.heap.size, 2, none⟩ = _ := fun q => (XA.out.grown q).2 2
            have g3 : ∀ q : Grown wr.heap.size wr, q.val.cell? ⟨w.heap.size, 3, none⟩ = _ := fun q => (XA.out.grown q).2 3
            have g4 : ∀ q : Grown wr.heap.size wr, q.val.cell? ⟨w.heap.size, 4, none⟩ = _ := fun q => (XA.out.grown q).2 4
            have g5 : ∀ q : Grown wr.heap.size wr, q.val.cell? ⟨w.heap.size, 5, none⟩ = _ := fun q => (XA.out.grown q).2 5
            clear b0 b1 b2 b3 b4 b5 XA HW2
            cases fb
            case false =>
              refine wp_region_grown wr.heap.size (by kernel_rfl) (by kernel_rfl) ?_
              repeat (go_big_quiet_step ((first | (go_at_call 146; exact grown_of (Nat.le_refl _) (C1 _)) | (go_at_call 147; exact grown_of (Nat.le_refl _) (C2 _)))))
              refine wpQuiet_nil ?_
              rintro _ ⟨⟨wq, hq⟩, rfl⟩
              go_wp2_with fail
              go_ret
              exact ⟨by rw [form_of HFT.out HBARE.out HFB.out HR.out (c := false) (by simp)]; rfl, below_thru HB.out (Nat.le_refl _) hq⟩
            case true =>
              by_cases qa : (es.length : Int) = r
              · have qb : ((es.length : Int) == r) = true := by simp [qa]
                refine wp_region_grown wr.heap.size (by kernel_rfl) (by kernel_rfl) ?_
                repeat (go_big_quiet_step ((first | (go_at_call 146; exact grown_of (Nat.le_refl _) (C1 _)) | (go_at_call 147; exact grown_of (Nat.le_refl _) (C2 _)))))
                refine wpQuiet_nil ?_
                rintro _ ⟨⟨wq, hq⟩, rfl⟩
                go_wp2_with fail
                go_ret
                exact ⟨by rw [form_of HFT.out HBARE.out HFB.out HR.out (c := true) (by simp [qa])]; rfl, below_thru HB.out (Nat.le_refl _) hq⟩
              · have qb : ((es.length : Int) == r) = false := by simp [qa]
                refine wp_region_grown wr.heap.size (by kernel_rfl) (by kernel_rfl) ?_
                repeat (go_big_quiet_step ((first | (go_at_call 146; exact grown_of (Nat.le_refl _) (C1 _)) | (go_at_call 147; exact grown_of (Nat.le_refl _) (C2 _)))))
                refine wpQuiet_nil ?_
                rintro _ ⟨⟨wq, hq⟩, rfl⟩
                go_wp2_with fail
                go_ret
                exact ⟨by rw [form_of HFT.out HBARE.out HFB.out HR.out (c := false) (by simp [qa])]; rfl, below_thru HB.out (Nat.le_refl _) hq⟩
          · obtain ⟨b, off, x0, x1, x2, x3, x4, x5, rfl, hbl, hc0, hc1, hc2, hc3, hc4, hc5, ht⟩ := HAT.out 0 (by omega)
            obtain ⟨yk, ynm, yn, ytk, yta, ytn, ytc, ya, ym, yc, rfl, rfl, rfl, rfl, rfl, rfl⟩ := ex_cells ht
            have e0 : wr.cell? ⟨b, off, none⟩ = some (.int .i64 yk) := by have := HB.out.cell (p := ⟨b, off, none⟩) hbl; rw [this]; simpa using hc0
            have hkind : es[0].kind = yk := ex_kind ht
            have HKIND := Lib.hid hkind
            clear ht hc0 hc1 hc2 hc3 hc4 hc5 hkind
            have hpos : 0 < es.length := by omega
            by_cases q2 : yk = 14
            · subst q2
              go_wp2_with fail
              go_ret
              have e : bareB 14 es = false := by cases es with | nil => simp at hpos | cons x r => simpa [bareB] using HKIND.out
              exact ⟨by simp [Ex.form, e], HB.out⟩
            · have q2b : (yk == 14) = false := by simp [q2]
              have HBARE : Hid (bareB 14 es = true) := by cases es with | nil => rfl | cons x r => have := HKIND.out; simp at this; show _ = _; simp [bareB, this, q2]
              go_wp2_with fail
              have C1 : ∀ q : Grown wr.heap.size wr, Calls Tryd.prog 146 #[.agg #[.int .i64 14, .string nm, .int .i64 n, .int .i64 tk, .slice ta tn tc, .slice (some ⟨b, off, none⟩) es.length cap]] q.val fun e w' => e = .returned (.bool (fieldsB 14 nm n ty)) ∧ Below q.val.heap.size q.val w' := fun q => specFields d _ 14 nm n ty es _ (HW2.out.below q.old) HBK.out
              have C2 : ∀ q : Grown wr.heap.size wr, Calls Tryd.prog 147 #[.int .i64 14] q.val fun e w' => e = .returned (.int .i64 (arity 14)) ∧ Below q.val.heap.size q.val w' := fun q => specArity _ _
              obtain ⟨fb, hfb⟩ : ∃ b, fieldsB 14 nm n ty = b := ⟨_, rfl⟩
              obtain ⟨r, hr⟩ : ∃ r, arity 14 = r := ⟨_, rfl⟩
              rw [hfb] at C1
              rw [hr] at C2
              have HFB := Lib.hid hfb
              have HR := Lib.hid hr
              clear hfb hr
              have g0 : ∀ q : Grown wr.heap.size wr, q.val.cell? ⟨w.heap.size, 0, none⟩ = _ := fun q => (XA.out.grown q).2 0
              have g1 : ∀ q : Grown wr.heap.size wr, q.val.cell? ⟨w.heap.size, 1, none⟩ = _ := fun q => (XA.out.grown q).2 1
              have g2 : ∀ q : Grown wr.heap.size wr, q.val.cell? ⟨w.heap.size, 2, none⟩ = _ := fun q => (XA.out.grown q).2 2
              have g3 : ∀ q : Grown wr.heap.size wr, q.val.cell? ⟨w.heap.size, 3, none⟩ = _ := fun q => (XA.out.grown q).2 3
              have g4 : ∀ q : Grown wr.heap.size wr, q.val.cell? ⟨w.heap.size, 4, none⟩ = _ := fun q => (XA.out.grown q).2 4
              have g5 : ∀ q : Grown wr.heap.size wr, q.val.cell? ⟨w.heap.size, 5, none⟩ = _ := fun q => (XA.out.grown q).2 5
              clear b0 b1 b2 b3 b4 b5 XA HW2
              cases fb
              case false =>
                refine wp_region_grown wr.heap.size (by kernel_rfl) (by kernel_rfl) ?_
                repeat (go_big_quiet_step ((first | (go_at_call 146; exact grown_of (Nat.le_refl _) (C1 _)) | (go_at_call 147; exact grown_of (Nat.le_refl _) (C2 _)))))
                refine wpQuiet_nil ?_
                rintro _ ⟨⟨wq, hq⟩, rfl⟩
                go_wp2_with fail
                go_ret
                exact ⟨by rw [form_of HFT.out HBARE.out HFB.out HR.out (c := false) (by simp)]; rfl, below_thru HB.out (Nat.le_refl _) hq⟩
              case true =>
                by_cases qa : (es.length : Int) = r
                · have qb : ((es.length : Int) == r) = true := by simp [qa]
                  refine wp_region_grown wr.heap.size (by kernel_rfl) (by kernel_rfl) ?_
                  repeat (go_big_quiet_step ((first | (go_at_call 146; exact grown_of (Nat.le_refl _) (C1 _)) | (go_at_call 147; exact grown_of (Nat.le_refl _) (C2 _)))))
                  refine wpQuiet_nil ?_
                  rintro _ ⟨⟨wq, hq⟩, rfl⟩
                  go_wp2_with fail
                  go_ret
                  exact ⟨by rw [form_of HFT.out HBARE.out HFB.out HR.out (c := true) (by simp [qa])]; rfl, below_thru HB.out (Nat.le_refl _) hq⟩
                · have qb : ((es.length : Int) == r) = false := by simp [qa]
                  refine wp_region_grown wr.heap.size (by kernel_rfl) (by kernel_rfl) ?_
                  repeat (go_big_quiet_step ((first | (go_at_call 146; exact grown_of (Nat.le_refl _) (C1 _)) | (go_at_call 147; exact grown_of (Nat.le_refl _) (C2 _)))))
                  refine wpQuiet_nil ?_
                  rintro _ ⟨⟨wq, hq⟩, rfl⟩
                  go_wp2_with fail
                  go_ret
                  exact ⟨by rw [form_of HFT.out HBARE.out HFB.out HR.out (c := false) (by simp [qa])]; rfl, below_thru HB.out (Nat.le_refl _) hq⟩
        · have qb0 : (kd == 14) = false := by simp [q]
          have HBARE : Hid (bareB kd es = true) := by cases es with | nil => rfl | cons x r => show _ = _; simp [bareB, q]
          go_wp2_with fail
          have C1 : ∀ q : Grown wr.heap.size wr, Calls Tryd.prog 146 #[.agg #[.int .i64 kd, .string nm, .int .i64 n, .int .i64 tk, .slice ta tn tc, .slice a es.length cap]] q.val fun e w' => e = .returned (.bool (fieldsB kd nm n ty)) ∧ Below q.val.heap.size q.val w' := fun q => specFields d _ kd nm n ty es _ (HW2.out.below q.old) HBK.out
          have C2 : ∀ q : Grown wr.heap.size wr, Calls Tryd.prog 147 #[.int .i64 kd] q.val fun e w' => e = .returned (.int .i64 (arity kd)) ∧ Below q.val.heap.size q.val w' := fun q => specArity _ _
          obtain ⟨fb, hfb⟩ : ∃ b, fieldsB kd nm n ty = b := ⟨_, rfl⟩
          obtain ⟨r, hr⟩ : ∃ r, arity kd = r := ⟨_, rfl⟩
          rw [hfb] at C1
          rw [hr] at C2
          have HFB := Lib.hid hfb
          have HR := Lib.hid hr
          clear hfb hr
          have g0 : ∀ q : Grown wr.heap.size wr, q.val.cell? ⟨w.heap.size, 0, none⟩ = _ := fun q => (XA.out.grown q).2 0
          have g1 : ∀ q : Grown wr.heap.size wr, q.val.cell? ⟨w.heap.size, 1, none⟩ = _ := fun q => (XA.out.grown q).2 1
          have g2 : ∀ q : Grown wr.heap.size wr, q.val.cell? ⟨w.heap.size, 2, none⟩ = _ := fun q => (XA.out.grown q).2 2
          have g3 : ∀ q : Grown wr.heap.size wr, q.val.cell? ⟨w.heap.size, 3, none⟩ = _ := fun q => (XA.out.grown q).2 3
          have g4 : ∀ q : Grown wr.heap.size wr, q.val.cell? ⟨w.heap.size, 4, none⟩ = _ := fun q => (XA.out.grown q).2 4
          have g5 : ∀ q : Grown wr.heap.size wr, q.val.cell? ⟨w.heap.size, 5, none⟩ = _ := fun q => (XA.out.grown q).2 5
          clear b0 b1 b2 b3 b4 b5 XA HW2
          cases fb
          case false =>
            refine wp_region_grown wr.heap.size (by kernel_rfl) (by kernel_rfl) ?_
            repeat (go_big_quiet_step ((first | (go_at_call 146; exact grown_of (Nat.le_refl _) (C1 _)) | (go_at_call 147; exact grown_of (Nat.le_refl _) (C2 _)))))
            refine wpQuiet_nil ?_
            rintro _ ⟨⟨wq, hq⟩, rfl⟩
            go_wp2_with fail
            go_ret
            exact ⟨by rw [form_of HFT.out HBARE.out HFB.out HR.out (c := false) (by simp)]; rfl, below_thru HB.out (Nat.le_refl _) hq⟩
          case true =>
            by_cases qa : (es.length : Int) = r
            · have qb : ((es.length : Int) == r) = true := by simp [qa]
              refine wp_region_grown wr.heap.size (by kernel_rfl) (by kernel_rfl) ?_
              repeat (go_big_quiet_step ((first | (go_at_call 146; exact grown_of (Nat.le_refl _) (C1 _)) | (go_at_call 147; exact grown_of (Nat.le_refl _) (C2 _)))))
              refine wpQuiet_nil ?_
              rintro _ ⟨⟨wq, hq⟩, rfl⟩
              go_wp2_with fail
              go_ret
              exact ⟨by rw [form_of HFT.out HBARE.out HFB.out HR.out (c := true) (by simp [qa])]; rfl, below_thru HB.out (Nat.le_refl _) hq⟩
            · have qb : ((es.length : Int) == r) = false := by simp [qa]
              refine wp_region_grown wr.heap.size (by kernel_rfl) (by kernel_rfl) ?_
              repeat (go_big_quiet_step ((first | (go_at_call 146; exact grown_of (Nat.le_refl _) (C1 _)) | (go_at_call 147; exact grown_of (Nat.le_refl _) (C2 _)))))
              refine wpQuiet_nil ?_
              rintro _ ⟨⟨wq, hq⟩, rfl⟩
              go_wp2_with fail
              go_ret
              exact ⟨by rw [form_of HFT.out HBARE.out HFB.out HR.out (c := false) (by simp [qa])]; rfl, below_thru HB.out (Nat.le_refl _) hq⟩
end Go.Proofs.YteeojgefnoaajaaDoor
/-
  Proved: plain facts on a type of two parts that a call builds.
-/
namespace Go.Proofs.YteeojgefnoaajaaDoor
open Go.RowKit

theorem box_at {w : World} {p q : Nat} {cs : Array Value} (h : BoxAt w p cs) (e : p = q) : BoxAt w q cs := e ▸ h
theorem BoxAt.stored {w : World} {p q j : Nat} {u : Value} {cs : Array Value} (h : BoxAt w p cs) (hne : p ≠ q) : BoxAt (w.setCell ⟨q, j, none⟩ u) p cs :=
  h.kept (by simp) (heap_setCell_other _ _ _ _ hne)
/-- Block p is there and free to be written. -/
def FreeAt (w : World) (p : Nat) : Prop := p < w.heap.size ∧ ∀ j, w.frozen? ⟨p, j, none⟩ = false
theorem FreeAt.below {w w' : World} {p : Nat} (h : FreeAt w p) (hb : Below w.heap.size w w') : FreeAt w' p :=
  ⟨Nat.lt_of_lt_of_le h.1 hb.size, fun j => (hb.frozen (p := ⟨p, j, none⟩) h.1).trans (h.2 j)⟩
theorem FreeAt.new (w : World) (cs : Array Value) (T : TypeId) : FreeAt (w.alloc (.cells cs T)) w.heap.size := ⟨by simp, fun j => by simp [go_sem]⟩
/-- Two parts in blocks of their own, laid side by side in a new block: a type with blocks of its own. -/
theorem own_two {X : World} {d lo mid hi : Nat} {k : Int} {c0 c1 d0 d1 : Value} {t1 t2 : Ty} {f1 f2 : List Nat} (hk0 : -9223372036854775808 ≤ k) (hk1 : k ≤ 9223372036854775807) (hX : hi = X.heap.size)
    (HC : TyOwn X d (.agg #[c0, c1]) t1 f1) (HD : TyOwn X d (.agg #[d0, d1]) t2 f2) (F1 : Fp lo mid f1) (F2 : Fp mid hi f2) (h1 : lo ≤ mid) (h2 : mid ≤ hi) :
    ∃ fp, TyOwn (X.alloc (.cells #[c0, c1, d0, d1] 33)) (d + 1) (.agg #[.int .i64 k, .slice (some ⟨hi, 0, none⟩) 2 2]) (.node k [t1, t2]) fp ∧ Fp lo (hi + 1) fp := by
  subst hX
  have hb := below_alloc X (.cells #[c0, c1, d0, d1] 33)
  have hx := BoxAt.new X #[c0, c1, d0, d1] 33
  have hf := FreeAt.new X #[c0, c1, d0, d1] 33
  refine ⟨[X.heap.size] ++ List.flatten [f1, f2], ⟨_, rfl, hk0, hk1, some ⟨X.heap.size, 0, none⟩, 2, [X.heap.size], [f1, f2], rfl, by simp, by omega, rfl, rfl, fun b hb => by cases List.mem_singleton.1 hb; exact hx.1, fun j hj => ?_⟩, ?_, ?_⟩
  · match j, hj with
    | 0, _ => exact ⟨X.heap.size, 0, _, _, f1, rfl, rfl, hx.1, hx.2 0, hf.2 0, hx.2 1, rfl, HC.below hb⟩
    | 1, _ => exact ⟨X.heap.size, 0, _, _, f2, rfl, rfl, hx.1, hx.2 2, hf.2 2, hx.2 3, rfl, HD.below hb⟩
  · have hj := F1.join F2 h1 h2
    simp only [List.flatten_cons, List.flatten_nil, List.append_nil]
    rw [List.singleton_append, List.nodup_cons]
    exact ⟨fun hm => by have := (hj.2 _ hm).2; omega, hj.1⟩
  · have hj := F1.join F2 h1 h2
    simp only [List.flatten_cons, List.flatten_nil, List.append_nil]
    intro b hb
    rcases List.mem_append.1 hb with hb | hb
    · cases List.mem_singleton.1 hb; omega
    · have := hj.2 b hb; omega
theorem free_at {w : World} {p q : Nat} (h : FreeAt w p) (e : p = q) : FreeAt w q := e ▸ h
end Go.Proofs.YteeojgefnoaajaaDoor
/-
  Proved: impl.exprWithin says whether an expression's tree is of the right form and fits into the room and the depth that are left; it counts the room down, and touches nothing else.
-/
namespace Go.Proofs.YteeojgefnoaajaaDoor
open Go.RowKit

def xwithin (t : Ex) (r dp : Int) : Bool := decide ((t.count : Int) ≤ r) && (decide ((t.high : Int) ≤ dp) && t.form)
def XEnd (p : Nat) (r dp : Int) (t : Ex) (w : World) (e : Ending) (w' : World) : Prop :=
  ∃ r' : Int, e = .returned (.bool (xwithin t r dp)) ∧ Room p r' w w' ∧ (xwithin t r dp = true → r' = r - t.count)
theorem XEnd.of {p : Nat} {r dp r' : Int} {t : Ex} {w w' : World} {b : Bool} (hb : xwithin t r dp = b) (hr : Room p r' w w') (h : b = true → r' = r - t.count) : XEnd p r dp t w (.returned (.bool b)) w' := by
  subst hb; exact ⟨r', rfl, hr, h⟩
theorem xwithin_form {t : Ex} {r dp : Int} (h : t.form = false) : xwithin t r dp = false := by simp [xwithin, h]
theorem xwithin_true {t : Ex} {r dp : Int} (h : xwithin t r dp = true) : (t.count : Int) ≤ r ∧ (t.high : Int) ≤ dp ∧ t.form = true := by
  simp only [xwithin, Bool.and_eq_true, decide_eq_true_eq] at h
  exact h
theorem xwithin_mk {t : Ex} {r dp : Int} (h1 : (t.count : Int) ≤ r) (h2 : (t.high : Int) ≤ dp) (h3 : t.form = true) : xwithin t r dp = true := by
  simp only [xwithin, Bool.and_eq_true, decide_eq_true_eq]
  exact ⟨h1, h2, h3⟩
theorem xwithin_mark {nm : ByteArray} {n : Int} {ty : Ty} {x : Ex} {r dp : Int} (hf : fitsB 14 nm n ty 1 = true) (hk : x.kind ≠ 14) : xwithin (.node 14 nm n ty [x]) r dp = xwithin x r dp := by
  have e1 : (Ex.node 14 nm n ty [x]).count = x.count := by simp [Ex.count, Ex.counts]
  have e2 : (Ex.node 14 nm n ty [x]).high = x.high := by simp [Ex.high, Ex.highs]
  have e3 : (Ex.node 14 nm n ty [x]).form = x.form := by simp [Ex.form, Ex.forms, bareB, hk, hf]
  unfold xwithin; rw [e1, e2, e3]
theorem xwithin_sub {kd : Int} {nm : ByteArray} {n : Int} {ty : Ty} {es : List Ex} {r dp r2 : Int} {k : Nat} (hk : kd ≠ 14) (h : k < es.length) (hr : r2 = r - 1 - Ex.counts (es.take k)) (hf : xwithin es[k] r2 (dp - 1) = false) : xwithin (.node kd nm n ty es) r dp = false := by
  cases hw : xwithin (.node kd nm n ty es) r dp with
  | false => rfl
  | true =>
    obtain ⟨w1, w2, w3⟩ := xwithin_true hw
    simp only [Ex.count, Ex.high, Ex.form, if_neg hk, Bool.and_eq_true] at w1 w2 w3
    have h1 := Ex.counts_take es k h
    have h2 := Ex.counts_le_all es (k + 1)
    have h3 := Ex.highs_get es k h
    have h4 := Ex.forms_get es k h w3.1
    have : xwithin es[k] r2 (dp - 1) = true := xwithin_mk (by omega) (by omega) h4
    rw [this] at hf; cases hf
theorem room_start {p : Nat} {r : Int} {w w2 : World} (hp : p < w.heap.size) (hb : Below w.heap.size w w2) (e0 : w.cell? ⟨p, 0, none⟩ = some (.int .i64 r)) (e1 : w.frozen? ⟨p, 0, none⟩ = false) : Room p r w w2 :=
  ⟨(hb.cell (p := ⟨p, 0, none⟩) hp).trans e0, (hb.frozen (p := ⟨p, 0, none⟩) hp).trans e1, hb.mono (Nat.le_of_lt hp), fun b h _ => hb.block b h⟩
set_option maxRecDepth 100000 in
set_option maxHeartbeats 4000000 in
theorem implExWithin (w0 : World) (htab : TabAt w0) : ∀ (d : Nat) (v : Value) (t : Ex) (p : Nat) (r dp : Int) (w : World), ExAt w0 d v t → Below w0.heap.size w0 w → w0.heap.size ≤ p → t.bulk ≤ 1048576 → p < w.heap.size → 0 ≤ r → r ≤ 1048576 → 0 ≤ dp → dp ≤ 100 → w.cell? ⟨p, 0, none⟩ = some (.int .i64 r) → w.frozen? ⟨p, 0, none⟩ = false → Calls Tryd.prog 113 #[v, .pointer (some ⟨p, 0, none⟩), .int .i64 dp] w (XEnd p r dp t w)
  | 0, _, _, _, _, _, _, h, _, _, _, _, _, _, _, _, _, _ => h.elim
  | d + 1, v, .node kd nm n ty es, p, r, dp, w, h, hw0, hp0, hsz, hp, hr0, hr1, hd0, hd1, hcell, hfroz => by
    have IH : Hid (∀ (v : Value) (t : Ex) (p : Nat) (r dp : Int) (w : World), ExAt w0 d v t → Below w0.heap.size w0 w → w0.heap.size ≤ p → t.bulk ≤ 1048576 → p < w.heap.size → 0 ≤ r → r ≤ 1048576 → 0 ≤ dp → dp ≤ 100 → w.cell? ⟨p, 0, none⟩ = some (.int .i64 r) → w.frozen? ⟨p, 0, none⟩ = false → Calls Tryd.prog 113 #[v, .pointer (some ⟨p, 0, none⟩), .int .i64 dp] w (XEnd p r dp t w)) := implExWithin w0 htab d
    have HWH := Lib.hid h
    have HBK := Lib.hid hsz
    have HV := ex_parts h
    obtain ⟨c3, c4, sl, rfl, hk0, hk1, hn0, hn1, hnm, hty, a, cap, rfl, hcap, hcap2, hat⟩ := h
    obtain ⟨k', nm', n', tk, ta, tn, tc, sa, sn, sc, hv⟩ := HV
    injection hv with hv
    injection hv with hv
    simp at hv
    obtain ⟨rfl, rfl, rfl, rfl, rfl, rfl, rfl, rfl⟩ := hv
    have HAT := Lib.hid hat; clear hat
    have hbk : (Ex.node kd nm n ty es).bulk = nm.size + (ty.size - 1) + Ex.bulks es := rfl
    have HSZ : Hid (Ex.bulks es ≤ 1048576) := by show _ ≤ _; omega
    have HNM : Hid (nm.size ≤ 1048576) := by show _ ≤ _; omega
    have HTZ : Hid (ty.size ≤ 1048577) := by show _ ≤ _; omega
    have hlen : es.length ≤ 1048576 := by have := Ex.length_le es; omega
    clear hsz hbk hty
    have HW0 := Lib.hid hw0; clear hw0
    have HTB := Lib.hid (htab.below (HW0.out.alloc HW0.out.size (.cells #[.int .i64 kd, .string nm, .int .i64 n, .int .i64 tk, .slice ta tn tc, .slice a es.length cap] 50)))
    have HWX := Lib.hid (HWH.out.below (HW0.out.alloc HW0.out.size (.cells #[.int .i64 kd, .string nm, .int .i64 n, .int .i64 tk, .slice ta tn tc, .slice a es.length cap] 50)))
    have HC0 := Lib.hid hcell; have HC1 := Lib.hid hfroz
    clear hcell hfroz
    go_enter Tryd.func113, Tryd.ntmps113
    go_wp2_with fail
    refine (implFits d _ kd nm n ty es _ HWX.out HBK.out HTB.out).mono ?_
    rintro e w2 ⟨rfl, hb2⟩
    have B2 := Lib.hid (below_on (below_alloc w _) hb2 (by simp))
    have XA := Lib.hid ((BoxAt.new w #[.int .i64 kd, .string nm, .int .i64 n, .int .i64 tk, .slice ta tn tc, .slice a es.length cap] 50).below hb2)
    have R2 := Lib.hid (room_start hp B2.out HC0.out HC1.out)
    clear hb2 HWX HTB
    obtain ⟨hz2, e0, e1⟩ : w.heap.size ≤ w2.heap.size ∧ w2.cell? ⟨p, 0, none⟩ = some (.int .i64 r) ∧ w2.frozen? ⟨p, 0, none⟩ = false := ⟨B2.out.size, R2.out.1, R2.out.2.1⟩
    have b0 := XA.out.2 0
    have b1 := XA.out.2 1
    have b2 := XA.out.2 2
    have b3 := XA.out.2 3
    have b4 := XA.out.2 4
    have b5 := XA.out.2 5
    cases hfit : fitsB kd nm n ty es.length with
    | false =>
      have HNO := Lib.hid (xwithin_form (r := r) (dp := dp) (show (Ex.node kd nm n ty es).form = false by simp [Ex.form, hfit]))
      clear hfit
      go_wp2_with fail
      go_ret
      exact XEnd.of HNO.out R2.out (fun h => by cases h)
    | true =>
      have HFIT := Lib.hid hfit; clear hfit
      by_cases q : kd = 14
      · subst q
        have hl : es.length = 1 := by
          have h := HFIT.out
          simp only [fitsB, Bool.and_eq_true, decide_eq_true_eq] at h
          have h1 : (es.length : Int) = 1 := h.1
          omega
        obtain ⟨b, off, x0, x1, x2, x3, x4, x5, rfl, hbl, hc0, hc1, hc2, hc3, hc4, hc5, ht⟩ := HAT.out 0 (by omega)
        have hg := Ex.bulk_get es 0 (by omega)
        have HS2 := HSZ.out
        obtain ⟨yk, ynm, yn, ytk, yta, ytn, ytc, ya, ym, yc, rfl, rfl, rfl, rfl, rfl, rfl⟩ := ex_cells ht
        simp only [Nat.zero_mul, Nat.add_zero] at hc0 hc1 hc2 hc3 hc4 hc5
        have a0 : w2.cell? ⟨b, off, none⟩ = some (.int .i64 yk) := by rw [((HW0.out.trans (B2.out.mono HW0.out.size)).cell (p := ⟨b, off, none⟩) hbl)]; exact hc0
        have a1 : w2.cell? ⟨b, off + 1, none⟩ = some (.string ynm) := by rw [((HW0.out.trans (B2.out.mono HW0.out.size)).cell (p := ⟨b, off + 1, none⟩) hbl)]; exact hc1
        have a2 : w2.cell? ⟨b, off + 2, none⟩ = some (.int .i64 yn) := by rw [((HW0.out.trans (B2.out.mono HW0.out.size)).cell (p := ⟨b, off + 2, none⟩) hbl)]; exact hc2
        have a3 : w2.cell? ⟨b, off + 3, none⟩ = some (.int .i64 ytk) := by rw [((HW0.out.trans (B2.out.mono HW0.out.size)).cell (p := ⟨b, off + 3, none⟩) hbl)]; exact hc3
        have a4 : w2.cell? ⟨b, off + 4, none⟩ = some (.slice yta ytn ytc) := by rw [((HW0.out.trans (B2.out.mono HW0.out.size)).cell (p := ⟨b, off + 4, none⟩) hbl)]; exact hc4
        have a5 : w2.cell? ⟨b, off + 5, none⟩ = some (.slice ya ym yc) := by rw [((HW0.out.trans (B2.out.mono HW0.out.size)).cell (p := ⟨b, off + 5, none⟩) hbl)]; exact hc5
        obtain ⟨x, hx⟩ := List.length_eq_one_iff.1 hl
        have hx0 : es[0] = x := by subst hx; rfl
        have hkind : x.kind = yk := by rw [← hx0]; exact ex_kind ht
        have hgx : 1 + x.bulk ≤ Ex.bulks es := by rw [← hx0]; exact hg
        have HT : Hid (ExAt w0 d (.agg #[.int .i64 yk, .string ynm, .int .i64 yn, .int .i64 ytk, .slice yta ytn ytc, .slice ya ym yc]) x) := by show ExAt _ _ _ _; rw [← hx0]; exact ht
        have HX := Lib.hid hx
        have HL := Lib.hid hl
        have hpos : 0 < es.length := by omega
        have HKIND := Lib.hid hkind
        clear hc0 hc1 hc2 hc3 hc4 hc5 ht hx hx0 hg hl hkind
        by_cases q2 : yk = 14
        · subst q2
          have HNO := Lib.hid (xwithin_form (r := r) (dp := dp) (show (Ex.node 14 nm n ty es).form = false by rw [HX.out]; have h := HKIND.out; simp [Ex.form, bareB, h]))
          go_wp2_with fail
          go_ret
          exact XEnd.of HNO.out R2.out (fun h => by cases h)
        · have q2b : (yk == 14) = false := by simp [q2]
          have q2c : (yk != 14) = true := by simp [q2]
          have HEQ := Lib.hid (show xwithin (.node 14 nm n ty es) r dp = xwithin x r dp by rw [HX.out]; exact xwithin_mark (by have := HFIT.out; rw [HL.out] at this; exact this) (by rw [HKIND.out]; exact q2))
          have HCT : Hid ((Ex.node 14 nm n ty es).count = x.count) := by show _ = _; rw [HX.out]; simp [Ex.count, Ex.counts]
          have HB20 := Lib.hid (HW0.out.trans (B2.out.mono HW0.out.size))
          go_wp2_with fail
          refine (IH.out _ x p r dp w2 HT.out HB20.out hp0 (by omega) (by omega) hr0 hr1 hd0 hd1 e0 e1).mono ?_
          rintro e w3 ⟨r3, rfl, hR3, h3⟩
          have HR3 := Lib.hid (R2.out.on hR3)
          have H3 := Lib.hid h3
          clear hR3 h3
          go_wp2_with fail
          go_ret
          exact XEnd.of HEQ.out HR3.out (fun h => by rw [HCT.out]; exact H3.out h)
      · have qb0 : (kd == 14) = false := by simp [q]
        have HFIN : Hid ((Ex.node kd nm n ty es).count = 1 + Ex.counts es) := by show _ = _; simp [Ex.count, q]
        have HHI : Hid ((Ex.node kd nm n ty es).high = Ex.highs es + 1) := by show _ = _; simp [Ex.high, q]
        have R3 := Lib.hid (Room.stored (r := r - 1) hp B2.out e0 e1)
        have hpw : ¬ (p = w.heap.size) := by omega
        have EARLY : Hid (r < 1 ∨ dp = 0 → xwithin (.node kd nm n ty es) r dp = false) := fun h => by
          cases hw : xwithin (.node kd nm n ty es) r dp with
          | false => rfl
          | true =>
            obtain ⟨w1, w2, w3⟩ := xwithin_true hw
            rw [HFIN.out] at w1
            rw [HHI.out] at w2
            omega
        by_cases hr : r < 1
        · go_wp2_with fail
          go_ret
          exact XEnd.of (EARLY.out (Or.inl hr)) R3.out (fun h => by cases h)
        by_cases hd : dp = 0
        · have hdb : (dp == 0) = true := by simp [hd]
          go_wp2_with fail
          go_ret
          exact XEnd.of (EARLY.out (Or.inr hd)) R3.out (fun h => by cases h)
        have hdb : (dp == 0) = false := by simp [hd]
        clear EARLY
        have HXA3 := Lib.hid (XA.out.stored (q := p) (j := 0) (u := .int .i64 (r - 1)) (fun h => hpw h.symm))
        have HZ3 : Hid (w2.heap.size ≤ (w2.setCell ⟨p, 0, none⟩ (.int .i64 (r - 1))).heap.size) := by show _ ≤ _; simp
        go_wp2_with fail
        go_loopw [46] (fun i wr => ∃ k : Nat, k ≤ es.length ∧ i = .int .i64 k ∧ 0 ≤ r - 1 - (Ex.counts (es.take k) : Int) ∧ (Ex.highs (es.take k) : Int) ≤ dp - 1 ∧ Ex.forms (es.take k) = true ∧ Room p (r - 1 - Ex.counts (es.take k)) w wr ∧ BoxAt wr w.heap.size #[.int .i64 kd, .string nm, .int .i64 n, .int .i64 tk, .slice ta tn tc, .slice a es.length cap]) (fun i _ => es.length - (intOf i).toNat)
        case atStart => exact ⟨0, by omega, rfl, by simp [Ex.counts]; omega, by simp [Ex.highs]; omega, by simp [Ex.forms], by simpa [Ex.counts] using R3.out, HXA3.out⟩
        case round =>
          obtain ⟨k, hk, rfl, hs, hds, hf, hroom, hbx⟩ := hrel
          have b0 := hbx.2 0
          have b1 := hbx.2 1
          have b2 := hbx.2 2
          have b3 := hbx.2 3
          have b4 := hbx.2 4
          have b5 := hbx.2 5
          have HS := Lib.hid hs
          have HD := Lib.hid hds
          have HF := Lib.hid hf
          have HR := Lib.hid hroom
          have HX := Lib.hid hbx
          clear hs hds hf hroom hbx
          by_cases hlt : k < es.length
          · obtain ⟨b, off, x0, x1, x2, x3, x4, x5, rfl, hbl, hc0, hc1, hc2, hc3, hc4, hc5, ht⟩ := HAT.out k hlt
            have hg := Ex.bulk_get es k hlt
            have HS2 := HSZ.out
            obtain ⟨yk, ynm, yn, ytk, yta, ytn, ytc, ya, ym, yc, rfl, rfl, rfl, rfl, rfl, rfl⟩ := ex_cells ht
            have HB0r : Hid (Below w0.heap.size w0 wr) := HW0.out.trans (HR.out.2.2.1.mono hp0)
            have g0 : wr.cell? ⟨b, off + k * 6, none⟩ = some (.int .i64 yk) := by rw [HB0r.out.cell (p := ⟨b, off + k * 6, none⟩) hbl]; exact hc0
            have g1 : wr.cell? ⟨b, off + k * 6 + 1, none⟩ = some (.string ynm) := by rw [HB0r.out.cell (p := ⟨b, off + k * 6 + 1, none⟩) hbl]; exact hc1
            have g2 : wr.cell? ⟨b, off + k * 6 + 2, none⟩ = some (.int .i64 yn) := by rw [HB0r.out.cell (p := ⟨b, off + k * 6 + 2, none⟩) hbl]; exact hc2
            have g3 : wr.cell? ⟨b, off + k * 6 + 3, none⟩ = some (.int .i64 ytk) := by rw [HB0r.out.cell (p := ⟨b, off + k * 6 + 3, none⟩) hbl]; exact hc3
            have g4 : wr.cell? ⟨b, off + k * 6 + 4, none⟩ = some (.slice yta ytn ytc) := by rw [HB0r.out.cell (p := ⟨b, off + k * 6 + 4, none⟩) hbl]; exact hc4
            have g5 : wr.cell? ⟨b, off + k * 6 + 5, none⟩ = some (.slice ya ym yc) := by rw [HB0r.out.cell (p := ⟨b, off + k * 6 + 5, none⟩) hbl]; exact hc5
            have HT := Lib.hid ht
            clear ht hc0 hc1 hc2 hc3 hc4 hc5
            have hzr : w.heap.size ≤ wr.heap.size := HR.out.2.2.1.size
            have HB0b := Lib.hid (HB0r.out.alloc HB0r.out.size (.cells #[.int .i64 yk, .string ynm, .int .i64 yn, .int .i64 ytk, .slice yta ytn ytc, .slice ya ym yc] 50))
            have HRb := Lib.hid (HR.out.below hp (below_alloc wr (.cells #[.int .i64 yk, .string ynm, .int .i64 yn, .int .i64 ytk, .slice yta ytn ytc, .slice ya ym yc] 50)))
            have HXb := Lib.hid (HX.out.below (below_alloc wr (.cells #[.int .i64 yk, .string ynm, .int .i64 yn, .int .i64 ytk, .slice yta ytn ytc, .slice ya ym yc] 50)))
            have hs0 := HS.out
            have hcl : (Ex.counts (es.take k) : Int) ≤ 1048576 := by have := Ex.counts_part es k; omega
            go_wp2_with fail
            refine (IH.out _ es[k] p (r - 1 - Ex.counts (es.take k)) (dp - 1) (wr.alloc (.cells #[.int .i64 yk, .string ynm, .int .i64 yn, .int .i64 ytk, .slice yta ytn ytc, .slice ya ym yc] 50)) HT.out HB0b.out hp0 (by omega) (by simp; omega) (by omega) (by omega) (by omega) (by omega) HRb.out.1 HRb.out.2.1).mono ?_
            rintro e w3 ⟨r3, rfl, hR3, h3⟩
            have HX3 := Lib.hid (BoxAt.kept HXb.out hR3.2.2.1.size (hR3.2.2.2 _ HXb.out.1 (fun h => hpw h.symm)))
            have HR3 := Lib.hid (HRb.out.on hR3)
            have H3 := Lib.hid h3
            clear hR3 h3
            have HT2 := Lib.hid (Ex.counts_take es k hlt)
            cases hw : xwithin es[k] (r - 1 - Ex.counts (es.take k)) (dp - 1) with
            | false =>
              have HNO := Lib.hid (xwithin_sub (nm := nm) (n := n) (ty := ty) (r := r) q hlt rfl hw)
              clear hw
              go_wp2_with fail
              go_ret
              exact XEnd.of HNO.out HR3.out (fun h => by cases h)
            | true =>
              obtain ⟨v1, v2, v3⟩ := xwithin_true hw
              have hr3 := H3.out hw
              have HHT := Lib.hid (Ex.highs_take es k hlt)
              have HFT := Lib.hid (Ex.forms_take es k hlt)
              have HV1 := Lib.hid v1
              have HV2 := Lib.hid v2
              have HV3 := Lib.hid v3
              have HRR := Lib.hid hr3
              clear hw v1 v2 v3 hr3
              go_wp2_with fail
              refine ⟨⟨k + 1, by omega, by go_num, ?_, ?_, ?_, ?_, HX3.out⟩, by simp [intOf]; omega⟩
              · have h1 := HV1.out; rw [HT2.out]; omega
              · have h1 := HV2.out; have h2 := HD.out; rw [HHT.out]; omega
              · rw [HFT.out, HF.out, HV3.out]; rfl
              · have h1 := HR3.out; rw [HRR.out] at h1; rw [HT2.out]; have e : r - 1 - (Ex.counts (es.take k) : Int) - (es[k].count : Int) = r - 1 - ((Ex.counts (es.take k) + es[k].count : Nat) : Int) := by omega
                rw [e] at h1; exact h1
          · obtain rfl : k = es.length := by omega
            have HNO : Hid (xwithin (.node kd nm n ty es) r dp = true) := by
              have h1 := HS.out
              have h2 := HD.out
              have h3 := HF.out
              rw [List.take_length] at h1 h2 h3
              refine xwithin_mk (by rw [HFIN.out]; omega) (by rw [HHI.out]; omega) ?_
              have e : bareB kd es = true := by cases es with | nil => rfl | cons x r => simp [bareB, q]
              have hft := HFIT.out
              simp only [Ex.form, h3, e, hft, Bool.and_self]
            have HRL : Hid (Room p (r - 1 - Ex.counts es) w wr) := by have := HR.out; rw [List.take_length] at this; exact this
            go_wp2_with fail
            go_ret
            exact XEnd.of HNO.out HRL.out (fun _ => by rw [HFIN.out]; omega)
theorem xwithin_valid (t : Ex) : xwithin t 40 12 = t.valid := by
  have e1 : decide ((t.count : Int) ≤ 40) = decide (t.count ≤ 40) := decide_eq_decide.2 (by omega)
  have e2 : decide ((t.high : Int) ≤ 12) = decide (t.high ≤ 12) := decide_eq_decide.2 (by omega)
  unfold xwithin Ex.valid
  rw [e1, e2]
set_option maxRecDepth 100000 in
set_option maxHeartbeats 1000000 in
theorem implExValid (d : Nat) (v : Value) (t : Ex) (w : World) (h : ExAt w d v t) (hsz : t.bulk ≤ 1048576) (htab : TabAt w) :
    Calls Tryd.prog 62 #[v] w fun e w' => e = .returned (.bool t.valid) ∧ Below w.heap.size w w' := by
  have HT := Lib.hid h
  obtain ⟨yk, ynm, yn, ytk, yta, ytn, ytc, ya, ym, yc, rfl⟩ := ex_parts h
  clear h
  have X : Hid (Below w.heap.size w ((w.alloc (.cells #[.int .i64 yk, .string ynm, .int .i64 yn, .int .i64 ytk, .slice yta ytn ytc, .slice ya ym yc] 50)).alloc (.cells #[.int .i64 40] 3))) := ((Below.refl _ _).alloc (Nat.le_refl _) _).alloc (by simp) _
  go_enter Tryd.func62, Tryd.ntmps62
  go_wp2_with fail
  refine (implExWithin w htab d _ t (w.heap.size + 1) 40 12 _ HT.out X.out (by omega) hsz (by simp) (by omega) (by omega) (by omega) (by omega) (by simp [go_sem]) (by simp [go_sem])).mono ?_
  rintro e w' ⟨r', rfl, hr, _⟩
  have HB := Lib.hid (X.out.trans (hr.2.2.1.mono (Nat.le_succ _)))
  clear hr
  go_wp2_with fail
  go_ret
  exact ⟨by rw [xwithin_valid]; rfl, HB.out⟩
end Go.Proofs.YteeojgefnoaajaaDoor
/-
  Proved: impl.coreWithin says whether a core expression is of the right form and fits into the room that is left; it counts the room down, and touches nothing else. impl.IsCore says whether it is valid.
-/
namespace Go.Proofs.YteeojgefnoaajaaDoor
open Go.RowKit

def cwithin (t : Co) (r : Int) : Bool := decide ((t.count : Int) ≤ r) && t.form
def CWEnd (p : Nat) (r : Int) (t : Co) (w : World) (e : Ending) (w' : World) : Prop :=
  ∃ r' : Int, e = .returned (.bool (cwithin t r)) ∧ Room p r' w w' ∧ (cwithin t r = true → r' = r - t.count)
theorem CWEnd.of {p : Nat} {r r' : Int} {t : Co} {w w' : World} {b : Bool} (hb : cwithin t r = b) (hr : Room p r' w w') (h : b = true → r' = r - t.count) : CWEnd p r t w (.returned (.bool b)) w' := by
  subst hb; exact ⟨r', rfl, hr, h⟩
theorem cwithin_true {t : Co} {r : Int} (h : cwithin t r = true) : (t.count : Int) ≤ r ∧ t.form = true := by
  simp only [cwithin, Bool.and_eq_true, decide_eq_true_eq] at h
  exact h
theorem cwithin_mk {t : Co} {r : Int} (h1 : (t.count : Int) ≤ r) (h3 : t.form = true) : cwithin t r = true := by
  simp only [cwithin, Bool.and_eq_true, decide_eq_true_eq]
  exact ⟨h1, h3⟩
theorem cwithin_not {t : Co} {r : Int} (h : ¬ ((t.count : Int) ≤ r ∧ t.form = true)) : cwithin t r = false := by
  cases hw : cwithin t r with
  | false => rfl
  | true => exact absurd (cwithin_true hw) h
theorem coform_parts {kd : Int} {nm : ByteArray} {n : Int} {fr ty : Ty} {es : List Co} {ns : List ByteArray} {vs : List Co} : (Co.node kd nm n fr ty es ns vs).form = true ↔ Co.forms es = true ∧ coNodeB kd nm n fr ty es.length ns = true ∧ Co.forms vs = true := by
  simp only [Co.form, coNodeB, Bool.and_eq_true]
  constructor
  · rintro ⟨h1, h2, ⟨h3, h4, h5⟩, h6⟩; exact ⟨h1, ⟨h2, ⟨h3, h5⟩, h6⟩, h4⟩
  · rintro ⟨h1, ⟨h2, ⟨h3, h5⟩, h6⟩, h4⟩; exact ⟨h1, h2, ⟨h3, h4, h5⟩, h6⟩
set_option maxRecDepth 100000 in
set_option maxHeartbeats 8000000 in
theorem implCoWithin (w0 : World) (htab : CoreFull w0) : ∀ (d : Nat) (v : Value) (t : Co) (p : Nat) (r : Int) (w : World), PtrCo w0 d v t → Below w0.heap.size w0 w → w0.heap.size ≤ p → t.bulk ≤ 1048576 → p < w.heap.size → 0 ≤ r → r ≤ 1048576 → w.cell? ⟨p, 0, none⟩ = some (.int .i64 r) → w.frozen? ⟨p, 0, none⟩ = false → Calls Tryd.prog 48 #[v, .pointer (some ⟨p, 0, none⟩)] w (CWEnd p r t w)
  | 0, _, _, _, _, _, h, _, _, _, _, _, _, _, _ => by
    obtain ⟨_, _, _, _, _, _, _, _, _, _, _, _, _, _, _, _, _, _, _, _, _, _, h⟩ := h
    exact h.elim
  | d + 1, v, .node kd nm0 n0 fr ty es ns vs, p, r, w, h, hw0, hp0, hsz, hp, hr0, hr1, hcell, hfroz => by
    have IH : Hid (∀ (v : Value) (t : Co) (p : Nat) (r : Int) (w : World), PtrCo w0 d v t → Below w0.heap.size w0 w → w0.heap.size ≤ p → t.bulk ≤ 1048576 → p < w.heap.size → 0 ≤ r → r ≤ 1048576 → w.cell? ⟨p, 0, none⟩ = some (.int .i64 r) → w.frozen? ⟨p, 0, none⟩ = false → Calls Tryd.prog 48 #[v, .pointer (some ⟨p, 0, none⟩)] w (CWEnd p r t w)) := implCoWithin w0 htab d
    have HWH := Lib.hid h
    have HBK := Lib.hid hsz
    obtain ⟨pb, po, x0, x1, x2, x3, x4, x5, x6, x7, x8, rfl, hpl, k0, k1, k2, k3, k4, k5, k6, k7, k8, ht⟩ := h
    obtain ⟨c3, c4, c5, c6, sl, el, hv, hk0, hk1, hn0, hn1, hnm, hfr, hty, ⟨a, cap, rfl, hcap, hcap2, hat⟩, hln, a2, cap2, rfl, hcpe, hcpe2, hae⟩ := ht
    injection hv with hv
    injection hv with hv
    simp at hv
    obtain ⟨rfl, rfl, rfl, rfl, rfl, rfl, rfl, rfl, rfl⟩ := hv
    have HAT := Lib.hid hat; clear hat
    have HAE := Lib.hid hae; clear hae
    have HLN := Lib.hid hln; clear hln
    have hbk : (Co.node kd nm0 n0 fr ty es ns vs).bulk = nm0.size + (fr.size - 1) + (ty.size - 1) + Co.bulks es + (txs ns + Co.bulks vs) := rfl
    have HSZ : Hid (Co.bulks es + Co.bulks vs ≤ 1048576) := by show _ ≤ _; omega
    have hlen : es.length ≤ 1048576 := by have := Co.length_le es; omega
    have hlen2 : vs.length ≤ 1048576 := by have := Co.length_le vs; omega
    have HCT : Hid ((Co.node kd nm0 n0 fr ty es ns vs).count = 1 + Co.counts es + Co.counts vs) := by show _ = _; simp [Co.count]
    have K7 := Lib.hid k7
    have K8 := Lib.hid k8
    clear hsz hbk hfr hty k0 k1 k2 k3 k4 k5 k6 k7 k8
    have HW0 := Lib.hid hw0; clear hw0
    have HC0 := Lib.hid hcell
    have R1 := Lib.hid (Room.stored (r := r - 1) hp (Below.refl _ w) hcell hfroz)
    have HW1 : Hid (Below w0.heap.size w0 (w.setCell ⟨p, 0, none⟩ (.int .i64 (r - 1)))) := HW0.out.trans (R1.out.2.2.1.mono hp0)
    have hz1 : (w.setCell ⟨p, 0, none⟩ (.int .i64 (r - 1))).heap.size = w.heap.size := by simp
    by_cases hr : r < 1
    · have HNO : Hid (cwithin (.node kd nm0 n0 fr ty es ns vs) r = false) := cwithin_not (by rw [HCT.out]; omega)
      go_enter Tryd.func48, Tryd.ntmps48
      go_wp2_with fail
      go_ret
      exact CWEnd.of HNO.out R1.out (fun h => by cases h)
    go_enter Tryd.func48, Tryd.ntmps48
    go_wp2_with fail
    refine (implCoNode d _ kd nm0 n0 fr ty es ns vs _ (HWH.out.below HW1.out) HBK.out (htab.below HW1.out)).mono ?_
    rintro e w2 ⟨rfl, hb2⟩
    have R2 := Lib.hid (R1.out.below hp hb2)
    have HW2 : Hid (Below w0.heap.size w0 w2) := HW0.out.trans (R2.out.2.2.1.mono hp0)
    clear hb2 HW1 hcell hfroz
    have z7 : w2.cell? ⟨pb, po + 7, none⟩ = some (.slice a es.length cap) := (HW2.out.cell (p := ⟨pb, po + 7, none⟩) hpl).trans K7.out
    have z8 : w2.cell? ⟨pb, po + 8, none⟩ = some (.slice a2 vs.length cap2) := (HW2.out.cell (p := ⟨pb, po + 8, none⟩) hpl).trans K8.out
    cases hnode : coNodeB kd nm0 n0 fr ty es.length ns with
    | false =>
      have HNO : Hid (cwithin (.node kd nm0 n0 fr ty es ns vs) r = false) := cwithin_not (fun h => by have := (coform_parts.1 h.2).2.1; rw [hnode] at this; cases this)
      clear hnode
      go_wp2_with fail
      go_ret
      exact CWEnd.of HNO.out R2.out (fun h => by cases h)
    | true =>
      have HND := Lib.hid hnode; clear hnode
      go_wp2_with fail
      go_loopw [26] (fun i wr => ∃ k : Nat, k ≤ es.length ∧ i = .int .i64 k ∧ 0 ≤ r - 1 - (Co.counts (es.take k) : Int) ∧ Co.forms (es.take k) = true ∧ Room p (r - 1 - Co.counts (es.take k)) w wr) (fun i _ => es.length - (intOf i).toNat)
      case atStart => exact ⟨0, by omega, rfl, by simp [Co.counts]; omega, by simp [Co.forms], by simpa [Co.counts] using R2.out⟩
      case round =>
        obtain ⟨k, hk, rfl, hs, hf, hroom⟩ := hrel
        have HS := Lib.hid hs
        have HF := Lib.hid hf
        have HR := Lib.hid hroom
        clear hs hf hroom
        have HWR : Hid (Below w0.heap.size w0 wr) := HW0.out.trans (HR.out.2.2.1.mono hp0)
        have hzr : w.heap.size ≤ wr.heap.size := HR.out.2.2.1.size
        have HS2 := HSZ.out
        have z7 : wr.cell? ⟨pb, po + 7, none⟩ = some (.slice a es.length cap) := (HWR.out.cell (p := ⟨pb, po + 7, none⟩) hpl).trans K7.out
        have z8 : wr.cell? ⟨pb, po + 8, none⟩ = some (.slice a2 vs.length cap2) := (HWR.out.cell (p := ⟨pb, po + 8, none⟩) hpl).trans K8.out
        by_cases hlt : k < es.length
        · obtain ⟨b, off, x0, x1, x2, x3, x4, x5, x6, x7, x8, rfl, hbl, hc0, hc1, hc2, hc3, hc4, hc5, hc6, hc7, hc8, ht⟩ := HAT.out k hlt
          have HP : Hid (PtrCo w0 d (.pointer (some ⟨b, off + k * 9, none⟩)) es[k]) := ⟨b, off + k * 9, _, _, _, _, _, _, _, _, _, rfl, hbl, hc0, hc1, hc2, hc3, hc4, hc5, hc6, hc7, hc8, ht⟩
          clear ht hc0 hc1 hc2 hc3 hc4 hc5 hc6 hc7 hc8
          have hg := Co.bulk_get es k hlt
          have hs0 := HS.out
          have hcl : (Co.counts (es.take k) : Int) ≤ 1048576 := by have := Co.counts_part es k; omega
          go_wp2_with fail
          refine (IH.out _ es[k] p (r - 1 - Co.counts (es.take k)) wr HP.out HWR.out hp0 (by omega) (by omega) (by omega) (by omega) HR.out.1 HR.out.2.1).mono ?_
          rintro e w3 ⟨r3, rfl, hR3, h3⟩
          have HR3 := Lib.hid (HR.out.on hR3)
          have H3 := Lib.hid h3
          clear hR3 h3
          have HT2 := Lib.hid (Co.counts_take es k hlt)
          have HFT := Lib.hid (Co.forms_take es k hlt)
          cases hw : cwithin es[k] (r - 1 - Co.counts (es.take k)) with
          | false =>
            have HNO : Hid (cwithin (.node kd nm0 n0 fr ty es ns vs) r = false) := cwithin_not (fun h => by
              have hp3 := coform_parts.1 h.2
              have h1 := Co.forms_get es k hlt hp3.1
              have h2 := Co.counts_le_all es (k + 1)
              have h4 := h.1
              rw [HCT.out] at h4
              rw [HT2.out] at h2
              rw [cwithin_mk (by omega) h1] at hw; cases hw)
            clear hw
            go_wp2_with fail
            go_ret
            exact CWEnd.of HNO.out HR3.out (fun h => by cases h)
          | true =>
            obtain ⟨v1, v3⟩ := cwithin_true hw
            have hr3 := H3.out hw
            have HV1 := Lib.hid v1
            have HV3 := Lib.hid v3
            have HRR := Lib.hid hr3
            clear hw v1 v3 hr3
            go_wp2_with fail
            refine ⟨⟨k + 1, by omega, by go_num, ?_, ?_, ?_⟩, by simp [intOf]; omega⟩
            · have h1 := HV1.out; rw [HT2.out]; omega
            · rw [HFT.out, HF.out, HV3.out]; rfl
            · have h1 := HR3.out; rw [HRR.out] at h1; rw [HT2.out]; have e : r - 1 - (Co.counts (es.take k) : Int) - (es[k].count : Int) = r - 1 - ((Co.counts (es.take k) + es[k].count : Nat) : Int) := by omega
              rw [e] at h1; exact h1
        · obtain rfl : k = es.length := by omega
          have HFE : Hid (Co.forms es = true) := by have := HF.out; rw [List.take_length] at this; exact this
          have HSE : Hid (0 ≤ r - 1 - (Co.counts es : Int)) := by have := HS.out; rw [List.take_length] at this; exact this
          have HRE : Hid (Room p (r - 1 - Co.counts es) w wr) := by have := HR.out; rw [List.take_length] at this; exact this
          clear HF HS HR
          go_wp2_with fail
          go_loopw [44] (fun i wr => ∃ k : Nat, k ≤ vs.length ∧ i = .int .i64 k ∧ 0 ≤ r - 1 - (Co.counts es : Int) - (Co.counts (vs.take k) : Int) ∧ Co.forms (vs.take k) = true ∧ Room p (r - 1 - (Co.counts es : Int) - Co.counts (vs.take k)) w wr) (fun i _ => vs.length - (intOf i).toNat)
          case atStart => exact ⟨0, by omega, rfl, by have := HSE.out; simp [Co.counts]; omega, by simp [Co.forms], by simpa [Co.counts] using HRE.out⟩
          case round =>
            obtain ⟨k, hk, rfl, hs, hf, hroom⟩ := hrel
            have HS := Lib.hid hs
            have HF := Lib.hid hf
            have HR := Lib.hid hroom
            clear hs hf hroom
            have HWR : Hid (Below w0.heap.size w0 wr) := HW0.out.trans (HR.out.2.2.1.mono hp0)
            have hzr : w.heap.size ≤ wr.heap.size := HR.out.2.2.1.size
            have HS2 := HSZ.out
            have z7 : wr.cell? ⟨pb, po + 7, none⟩ = some (.slice a es.length cap) := (HWR.out.cell (p := ⟨pb, po + 7, none⟩) hpl).trans K7.out
            have z8 : wr.cell? ⟨pb, po + 8, none⟩ = some (.slice a2 vs.length cap2) := (HWR.out.cell (p := ⟨pb, po + 8, none⟩) hpl).trans K8.out
            by_cases hlt : k < vs.length
            · have hlt2 : k < ns.length := by have := HLN.out; omega
              obtain ⟨b, off, x0, x1, x2, x3, x4, x5, x6, x7, x8, rfl, hbl, hnz, hcn, hc0, hc1, hc2, hc3, hc4, hc5, hc6, hc7, hc8, ht⟩ := HAE.out k hlt hlt2
              have HP : Hid (PtrCo w0 d (.pointer (some ⟨b, off + k * 10 + 1, none⟩)) vs[k]) := ⟨b, off + k * 10 + 1, _, _, _, _, _, _, _, _, _, rfl, hbl, hc0, hc1, hc2, hc3, hc4, hc5, hc6, hc7, hc8, ht⟩
              clear ht hc0 hc1 hc2 hc3 hc4 hc5 hc6 hc7 hc8 hcn hnz
              have hg := Co.bulk_get vs k hlt
              have hs0 := HS.out
              have hcl : (Co.counts (vs.take k) : Int) ≤ 1048576 := by have := Co.counts_part vs k; omega
              go_wp2_with fail
              refine (IH.out _ vs[k] p (r - 1 - (Co.counts es : Int) - Co.counts (vs.take k)) wr HP.out HWR.out hp0 (by omega) (by omega) (by omega) (by omega) HR.out.1 HR.out.2.1).mono ?_
              rintro e w3 ⟨r3, rfl, hR3, h3⟩
              have HR3 := Lib.hid (HR.out.on hR3)
              have H3 := Lib.hid h3
              clear hR3 h3
              have HT2 := Lib.hid (Co.counts_take vs k hlt)
              have HFT := Lib.hid (Co.forms_take vs k hlt)
              cases hw : cwithin vs[k] (r - 1 - (Co.counts es : Int) - Co.counts (vs.take k)) with
              | false =>
                have HNO : Hid (cwithin (.node kd nm0 n0 fr ty es ns vs) r = false) := cwithin_not (fun h => by
                  have hp3 := coform_parts.1 h.2
                  have h1 := Co.forms_get vs k hlt hp3.2.2
                  have h2 := Co.counts_le_all vs (k + 1)
                  have h4 := h.1
                  rw [HCT.out] at h4
                  rw [HT2.out] at h2
                  rw [cwithin_mk (by omega) h1] at hw; cases hw)
                clear hw
                go_wp2_with fail
                go_ret
                exact CWEnd.of HNO.out HR3.out (fun h => by cases h)
              | true =>
                obtain ⟨v1, v3⟩ := cwithin_true hw
                have hr3 := H3.out hw
                have HV1 := Lib.hid v1
                have HV3 := Lib.hid v3
                have HRR := Lib.hid hr3
                clear hw v1 v3 hr3
                go_wp2_with fail
                refine ⟨⟨k + 1, by omega, by go_num, ?_, ?_, ?_⟩, by simp [intOf]; omega⟩
                · have h1 := HV1.out; rw [HT2.out]; omega
                · rw [HFT.out, HF.out, HV3.out]; rfl
                · have h1 := HR3.out; rw [HRR.out] at h1; rw [HT2.out]; have e : r - 1 - (Co.counts es : Int) - (Co.counts (vs.take k) : Int) - (vs[k].count : Int) = r - 1 - (Co.counts es : Int) - ((Co.counts (vs.take k) + vs[k].count : Nat) : Int) := by omega
                  rw [e] at h1; exact h1
            · obtain rfl : k = vs.length := by omega
              have HNO : Hid (cwithin (.node kd nm0 n0 fr ty es ns vs) r = true) := by
                have h1 := HS.out
                have h3 := HF.out
                rw [List.take_length] at h1 h3
                exact cwithin_mk (by rw [HCT.out]; omega) (coform_parts.2 ⟨HFE.out, HND.out, h3⟩)
              have HRL : Hid (Room p (r - 1 - Co.counts es - Co.counts vs) w wr) := by have := HR.out; rw [List.take_length] at this; exact this
              go_wp2_with fail
              go_ret
              exact CWEnd.of HNO.out HRL.out (fun _ => by rw [HCT.out]; omega)
set_option maxRecDepth 100000 in
set_option maxHeartbeats 2000000 in
theorem cwithin_valid (t : Co) : cwithin t 600 = t.valid := by
  have e1 : decide ((t.count : Int) ≤ 600) = decide (t.count ≤ 600) := decide_eq_decide.2 (by omega)
  unfold cwithin Co.valid
  rw [e1]
theorem ptr_box {w : World} {d : Nat} {t : Co} {yk yn yfk ytk : Int} {ynm : ByteArray} {yfa yta ya za : Option Addr} {yfn yfc ytn ytc ym yc zm zc : Nat} (h : CoAt w d (.agg #[.int .i64 yk, .string ynm, .int .i64 yn, .int .i64 yfk, .slice yfa yfn yfc, .int .i64 ytk, .slice yta ytn ytc, .slice ya ym yc, .slice za zm zc]) t) :
    PtrCo (w.alloc (.cells #[.int .i64 yk, .string ynm, .int .i64 yn, .int .i64 yfk, .slice yfa yfn yfc, .int .i64 ytk, .slice yta ytn ytc, .slice ya ym yc, .slice za zm zc] 37)) d (.pointer (some ⟨w.heap.size, 0, none⟩)) t := by
  have X := BoxAt.new w #[.int .i64 yk, .string ynm, .int .i64 yn, .int .i64 yfk, .slice yfa yfn yfc, .int .i64 ytk, .slice yta ytn ytc, .slice ya ym yc, .slice za zm zc] 37
  exact ⟨_, 0, _, _, _, _, _, _, _, _, _, rfl, X.1, X.2 0, X.2 1, X.2 2, X.2 3, X.2 4, X.2 5, X.2 6, X.2 7, X.2 8, h.below (below_alloc _ _)⟩
set_option maxRecDepth 100000 in
set_option maxHeartbeats 2000000 in
theorem implIsCore (d : Nat) (v : Value) (t : Co) (w : World) (h : CoAt w d v t) (hsz : t.bulk ≤ 1048576) (htab : CoreFull w) :
    Calls Tryd.prog 13 #[v] w fun e w' => e = .returned (.bool t.valid) ∧ Below w.heap.size w w' := by
  obtain ⟨yk, ynm, yn, yfk, yfa, yfn, yfc, ytk, yta, ytn, ytc, ya, ym, yc, za, zm, zc, rfl⟩ := co_parts h
  have HP := Lib.hid (ptr_box h)
  have HTB := Lib.hid (htab.below (below_alloc w (.cells #[.int .i64 yk, .string ynm, .int .i64 yn, .int .i64 yfk, .slice yfa yfn yfc, .int .i64 ytk, .slice yta ytn ytc, .slice ya ym yc, .slice za zm zc] 37)))
  clear h htab
  have X : Hid (Below (w.heap.size + 1) (w.alloc (.cells #[.int .i64 yk, .string ynm, .int .i64 yn, .int .i64 yfk, .slice yfa yfn yfc, .int .i64 ytk, .slice yta ytn ytc, .slice ya ym yc, .slice za zm zc] 37)) ((w.alloc (.cells #[.int .i64 yk, .string ynm, .int .i64 yn, .int .i64 yfk, .slice yfa yfn yfc, .int .i64 ytk, .slice yta ytn ytc, .slice ya ym yc, .slice za zm zc] 37)).alloc (.cells #[.int .i64 600] 3))) := (Below.refl _ _).alloc (by simp) _
  go_enter Tryd.func13, Tryd.ntmps13
  go_wp2_with fail
  refine (implCoWithin (w.alloc (.cells #[.int .i64 yk, .string ynm, .int .i64 yn, .int .i64 yfk, .slice yfa yfn yfc, .int .i64 ytk, .slice yta ytn ytc, .slice ya ym yc, .slice za zm zc] 37)) HTB.out d _ t (w.heap.size + 1) 600 _ HP.out (by have := X.out; simpa using this) (by simp) hsz (by simp) (by omega) (by omega) (by simp [go_sem]) (by simp [go_sem])).mono ?_
  rintro e w' ⟨r', rfl, hr, _⟩
  have HB : Hid (Below w.heap.size w w') := ((below_alloc w _).alloc (by simp) _).trans (hr.2.2.1.mono (Nat.le_succ _))
  clear hr
  go_wp2_with fail
  go_ret
  exact ⟨by rw [cwithin_valid]; rfl, HB.out⟩
end Go.Proofs.YteeojgefnoaajaaDoor
/-
  Proved: spec.l18Left takes the nodes of a core expression from what is left, and stops below 0; the memory that was there stays as it was.
-/
namespace Go.Proofs.YteeojgefnoaajaaDoor
open Go.RowKit

theorem left_next {l c x m r : Int} (hm : m = max (l - c) (-1)) (h0 : ¬ m < 0) (hr : r = max (m - x) (-1)) : r = max (l - (c + x)) (-1) := by omega
theorem left_stop {l c c2 m : Int} (hm : m = max (l - c) (-1)) (h0 : m < 0) (hc : c ≤ c2) : m = max (l - c2) (-1) := by omega
set_option maxRecDepth 100000 in
set_option maxHeartbeats 4000000 in
theorem specCoLeft : ∀ (d : Nat) (v : Value) (t : Co) (left : Int) (w : World), 0 ≤ left → left ≤ 1048576 → CoAt w d v t → t.bulk ≤ 1048576 →
    Calls Tryd.prog 43 #[v, .int .i64 left] w fun e w' => e = .returned (.int .i64 (max (left - t.count) (-1))) ∧ Below w.heap.size w w'
  | 0, _, _, _, _, _, _, h, _ => h.elim
  | d + 1, v, .node kd nm0 n0 fr ty es ns vs, left, w, hl0, hl1, h, hsz => by
    have IH : Hid (∀ (v : Value) (t : Co) (left : Int) (w : World), 0 ≤ left → left ≤ 1048576 → CoAt w d v t → t.bulk ≤ 1048576 → Calls Tryd.prog 43 #[v, .int .i64 left] w fun e w' => e = .returned (.int .i64 (max (left - t.count) (-1))) ∧ Below w.heap.size w w') := specCoLeft d
    have HV := co_parts h
    obtain ⟨c3, c4, c5, c6, sl, el, rfl, hk0, hk1, hn0, hn1, hnm, hfr, hty, ⟨a, cap, rfl, hcap, hcap2, hat⟩, hln, a2, cap2, rfl, hcpe, hcpe2, hae⟩ := h
    obtain ⟨k, nm, n, fk, fa, fn, fc, tk, ta, tn, tc, sa, sn, sc, ea, en, ec, hv⟩ := HV
    injection hv with hv
    injection hv with hv
    simp at hv
    obtain ⟨rfl, rfl, rfl, rfl, rfl, rfl, rfl, HVR⟩ := hv
    clear HVR
    have HAT := Lib.hid hat; clear hat
    have HAE := Lib.hid hae; clear hae
    have HLN := Lib.hid hln; clear hln
    have hbk : (Co.node kd nm0 n0 fr ty es ns vs).bulk = nm0.size + (fr.size - 1) + (ty.size - 1) + Co.bulks es + (txs ns + Co.bulks vs) := rfl
    have HSZ : Hid (Co.bulks es + Co.bulks vs ≤ 1048576) := by show _ ≤ _; omega
    have HNM : Hid (nm0.size ≤ 1048576) := by show _ ≤ _; omega
    have HTXS : Hid (txs ns ≤ 1048576) := by show _ ≤ _; omega
    have HFZ : Hid (fr.size ≤ 1048577) := by show _ ≤ _; omega
    have HTZ : Hid (ty.size ≤ 1048577) := by show _ ≤ _; omega
    have hlen : es.length ≤ 1048576 := by have := Co.length_le es; omega
    have hlen2 : vs.length ≤ 1048576 := by have := Co.length_le vs; omega
    have HFR := Lib.hid hfr
    have HTY := Lib.hid hty
    clear hsz hbk hty hfr
    have HFIN : Hid ((Co.node kd nm0 n0 fr ty es ns vs).count = 1 + Co.counts es + Co.counts vs) := by show _ = _; simp [Co.count]
    clear HFR HTY HFZ HTZ HNM HTXS
    go_enter Tryd.func43, Tryd.ntmps43
    go_wp2_with fail
    go_loopw [1, 5] (fun l i wr => ∃ (k : Nat) (m : Int), k ≤ es.length ∧ i = .int .i64 k ∧ l = .int .i64 m ∧ m = max (left - 1 - (Co.counts (es.take k) : Int)) (-1) ∧ Below (w.heap.size + 1) (w.alloc (.cells #[.int .i64 kd, .string nm0, .int .i64 n0, .int .i64 fk, .slice fa fn fc, .int .i64 tk, .slice ta tn tc, .slice a es.length cap, .slice a2 vs.length cap2] 37)) wr) (fun _ i _ => es.length - (intOf i).toNat)
    case atStart => exact ⟨0, left - 1, by omega, rfl, rfl, by simp [Co.counts]; omega, Below.refl _ _⟩
    case round =>
      obtain ⟨k, m, hk, rfl, rfl, hm, hb⟩ := hrel
      have HM := Lib.hid hm
      have hm0 : -1 ≤ m ∧ m ≤ 1048576 := by omega
      clear hm
      have b7 := box_cell hb 7
      have b8 := box_cell hb 8
      have HB := Lib.hid (box_below hb)
      have HBX := Lib.hid hb; clear hb
      have HS2 := HSZ.out
      by_cases hlt : k < es.length
      · by_cases hneg : m < 0
        · have HM2 := Lib.hid (left_stop HM.out hneg (c2 := (Co.counts es : Int)) (by have := Co.counts_le_all es k; omega))
          have HM2f := Lib.hid HM2.out
          clear HM2 HM
          go_wp2_with fail
          go_loopw [1, 6] (fun l i wr => ∃ (k : Nat) (m : Int), k ≤ vs.length ∧ i = .int .i64 k ∧ l = .int .i64 m ∧ m = max (left - 1 - (Co.counts es : Int) - (Co.counts (vs.take k) : Int)) (-1) ∧ Below (w.heap.size + 1) (w.alloc (.cells #[.int .i64 kd, .string nm0, .int .i64 n0, .int .i64 fk, .slice fa fn fc, .int .i64 tk, .slice ta tn tc, .slice a es.length cap, .slice a2 vs.length cap2] 37)) wr) (fun _ i _ => vs.length - (intOf i).toNat)
          case atStart => exact ⟨0, m, by omega, rfl, rfl, by have := HM2f.out; simp [Co.counts]; omega, HBX.out⟩
          case round =>
            obtain ⟨k, m, hk, rfl, rfl, hm, hb⟩ := hrel
            have HM := Lib.hid hm
            have hm0 : -1 ≤ m ∧ m ≤ 1048576 := by omega
            clear hm
            have b7 := box_cell hb 7
            have b8 := box_cell hb 8
            have HB := Lib.hid (box_below hb)
            have HBX := Lib.hid hb; clear hb
            have HS2 := HSZ.out
            by_cases hlt : k < vs.length
            · by_cases hneg : m < 0
              · have HM2 := Lib.hid (left_stop HM.out hneg (c2 := (Co.counts vs : Int)) (by have := Co.counts_le_all vs k; omega))
                go_wp2_with fail
                go_ret
                refine ⟨?_, HB.out⟩
                have e1 := HM2.out
                rw [HFIN.out]
                have e2 : m = max (left - ((1 + Co.counts es + Co.counts vs : Nat) : Int)) (-1) := by omega
                rw [e2]
                rfl
              · have hlt2 : k < ns.length := by have := HLN.out; omega
                obtain ⟨b, off, x0, x1, x2, x3, x4, x5, x6, x7, x8, rfl, hbl, hnz, hcn, hc0, hc1, hc2, hc3, hc4, hc5, hc6, hc7, hc8, ht⟩ := HAE.out k hlt hlt2
                have hg := Co.bulk_get vs k hlt
                have e0 : wr.cell? ⟨b, off + k * 10 + 1, none⟩ = some x0 := by rw [HB.out.cell (p := ⟨b, off + k * 10 + 1, none⟩) hbl]; exact hc0
                have e1 : wr.cell? ⟨b, off + k * 10 + 2, none⟩ = some x1 := by rw [HB.out.cell (p := ⟨b, off + k * 10 + 2, none⟩) hbl]; exact hc1
                have e2 : wr.cell? ⟨b, off + k * 10 + 3, none⟩ = some x2 := by rw [HB.out.cell (p := ⟨b, off + k * 10 + 3, none⟩) hbl]; exact hc2
                have e3 : wr.cell? ⟨b, off + k * 10 + 4, none⟩ = some x3 := by rw [HB.out.cell (p := ⟨b, off + k * 10 + 4, none⟩) hbl]; exact hc3
                have e4 : wr.cell? ⟨b, off + k * 10 + 5, none⟩ = some x4 := by rw [HB.out.cell (p := ⟨b, off + k * 10 + 5, none⟩) hbl]; exact hc4
                have e5 : wr.cell? ⟨b, off + k * 10 + 6, none⟩ = some x5 := by rw [HB.out.cell (p := ⟨b, off + k * 10 + 6, none⟩) hbl]; exact hc5
                have e6 : wr.cell? ⟨b, off + k * 10 + 7, none⟩ = some x6 := by rw [HB.out.cell (p := ⟨b, off + k * 10 + 7, none⟩) hbl]; exact hc6
                have e7 : wr.cell? ⟨b, off + k * 10 + 8, none⟩ = some x7 := by rw [HB.out.cell (p := ⟨b, off + k * 10 + 8, none⟩) hbl]; exact hc7
                have e8 : wr.cell? ⟨b, off + k * 10 + 9, none⟩ = some x8 := by rw [HB.out.cell (p := ⟨b, off + k * 10 + 9, none⟩) hbl]; exact hc8
                have HT := Lib.hid (ht.below HB.out)
                have HPX := Lib.hid HBX.out
                clear ht hc0 hc1 hc2 hc3 hc4 hc5 hc6 hc7 hc8 hcn hnz
                go_wp2_with fail
                refine (IH.out _ _ m _ (by omega) (by omega) HT.out (by omega)).mono ?_
                rintro e w' ⟨rfl, hb1⟩
                have HN := Lib.hid (box_next HPX.out hb1); clear hb1
                have HT2 := Lib.hid (Co.counts_take vs k hlt)
                have HM3 := Lib.hid (left_next HM.out (by omega) rfl (x := (vs[k].count : Int)))
                go_wp2_with fail
                exact ⟨⟨k + 1, _, by omega, by go_num, rfl, by rw [HT2.out]; have h3 := HM3.out; omega, HN.out⟩, by simp [intOf]; omega⟩
            · obtain rfl : k = vs.length := by omega
              have HM2 := Lib.hid HM.out
              rw [List.take_length] at HM2
              go_wp2_with fail
              go_ret
              refine ⟨?_, HB.out⟩
              have e1 := HM2.out
              rw [HFIN.out]
              have e2 : m = max (left - ((1 + Co.counts es + Co.counts vs : Nat) : Int)) (-1) := by omega
              rw [e2]
              rfl
        · obtain ⟨b, off, x0, x1, x2, x3, x4, x5, x6, x7, x8, rfl, hbl, hc0, hc1, hc2, hc3, hc4, hc5, hc6, hc7, hc8, ht⟩ := HAT.out k hlt
          have hg := Co.bulk_get es k hlt
          have e0 : wr.cell? ⟨b, off + k * 9, none⟩ = some x0 := by rw [HB.out.cell (p := ⟨b, off + k * 9, none⟩) hbl]; exact hc0
          have e1 : wr.cell? ⟨b, off + k * 9 + 1, none⟩ = some x1 := by rw [HB.out.cell (p := ⟨b, off + k * 9 + 1, none⟩) hbl]; exact hc1
          have e2 : wr.cell? ⟨b, off + k * 9 + 2, none⟩ = some x2 := by rw [HB.out.cell (p := ⟨b, off + k * 9 + 2, none⟩) hbl]; exact hc2
          have e3 : wr.cell? ⟨b, off + k * 9 + 3, none⟩ = some x3 := by rw [HB.out.cell (p := ⟨b, off + k * 9 + 3, none⟩) hbl]; exact hc3
          have e4 : wr.cell? ⟨b, off + k * 9 + 4, none⟩ = some x4 := by rw [HB.out.cell (p := ⟨b, off + k * 9 + 4, none⟩) hbl]; exact hc4
          have e5 : wr.cell? ⟨b, off + k * 9 + 5, none⟩ = some x5 := by rw [HB.out.cell (p := ⟨b, off + k * 9 + 5, none⟩) hbl]; exact hc5
          have e6 : wr.cell? ⟨b, off + k * 9 + 6, none⟩ = some x6 := by rw [HB.out.cell (p := ⟨b, off + k * 9 + 6, none⟩) hbl]; exact hc6
          have e7 : wr.cell? ⟨b, off + k * 9 + 7, none⟩ = some x7 := by rw [HB.out.cell (p := ⟨b, off + k * 9 + 7, none⟩) hbl]; exact hc7
          have e8 : wr.cell? ⟨b, off + k * 9 + 8, none⟩ = some x8 := by rw [HB.out.cell (p := ⟨b, off + k * 9 + 8, none⟩) hbl]; exact hc8
          have HT := Lib.hid (ht.below HB.out)
          have HPX := Lib.hid HBX.out
          clear ht hc0 hc1 hc2 hc3 hc4 hc5 hc6 hc7 hc8
          go_wp2_with fail
          refine (IH.out _ _ m _ (by omega) (by omega) HT.out (by omega)).mono ?_
          rintro e w' ⟨rfl, hb1⟩
          have HN := Lib.hid (box_next HPX.out hb1); clear hb1
          have HT2 := Lib.hid (Co.counts_take es k hlt)
          have HM3 := Lib.hid (left_next HM.out (by omega) rfl (x := (es[k].count : Int)))
          go_wp2_with fail
          exact ⟨⟨k + 1, _, by omega, by go_num, rfl, by rw [HT2.out]; have h3 := HM3.out; omega, HN.out⟩, by simp [intOf]; omega⟩
      · obtain rfl : k = es.length := by omega
        have HM2 := Lib.hid HM.out
        rw [List.take_length] at HM2
        have HM2f := Lib.hid HM2.out
        clear HM2 HM
        go_wp2_with fail
        go_loopw [1, 6] (fun l i wr => ∃ (k : Nat) (m : Int), k ≤ vs.length ∧ i = .int .i64 k ∧ l = .int .i64 m ∧ m = max (left - 1 - (Co.counts es : Int) - (Co.counts (vs.take k) : Int)) (-1) ∧ Below (w.heap.size + 1) (w.alloc (.cells #[.int .i64 kd, .string nm0, .int .i64 n0, .int .i64 fk, .slice fa fn fc, .int .i64 tk, .slice ta tn tc, .slice a es.length cap, .slice a2 vs.length cap2] 37)) wr) (fun _ i _ => vs.length - (intOf i).toNat)
        case atStart => exact ⟨0, m, by omega, rfl, rfl, by have := HM2f.out; simp [Co.counts]; omega, HBX.out⟩
        case round =>
          obtain ⟨k, m, hk, rfl, rfl, hm, hb⟩ := hrel
          have HM := Lib.hid hm
          have hm0 : -1 ≤ m ∧ m ≤ 1048576 := by omega
          clear hm
          have b7 := box_cell hb 7
          have b8 := box_cell hb 8
          have HB := Lib.hid (box_below hb)
          have HBX := Lib.hid hb; clear hb
          have HS2 := HSZ.out
          by_cases hlt : k < vs.length
          · by_cases hneg : m < 0
            · have HM2 := Lib.hid (left_stop HM.out hneg (c2 := (Co.counts vs : Int)) (by have := Co.counts_le_all vs k; omega))
              go_wp2_with fail
              go_ret
              refine ⟨?_, HB.out⟩
              have e1 := HM2.out
              rw [HFIN.out]
              have e2 : m = max (left - ((1 + Co.counts es + Co.counts vs : Nat) : Int)) (-1) := by omega
              rw [e2]
              rfl
            · have hlt2 : k < ns.length := by have := HLN.out; omega
              obtain ⟨b, off, x0, x1, x2, x3, x4, x5, x6, x7, x8, rfl, hbl, hnz, hcn, hc0, hc1, hc2, hc3, hc4, hc5, hc6, hc7, hc8, ht⟩ := HAE.out k hlt hlt2
              have hg := Co.bulk_get vs k hlt
              have e0 : wr.cell? ⟨b, off + k * 10 + 1, none⟩ = some x0 := by rw [HB.out.cell (p := ⟨b, off + k * 10 + 1, none⟩) hbl]; exact hc0
              have e1 : wr.cell? ⟨b, off + k * 10 + 2, none⟩ = some x1 := by rw [HB.out.cell (p := ⟨b, off + k * 10 + 2, none⟩) hbl]; exact hc1
              have e2 : wr.cell? ⟨b, off + k * 10 + 3, none⟩ = some x2 := by rw [HB.out.cell (p := ⟨b, off + k * 10 + 3, none⟩) hbl]; exact hc2
              have e3 : wr.cell? ⟨b, off + k * 10 + 4, none⟩ = some x3 := by rw [HB.out.cell (p := ⟨b, off + k * 10 + 4, none⟩) hbl]; exact hc3
              have e4 : wr.cell? ⟨b, off + k * 10 + 5, none⟩ = some x4 := by rw [HB.out.cell (p := ⟨b, off + k * 10 + 5, none⟩) hbl]; exact hc4
              have e5 : wr.cell? ⟨b, off + k * 10 + 6, none⟩ = some x5 := by rw [HB.out.cell (p := ⟨b, off + k * 10 + 6, none⟩) hbl]; exact hc5
              have e6 : wr.cell? ⟨b, off + k * 10 + 7, none⟩ = some x6 := by rw [HB.out.cell (p := ⟨b, off + k * 10 + 7, none⟩) hbl]; exact hc6
              have e7 : wr.cell? ⟨b, off + k * 10 + 8, none⟩ = some x7 := by rw [HB.out.cell (p := ⟨b, off + k * 10 + 8, none⟩) hbl]; exact hc7
              have e8 : wr.cell? ⟨b, off + k * 10 + 9, none⟩ = some x8 := by rw [HB.out.cell (p := ⟨b, off + k * 10 + 9, none⟩) hbl]; exact hc8
              have HT := Lib.hid (ht.below HB.out)
              have HPX := Lib.hid HBX.out
              clear ht hc0 hc1 hc2 hc3 hc4 hc5 hc6 hc7 hc8 hcn hnz
              go_wp2_with fail
              refine (IH.out _ _ m _ (by omega) (by omega) HT.out (by omega)).mono ?_
              rintro e w' ⟨rfl, hb1⟩
              have HN := Lib.hid (box_next HPX.out hb1); clear hb1
              have HT2 := Lib.hid (Co.counts_take vs k hlt)
              have HM3 := Lib.hid (left_next HM.out (by omega) rfl (x := (vs[k].count : Int)))
              go_wp2_with fail
              exact ⟨⟨k + 1, _, by omega, by go_num, rfl, by rw [HT2.out]; have h3 := HM3.out; omega, HN.out⟩, by simp [intOf]; omega⟩
          · obtain rfl : k = vs.length := by omega
            have HM2 := Lib.hid HM.out
            rw [List.take_length] at HM2
            go_wp2_with fail
            go_ret
            refine ⟨?_, HB.out⟩
            have e1 := HM2.out
            rw [HFIN.out]
            have e2 : m = max (left - ((1 + Co.counts es + Co.counts vs : Nat) : Int)) (-1) := by omega
            rw [e2]
            rfl
end Go.Proofs.YteeojgefnoaajaaDoor
/-
  Proved: spec.l18Zero, spec.l18Types and spec.l18Fields say whether the types, the name and the number of a node belong to its kind; the memory that was there stays as it was.
-/
namespace Go.Proofs.YteeojgefnoaajaaDoor
open Go.RowKit

set_option maxRecDepth 100000 in
set_option maxHeartbeats 1000000 in
theorem specZero (d : Nat) (v : Value) (t : Ty) (w : World) (h : TyAt w d v t) :
    Calls Tryd.prog 157 #[v] w fun e w' => e = .returned (.bool (t.beq (.node 0 []))) ∧ Below w.heap.size w w' := by
  obtain ⟨yk, ya, yn, yc, rfl⟩ := agg_parts h
  have hz := ty_zero h
  have HZ := Lib.hid hz
  clear hz h
  by_cases q : yk = 0
  · subst q
    by_cases q1 : yn = 0
    · have q1b : ((yn : Int) == 0) = true := by simp [q1]
      go_enter Tryd.func157, Tryd.ntmps157
      go_wp2_with fail
      go_ret
      exact ⟨by rw [HZ.out]; simp [q1], below_alloc _ _⟩
    · have q1b : ((yn : Int) == 0) = false := by simp [q1]
      go_enter Tryd.func157, Tryd.ntmps157
      go_wp2_with fail
      go_ret
      exact ⟨by rw [HZ.out]; simp [q1], below_alloc _ _⟩
  · have qb : (yk == 0) = false := by simp [q]
    go_enter Tryd.func157, Tryd.ntmps157
    go_wp2_with fail
    go_ret
    exact ⟨by rw [HZ.out]; simp [q], below_alloc _ _⟩
set_option maxRecDepth 100000 in
set_option maxHeartbeats 4000000 in
theorem specCoTypes (d : Nat) (v : Value) (kd : Int) (nm0 : ByteArray) (n0 : Int) (fr ty : Ty) (es : List Co) (ns : List ByteArray) (vs : List Co) (w : World) (h : CoAt w (d + 1) v (.node kd nm0 n0 fr ty es ns vs)) (hsz : (Co.node kd nm0 n0 fr ty es ns vs).bulk ≤ 1048576) :
    Calls Tryd.prog 127 #[v] w fun e w' => e = .returned (.bool (coTypesB kd fr ty)) ∧ Below w.heap.size w w' := by
  have HV := co_parts h
  obtain ⟨c3, c4, c5, c6, sl, el, rfl, hk0, hk1, hn0, hn1, hnm, hfr, hty, ⟨a, cap, rfl, hcap, hcap2, hat⟩, hln, a2, cap2, rfl, hcpe, hcpe2, hae⟩ := h
  obtain ⟨k, nm, n, fk, fa, fn, fc, tk, ta, tn, tc, sa, sn, sc, ea, en, ec, hv⟩ := HV
  injection hv with hv
  injection hv with hv
  simp at hv
  obtain ⟨rfl, rfl, rfl, rfl, rfl, rfl, rfl, HVR⟩ := hv
  clear HVR
  have HAT := Lib.hid hat; clear hat
  have HAE := Lib.hid hae; clear hae
  have HLN := Lib.hid hln; clear hln
  have hbk : (Co.node kd nm0 n0 fr ty es ns vs).bulk = nm0.size + (fr.size - 1) + (ty.size - 1) + Co.bulks es + (txs ns + Co.bulks vs) := rfl
  have HSZ : Hid (Co.bulks es + Co.bulks vs ≤ 1048576) := by show _ ≤ _; omega
  have HNM : Hid (nm0.size ≤ 1048576) := by show _ ≤ _; omega
  have HTXS : Hid (txs ns ≤ 1048576) := by show _ ≤ _; omega
  have HFZ : Hid (fr.size ≤ 1048577) := by show _ ≤ _; omega
  have HTZ : Hid (ty.size ≤ 1048577) := by show _ ≤ _; omega
  have hlen : es.length ≤ 1048576 := by have := Co.length_le es; omega
  have hlen2 : vs.length ≤ 1048576 := by have := Co.length_le vs; omega
  have HFR := Lib.hid hfr
  have HTY := Lib.hid hty
  clear hsz hbk hty hfr
  have B0 : Hid (Below (w.heap.size + 1) (w.alloc (.cells #[.int .i64 kd, .string nm0, .int .i64 n0, .int .i64 fk, .slice fa fn fc, .int .i64 tk, .slice ta tn tc, .slice a es.length cap, .slice a2 vs.length cap2] 37)) (w.alloc (.cells #[.int .i64 kd, .string nm0, .int .i64 n0, .int .i64 fk, .slice fa fn fc, .int .i64 tk, .slice ta tn tc, .slice a es.length cap, .slice a2 vs.length cap2] 37))) := Below.refl _ _
  have HTYb := Lib.hid (HTY.out.below (box_below B0.out))
  have HFRb := Lib.hid (HFR.out.below (box_below B0.out))
  clear HTY HFR HAT HAE HLN HSZ HTXS
  by_cases q4 : kd = 4
  · subst q4
    go_enter Tryd.func127, Tryd.ntmps127
    go_wp2_with fail
    refine (specValid d _ ty _ HTYb.out HTZ.out).mono ?_
    rintro e w2 ⟨rfl, hb2⟩
    have HTY2 := Lib.hid (HTYb.out.below hb2)
    have HFR2 := Lib.hid (HFRb.out.below hb2)
    have B2 := Lib.hid (box_next B0.out hb2); clear hb2
    clear HTYb HFRb
    cases hvt : ty.valid with
    | false =>
      have c0 := box_cell B2.out 0
      have c1 := box_cell B2.out 1
      have c2 := box_cell B2.out 2
      have c3 := box_cell B2.out 3
      have c4 := box_cell B2.out 4
      have c5 := box_cell B2.out 5
      have c6 := box_cell B2.out 6
      have c7 := box_cell B2.out 7
      have c8 := box_cell B2.out 8
      go_wp2_with fail
      go_ret
      exact ⟨by simp [coTypesB, coTyFor, tgtB, srcB, *], box_below B2.out⟩
    | true =>
      have c0 := box_cell B2.out 0
      have c1 := box_cell B2.out 1
      have c2 := box_cell B2.out 2
      have c3 := box_cell B2.out 3
      have c4 := box_cell B2.out 4
      have c5 := box_cell B2.out 5
      have c6 := box_cell B2.out 6
      have c7 := box_cell B2.out 7
      have c8 := box_cell B2.out 8
      go_wp2_with fail
      refine (specValid d _ fr _ HFR2.out HFZ.out).mono ?_
      rintro e w3 ⟨rfl, hb3⟩
      have HTY3 := Lib.hid (HTY2.out.below hb3)
      have HFR3 := Lib.hid (HFR2.out.below hb3)
      have B3 := Lib.hid (box_next B2.out hb3); clear hb3
      clear HTY2 HFR2
      clear c0 c1 c2 c3 c4 c5 c6 c7 c8
      cases hvf : fr.valid with
      | true =>
        have FZ := valid_some hvf
        have c0 := box_cell B3.out 0
        have c1 := box_cell B3.out 1
        have c2 := box_cell B3.out 2
        have c3 := box_cell B3.out 3
        have c4 := box_cell B3.out 4
        have c5 := box_cell B3.out 5
        have c6 := box_cell B3.out 6
        have c7 := box_cell B3.out 7
        have c8 := box_cell B3.out 8
        go_wp2_with fail
        go_ret
        exact ⟨by simp [coTypesB, coTyFor, tgtB, srcB, *], box_below B3.out⟩
      | false =>
        have c0 := box_cell B3.out 0
        have c1 := box_cell B3.out 1
        have c2 := box_cell B3.out 2
        have c3 := box_cell B3.out 3
        have c4 := box_cell B3.out 4
        have c5 := box_cell B3.out 5
        have c6 := box_cell B3.out 6
        have c7 := box_cell B3.out 7
        have c8 := box_cell B3.out 8
        go_wp2_with fail
        refine (specZero d _ fr _ HFR3.out).mono ?_
        rintro e w5 ⟨rfl, hb5⟩
        have B5 := Lib.hid (box_next B3.out hb5); clear hb5
        clear c0 c1 c2 c3 c4 c5 c6 c7 c8
        cases hzf : fr.beq (.node 0 []) with
        | false =>
          have c0 := box_cell B5.out 0
          have c1 := box_cell B5.out 1
          have c2 := box_cell B5.out 2
          have c3 := box_cell B5.out 3
          have c4 := box_cell B5.out 4
          have c5 := box_cell B5.out 5
          have c6 := box_cell B5.out 6
          have c7 := box_cell B5.out 7
          have c8 := box_cell B5.out 8
          go_wp2_with fail
          go_ret
          exact ⟨by simp [coTypesB, coTyFor, tgtB, srcB, *], box_below B5.out⟩
        | true =>
          have c0 := box_cell B5.out 0
          have c1 := box_cell B5.out 1
          have c2 := box_cell B5.out 2
          have c3 := box_cell B5.out 3
          have c4 := box_cell B5.out 4
          have c5 := box_cell B5.out 5
          have c6 := box_cell B5.out 6
          have c7 := box_cell B5.out 7
          have c8 := box_cell B5.out 8
          go_wp2_with fail
          go_ret
          exact ⟨by simp [coTypesB, coTyFor, tgtB, srcB, *], box_below B5.out⟩
  by_cases q14 : kd = 14
  · subst q14
    go_enter Tryd.func127, Tryd.ntmps127
    go_wp2_with fail
    refine (specValid d _ ty _ HTYb.out HTZ.out).mono ?_
    rintro e w2 ⟨rfl, hb2⟩
    have HTY2 := Lib.hid (HTYb.out.below hb2)
    have HFR2 := Lib.hid (HFRb.out.below hb2)
    have B2 := Lib.hid (box_next B0.out hb2); clear hb2
    clear HTYb HFRb
    cases hvt : ty.valid with
    | false =>
      have c0 := box_cell B2.out 0
      have c1 := box_cell B2.out 1
      have c2 := box_cell B2.out 2
      have c3 := box_cell B2.out 3
      have c4 := box_cell B2.out 4
      have c5 := box_cell B2.out 5
      have c6 := box_cell B2.out 6
      have c7 := box_cell B2.out 7
      have c8 := box_cell B2.out 8
      go_wp2_with fail
      go_ret
      exact ⟨by simp [coTypesB, coTyFor, tgtB, srcB, *], box_below B2.out⟩
    | true =>
      have c0 := box_cell B2.out 0
      have c1 := box_cell B2.out 1
      have c2 := box_cell B2.out 2
      have c3 := box_cell B2.out 3
      have c4 := box_cell B2.out 4
      have c5 := box_cell B2.out 5
      have c6 := box_cell B2.out 6
      have c7 := box_cell B2.out 7
      have c8 := box_cell B2.out 8
      go_wp2_with fail
      refine (specValid d _ fr _ HFR2.out HFZ.out).mono ?_
      rintro e w3 ⟨rfl, hb3⟩
      have HTY3 := Lib.hid (HTY2.out.below hb3)
      have HFR3 := Lib.hid (HFR2.out.below hb3)
      have B3 := Lib.hid (box_next B2.out hb3); clear hb3
      clear HTY2 HFR2
      clear c0 c1 c2 c3 c4 c5 c6 c7 c8
      cases hvf : fr.valid with
      | false =>
        have c0 := box_cell B3.out 0
        have c1 := box_cell B3.out 1
        have c2 := box_cell B3.out 2
        have c3 := box_cell B3.out 3
        have c4 := box_cell B3.out 4
        have c5 := box_cell B3.out 5
        have c6 := box_cell B3.out 6
        have c7 := box_cell B3.out 7
        have c8 := box_cell B3.out 8
        go_wp2_with fail
        go_ret
        exact ⟨by simp [coTypesB, coTyFor, tgtB, srcB, *], box_below B3.out⟩
      | true =>
        have c0 := box_cell B3.out 0
        have c1 := box_cell B3.out 1
        have c2 := box_cell B3.out 2
        have c3 := box_cell B3.out 3
        have c4 := box_cell B3.out 4
        have c5 := box_cell B3.out 5
        have c6 := box_cell B3.out 6
        have c7 := box_cell B3.out 7
        have c8 := box_cell B3.out 8
        go_wp2_with fail
        go_ret
        exact ⟨by simp [coTypesB, coTyFor, tgtB, srcB, *], box_below B3.out⟩
  by_cases q15 : kd = 15
  · subst q15
    go_enter Tryd.func127, Tryd.ntmps127
    go_wp2_with fail
    refine (specValid d _ ty _ HTYb.out HTZ.out).mono ?_
    rintro e w2 ⟨rfl, hb2⟩
    have HTY2 := Lib.hid (HTYb.out.below hb2)
    have HFR2 := Lib.hid (HFRb.out.below hb2)
    have B2 := Lib.hid (box_next B0.out hb2); clear hb2
    clear HTYb HFRb
    cases hvt : ty.valid with
    | false =>
      have c0 := box_cell B2.out 0
      have c1 := box_cell B2.out 1
      have c2 := box_cell B2.out 2
      have c3 := box_cell B2.out 3
      have c4 := box_cell B2.out 4
      have c5 := box_cell B2.out 5
      have c6 := box_cell B2.out 6
      have c7 := box_cell B2.out 7
      have c8 := box_cell B2.out 8
      go_wp2_with fail
      go_ret
      exact ⟨by simp [coTypesB, coTyFor, tgtB, srcB, *], box_below B2.out⟩
    | true =>
      have c0 := box_cell B2.out 0
      have c1 := box_cell B2.out 1
      have c2 := box_cell B2.out 2
      have c3 := box_cell B2.out 3
      have c4 := box_cell B2.out 4
      have c5 := box_cell B2.out 5
      have c6 := box_cell B2.out 6
      have c7 := box_cell B2.out 7
      have c8 := box_cell B2.out 8
      go_wp2_with fail
      refine (specValid d _ fr _ HFR2.out HFZ.out).mono ?_
      rintro e w3 ⟨rfl, hb3⟩
      have HTY3 := Lib.hid (HTY2.out.below hb3)
      have HFR3 := Lib.hid (HFR2.out.below hb3)
      have B3 := Lib.hid (box_next B2.out hb3); clear hb3
      clear HTY2 HFR2
      clear c0 c1 c2 c3 c4 c5 c6 c7 c8
      cases hvf : fr.valid with
      | false =>
        have c0 := box_cell B3.out 0
        have c1 := box_cell B3.out 1
        have c2 := box_cell B3.out 2
        have c3 := box_cell B3.out 3
        have c4 := box_cell B3.out 4
        have c5 := box_cell B3.out 5
        have c6 := box_cell B3.out 6
        have c7 := box_cell B3.out 7
        have c8 := box_cell B3.out 8
        go_wp2_with fail
        go_ret
        exact ⟨by simp [coTypesB, coTyFor, tgtB, srcB, *], box_below B3.out⟩
      | true =>
        have c0 := box_cell B3.out 0
        have c1 := box_cell B3.out 1
        have c2 := box_cell B3.out 2
        have c3 := box_cell B3.out 3
        have c4 := box_cell B3.out 4
        have c5 := box_cell B3.out 5
        have c6 := box_cell B3.out 6
        have c7 := box_cell B3.out 7
        have c8 := box_cell B3.out 8
        go_wp2_with fail
        go_ret
        exact ⟨by simp [coTypesB, coTyFor, tgtB, srcB, *], box_below B3.out⟩
  have z4 : (kd == 4) = false := by simp [q4]
  have z14 : (kd == 14) = false := by simp [q14]
  have z15 : (kd == 15) = false := by simp [q15]
  go_enter Tryd.func127, Tryd.ntmps127
  go_wp2_with fail
  refine (specValid d _ ty _ HTYb.out HTZ.out).mono ?_
  rintro e w2 ⟨rfl, hb2⟩
  have HTY2 := Lib.hid (HTYb.out.below hb2)
  have HFR2 := Lib.hid (HFRb.out.below hb2)
  have B2 := Lib.hid (box_next B0.out hb2); clear hb2
  clear HTYb HFRb
  cases hvt : ty.valid with
  | true =>
    have TZ := valid_some hvt
    have c0 := box_cell B2.out 0
    have c1 := box_cell B2.out 1
    have c2 := box_cell B2.out 2
    have c3 := box_cell B2.out 3
    have c4 := box_cell B2.out 4
    have c5 := box_cell B2.out 5
    have c6 := box_cell B2.out 6
    have c7 := box_cell B2.out 7
    have c8 := box_cell B2.out 8
    go_wp2_with fail
    go_ret
    exact ⟨by simp [coTypesB, coTyFor, tgtB, srcB, *], box_below B2.out⟩
  | false =>
    have c0 := box_cell B2.out 0
    have c1 := box_cell B2.out 1
    have c2 := box_cell B2.out 2
    have c3 := box_cell B2.out 3
    have c4 := box_cell B2.out 4
    have c5 := box_cell B2.out 5
    have c6 := box_cell B2.out 6
    have c7 := box_cell B2.out 7
    have c8 := box_cell B2.out 8
    go_wp2_with fail
    refine (specValid d _ fr _ HFR2.out HFZ.out).mono ?_
    rintro e w3 ⟨rfl, hb3⟩
    have HTY3 := Lib.hid (HTY2.out.below hb3)
    have HFR3 := Lib.hid (HFR2.out.below hb3)
    have B3 := Lib.hid (box_next B2.out hb3); clear hb3
    clear HTY2 HFR2
    clear c0 c1 c2 c3 c4 c5 c6 c7 c8
    cases hvf : fr.valid with
    | true =>
      have FZ := valid_some hvf
      have c0 := box_cell B3.out 0
      have c1 := box_cell B3.out 1
      have c2 := box_cell B3.out 2
      have c3 := box_cell B3.out 3
      have c4 := box_cell B3.out 4
      have c5 := box_cell B3.out 5
      have c6 := box_cell B3.out 6
      have c7 := box_cell B3.out 7
      have c8 := box_cell B3.out 8
      go_wp2_with fail
      go_ret
      exact ⟨by simp [coTypesB, coTyFor, tgtB, srcB, *], box_below B3.out⟩
    | false =>
      have c0 := box_cell B3.out 0
      have c1 := box_cell B3.out 1
      have c2 := box_cell B3.out 2
      have c3 := box_cell B3.out 3
      have c4 := box_cell B3.out 4
      have c5 := box_cell B3.out 5
      have c6 := box_cell B3.out 6
      have c7 := box_cell B3.out 7
      have c8 := box_cell B3.out 8
      go_wp2_with fail
      refine (specZero d _ ty _ HTY3.out).mono ?_
      rintro e w4 ⟨rfl, hb4⟩
      have HFR4 := Lib.hid (HFR3.out.below hb4)
      have B4 := Lib.hid (box_next B3.out hb4); clear hb4
      clear HFR3 HTY3
      clear c0 c1 c2 c3 c4 c5 c6 c7 c8
      cases hzt : ty.beq (.node 0 []) with
      | false =>
        have c0 := box_cell B4.out 0
        have c1 := box_cell B4.out 1
        have c2 := box_cell B4.out 2
        have c3 := box_cell B4.out 3
        have c4 := box_cell B4.out 4
        have c5 := box_cell B4.out 5
        have c6 := box_cell B4.out 6
        have c7 := box_cell B4.out 7
        have c8 := box_cell B4.out 8
        go_wp2_with fail
        go_ret
        exact ⟨by simp [coTypesB, coTyFor, tgtB, srcB, *], box_below B4.out⟩
      | true =>
        have c0 := box_cell B4.out 0
        have c1 := box_cell B4.out 1
        have c2 := box_cell B4.out 2
        have c3 := box_cell B4.out 3
        have c4 := box_cell B4.out 4
        have c5 := box_cell B4.out 5
        have c6 := box_cell B4.out 6
        have c7 := box_cell B4.out 7
        have c8 := box_cell B4.out 8
        go_wp2_with fail
        refine (specZero d _ fr _ HFR4.out).mono ?_
        rintro e w5 ⟨rfl, hb5⟩
        have B5 := Lib.hid (box_next B4.out hb5); clear hb5
        clear c0 c1 c2 c3 c4 c5 c6 c7 c8
        cases hzf : fr.beq (.node 0 []) with
        | false =>
          have c0 := box_cell B5.out 0
          have c1 := box_cell B5.out 1
          have c2 := box_cell B5.out 2
          have c3 := box_cell B5.out 3
          have c4 := box_cell B5.out 4
          have c5 := box_cell B5.out 5
          have c6 := box_cell B5.out 6
          have c7 := box_cell B5.out 7
          have c8 := box_cell B5.out 8
          go_wp2_with fail
          go_ret
          exact ⟨by simp [coTypesB, coTyFor, tgtB, srcB, *], box_below B5.out⟩
        | true =>
          have c0 := box_cell B5.out 0
          have c1 := box_cell B5.out 1
          have c2 := box_cell B5.out 2
          have c3 := box_cell B5.out 3
          have c4 := box_cell B5.out 4
          have c5 := box_cell B5.out 5
          have c6 := box_cell B5.out 6
          have c7 := box_cell B5.out 7
          have c8 := box_cell B5.out 8
          go_wp2_with fail
          go_ret
          exact ⟨by simp [coTypesB, coTyFor, tgtB, srcB, *], box_below B5.out⟩
set_option maxRecDepth 100000 in
set_option maxHeartbeats 4000000 in
theorem specCoFields (d : Nat) (v : Value) (kd : Int) (nm0 : ByteArray) (n0 : Int) (fr ty : Ty) (es : List Co) (ns : List ByteArray) (vs : List Co) (w : World) (h : CoAt w (d + 1) v (.node kd nm0 n0 fr ty es ns vs)) (hsz : (Co.node kd nm0 n0 fr ty es ns vs).bulk ≤ 1048576) :
    Calls Tryd.prog 81 #[v] w fun e w' => e = .returned (.bool (coFieldsB kd nm0 n0 fr ty)) ∧ Below w.heap.size w w' := by
  have HWH := Lib.hid h
  have HBK := Lib.hid hsz
  have HV := co_parts h
  obtain ⟨c3, c4, c5, c6, sl, el, rfl, hk0, hk1, hn0, hn1, hnm, hfr, hty, ⟨a, cap, rfl, hcap, hcap2, hat⟩, hln, a2, cap2, rfl, hcpe, hcpe2, hae⟩ := h
  obtain ⟨k, nm, n, fk, fa, fn, fc, tk, ta, tn, tc, sa, sn, sc, ea, en, ec, hv⟩ := HV
  injection hv with hv
  injection hv with hv
  simp at hv
  obtain ⟨rfl, rfl, rfl, rfl, rfl, rfl, rfl, HVR⟩ := hv
  clear HVR
  have HAT := Lib.hid hat; clear hat
  have HAE := Lib.hid hae; clear hae
  have HLN := Lib.hid hln; clear hln
  have hbk : (Co.node kd nm0 n0 fr ty es ns vs).bulk = nm0.size + (fr.size - 1) + (ty.size - 1) + Co.bulks es + (txs ns + Co.bulks vs) := rfl
  have HSZ : Hid (Co.bulks es + Co.bulks vs ≤ 1048576) := by show _ ≤ _; omega
  have HNM : Hid (nm0.size ≤ 1048576) := by show _ ≤ _; omega
  have HTXS : Hid (txs ns ≤ 1048576) := by show _ ≤ _; omega
  have HFZ : Hid (fr.size ≤ 1048577) := by show _ ≤ _; omega
  have HTZ : Hid (ty.size ≤ 1048577) := by show _ ≤ _; omega
  have hlen : es.length ≤ 1048576 := by have := Co.length_le es; omega
  have hlen2 : vs.length ≤ 1048576 := by have := Co.length_le vs; omega
  have HFR := Lib.hid hfr
  have HTY := Lib.hid hty
  clear hsz hbk hty hfr
  have B0 : Hid (Below (w.heap.size + 1) (w.alloc (.cells #[.int .i64 kd, .string nm0, .int .i64 n0, .int .i64 fk, .slice fa fn fc, .int .i64 tk, .slice ta tn tc, .slice a es.length cap, .slice a2 vs.length cap2] 37)) (w.alloc (.cells #[.int .i64 kd, .string nm0, .int .i64 n0, .int .i64 fk, .slice fa fn fc, .int .i64 tk, .slice ta tn tc, .slice a es.length cap, .slice a2 vs.length cap2] 37))) := Below.refl _ _
  have HWb := Lib.hid (HWH.out.below (box_below B0.out))
  have hnz := HNM.out
  clear HTY HFR HAT HAE HLN HSZ HTXS HWH
  by_cases q3 : kd = 3
  · subst q3
    go_enter Tryd.func81, Tryd.ntmps81
    go_wp2_with fail
    refine (specName nm0 _ (by omega)).mono ?_
    rintro e w1 ⟨rfl, hw1⟩
    subst hw1
    cases hnb : nameB nm0 with
    | false =>
      have c0 := box_cell B0.out 0
      have c1 := box_cell B0.out 1
      have c2 := box_cell B0.out 2
      have c3 := box_cell B0.out 3
      have c4 := box_cell B0.out 4
      have c5 := box_cell B0.out 5
      have c6 := box_cell B0.out 6
      have c7 := box_cell B0.out 7
      have c8 := box_cell B0.out 8
      go_wp2_with fail
      go_ret
      exact ⟨by simp [coFieldsB, coNameFor, coNumFor, *], box_below B0.out⟩
    | true =>
      have NZ := name_some hnb
      have c0 := box_cell B0.out 0
      have c1 := box_cell B0.out 1
      have c2 := box_cell B0.out 2
      have c3 := box_cell B0.out 3
      have c4 := box_cell B0.out 4
      have c5 := box_cell B0.out 5
      have c6 := box_cell B0.out 6
      have c7 := box_cell B0.out 7
      have c8 := box_cell B0.out 8
      go_wp2_with fail
      refine (specCoTypes d _ 3 nm0 n0 fr ty es ns vs _ HWb.out HBK.out).mono ?_
      rintro e w2 ⟨rfl, hb2⟩
      have B2 := Lib.hid (box_next B0.out hb2); clear hb2
      clear c0 c1 c2 c3 c4 c5 c6 c7 c8
      cases hct : coTypesB 3 fr ty with
      | false =>
        have c0 := box_cell B2.out 0
        have c1 := box_cell B2.out 1
        have c2 := box_cell B2.out 2
        have c3 := box_cell B2.out 3
        have c4 := box_cell B2.out 4
        have c5 := box_cell B2.out 5
        have c6 := box_cell B2.out 6
        have c7 := box_cell B2.out 7
        have c8 := box_cell B2.out 8
        go_wp2_with fail
        go_ret
        exact ⟨by simp [coFieldsB, coNameFor, coNumFor, *], box_below B2.out⟩
      | true =>
        by_cases qn : n0 = 0
        · subst qn
          have c0 := box_cell B2.out 0
          have c1 := box_cell B2.out 1
          have c2 := box_cell B2.out 2
          have c3 := box_cell B2.out 3
          have c4 := box_cell B2.out 4
          have c5 := box_cell B2.out 5
          have c6 := box_cell B2.out 6
          have c7 := box_cell B2.out 7
          have c8 := box_cell B2.out 8
          go_wp2_with fail
          go_ret
          exact ⟨by simp [coFieldsB, coNameFor, coNumFor, *], box_below B2.out⟩
        · have qnb : (n0 == 0) = false := by simp [qn]
          have c0 := box_cell B2.out 0
          have c1 := box_cell B2.out 1
          have c2 := box_cell B2.out 2
          have c3 := box_cell B2.out 3
          have c4 := box_cell B2.out 4
          have c5 := box_cell B2.out 5
          have c6 := box_cell B2.out 6
          have c7 := box_cell B2.out 7
          have c8 := box_cell B2.out 8
          go_wp2_with fail
          go_ret
          exact ⟨by simp [coFieldsB, coNameFor, coNumFor, *], box_below B2.out⟩
  by_cases q4 : kd = 4
  · subst q4
    go_enter Tryd.func81, Tryd.ntmps81
    go_wp2_with fail
    refine (specName nm0 _ (by omega)).mono ?_
    rintro e w1 ⟨rfl, hw1⟩
    subst hw1
    cases hnb : nameB nm0 with
    | false =>
      have c0 := box_cell B0.out 0
      have c1 := box_cell B0.out 1
      have c2 := box_cell B0.out 2
      have c3 := box_cell B0.out 3
      have c4 := box_cell B0.out 4
      have c5 := box_cell B0.out 5
      have c6 := box_cell B0.out 6
      have c7 := box_cell B0.out 7
      have c8 := box_cell B0.out 8
      go_wp2_with fail
      go_ret
      exact ⟨by simp [coFieldsB, coNameFor, coNumFor, *], box_below B0.out⟩
    | true =>
      have NZ := name_some hnb
      have c0 := box_cell B0.out 0
      have c1 := box_cell B0.out 1
      have c2 := box_cell B0.out 2
      have c3 := box_cell B0.out 3
      have c4 := box_cell B0.out 4
      have c5 := box_cell B0.out 5
      have c6 := box_cell B0.out 6
      have c7 := box_cell B0.out 7
      have c8 := box_cell B0.out 8
      go_wp2_with fail
      refine (specCoTypes d _ 4 nm0 n0 fr ty es ns vs _ HWb.out HBK.out).mono ?_
      rintro e w2 ⟨rfl, hb2⟩
      have B2 := Lib.hid (box_next B0.out hb2); clear hb2
      clear c0 c1 c2 c3 c4 c5 c6 c7 c8
      cases hct : coTypesB 4 fr ty with
      | false =>
        have c0 := box_cell B2.out 0
        have c1 := box_cell B2.out 1
        have c2 := box_cell B2.out 2
        have c3 := box_cell B2.out 3
        have c4 := box_cell B2.out 4
        have c5 := box_cell B2.out 5
        have c6 := box_cell B2.out 6
        have c7 := box_cell B2.out 7
        have c8 := box_cell B2.out 8
        go_wp2_with fail
        go_ret
        exact ⟨by simp [coFieldsB, coNameFor, coNumFor, *], box_below B2.out⟩
      | true =>
        by_cases qn : n0 = 0
        · subst qn
          have c0 := box_cell B2.out 0
          have c1 := box_cell B2.out 1
          have c2 := box_cell B2.out 2
          have c3 := box_cell B2.out 3
          have c4 := box_cell B2.out 4
          have c5 := box_cell B2.out 5
          have c6 := box_cell B2.out 6
          have c7 := box_cell B2.out 7
          have c8 := box_cell B2.out 8
          go_wp2_with fail
          go_ret
          exact ⟨by simp [coFieldsB, coNameFor, coNumFor, *], box_below B2.out⟩
        · have qnb : (n0 == 0) = false := by simp [qn]
          have c0 := box_cell B2.out 0
          have c1 := box_cell B2.out 1
          have c2 := box_cell B2.out 2
          have c3 := box_cell B2.out 3
          have c4 := box_cell B2.out 4
          have c5 := box_cell B2.out 5
          have c6 := box_cell B2.out 6
          have c7 := box_cell B2.out 7
          have c8 := box_cell B2.out 8
          go_wp2_with fail
          go_ret
          exact ⟨by simp [coFieldsB, coNameFor, coNumFor, *], box_below B2.out⟩
  by_cases q1 : kd = 1
  · subst q1
    go_enter Tryd.func81, Tryd.ntmps81
    go_wp2_with fail
    refine (specName nm0 _ (by omega)).mono ?_
    rintro e w1 ⟨rfl, hw1⟩
    subst hw1
    cases hnb : nameB nm0 with
    | true =>
      have NZ := name_some hnb
      have c0 := box_cell B0.out 0
      have c1 := box_cell B0.out 1
      have c2 := box_cell B0.out 2
      have c3 := box_cell B0.out 3
      have c4 := box_cell B0.out 4
      have c5 := box_cell B0.out 5
      have c6 := box_cell B0.out 6
      have c7 := box_cell B0.out 7
      have c8 := box_cell B0.out 8
      go_wp2_with fail
      go_ret
      exact ⟨by simp [coFieldsB, coNameFor, coNumFor, *], box_below B0.out⟩
    | false =>
      by_cases NZ : nm0.size = 0
      · have e1 := text_zero NZ
        have c0 := box_cell B0.out 0
        have c1 := box_cell B0.out 1
        have c2 := box_cell B0.out 2
        have c3 := box_cell B0.out 3
        have c4 := box_cell B0.out 4
        have c5 := box_cell B0.out 5
        have c6 := box_cell B0.out 6
        have c7 := box_cell B0.out 7
        have c8 := box_cell B0.out 8
        go_wp2_with fail
        refine (specCoTypes d _ 1 nm0 n0 fr ty es ns vs _ HWb.out HBK.out).mono ?_
        rintro e w2 ⟨rfl, hb2⟩
        have B2 := Lib.hid (box_next B0.out hb2); clear hb2
        clear c0 c1 c2 c3 c4 c5 c6 c7 c8
        cases hct : coTypesB 1 fr ty with
        | false =>
          have c0 := box_cell B2.out 0
          have c1 := box_cell B2.out 1
          have c2 := box_cell B2.out 2
          have c3 := box_cell B2.out 3
          have c4 := box_cell B2.out 4
          have c5 := box_cell B2.out 5
          have c6 := box_cell B2.out 6
          have c7 := box_cell B2.out 7
          have c8 := box_cell B2.out 8
          go_wp2_with fail
          go_ret
          exact ⟨by simp [coFieldsB, coNameFor, coNumFor, *], box_below B2.out⟩
        | true =>
          have c0 := box_cell B2.out 0
          have c1 := box_cell B2.out 1
          have c2 := box_cell B2.out 2
          have c3 := box_cell B2.out 3
          have c4 := box_cell B2.out 4
          have c5 := box_cell B2.out 5
          have c6 := box_cell B2.out 6
          have c7 := box_cell B2.out 7
          have c8 := box_cell B2.out 8
          go_wp2_with fail
          refine (specIn n0 1 99 _).mono ?_
          rintro e w9 ⟨rfl, hw9⟩
          subst hw9
          go_wp2_with fail
          go_ret
          exact ⟨by simp [coFieldsB, coNameFor, coNumFor, *], box_below B2.out⟩
      · have e1 := toList_some (s := nm0) (by omega)
        have c0 := box_cell B0.out 0
        have c1 := box_cell B0.out 1
        have c2 := box_cell B0.out 2
        have c3 := box_cell B0.out 3
        have c4 := box_cell B0.out 4
        have c5 := box_cell B0.out 5
        have c6 := box_cell B0.out 6
        have c7 := box_cell B0.out 7
        have c8 := box_cell B0.out 8
        go_wp2_with fail
        go_ret
        exact ⟨by simp [coFieldsB, coNameFor, coNumFor, *], box_below B0.out⟩
  by_cases q2 : kd = 2
  · subst q2
    go_enter Tryd.func81, Tryd.ntmps81
    go_wp2_with fail
    refine (specName nm0 _ (by omega)).mono ?_
    rintro e w1 ⟨rfl, hw1⟩
    subst hw1
    cases hnb : nameB nm0 with
    | true =>
      have NZ := name_some hnb
      have c0 := box_cell B0.out 0
      have c1 := box_cell B0.out 1
      have c2 := box_cell B0.out 2
      have c3 := box_cell B0.out 3
      have c4 := box_cell B0.out 4
      have c5 := box_cell B0.out 5
      have c6 := box_cell B0.out 6
      have c7 := box_cell B0.out 7
      have c8 := box_cell B0.out 8
      go_wp2_with fail
      go_ret
      exact ⟨by simp [coFieldsB, coNameFor, coNumFor, *], box_below B0.out⟩
    | false =>
      by_cases NZ : nm0.size = 0
      · have e1 := text_zero NZ
        have c0 := box_cell B0.out 0
        have c1 := box_cell B0.out 1
        have c2 := box_cell B0.out 2
        have c3 := box_cell B0.out 3
        have c4 := box_cell B0.out 4
        have c5 := box_cell B0.out 5
        have c6 := box_cell B0.out 6
        have c7 := box_cell B0.out 7
        have c8 := box_cell B0.out 8
        go_wp2_with fail
        refine (specCoTypes d _ 2 nm0 n0 fr ty es ns vs _ HWb.out HBK.out).mono ?_
        rintro e w2 ⟨rfl, hb2⟩
        have B2 := Lib.hid (box_next B0.out hb2); clear hb2
        clear c0 c1 c2 c3 c4 c5 c6 c7 c8
        cases hct : coTypesB 2 fr ty with
        | false =>
          have c0 := box_cell B2.out 0
          have c1 := box_cell B2.out 1
          have c2 := box_cell B2.out 2
          have c3 := box_cell B2.out 3
          have c4 := box_cell B2.out 4
          have c5 := box_cell B2.out 5
          have c6 := box_cell B2.out 6
          have c7 := box_cell B2.out 7
          have c8 := box_cell B2.out 8
          go_wp2_with fail
          go_ret
          exact ⟨by simp [coFieldsB, coNameFor, coNumFor, *], box_below B2.out⟩
        | true =>
          have c0 := box_cell B2.out 0
          have c1 := box_cell B2.out 1
          have c2 := box_cell B2.out 2
          have c3 := box_cell B2.out 3
          have c4 := box_cell B2.out 4
          have c5 := box_cell B2.out 5
          have c6 := box_cell B2.out 6
          have c7 := box_cell B2.out 7
          have c8 := box_cell B2.out 8
          go_wp2_with fail
          refine (specIn n0 1 99 _).mono ?_
          rintro e w9 ⟨rfl, hw9⟩
          subst hw9
          go_wp2_with fail
          go_ret
          exact ⟨by simp [coFieldsB, coNameFor, coNumFor, *], box_below B2.out⟩
      · have e1 := toList_some (s := nm0) (by omega)
        have c0 := box_cell B0.out 0
        have c1 := box_cell B0.out 1
        have c2 := box_cell B0.out 2
        have c3 := box_cell B0.out 3
        have c4 := box_cell B0.out 4
        have c5 := box_cell B0.out 5
        have c6 := box_cell B0.out 6
        have c7 := box_cell B0.out 7
        have c8 := box_cell B0.out 8
        go_wp2_with fail
        go_ret
        exact ⟨by simp [coFieldsB, coNameFor, coNumFor, *], box_below B0.out⟩
  by_cases q9 : kd = 9
  · subst q9
    go_enter Tryd.func81, Tryd.ntmps81
    go_wp2_with fail
    refine (specName nm0 _ (by omega)).mono ?_
    rintro e w1 ⟨rfl, hw1⟩
    subst hw1
    cases hnb : nameB nm0 with
    | true =>
      have NZ := name_some hnb
      have c0 := box_cell B0.out 0
      have c1 := box_cell B0.out 1
      have c2 := box_cell B0.out 2
      have c3 := box_cell B0.out 3
      have c4 := box_cell B0.out 4
      have c5 := box_cell B0.out 5
      have c6 := box_cell B0.out 6
      have c7 := box_cell B0.out 7
      have c8 := box_cell B0.out 8
      go_wp2_with fail
      go_ret
      exact ⟨by simp [coFieldsB, coNameFor, coNumFor, *], box_below B0.out⟩
    | false =>
      by_cases NZ : nm0.size = 0
      · have e1 := text_zero NZ
        have c0 := box_cell B0.out 0
        have c1 := box_cell B0.out 1
        have c2 := box_cell B0.out 2
        have c3 := box_cell B0.out 3
        have c4 := box_cell B0.out 4
        have c5 := box_cell B0.out 5
        have c6 := box_cell B0.out 6
        have c7 := box_cell B0.out 7
        have c8 := box_cell B0.out 8
        go_wp2_with fail
        refine (specCoTypes d _ 9 nm0 n0 fr ty es ns vs _ HWb.out HBK.out).mono ?_
        rintro e w2 ⟨rfl, hb2⟩
        have B2 := Lib.hid (box_next B0.out hb2); clear hb2
        clear c0 c1 c2 c3 c4 c5 c6 c7 c8
        cases hct : coTypesB 9 fr ty with
        | false =>
          have c0 := box_cell B2.out 0
          have c1 := box_cell B2.out 1
          have c2 := box_cell B2.out 2
          have c3 := box_cell B2.out 3
          have c4 := box_cell B2.out 4
          have c5 := box_cell B2.out 5
          have c6 := box_cell B2.out 6
          have c7 := box_cell B2.out 7
          have c8 := box_cell B2.out 8
          go_wp2_with fail
          go_ret
          exact ⟨by simp [coFieldsB, coNameFor, coNumFor, *], box_below B2.out⟩
        | true =>
          have c0 := box_cell B2.out 0
          have c1 := box_cell B2.out 1
          have c2 := box_cell B2.out 2
          have c3 := box_cell B2.out 3
          have c4 := box_cell B2.out 4
          have c5 := box_cell B2.out 5
          have c6 := box_cell B2.out 6
          have c7 := box_cell B2.out 7
          have c8 := box_cell B2.out 8
          go_wp2_with fail
          refine (specIn n0 0 1 _).mono ?_
          rintro e w9 ⟨rfl, hw9⟩
          subst hw9
          go_wp2_with fail
          go_ret
          exact ⟨by simp [coFieldsB, coNameFor, coNumFor, *], box_below B2.out⟩
      · have e1 := toList_some (s := nm0) (by omega)
        have c0 := box_cell B0.out 0
        have c1 := box_cell B0.out 1
        have c2 := box_cell B0.out 2
        have c3 := box_cell B0.out 3
        have c4 := box_cell B0.out 4
        have c5 := box_cell B0.out 5
        have c6 := box_cell B0.out 6
        have c7 := box_cell B0.out 7
        have c8 := box_cell B0.out 8
        go_wp2_with fail
        go_ret
        exact ⟨by simp [coFieldsB, coNameFor, coNumFor, *], box_below B0.out⟩
  by_cases q6 : kd = 6
  · subst q6
    go_enter Tryd.func81, Tryd.ntmps81
    go_wp2_with fail
    refine (specName nm0 _ (by omega)).mono ?_
    rintro e w1 ⟨rfl, hw1⟩
    subst hw1
    cases hnb : nameB nm0 with
    | true =>
      have NZ := name_some hnb
      have c0 := box_cell B0.out 0
      have c1 := box_cell B0.out 1
      have c2 := box_cell B0.out 2
      have c3 := box_cell B0.out 3
      have c4 := box_cell B0.out 4
      have c5 := box_cell B0.out 5
      have c6 := box_cell B0.out 6
      have c7 := box_cell B0.out 7
      have c8 := box_cell B0.out 8
      go_wp2_with fail
      go_ret
      exact ⟨by simp [coFieldsB, coNameFor, coNumFor, *], box_below B0.out⟩
    | false =>
      by_cases NZ : nm0.size = 0
      · have e1 := text_zero NZ
        have c0 := box_cell B0.out 0
        have c1 := box_cell B0.out 1
        have c2 := box_cell B0.out 2
        have c3 := box_cell B0.out 3
        have c4 := box_cell B0.out 4
        have c5 := box_cell B0.out 5
        have c6 := box_cell B0.out 6
        have c7 := box_cell B0.out 7
        have c8 := box_cell B0.out 8
        go_wp2_with fail
        refine (specCoTypes d _ 6 nm0 n0 fr ty es ns vs _ HWb.out HBK.out).mono ?_
        rintro e w2 ⟨rfl, hb2⟩
        have B2 := Lib.hid (box_next B0.out hb2); clear hb2
        clear c0 c1 c2 c3 c4 c5 c6 c7 c8
        cases hct : coTypesB 6 fr ty with
        | false =>
          have c0 := box_cell B2.out 0
          have c1 := box_cell B2.out 1
          have c2 := box_cell B2.out 2
          have c3 := box_cell B2.out 3
          have c4 := box_cell B2.out 4
          have c5 := box_cell B2.out 5
          have c6 := box_cell B2.out 6
          have c7 := box_cell B2.out 7
          have c8 := box_cell B2.out 8
          go_wp2_with fail
          go_ret
          exact ⟨by simp [coFieldsB, coNameFor, coNumFor, *], box_below B2.out⟩
        | true =>
          have c0 := box_cell B2.out 0
          have c1 := box_cell B2.out 1
          have c2 := box_cell B2.out 2
          have c3 := box_cell B2.out 3
          have c4 := box_cell B2.out 4
          have c5 := box_cell B2.out 5
          have c6 := box_cell B2.out 6
          have c7 := box_cell B2.out 7
          have c8 := box_cell B2.out 8
          go_wp2_with fail
          go_ret
          exact ⟨by simp [coFieldsB, coNameFor, coNumFor, *], box_below B2.out⟩
      · have e1 := toList_some (s := nm0) (by omega)
        have c0 := box_cell B0.out 0
        have c1 := box_cell B0.out 1
        have c2 := box_cell B0.out 2
        have c3 := box_cell B0.out 3
        have c4 := box_cell B0.out 4
        have c5 := box_cell B0.out 5
        have c6 := box_cell B0.out 6
        have c7 := box_cell B0.out 7
        have c8 := box_cell B0.out 8
        go_wp2_with fail
        go_ret
        exact ⟨by simp [coFieldsB, coNameFor, coNumFor, *], box_below B0.out⟩
  have z1 : (kd == 1) = false := by simp [q1]
  have z2 : (kd == 2) = false := by simp [q2]
  have z3 : (kd == 3) = false := by simp [q3]
  have z4 : (kd == 4) = false := by simp [q4]
  have z6 : (kd == 6) = false := by simp [q6]
  have z9 : (kd == 9) = false := by simp [q9]
  go_enter Tryd.func81, Tryd.ntmps81
  go_wp2_with fail
  refine (specName nm0 _ (by omega)).mono ?_
  rintro e w1 ⟨rfl, hw1⟩
  subst hw1
  cases hnb : nameB nm0 with
  | true =>
    have NZ := name_some hnb
    have c0 := box_cell B0.out 0
    have c1 := box_cell B0.out 1
    have c2 := box_cell B0.out 2
    have c3 := box_cell B0.out 3
    have c4 := box_cell B0.out 4
    have c5 := box_cell B0.out 5
    have c6 := box_cell B0.out 6
    have c7 := box_cell B0.out 7
    have c8 := box_cell B0.out 8
    go_wp2_with fail
    go_ret
    exact ⟨by simp [coFieldsB, coNameFor, coNumFor, *], box_below B0.out⟩
  | false =>
    by_cases NZ : nm0.size = 0
    · have e1 := text_zero NZ
      have c0 := box_cell B0.out 0
      have c1 := box_cell B0.out 1
      have c2 := box_cell B0.out 2
      have c3 := box_cell B0.out 3
      have c4 := box_cell B0.out 4
      have c5 := box_cell B0.out 5
      have c6 := box_cell B0.out 6
      have c7 := box_cell B0.out 7
      have c8 := box_cell B0.out 8
      go_wp2_with fail
      refine (specCoTypes d _ kd nm0 n0 fr ty es ns vs _ HWb.out HBK.out).mono ?_
      rintro e w2 ⟨rfl, hb2⟩
      have B2 := Lib.hid (box_next B0.out hb2); clear hb2
      clear c0 c1 c2 c3 c4 c5 c6 c7 c8
      cases hct : coTypesB kd fr ty with
      | false =>
        have c0 := box_cell B2.out 0
        have c1 := box_cell B2.out 1
        have c2 := box_cell B2.out 2
        have c3 := box_cell B2.out 3
        have c4 := box_cell B2.out 4
        have c5 := box_cell B2.out 5
        have c6 := box_cell B2.out 6
        have c7 := box_cell B2.out 7
        have c8 := box_cell B2.out 8
        go_wp2_with fail
        go_ret
        exact ⟨by simp [coFieldsB, coNameFor, coNumFor, *], box_below B2.out⟩
      | true =>
        by_cases qn : n0 = 0
        · subst qn
          have c0 := box_cell B2.out 0
          have c1 := box_cell B2.out 1
          have c2 := box_cell B2.out 2
          have c3 := box_cell B2.out 3
          have c4 := box_cell B2.out 4
          have c5 := box_cell B2.out 5
          have c6 := box_cell B2.out 6
          have c7 := box_cell B2.out 7
          have c8 := box_cell B2.out 8
          go_wp2_with fail
          go_ret
          exact ⟨by simp [coFieldsB, coNameFor, coNumFor, *], box_below B2.out⟩
        · have qnb : (n0 == 0) = false := by simp [qn]
          have c0 := box_cell B2.out 0
          have c1 := box_cell B2.out 1
          have c2 := box_cell B2.out 2
          have c3 := box_cell B2.out 3
          have c4 := box_cell B2.out 4
          have c5 := box_cell B2.out 5
          have c6 := box_cell B2.out 6
          have c7 := box_cell B2.out 7
          have c8 := box_cell B2.out 8
          go_wp2_with fail
          go_ret
          exact ⟨by simp [coFieldsB, coNameFor, coNumFor, *], box_below B2.out⟩
    · have e1 := toList_some (s := nm0) (by omega)
      have c0 := box_cell B0.out 0
      have c1 := box_cell B0.out 1
      have c2 := box_cell B0.out 2
      have c3 := box_cell B0.out 3
      have c4 := box_cell B0.out 4
      have c5 := box_cell B0.out 5
      have c6 := box_cell B0.out 6
      have c7 := box_cell B0.out 7
      have c8 := box_cell B0.out 8
      go_wp2_with fail
      go_ret
      exact ⟨by simp [coFieldsB, coNameFor, coNumFor, *], box_below B0.out⟩
end Go.Proofs.YteeojgefnoaajaaDoor
/-
  Proved: a row of a call's own reads the same while its block stays; the one cell of a slice that was just built.
-/
namespace Go.Proofs.YteeojgefnoaajaaDoor
open Go.RowKit

theorem rowKeep {w w' : World} {B : Nat} {e : TypeId} {size : Nat} {v : Value} {n : Nat} {xs : List Value} (h : w.ownsRow B e size v n xs) (hb : Below w.heap.size w w') : w'.ownsRow B e size v n xs := by
  have hk : ∀ k, v.ownBlock = some k → w'.heap[k]? = w.heap[k]? := fun k hk => hb.block k (h.lt k hk).2
  refine ⟨h.1, ?_⟩
  rcases h.2 with h | ⟨g, cap, cur, rfl, r1, r2, r3⟩
  · exact Or.inl h
  · exact Or.inr ⟨g, cap, cur, rfl, r1, by rw [hk g rfl]; exact r2, r3⟩
theorem newsStr (w : World) (x : Value) (t : TypeId) : ∀ j u, [x][j]? = some u → (w.alloc (.cells #[x] t)).cell? ((⟨w.heap.size, 0, none⟩ : Addr).add j) = some u := by
  intro j u hj
  match j, hj with
  | 0, hj =>
    simp at hj
    subst hj
    simp [Addr.add]
end Go.Proofs.YteeojgefnoaajaaDoor
/-
  Proved: spec.l18Env and spec.l18Form say whether an environment and a whole core expression have the right form; the memory that was there stays as it was.
-/
namespace Go.Proofs.YteeojgefnoaajaaDoor
open Go.RowKit

theorem row_start (w : World) (o : Obj) : ((w.alloc o).alloc (.cells #[] 9)).ownsRow (w.heap.size + 1) 9 1 (.slice (some ⟨w.heap.size + 1, 0, none⟩) 0 0) 0 [] := by
  have h := World.ownsRow_made (size := 1) (e := 9) (w.alloc o) #[] 0 (base := w.heap.size + 1) (by simp) (Nat.zero_le _) rfl
  simpa using h
def envB (k : Int) (ns : List ByteArray) (vs : List Co) : Bool := ownNames [] ns && (Co.forms vs && envK k ns)
theorem envB_name {k : Int} {ns : List ByteArray} {vs : List Co} {j : Nat} (h : j < ns.length) (hb : (nameB ns[j] && !seenB (ns.take j) ns[j].data.toList) = false) : envB k ns vs = false := by
  have e := ownNames_take ns [] j h
  rw [List.nil_append, hb, Bool.and_false] at e
  unfold envB
  rw [ownNames_false ns [] (j + 1) e]; rfl
theorem envB_form {k : Int} {ns : List ByteArray} {vs : List Co} {j : Nat} (h : j < vs.length) (hb : vs[j].form = false) : envB k ns vs = false := by
  have e := Co.forms_take vs j h
  rw [hb, Bool.and_false] at e
  unfold envB
  rw [Co.forms_false vs (j + 1) e, Bool.false_and, Bool.and_false]
theorem coform_of {kd : Int} {nm : ByteArray} {n : Int} {fr ty : Ty} {es : List Co} {ns : List ByteArray} {vs : List Co} {b e c : Bool} {r : Int} (h1 : Co.forms es = true) (h3 : coFieldsB kd nm n fr ty = b) (h2 : envB kd ns vs = e) (h4 : coArity kd = r) (h5 : c = (b && (e && decide ((es.length : Int) = r)))) : (Co.node kd nm n fr ty es ns vs).form = c := by
  subst h3 h4 h2 h5
  simp only [Co.form, h1, envB, Bool.true_and]
set_option maxRecDepth 100000 in
set_option maxHeartbeats 4000000 in
theorem specCoEnv (d : Nat) (IH : Hid (∀ (v : Value) (t : Co) (w : World), CoAt w d v t → t.bulk ≤ 1048576 → Calls Tryd.prog 44 #[v] w fun e w' => e = .returned (.bool t.form) ∧ Below w.heap.size w w')) (v : Value) (kd : Int) (nm0 : ByteArray) (n0 : Int) (fr ty : Ty) (es : List Co) (ns : List ByteArray) (vs : List Co) (w : World) (h : CoAt w (d + 1) v (.node kd nm0 n0 fr ty es ns vs)) (hsz : (Co.node kd nm0 n0 fr ty es ns vs).bulk ≤ 1048576) :
    Calls Tryd.prog 82 #[v] w fun e w' => e = .returned (.bool (envB kd ns vs)) ∧ Below w.heap.size w w' := by
  obtain ⟨i0, hi, hz0, hz1, hz2⟩ := info_parts info_str
  have HI := Lib.hid hi; clear hi
  have HZ0 := Lib.hid hz0; clear hz0
  have HZ1 := Lib.hid hz1; clear hz1
  have HZ2 := Lib.hid hz2; clear hz2
  have HV := co_parts h
  obtain ⟨c3, c4, c5, c6, sl, el, rfl, hk0, hk1, hn0, hn1, hnm, hfr, hty, ⟨a, cap, rfl, hcap, hcap2, hat⟩, hln, a2, cap2, rfl, hcpe, hcpe2, hae⟩ := h
  obtain ⟨k, nm, n, fk, fa, fn, fc, tk, ta, tn, tc, sa, sn, sc, ea, en, ec, hv⟩ := HV
  injection hv with hv
  injection hv with hv
  simp at hv
  obtain ⟨rfl, rfl, rfl, rfl, rfl, rfl, rfl, HVR⟩ := hv
  clear HVR
  have HAT := Lib.hid hat; clear hat
  have HAE := Lib.hid hae; clear hae
  have HLN := Lib.hid hln; clear hln
  have hbk : (Co.node kd nm0 n0 fr ty es ns vs).bulk = nm0.size + (fr.size - 1) + (ty.size - 1) + Co.bulks es + (txs ns + Co.bulks vs) := rfl
  have HSZ : Hid (Co.bulks es + Co.bulks vs ≤ 1048576) := by show _ ≤ _; omega
  have HNM : Hid (nm0.size ≤ 1048576) := by show _ ≤ _; omega
  have HTXS : Hid (txs ns ≤ 1048576) := by show _ ≤ _; omega
  have HFZ : Hid (fr.size ≤ 1048577) := by show _ ≤ _; omega
  have HTZ : Hid (ty.size ≤ 1048577) := by show _ ≤ _; omega
  have hlen : es.length ≤ 1048576 := by have := Co.length_le es; omega
  have hlen2 : vs.length ≤ 1048576 := by have := Co.length_le vs; omega
  have HFR := Lib.hid hfr
  have HTY := Lib.hid hty
  clear hsz hbk hty hfr
  clear HFR HTY HFZ HTZ HNM HTXS HAT
  go_enter Tryd.func82, Tryd.ntmps82
  go_wp2_with fail
  go_loopw [3, 4] (fun o i wr => ∃ (k : Nat) (L : List ByteArray), k ≤ vs.length ∧ i = .int .i64 k ∧ L = ns.take k ∧ ownNames [] (ns.take k) = true ∧ Co.forms (vs.take k) = true ∧ wr.ownsRow (w.heap.size + 1) 9 1 o L.length (L.map Value.string) ∧ Below (w.heap.size + 1) (w.alloc (.cells #[.int .i64 kd, .string nm0, .int .i64 n0, .int .i64 fk, .slice fa fn fc, .int .i64 tk, .slice ta tn tc, .slice a es.length cap, .slice a2 vs.length cap2] 37)) wr) (fun _ i _ => vs.length - (intOf i).toNat)
  case atStart => exact ⟨0, [], by omega, rfl, by simp, by simp [ownNames], by simp [Co.forms], row_start w _, (Below.refl _ _).alloc (by simp) _⟩
  case round =>
    obtain ⟨k, L, hk, rfl, hL, hon, hfo, hown, hb⟩ := hrel
    have hll : L.length ≤ 1048576 := by rw [hL, List.length_take]; have := HLN.out; omega
    have HON := Lib.hid hon; clear hon
    have HFO := Lib.hid hfo; clear hfo
    have HL := Lib.hid hL; clear hL
    have HO := Lib.hid hown; clear hown
    have HBX := Lib.hid hb; clear hb
    have hzr : w.heap.size + 1 ≤ wr.heap.size := by have := HBX.out.size; simpa using this
    by_cases hlt : k < vs.length
    · have HB := Lib.hid (box_below HBX.out)
      have b8 := box_cell HBX.out 8
      have hlt2 : k < ns.length := by have := HLN.out; omega
      obtain ⟨b, off, x0, x1, x2, x3, x4, x5, x6, x7, x8, rfl, hbl, hnz, hcn, hc0, hc1, hc2, hc3, hc4, hc5, hc6, hc7, hc8, ht⟩ := HAE.out k hlt hlt2
      have hg := Co.bulk_get vs k hlt
      have HS2 := HSZ.out
      have HTK := Lib.hid (take_add ns k hlt2)
      have HOT := Lib.hid (ownNames_take ns [] k hlt2)
      have HFT := Lib.hid (Co.forms_take vs k hlt)
      have HNAME : Hid ((nameB ns[k] && !seenB L ns[k].data.toList) = false → envB kd ns vs = false) := by intro hq; rw [HL.out] at hq; exact envB_name hlt2 hq
      have HFORM : Hid (vs[k].form = false → envB kd ns vs = false) := fun hq => envB_form hlt hq
      obtain ⟨x, hx⟩ : ∃ x, x = ns[k] := ⟨_, rfl⟩
      rw [← hx] at hcn hnz
      rw [← hx] at HTK HOT HNAME
      clear hx
      have HC : Hid (wr.cell? ⟨b, off + k * 10, none⟩ = some (.string x) ∧ wr.cell? ⟨b, off + k * 10 + 1, none⟩ = some x0 ∧ wr.cell? ⟨b, off + k * 10 + 2, none⟩ = some x1 ∧ wr.cell? ⟨b, off + k * 10 + 3, none⟩ = some x2 ∧ wr.cell? ⟨b, off + k * 10 + 4, none⟩ = some x3 ∧ wr.cell? ⟨b, off + k * 10 + 5, none⟩ = some x4 ∧ wr.cell? ⟨b, off + k * 10 + 6, none⟩ = some x5 ∧ wr.cell? ⟨b, off + k * 10 + 7, none⟩ = some x6 ∧ wr.cell? ⟨b, off + k * 10 + 8, none⟩ = some x7 ∧ wr.cell? ⟨b, off + k * 10 + 9, none⟩ = some x8) := by
        have hcl : ∀ o, wr.cell? ⟨b, o, none⟩ = w.cell? ⟨b, o, none⟩ := fun o => HB.out.cell (p := ⟨b, o, none⟩) hbl
        exact ⟨(hcl _).trans hcn, (hcl _).trans hc0, (hcl _).trans hc1, (hcl _).trans hc2, (hcl _).trans hc3, (hcl _).trans hc4, (hcl _).trans hc5, (hcl _).trans hc6, (hcl _).trans hc7, (hcl _).trans hc8⟩
      have HT := Lib.hid (ht.below HB.out)
      have hbr : b < wr.heap.size := Nat.lt_of_lt_of_le hbl HB.out.size
      clear ht hcn hc0 hc1 hc2 hc3 hc4 hc5 hc6 hc7 hc8
      have en := HC.out.1
      go_wp2_with fail
      refine (specName x _ hnz).mono ?_
      rintro e w1 ⟨rfl, hw1⟩
      subst hw1
      cases hnb : nameB x with
      | false =>
        have HNO := Lib.hid (HNAME.out (by rw [hnb]; rfl))
        go_wp2_with fail
        go_ret
        exact ⟨by rw [HNO.out]; rfl, HB.out⟩
      | true =>
        have HNB := Lib.hid hnb; clear hnb
        go_wp2_with fail
        refine (specIndex _ L x hll _ (Strs.of_own HO.out)).mono ?_
        rintro e w2 ⟨rfl, hb2⟩
        have HBX2 := Lib.hid (box_next HBX.out hb2)
        have HB2 := Lib.hid (box_below HBX2.out)
        have HT2 := Lib.hid (HT.out.below hb2)
        have HO2 := Lib.hid (rowKeep HO.out hb2)
        clear b8 en
        have b8 := box_cell HBX2.out 8
        obtain ⟨en, q0, q1, q2, q3, q4, q5, q6, q7, q8⟩ := HC.out
        have hk2 : ∀ o, w2.cell? ⟨b, o, none⟩ = w1.cell? ⟨b, o, none⟩ := fun o => hb2.cell (p := ⟨b, o, none⟩) hbr
        replace en := (hk2 _).trans en
        replace q0 := (hk2 _).trans q0
        replace q1 := (hk2 _).trans q1
        replace q2 := (hk2 _).trans q2
        replace q3 := (hk2 _).trans q3
        replace q4 := (hk2 _).trans q4
        replace q5 := (hk2 _).trans q5
        replace q6 := (hk2 _).trans q6
        replace q7 := (hk2 _).trans q7
        replace q8 := (hk2 _).trans q8
        clear hk2 hb2 HC HT
        have hsn := idx_seen L x
        cases hq : seenB L x.data.toList with
        | true =>
          have hge : ¬ (idx L x 0 < 0) := by have := hsn.2 hq; omega
          have HNO := Lib.hid (HNAME.out (by rw [HNB.out, hq]; rfl))
          clear hsn hq
          go_wp2_with fail
          go_ret
          exact ⟨by rw [HNO.out]; rfl, HB2.out⟩
        | false =>
          have hlt0 : idx L x 0 < 0 := by
            by_cases h : idx L x 0 < 0
            · exact h
            · have := hsn.1 (by omega); rw [hq] at this; cases this
          have HQ := Lib.hid hq
          clear hsn hq
          go_wp2_with fail
          refine (IH.out _ _ _ HT2.out (by omega)).mono ?_
          rintro e w3 ⟨rfl, hb3⟩
          have HBX3 := Lib.hid (box_next HBX2.out hb3)
          have HB3 := Lib.hid (box_below HBX3.out)
          have HO3 := Lib.hid (rowKeep HO2.out hb3)
          have en3 : w3.cell? ⟨b, off + k * 10, none⟩ = some (.string x) := (hb3.cell (p := ⟨b, off + k * 10, none⟩) (Nat.lt_of_lt_of_le hbl HB2.out.size)).trans en
          clear hb3 en q0 q1 q2 q3 q4 q5 q6 q7 q8 b8 HT2 HO2
          have b8 := box_cell HBX3.out 8
          cases hf : vs[k].form with
          | false =>
            have HNO := Lib.hid (HFORM.out hf)
            clear hf
            go_wp2_with fail
            go_ret
            exact ⟨by rw [HNO.out]; rfl, HB3.out⟩
          | true =>
            have HF := Lib.hid hf; clear hf
            have hz3 : w.heap.size + 1 ≤ w3.heap.size := by have := HBX3.out.size; simpa using this
            go_wp2_with (at_builtin; go_must (refine wpList_append_own_at _ rfl _ _ 118 rfl (w.heap.size + 1) 9 i0 (.string ⟨#[]⟩) 1 16 Tryd.underlying118 HI.out HZ0.out HZ1.out HZ2.out rfl (by decide) _ _ _ rfl (HO3.out.alloc _) ⟨w3.heap.size, 0, none⟩ 1 1 [.string x] rfl rfl (newsStr _ _ _) (by simp [Value.oneCell']) (by unfold maxLen; omega) (by omega) (by simp; omega) ?_); intro v2 w4 hown2 hg2 _ hblk2; refine Hid.out ?_)
            refine Lib.hid ?_
            have hb4 := (HBX3.out.alloc hz3 _).grown hg2 (by simp; omega) (fun k hk => (HO3.out.lt k hk).1)
            have hown3 : w4.ownsRow (w.heap.size + 1) 9 1 v2 (L ++ [x]).length ((L ++ [x]).map Value.string) := by simpa using hown2
            have HO4 := Lib.hid hown3; clear hown3 hown2 hg2 hblk2
            have HB4 := Lib.hid hb4; clear hb4 en3 b8
            go_wp2_with fail
            exact ⟨⟨k + 1, L ++ [x], by omega, by go_num, by rw [HTK.out, HL.out], by have h := HQ.out; rw [HL.out] at h; rw [HOT.out, HON.out, HNB.out, List.nil_append, h]; rfl, by rw [HFT.out, HFO.out, HF.out]; rfl, HO4.out, HB4.out⟩, by simp [intOf]; omega⟩
    · obtain rfl : k = vs.length := by omega
      obtain ⟨a9, cap9, rfl, _, _⟩ := Strs.of_own HO.out
      have HEN : Hid (envB kd ns vs = envK kd ns) := by
        have h1 := HON.out
        have h2 := HFO.out
        rw [← HLN.out, List.take_length] at h1
        rw [List.take_length] at h2
        show _ = _; unfold envB; rw [h1, h2]; rfl
      have hl9 : L.length = ns.length := by rw [HL.out, List.length_take, ← HLN.out]; omega
      have b0 := box_cell HBX.out 0
      have b8 := box_cell HBX.out 8
      have HB := Lib.hid (box_below HBX.out)
      clear HO HL HAE HON HFO
      rw [hl9]
      clear hl9
      by_cases y0 : ns.length = 0
      · have y0b : ((ns.length : Int) == 0) = true := by simp [y0]
        go_wp2_with fail
        go_ret
        exact ⟨by rw [HEN.out]; simp [envK, y0], HB.out⟩
      have y0b : ((ns.length : Int) == 0) = false := by simp [y0]
      by_cases y1 : kd = 1
      · subst y1
        go_wp2_with fail
        go_ret
        exact ⟨by rw [HEN.out]; simp [envK, boundB], HB.out⟩
      by_cases y2 : kd = 2
      · subst y2
        go_wp2_with fail
        go_ret
        exact ⟨by rw [HEN.out]; simp [envK, boundB], HB.out⟩
      have y1b : (kd == 1) = false := by simp [y1]
      have y2b : (kd == 2) = false := by simp [y2]
      go_wp2_with fail
      go_ret
      exact ⟨by rw [HEN.out]; simp [envK, boundB, y0, y1, y2], HB.out⟩
set_option maxRecDepth 100000 in
set_option maxHeartbeats 4000000 in
theorem specCoForm : ∀ (d : Nat) (v : Value) (t : Co) (w : World), CoAt w d v t → t.bulk ≤ 1048576 →
    Calls Tryd.prog 44 #[v] w fun e w' => e = .returned (.bool t.form) ∧ Below w.heap.size w w'
  | 0, _, _, _, h, _ => h.elim
  | d + 1, v, .node kd nm0 n0 fr ty es ns vs, w, h, hsz => by
    have IH : Hid (∀ (v : Value) (t : Co) (w : World), CoAt w d v t → t.bulk ≤ 1048576 → Calls Tryd.prog 44 #[v] w fun e w' => e = .returned (.bool t.form) ∧ Below w.heap.size w w') := specCoForm d
    have HWH := Lib.hid h
    have HBK := Lib.hid hsz
    have HV := co_parts h
    obtain ⟨c3, c4, c5, c6, sl, el, rfl, hk0, hk1, hn0, hn1, hnm, hfr, hty, ⟨a, cap, rfl, hcap, hcap2, hat⟩, hln, a2, cap2, rfl, hcpe, hcpe2, hae⟩ := h
    obtain ⟨k, nm, n, fk, fa, fn, fc, tk, ta, tn, tc, sa, sn, sc, ea, en, ec, hv⟩ := HV
    injection hv with hv
    injection hv with hv
    simp at hv
    obtain ⟨rfl, rfl, rfl, rfl, rfl, rfl, rfl, HVR⟩ := hv
    clear HVR
    have HAT := Lib.hid hat; clear hat
    have HAE := Lib.hid hae; clear hae
    have HLN := Lib.hid hln; clear hln
    have hbk : (Co.node kd nm0 n0 fr ty es ns vs).bulk = nm0.size + (fr.size - 1) + (ty.size - 1) + Co.bulks es + (txs ns + Co.bulks vs) := rfl
    have HSZ : Hid (Co.bulks es + Co.bulks vs ≤ 1048576) := by show _ ≤ _; omega
    have HNM : Hid (nm0.size ≤ 1048576) := by show _ ≤ _; omega
    have HTXS : Hid (txs ns ≤ 1048576) := by show _ ≤ _; omega
    have HFZ : Hid (fr.size ≤ 1048577) := by show _ ≤ _; omega
    have HTZ : Hid (ty.size ≤ 1048577) := by show _ ≤ _; omega
    have hlen : es.length ≤ 1048576 := by have := Co.length_le es; omega
    have hlen2 : vs.length ≤ 1048576 := by have := Co.length_le vs; omega
    have HFR := Lib.hid hfr
    have HTY := Lib.hid hty
    clear hsz hbk hty hfr
    clear HFR HTY HFZ HTZ HNM HTXS HAE HLN
    go_enter Tryd.func44, Tryd.ntmps44
    go_wp2_with fail
    go_loopw [3] (fun i wr => ∃ k : Nat, k ≤ es.length ∧ i = .int .i64 k ∧ Co.forms (es.take k) = true ∧ Below (w.heap.size + 1) (w.alloc (.cells #[.int .i64 kd, .string nm0, .int .i64 n0, .int .i64 fk, .slice fa fn fc, .int .i64 tk, .slice ta tn tc, .slice a es.length cap, .slice a2 vs.length cap2] 37)) wr) (fun i _ => es.length - (intOf i).toNat)
    case atStart => exact ⟨0, by omega, rfl, by simp [Co.forms], Below.refl _ _⟩
    case round =>
      obtain ⟨k, hk, rfl, hf, hb⟩ := hrel
      have HF := Lib.hid hf; clear hf
      have HB := Lib.hid (box_below hb)
      have HBX := Lib.hid hb; clear hb
      by_cases hlt : k < es.length
      · have b7 := box_cell HBX.out 7
        obtain ⟨b, off, x0, x1, x2, x3, x4, x5, x6, x7, x8, rfl, hbl, hc0, hc1, hc2, hc3, hc4, hc5, hc6, hc7, hc8, ht⟩ := HAT.out k hlt
        have hg := Co.bulk_get es k hlt
        have HS2 := HSZ.out
        have e0 : wr.cell? ⟨b, off + k * 9, none⟩ = some x0 := by rw [HB.out.cell (p := ⟨b, off + k * 9, none⟩) hbl]; exact hc0
        have e1 : wr.cell? ⟨b, off + k * 9 + 1, none⟩ = some x1 := by rw [HB.out.cell (p := ⟨b, off + k * 9 + 1, none⟩) hbl]; exact hc1
        have e2 : wr.cell? ⟨b, off + k * 9 + 2, none⟩ = some x2 := by rw [HB.out.cell (p := ⟨b, off + k * 9 + 2, none⟩) hbl]; exact hc2
        have e3 : wr.cell? ⟨b, off + k * 9 + 3, none⟩ = some x3 := by rw [HB.out.cell (p := ⟨b, off + k * 9 + 3, none⟩) hbl]; exact hc3
        have e4 : wr.cell? ⟨b, off + k * 9 + 4, none⟩ = some x4 := by rw [HB.out.cell (p := ⟨b, off + k * 9 + 4, none⟩) hbl]; exact hc4
        have e5 : wr.cell? ⟨b, off + k * 9 + 5, none⟩ = some x5 := by rw [HB.out.cell (p := ⟨b, off + k * 9 + 5, none⟩) hbl]; exact hc5
        have e6 : wr.cell? ⟨b, off + k * 9 + 6, none⟩ = some x6 := by rw [HB.out.cell (p := ⟨b, off + k * 9 + 6, none⟩) hbl]; exact hc6
        have e7 : wr.cell? ⟨b, off + k * 9 + 7, none⟩ = some x7 := by rw [HB.out.cell (p := ⟨b, off + k * 9 + 7, none⟩) hbl]; exact hc7
        have e8 : wr.cell? ⟨b, off + k * 9 + 8, none⟩ = some x8 := by rw [HB.out.cell (p := ⟨b, off + k * 9 + 8, none⟩) hbl]; exact hc8
        have HT := Lib.hid (ht.below HB.out)
        have HFT := Lib.hid (Co.forms_take es k hlt)
        have HNO : Hid (es[k].form = false → (Co.node kd nm0 n0 fr ty es ns vs).form = false) := fun hq => by
          have e := Co.forms_take es k hlt
          rw [hq, Bool.and_false] at e
          simp only [Co.form, Co.forms_false es (k + 1) e, Bool.false_and]
        clear ht hc0 hc1 hc2 hc3 hc4 hc5 hc6 hc7 hc8
        go_wp2_with fail
        refine (IH.out _ _ _ HT.out (by omega)).mono ?_
        rintro e w' ⟨rfl, hb1⟩
        have HN := Lib.hid (box_next HBX.out hb1); clear hb1
        cases hf : es[k].form with
        | false =>
          have HX := Lib.hid (HNO.out hf)
          clear hf
          go_wp2_with fail
          go_ret
          exact ⟨by rw [HX.out]; rfl, box_below HN.out⟩
        | true =>
          have HF1 := Lib.hid hf; clear hf
          go_wp2_with fail
          exact ⟨⟨k + 1, by omega, by go_num, by rw [HFT.out, HF.out, HF1.out]; rfl, HN.out⟩, by simp [intOf]; omega⟩
      · obtain rfl : k = es.length := by omega
        have HFA := Lib.hid (show Co.forms es = true by have := HF.out; rw [List.take_length] at this; exact this)
        have XA := Lib.hid (box_of HBX.out)
        have HW2 := Lib.hid (HWH.out.below HB.out)
        have b7 := box_cell HBX.out 7
        go_wp2_with fail
        have C1 : ∀ q : Grown wr.heap.size wr, Calls Tryd.prog 81 #[.agg #[.int .i64 kd, .string nm0, .int .i64 n0, .int .i64 fk, .slice fa fn fc, .int .i64 tk, .slice ta tn tc, .slice a es.length cap, .slice a2 vs.length cap2]] q.val fun e w' => e = .returned (.bool (coFieldsB kd nm0 n0 fr ty)) ∧ Below q.val.heap.size q.val w' := fun q => specCoFields d _ kd nm0 n0 fr ty es ns vs _ (HW2.out.below q.old) HBK.out
        have C2 : ∀ q : Grown wr.heap.size wr, Calls Tryd.prog 82 #[.agg #[.int .i64 kd, .string nm0, .int .i64 n0, .int .i64 fk, .slice fa fn fc, .int .i64 tk, .slice ta tn tc, .slice a es.length cap, .slice a2 vs.length cap2]] q.val fun e w' => e = .returned (.bool (envB kd ns vs)) ∧ Below q.val.heap.size q.val w' := fun q => specCoEnv d IH _ kd nm0 n0 fr ty es ns vs _ (HW2.out.below q.old) HBK.out
        have C3 : ∀ q : Grown wr.heap.size wr, Calls Tryd.prog 83 #[.int .i64 kd] q.val fun e w' => e = .returned (.int .i64 (coArity kd)) ∧ Below q.val.heap.size q.val w' := fun q => specCoArity _ _
        obtain ⟨fb, hfb⟩ : ∃ b, coFieldsB kd nm0 n0 fr ty = b := ⟨_, rfl⟩
        obtain ⟨eb, heb⟩ : ∃ b, envB kd ns vs = b := ⟨_, rfl⟩
        obtain ⟨r, hr⟩ : ∃ r, coArity kd = r := ⟨_, rfl⟩
        rw [hfb] at C1
        rw [heb] at C2
        rw [hr] at C3
        have HFB := Lib.hid hfb
        have HEB := Lib.hid heb
        have HR := Lib.hid hr
        clear hfb heb hr b7
        have g0 : ∀ q : Grown wr.heap.size wr, q.val.cell? ⟨w.heap.size, 0, none⟩ = _ := fun q => (XA.out.grown q).2 0
        have g1 : ∀ q : Grown wr.heap.size wr, q.val.cell? ⟨w.heap.size, 1, none⟩ = _ := fun q => (XA.out.grown q).2 1
        have g2 : ∀ q : Grown wr.heap.size wr, q.val.cell? ⟨w.heap.size, 2, none⟩ = _ := fun q => (XA.out.grown q).2 2
        have g3 : ∀ q : Grown wr.heap.size wr, q.val.cell? ⟨w.heap.size, 3, none⟩ = _ := fun q => (XA.out.grown q).2 3
        have g4 : ∀ q : Grown wr.heap.size wr, q.val.cell? ⟨w.heap.size, 4, none⟩ = _ := fun q => (XA.out.grown q).2 4
        have g5 : ∀ q : Grown wr.heap.size wr, q.val.cell? ⟨w.heap.size, 5, none⟩ = _ := fun q => (XA.out.grown q).2 5
        have g6 : ∀ q : Grown wr.heap.size wr, q.val.cell? ⟨w.heap.size, 6, none⟩ = _ := fun q => (XA.out.grown q).2 6
        have g7 : ∀ q : Grown wr.heap.size wr, q.val.cell? ⟨w.heap.size, 7, none⟩ = _ := fun q => (XA.out.grown q).2 7
        have g8 : ∀ q : Grown wr.heap.size wr, q.val.cell? ⟨w.heap.size, 8, none⟩ = _ := fun q => (XA.out.grown q).2 8
        clear XA HW2 HAT IH HBX HWH HF HSZ
        cases fb
        case false =>
          refine wp_region_grown wr.heap.size (by kernel_rfl) (by kernel_rfl) ?_
          repeat (go_big_quiet_step ((first | (go_at_call 81; exact grown_of (Nat.le_refl _) (C1 _)) | (go_at_call 82; exact grown_of (Nat.le_refl _) (C2 _)) | (go_at_call 83; exact grown_of (Nat.le_refl _) (C3 _)))))
          refine wpQuiet_nil ?_
          rintro _ ⟨⟨wq, hq⟩, rfl⟩
          go_wp2_with fail
          go_ret
          exact ⟨by rw [coform_of HFA.out HFB.out HEB.out HR.out (c := false) (by simp)]; rfl, below_thru HB.out (Nat.le_refl _) hq⟩
        case true =>
          cases eb
          case false =>
            refine wp_region_grown wr.heap.size (by kernel_rfl) (by kernel_rfl) ?_
            repeat (go_big_quiet_step ((first | (go_at_call 81; exact grown_of (Nat.le_refl _) (C1 _)) | (go_at_call 82; exact grown_of (Nat.le_refl _) (C2 _)) | (go_at_call 83; exact grown_of (Nat.le_refl _) (C3 _)))))
            refine wpQuiet_nil ?_
            rintro _ ⟨⟨wq, hq⟩, rfl⟩
            go_wp2_with fail
            go_ret
            exact ⟨by rw [coform_of HFA.out HFB.out HEB.out HR.out (c := false) (by simp)]; rfl, below_thru HB.out (Nat.le_refl _) hq⟩
          case true =>
            by_cases qa : (es.length : Int) = r
            · have qb : ((es.length : Int) == r) = true := by simp [qa]
              refine wp_region_grown wr.heap.size (by kernel_rfl) (by kernel_rfl) ?_
              repeat (go_big_quiet_step ((first | (go_at_call 81; exact grown_of (Nat.le_refl _) (C1 _)) | (go_at_call 82; exact grown_of (Nat.le_refl _) (C2 _)) | (go_at_call 83; exact grown_of (Nat.le_refl _) (C3 _)))))
              refine wpQuiet_nil ?_
              rintro _ ⟨⟨wq, hq⟩, rfl⟩
              go_wp2_with fail
              go_ret
              exact ⟨by rw [coform_of HFA.out HFB.out HEB.out HR.out (c := true) (by simp [qa])]; rfl, below_thru HB.out (Nat.le_refl _) hq⟩
            · have qb : ((es.length : Int) == r) = false := by simp [qa]
              refine wp_region_grown wr.heap.size (by kernel_rfl) (by kernel_rfl) ?_
              repeat (go_big_quiet_step ((first | (go_at_call 81; exact grown_of (Nat.le_refl _) (C1 _)) | (go_at_call 82; exact grown_of (Nat.le_refl _) (C2 _)) | (go_at_call 83; exact grown_of (Nat.le_refl _) (C3 _)))))
              refine wpQuiet_nil ?_
              rintro _ ⟨⟨wq, hq⟩, rfl⟩
              go_wp2_with fail
              go_ret
              exact ⟨by rw [coform_of HFA.out HFB.out HEB.out HR.out (c := false) (by simp [qa])]; rfl, below_thru HB.out (Nat.le_refl _) hq⟩
end Go.Proofs.YteeojgefnoaajaaDoor
/-
  Proved: spec.IsCore says whether a core expression is valid; the memory that was there stays as it was.
-/
namespace Go.Proofs.YteeojgefnoaajaaDoor
open Go.RowKit

theorem co_valid {t : Co} {b : Bool} (h : b = decide (0 ≤ max ((600 : Int) - t.count) (-1))) : t.valid = (b && t.form) := by
  have e : decide (0 ≤ max ((600 : Int) - t.count) (-1)) = decide (t.count ≤ 600) := decide_eq_decide.2 (by omega)
  rw [h, e]; rfl
set_option maxRecDepth 100000 in
set_option maxHeartbeats 2000000 in
theorem specIsCore (d : Nat) (v : Value) (t : Co) (w : World) (h : CoAt w d v t) (hsz : t.bulk ≤ 1048576) :
    Calls Tryd.prog 11 #[v] w fun e w' => e = .returned (.bool t.valid) ∧ Below w.heap.size w w' := by
  have HT := Lib.hid h
  obtain ⟨yk, ynm, yn, yfk, yfa, yfn, yfc, ytk, yta, ytn, ytc, ya, ym, yc, za, zm, zc, rfl⟩ := co_parts h
  clear h
  have B0 : Hid (Below (w.heap.size + 1) (w.alloc (.cells #[.int .i64 yk, .string ynm, .int .i64 yn, .int .i64 yfk, .slice yfa yfn yfc, .int .i64 ytk, .slice yta ytn ytc, .slice ya ym yc, .slice za zm zc] 37)) (w.alloc (.cells #[.int .i64 yk, .string ynm, .int .i64 yn, .int .i64 yfk, .slice yfa yfn yfc, .int .i64 ytk, .slice yta ytn ytc, .slice ya ym yc, .slice za zm zc] 37))) := Below.refl _ _
  have HT0 := Lib.hid (HT.out.below (box_below B0.out))
  go_enter Tryd.func11, Tryd.ntmps11
  go_wp2_with fail
  refine (specCoLeft d _ t 600 _ (by omega) (by omega) HT0.out hsz).mono ?_
  rintro e w1 ⟨rfl, hb1⟩
  have B1 := Lib.hid (box_next B0.out hb1); clear hb1
  have hv := @co_valid t _ rfl
  obtain ⟨r, hr⟩ : ∃ r, r = max ((600 : Int) - t.count) (-1) := ⟨_, rfl⟩
  rw [← hr] at hv ⊢
  have HV := Lib.hid hv; clear hv hr
  have c0 := box_cell B1.out 0
  have c1 := box_cell B1.out 1
  have c2 := box_cell B1.out 2
  have c3 := box_cell B1.out 3
  have c4 := box_cell B1.out 4
  have c5 := box_cell B1.out 5
  have c6 := box_cell B1.out 6
  have c7 := box_cell B1.out 7
  have c8 := box_cell B1.out 8
  by_cases q1 : r < 0
  · go_wp2_with fail
    go_ret
    exact ⟨by rw [HV.out]; simp; omega, box_below B1.out⟩
  · go_wp2_with fail
    refine (specCoForm d _ t _ (HT.out.below (box_below B1.out)) hsz).mono ?_
    rintro e w3 ⟨rfl, hb3⟩
    have B3 := Lib.hid (box_next B1.out hb3); clear hb3 B1 c0 c1 c2 c3 c4 c5 c6 c7 c8
    go_wp2_with fail
    go_ret
    exact ⟨by rw [HV.out]; simp [show 0 ≤ r by omega], box_below B3.out⟩
end Go.Proofs.YteeojgefnoaajaaDoor
/-
  Proved: a law that returns true and leaves all memory that was there before as it was meets its row's end, also where the row names variables to be read again.
-/
namespace Go.Proofs.YteeojgefnoaajaaDoor.Law
open Go.ChangeShapes Go.WideShapes Go.ChangeAt Go.RowKit
variable {H : Type} {enc : TypeId × Value → H} {P : Program} {W W' : World}

theorem law_post_vars {f : Func} {s : ChangeSpec} {args : Array Value} {ds gs : List (DataW H)} {before : List MemPlace} {tb : TypeId}
    (hW : DataW.Whole enc P f.params.toList s.vars false W args.toList ds gs before) (hv : varsRowed P s.vars = true)
    (hres : f.resultTypes = #[tb]) (ub : P.underlying tb = some .bool) (hl : laidOutB P = true)
    (hr : (f.params.toList.all fun t => P.readableRec t && decide (t < P.types.size)) = true)
    (hfn : s.fn H (ds ++ gs) = { results := [.lit (.bool true)], args := ds, vars := gs })
    (hb : Below W.heap.size W W') : s.post enc P f false true false false W args (.bool true) W' := by
  have hlt := hW.lt
  have hW' := hW
  obtain ⟨p, q, hA, hV, rfl, hfz, hnd⟩ := hW
  refine ⟨ds, gs, _, [], p, q, hW', ?_, ?_, ?_, hb.frame _, fun h => by cases h⟩
  · rw [hres, hfn]
    exact trodAll_mk1 (shut_bool ub true)
  · rw [hfn]
    exact trodAll_below hl hb hr hA (fun x hx => hlt x (by simp [hx]))
  · rw [hfn]
    exact Below.trodVars hl hb hv hV
end Go.Proofs.YteeojgefnoaajaaDoor.Law
/-
  Proved: a type's tree that came in as an argument reads as a tree.
-/
namespace Go.Proofs.YteeojgefnoaajaaDoor
open Go.ChangeShapes Go.WideShapes Go.ChangeAt Go.RowKit Go.WideMaps Go.WideElems

theorem und_lty : Tryd.prog.underlying 24 = some (.struct #[⟨"Kind", 3, 0, false, "", "", 0⟩, ⟨"Args", 22, 1, false, "", "", 8⟩]) := by kernel_rfl
theorem und_ltys : Tryd.prog.underlying 22 = some (.slice 24) := by kernel_rfl
theorem cells_lty : Tryd.prog.cellsOf 24 = 2 := by kernel_rfl
theorem cells_ltys : Tryd.prog.cellsOf 22 = 1 := by kernel_rfl
theorem cells_int : Tryd.prog.cellsOf 3 = 1 := by kernel_rfl

theorem RowAt.weaker {R S : Value → Ty → Prop} {w : World} {v : Value} {ts : List Ty} (hRS : ∀ v t, R v t → S v t) (h : RowAt R w v ts) : RowAt S w v ts :=
  h.imp (Below.refl _ _) hRS
theorem TyAt.succ {w : World} : ∀ {d : Nat} {v : Value} {t : Ty}, TyAt w d v t → TyAt w (d + 1) v t
  | 0, _, _, h => h.elim
  | d + 1, v, .node k ts, h => by
    obtain ⟨sl, hv, h0, h1, h⟩ := h
    exact ⟨sl, hv, h0, h1, h.weaker fun v t h => TyAt.succ h⟩
theorem TyAt.mono {w : World} {d d' : Nat} {v : Value} {t : Ty} (h : TyAt w d v t) (hd : d ≤ d') : TyAt w d' v t := by
  induction hd with
  | refl => exact h
  | step _ ih => exact ih.succ
theorem ty_addr (g o j : Nat) : (⟨g, o, none⟩ : Addr).add j = ⟨g, o + j, none⟩ := by
  unfold Addr.add; split <;> simp_all
theorem list_two {α : Type} : ∀ (l : List α), l.length = 2 → ∃ a b, l = [a, b]
  | [a, b], _ => ⟨a, b, rfl⟩
theorem list_choose {α : Type} {P : Nat → α → Prop} : ∀ n, (∀ j, j < n → ∃ t, P j t) → ∃ ts : List α, ts.length = n ∧ ∀ j (h : j < ts.length), P j ts[j]
  | 0, _ => ⟨[], rfl, fun j h => by simp at h⟩
  | n + 1, h => by
    obtain ⟨ts, hl, hp⟩ := list_choose n fun j hj => h j (by omega)
    obtain ⟨t, ht⟩ := h n (by omega)
    refine ⟨ts ++ [t], by simp [hl], fun j hj => ?_⟩
    by_cases hlt : j < ts.length
    · rw [List.getElem_append_left hlt]; exact hp j hlt
    · have : j = n := by simp at hj; omega
      subst this
      rw [List.getElem_append_right (by omega)]
      simpa [hl] using ht

set_option maxRecDepth 100000 in
theorem lty_open {H : Type} {enc : TypeId × Value → H} {W : World} {base : Nat} {sp : Nat → Bool} {held : Bool} (fuel : Nat) : ∀ (cs : List Value) (x : DataW H × List MemPlace), DataW.trod enc Tryd.prog W base sp held fuel 24 cs = some x →
    ∃ c0 c1 t, cs = [c0, c1] ∧ TyAt W fuel (.agg #[c0, c1]) t := by
  induction fuel using Nat.strongRecOn with
  | ind fuel ih =>
    intro cs x h
    obtain ⟨xs, n, rfl, _, hl, hlen, hf⟩ := DataW.trod_struct und_lty h
    rw [cells_lty] at hl
    obtain ⟨c0, c1, rfl⟩ := list_two cs hl
    have g0 : DataW.trod enc Tryd.prog W base sp held n 3 (([c0, c1].drop 0).take (Tryd.prog.cellsOf 3)) = xs[0]? := hf 0 ⟨"Kind", 3, 0, false, "", "", 0⟩ rfl
    have g1 : DataW.trod enc Tryd.prog W base sp held n 22 (([c0, c1].drop 1).take (Tryd.prog.cellsOf 22)) = xs[1]? := hf 1 ⟨"Args", 22, 1, false, "", "", 8⟩ rfl
    rw [cells_int] at g0
    rw [cells_ltys] at g1
    have hlen2 : xs.length = 2 := hlen
    clear hf hlen
    simp only [List.drop_zero, List.take_succ_cons, List.take_zero, List.drop_succ_cons] at g0 g1
    obtain ⟨y0, hy0⟩ : ∃ y, xs[0]? = some y := ⟨_, List.getElem?_eq_getElem (by rw [hlen2]; decide)⟩
    obtain ⟨y1, hy1⟩ : ∃ y, xs[1]? = some y := ⟨_, List.getElem?_eq_getElem (by rw [hlen2]; decide)⟩
    rw [hy0] at g0
    rw [hy1] at g1
    obtain ⟨k, hk, _, hwf⟩ := DataW.trod_int Tryd.underlying3 g0
    cases hk
    have hkb : -9223372036854775808 ≤ k ∧ k ≤ 9223372036854775807 := by
      simp only [Lit.wf, Bool.and_eq_true, decide_eq_true_eq] at hwf
      have e1 : IntKind.i64.min = -9223372036854775808 := by kernel_rfl
      have e2 : IntKind.i64.max = 9223372036854775807 := by kernel_rfl
      rw [e1, e2] at hwf
      exact hwf
    rcases DataW.trod_slice und_ltys g1 with ⟨hcs, _⟩ | ⟨a, len, cap, elems, rest, m, hm, hcs, _, hb, hlc, hcm, hel, hget, _, _⟩
    · cases hcs
      exact ⟨_, _, .node k [], rfl, ⟨_, rfl, hkb.1, hkb.2, none, 0, rfl, Nat.le_refl _, by omega, fun j hj => by simp at hj⟩⟩
    · cases hcs
      have first : 0 < len → a.spot = none := by
        intro h0
        have hg0 := hget 0 h0
        rw [cells_lty, List.getElem?_eq_getElem (by omega)] at hg0
        obtain ⟨cs2, hc2, ht2⟩ := Option.bind_eq_some_iff.1 hg0
        obtain ⟨d0, d1, t, rfl, _⟩ := ih m (by omega) cs2 _ ht2
        obtain ⟨_, _, hc⟩ := World.cells?_some hc2
        have e0 := hc 0 (by omega)
        exact World.cell?_spot (show W.cell? a = some d0 from e0)
      obtain ⟨b, off, spot⟩ := a
      have each : ∀ j, j < len → ∃ t, ∃ c0 c1, spot = none ∧ b < W.heap.size ∧ W.cell? ⟨b, off + j * 2, none⟩ = some c0 ∧ W.cell? ⟨b, off + j * 2 + 1, none⟩ = some c1 ∧ TyAt W m (.agg #[c0, c1]) t := by
        intro j hj
        have hgj := hget j hj
        have hspot : spot = none := first (by omega)
        subst hspot
        rw [cells_lty, List.getElem?_eq_getElem (by omega), ty_addr] at hgj
        obtain ⟨cs2, hc2, ht2⟩ := Option.bind_eq_some_iff.1 hgj
        obtain ⟨d0, d1, t, rfl, hty⟩ := ih m (by omega) cs2 _ ht2
        obtain ⟨_, _, hc⟩ := World.cells?_some hc2
        have e0 := hc 0 (by omega)
        have e1 := hc 1 (by omega)
        rw [ty_addr] at e0 e1
        exact ⟨t, d0, d1, rfl, World.cells?_block hc2 (by omega), e0, e1, hty⟩
      obtain ⟨ts, hts, hp⟩ := list_choose len each
      refine ⟨_, _, .node k ts, rfl, ⟨_, rfl, hkb.1, hkb.2, some ⟨b, off, spot⟩, cap, by rw [hts], by omega, by unfold maxLen at hcm; omega, fun j hj => ?_⟩⟩
      obtain ⟨c0, c1, rfl, h1, h2, h3, h4⟩ := hp j hj
      exact ⟨b, off, c0, c1, rfl, h1, h2, h3, h4.mono (by omega)⟩
set_option maxRecDepth 100000 in
theorem ty_of_arg {H : Type} {enc : TypeId × Value → H} {W : World} {base b0 : Nat} {v : Value} {x : DataW H} {ps : List MemPlace} (hval : Value.okWide Tryd.prog W .any b0 24 v)
    (h : DataW.Trod enc Tryd.prog W base (fun _ => true) true 24 v x ps) : ∃ d t, TyAt W d v t := by
  obtain ⟨cs, rfl, _⟩ := okWide_struct und_lty hval
  obtain ⟨fuel, hf⟩ := h
  obtain ⟨c0, c1, t, hc, ht⟩ := lty_open fuel _ _ hf
  have hcs : cs.toList = [c0, c1] := hc
  have e : cs = #[c0, c1] := Array.toList_inj.1 hcs
  subst e
  exact ⟨fuel, t, ht⟩
end Go.Proofs.YteeojgefnoaajaaDoor
namespace Go.Proofs.YteeojgefnoaajaaDoor
open Go.ChangeShapes Go.WideShapes Go.ChangeAt Go.RowKit Go.WideMaps Go.WideElems

theorem und_lco : Tryd.prog.underlying 28 = some (.struct #[⟨"Kind", 3, 0, false, "", "", 0⟩, ⟨"Name", 9, 1, false, "", "", 8⟩, ⟨"N", 3, 2, false, "", "", 24⟩, ⟨"From", 24, 3, false, "", "", 32⟩, ⟨"Type", 24, 5, false, "", "", 64⟩, ⟨"Args", 25, 7, false, "", "", 96⟩, ⟨"Env", 26, 8, false, "", "", 120⟩]) := by kernel_rfl
theorem und_lcb : Tryd.prog.underlying 106 = some (.struct #[⟨"Name", 9, 0, false, "", "", 0⟩, ⟨"Value", 28, 1, false, "", "", 16⟩]) := by kernel_rfl
theorem und_lcos : Tryd.prog.underlying 25 = some (.slice 28) := by kernel_rfl
theorem und_lcbs : Tryd.prog.underlying 26 = some (.slice 106) := by kernel_rfl
theorem cells_cstr : Tryd.prog.cellsOf 9 = 1 := by kernel_rfl
theorem cells_lco : Tryd.prog.cellsOf 28 = 9 := by kernel_rfl
theorem cells_lcb : Tryd.prog.cellsOf 106 = 10 := by kernel_rfl
theorem cells_lcos : Tryd.prog.cellsOf 25 = 1 := by kernel_rfl
theorem cells_lcbs : Tryd.prog.cellsOf 26 = 1 := by kernel_rfl
theorem list_nine {α : Type} : ∀ (l : List α), l.length = 9 → ∃ c0 c1 c2 c3 c4 c5 c6 c7 c8, l = [c0, c1, c2, c3, c4, c5, c6, c7, c8]
  | [a, b, c, d, e, f, g, h, i], _ => ⟨a, b, c, d, e, f, g, h, i, rfl⟩
theorem list_ten {α : Type} : ∀ (l : List α), l.length = 10 → ∃ c c0 c1 c2 c3 c4 c5 c6 c7 c8, l = [c, c0, c1, c2, c3, c4, c5, c6, c7, c8]
  | [z, a, b, c, d, e, f, g, h, i], _ => ⟨z, a, b, c, d, e, f, g, h, i, rfl⟩
theorem CoAt.succ {w : World} : ∀ {d : Nat} {v : Value} {e : Co}, CoAt w d v e → CoAt w (d + 1) v e
  | 0, _, _, h => h.elim
  | d + 1, v, .node k nm n fr ty es ns vs, h => by
    obtain ⟨c3, c4, c5, c6, sl, el, hv, h0, h1, h2, h3, h4, hf, ht, h, he⟩ := h
    exact ⟨c3, c4, c5, c6, sl, el, hv, h0, h1, h2, h3, h4, hf.succ, ht.succ, h.imp (Below.refl _ _) fun v e h => CoAt.succ h, he.imp (Below.refl _ _) fun v e h => CoAt.succ h⟩
theorem CoAt.mono {w : World} {d d' : Nat} {v : Value} {e : Co} (h : CoAt w d v e) (hd : d ≤ d') : CoAt w d' v e := by
  induction hd with
  | refl => exact h
  | step _ ih => exact ih.succ
theorem CbsAt.mono {w : World} {d d' : Nat} {v : Value} {ns : List ByteArray} {es : List Co} (h : CbsAt w d v ns es) (hd : d ≤ d') : CbsAt w d' v ns es :=
  RowCb.imp (Below.refl _ _) (fun _ _ h => h.mono hd) h

theorem lcb_open {H : Type} {enc : TypeId × Value → H} {W : World} {base : Nat} {sp : Nat → Bool} {held : Bool} {fuel : Nat} (ih : ∀ m, m < fuel → ∀ (cs : List Value) (x : DataW H × List MemPlace), DataW.trod enc Tryd.prog W base sp held m 28 cs = some x → ∃ c0 c1 c2 c3 c4 c5 c6 c7 c8 t, cs = [c0, c1, c2, c3, c4, c5, c6, c7, c8] ∧ CoAt W m (.agg #[c0, c1, c2, c3, c4, c5, c6, c7, c8]) t)
    (m : Nat) (hm : m < fuel) (cs : List Value) (x : DataW H × List MemPlace) (h : DataW.trod enc Tryd.prog W base sp held m 106 cs = some x) :
    ∃ nm c0 c1 c2 c3 c4 c5 c6 c7 c8 t, cs = [.string nm, c0, c1, c2, c3, c4, c5, c6, c7, c8] ∧ nm.size ≤ 9223372036854775807 ∧ CoAt W m (.agg #[c0, c1, c2, c3, c4, c5, c6, c7, c8]) t := by
  obtain ⟨xs, n, rfl, _, hl, hlen, hf⟩ := DataW.trod_struct und_lcb h
  rw [cells_lcb] at hl
  obtain ⟨c, c0, c1, c2, c3, c4, c5, c6, c7, c8, rfl⟩ := list_ten cs hl
  have g0 : DataW.trod enc Tryd.prog W base sp held n 9 (([c, c0, c1, c2, c3, c4, c5, c6, c7, c8].drop 0).take (Tryd.prog.cellsOf 9)) = xs[0]? := hf 0 ⟨"Name", 9, 0, false, "", "", 0⟩ rfl
  have g1 : DataW.trod enc Tryd.prog W base sp held n 28 (([c, c0, c1, c2, c3, c4, c5, c6, c7, c8].drop 1).take (Tryd.prog.cellsOf 28)) = xs[1]? := hf 1 ⟨"Value", 28, 1, false, "", "", 16⟩ rfl
  rw [cells_cstr] at g0
  rw [cells_lco] at g1
  have hlen2 : xs.length = 2 := hlen
  clear hf hlen
  simp only [List.drop_zero, List.take_succ_cons, List.take_zero, List.drop_succ_cons] at g0 g1
  obtain ⟨y0, hy0⟩ : ∃ y, xs[0]? = some y := ⟨_, List.getElem?_eq_getElem (by rw [hlen2]; decide)⟩
  obtain ⟨y1, hy1⟩ : ∃ y, xs[1]? = some y := ⟨_, List.getElem?_eq_getElem (by rw [hlen2]; decide)⟩
  rw [hy0] at g0
  rw [hy1] at g1
  obtain ⟨nm, hnm, _, hnml⟩ := DataW.trod_string Tryd.underlying9 g0
  cases hnm
  obtain ⟨d0, d1, d2, d3, d4, d5, d6, d7, d8, t, hc, ht⟩ := ih n (by omega) _ _ g1
  cases hc
  exact ⟨nm, _, _, _, _, _, _, _, _, _, t, rfl, by unfold maxLen at hnml; omega, ht.succ⟩

theorem lcos_open {H : Type} {enc : TypeId × Value → H} {W : World} {base : Nat} {sp : Nat → Bool} {held : Bool} {fuel : Nat} (ih : ∀ m, m < fuel → ∀ (cs : List Value) (x : DataW H × List MemPlace), DataW.trod enc Tryd.prog W base sp held m 28 cs = some x → ∃ c0 c1 c2 c3 c4 c5 c6 c7 c8 t, cs = [c0, c1, c2, c3, c4, c5, c6, c7, c8] ∧ CoAt W m (.agg #[c0, c1, c2, c3, c4, c5, c6, c7, c8]) t)
    (n : Nat) (hn : n < fuel) (v : Value) (x : DataW H × List MemPlace) (h : DataW.trod enc Tryd.prog W base sp held n 25 [v] = some x) :
    ∃ es, CosAt W n v es := by
  rcases DataW.trod_slice und_lcos h with ⟨hcs, _⟩ | ⟨a, len, cap, elems, rest, m, hm, hcs, _, hb, hlc, hcm, hel, hget, _, _⟩
  · cases hcs
    exact ⟨[], none, 0, rfl, Nat.le_refl _, by omega, fun j hj => by simp at hj⟩
  · cases hcs
    have first : 0 < len → a.spot = none := by
      intro h0
      have hg0 := hget 0 h0
      rw [cells_lco, List.getElem?_eq_getElem (by omega)] at hg0
      obtain ⟨cs2, hc2, ht2⟩ := Option.bind_eq_some_iff.1 hg0
      obtain ⟨d0, d1, d2, d3, d4, d5, d6, d7, d8, t, rfl, _⟩ := ih m (by omega) cs2 _ ht2
      obtain ⟨_, _, hc⟩ := World.cells?_some hc2
      have e0 := hc 0 (by omega)
      exact World.cell?_spot (show W.cell? a = some (d0) from e0)
    obtain ⟨b, off, spot⟩ := a
    have each : ∀ j, j < len → ∃ t : Co, ∃ c0 c1 c2 c3 c4 c5 c6 c7 c8, spot = none ∧ b < W.heap.size ∧ W.cell? ⟨b, off + j * 9, none⟩ = some c0 ∧ W.cell? ⟨b, off + j * 9 + 1, none⟩ = some c1 ∧ W.cell? ⟨b, off + j * 9 + 2, none⟩ = some c2 ∧ W.cell? ⟨b, off + j * 9 + 3, none⟩ = some c3 ∧ W.cell? ⟨b, off + j * 9 + 4, none⟩ = some c4 ∧ W.cell? ⟨b, off + j * 9 + 5, none⟩ = some c5 ∧ W.cell? ⟨b, off + j * 9 + 6, none⟩ = some c6 ∧ W.cell? ⟨b, off + j * 9 + 7, none⟩ = some c7 ∧ W.cell? ⟨b, off + j * 9 + 8, none⟩ = some c8 ∧ CoAt W m (.agg #[c0, c1, c2, c3, c4, c5, c6, c7, c8]) t := by
      intro j hj
      have hgj := hget j hj
      have hspot : spot = none := first (by omega)
      subst hspot
      rw [cells_lco, List.getElem?_eq_getElem (by omega), ty_addr] at hgj
      obtain ⟨cs2, hc2, ht2⟩ := Option.bind_eq_some_iff.1 hgj
      obtain ⟨d0, d1, d2, d3, d4, d5, d6, d7, d8, t, rfl, hty⟩ := ih m (by omega) cs2 _ ht2
      obtain ⟨_, _, hc⟩ := World.cells?_some hc2
      have e0 := hc 0 (by omega)
      have e1 := hc 1 (by omega)
      have e2 := hc 2 (by omega)
      have e3 := hc 3 (by omega)
      have e4 := hc 4 (by omega)
      have e5 := hc 5 (by omega)
      have e6 := hc 6 (by omega)
      have e7 := hc 7 (by omega)
      have e8 := hc 8 (by omega)
      rw [ty_addr] at e0 e1 e2 e3 e4 e5 e6 e7 e8
      exact ⟨t, d0, d1, d2, d3, d4, d5, d6, d7, d8, rfl, World.cells?_block hc2 (by omega), e0, e1, e2, e3, e4, e5, e6, e7, e8, hty⟩
    obtain ⟨ts, hts, hp⟩ := list_choose len each
    refine ⟨ts, some ⟨b, off, spot⟩, cap, by rw [hts], by omega, by unfold maxLen at hcm; omega, fun j hj => ?_⟩
    obtain ⟨c0, c1, c2, c3, c4, c5, c6, c7, c8, rfl, h1, g0, g1, g2, g3, g4, g5, g6, g7, g8, h8⟩ := hp j hj
    exact ⟨b, off, c0, c1, c2, c3, c4, c5, c6, c7, c8, rfl, h1, g0, g1, g2, g3, g4, g5, g6, g7, g8, h8.mono (by omega)⟩

theorem lcbs_open {H : Type} {enc : TypeId × Value → H} {W : World} {base : Nat} {sp : Nat → Bool} {held : Bool} {fuel : Nat} (ih : ∀ m, m < fuel → ∀ (cs : List Value) (x : DataW H × List MemPlace), DataW.trod enc Tryd.prog W base sp held m 28 cs = some x → ∃ c0 c1 c2 c3 c4 c5 c6 c7 c8 t, cs = [c0, c1, c2, c3, c4, c5, c6, c7, c8] ∧ CoAt W m (.agg #[c0, c1, c2, c3, c4, c5, c6, c7, c8]) t)
    (n : Nat) (hn : n < fuel) (v : Value) (x : DataW H × List MemPlace) (h : DataW.trod enc Tryd.prog W base sp held n 26 [v] = some x) :
    ∃ ns es, CbsAt W n v ns es := by
  rcases DataW.trod_slice und_lcbs h with ⟨hcs, _⟩ | ⟨a, len, cap, elems, rest, m, hm, hcs, _, hb, hlc, hcm, hel, hget, _, _⟩
  · cases hcs
    exact ⟨[], [], rfl, none, 0, rfl, Nat.le_refl _, by omega, fun j hj _ => by simp at hj⟩
  · cases hcs
    have first : 0 < len → a.spot = none := by
      intro h0
      have hg0 := hget 0 h0
      rw [cells_lcb, List.getElem?_eq_getElem (by omega)] at hg0
      obtain ⟨cs2, hc2, ht2⟩ := Option.bind_eq_some_iff.1 hg0
      obtain ⟨nm, d0, d1, d2, d3, d4, d5, d6, d7, d8, t, rfl, _⟩ := lcb_open ih m (by omega) cs2 _ ht2
      obtain ⟨_, _, hc⟩ := World.cells?_some hc2
      have e0 := hc 0 (by omega)
      exact World.cell?_spot (show W.cell? a = some (.string nm) from e0)
    obtain ⟨b, off, spot⟩ := a
    have each : ∀ j, j < len → ∃ t : ByteArray × Co, ∃ c0 c1 c2 c3 c4 c5 c6 c7 c8, spot = none ∧ b < W.heap.size ∧ t.1.size ≤ 9223372036854775807 ∧ W.cell? ⟨b, off + j * 10, none⟩ = some (.string t.1) ∧ W.cell? ⟨b, off + j * 10 + 1, none⟩ = some c0 ∧ W.cell? ⟨b, off + j * 10 + 2, none⟩ = some c1 ∧ W.cell? ⟨b, off + j * 10 + 3, none⟩ = some c2 ∧ W.cell? ⟨b, off + j * 10 + 4, none⟩ = some c3 ∧ W.cell? ⟨b, off + j * 10 + 5, none⟩ = some c4 ∧ W.cell? ⟨b, off + j * 10 + 6, none⟩ = some c5 ∧ W.cell? ⟨b, off + j * 10 + 7, none⟩ = some c6 ∧ W.cell? ⟨b, off + j * 10 + 8, none⟩ = some c7 ∧ W.cell? ⟨b, off + j * 10 + 9, none⟩ = some c8 ∧ CoAt W m (.agg #[c0, c1, c2, c3, c4, c5, c6, c7, c8]) t.2 := by
      intro j hj
      have hgj := hget j hj
      have hspot : spot = none := first (by omega)
      subst hspot
      rw [cells_lcb, List.getElem?_eq_getElem (by omega), ty_addr] at hgj
      obtain ⟨cs2, hc2, ht2⟩ := Option.bind_eq_some_iff.1 hgj
      obtain ⟨nm, d0, d1, d2, d3, d4, d5, d6, d7, d8, t, rfl, hnz, hty⟩ := lcb_open ih m (by omega) cs2 _ ht2
      obtain ⟨_, _, hc⟩ := World.cells?_some hc2
      have e0 := hc 0 (by omega)
      have e1 := hc 1 (by omega)
      have e2 := hc 2 (by omega)
      have e3 := hc 3 (by omega)
      have e4 := hc 4 (by omega)
      have e5 := hc 5 (by omega)
      have e6 := hc 6 (by omega)
      have e7 := hc 7 (by omega)
      have e8 := hc 8 (by omega)
      have e9 := hc 9 (by omega)
      rw [ty_addr] at e0 e1 e2 e3 e4 e5 e6 e7 e8 e9
      exact ⟨(nm, t), d0, d1, d2, d3, d4, d5, d6, d7, d8, rfl, World.cells?_block hc2 (by omega), hnz, e0, e1, e2, e3, e4, e5, e6, e7, e8, e9, hty⟩
    obtain ⟨ts, hts, hp⟩ := list_choose len each
    refine ⟨ts.map Prod.fst, ts.map Prod.snd, by simp, some ⟨b, off, spot⟩, cap, by simp [hts], by simp; omega, by unfold maxLen at hcm; omega, fun j hj hj2 => ?_⟩
    have hj3 : j < ts.length := by simpa using hj
    obtain ⟨c0, c1, c2, c3, c4, c5, c6, c7, c8, rfl, h1, h2, h3, g0, g1, g2, g3, g4, g5, g6, g7, g8, h8⟩ := hp j hj3
    have q1 : (ts.map Prod.fst)[j] = ts[j].1 := by simp
    have q2 : (ts.map Prod.snd)[j] = ts[j].2 := by simp
    exact ⟨b, off, c0, c1, c2, c3, c4, c5, c6, c7, c8, rfl, h1, by rw [q1]; exact h2, by rw [q1]; exact h3, g0, g1, g2, g3, g4, g5, g6, g7, g8, by rw [q2]; exact h8.mono (by omega)⟩

set_option maxRecDepth 100000 in
set_option maxHeartbeats 1000000 in
theorem lco_open {H : Type} {enc : TypeId × Value → H} {W : World} {base : Nat} {sp : Nat → Bool} {held : Bool} (fuel : Nat) : ∀ (cs : List Value) (x : DataW H × List MemPlace), DataW.trod enc Tryd.prog W base sp held fuel 28 cs = some x →
    ∃ c0 c1 c2 c3 c4 c5 c6 c7 c8 t, cs = [c0, c1, c2, c3, c4, c5, c6, c7, c8] ∧ CoAt W fuel (.agg #[c0, c1, c2, c3, c4, c5, c6, c7, c8]) t := by
  induction fuel using Nat.strongRecOn with
  | ind fuel ih =>
    intro cs x h
    obtain ⟨xs, n, rfl, _, hl, hlen, hf⟩ := DataW.trod_struct und_lco h
    rw [cells_lco] at hl
    obtain ⟨c0, c1, c2, c3, c4, c5, c6, c7, c8, rfl⟩ := list_nine cs hl
    have g0 : DataW.trod enc Tryd.prog W base sp held n 3 (([c0, c1, c2, c3, c4, c5, c6, c7, c8].drop 0).take (Tryd.prog.cellsOf 3)) = xs[0]? := hf 0 ⟨"Kind", 3, 0, false, "", "", 0⟩ rfl
    have g1 : DataW.trod enc Tryd.prog W base sp held n 9 (([c0, c1, c2, c3, c4, c5, c6, c7, c8].drop 1).take (Tryd.prog.cellsOf 9)) = xs[1]? := hf 1 ⟨"Name", 9, 1, false, "", "", 8⟩ rfl
    have g2 : DataW.trod enc Tryd.prog W base sp held n 3 (([c0, c1, c2, c3, c4, c5, c6, c7, c8].drop 2).take (Tryd.prog.cellsOf 3)) = xs[2]? := hf 2 ⟨"N", 3, 2, false, "", "", 24⟩ rfl
    have g3 : DataW.trod enc Tryd.prog W base sp held n 24 (([c0, c1, c2, c3, c4, c5, c6, c7, c8].drop 3).take (Tryd.prog.cellsOf 24)) = xs[3]? := hf 3 ⟨"From", 24, 3, false, "", "", 32⟩ rfl
    have g4 : DataW.trod enc Tryd.prog W base sp held n 24 (([c0, c1, c2, c3, c4, c5, c6, c7, c8].drop 5).take (Tryd.prog.cellsOf 24)) = xs[4]? := hf 4 ⟨"Type", 24, 5, false, "", "", 64⟩ rfl
    have g5 : DataW.trod enc Tryd.prog W base sp held n 25 (([c0, c1, c2, c3, c4, c5, c6, c7, c8].drop 7).take (Tryd.prog.cellsOf 25)) = xs[5]? := hf 5 ⟨"Args", 25, 7, false, "", "", 96⟩ rfl
    have g6 : DataW.trod enc Tryd.prog W base sp held n 26 (([c0, c1, c2, c3, c4, c5, c6, c7, c8].drop 8).take (Tryd.prog.cellsOf 26)) = xs[6]? := hf 6 ⟨"Env", 26, 8, false, "", "", 120⟩ rfl
    rw [cells_int] at g0 g2
    rw [cells_cstr] at g1
    rw [cells_lty] at g3 g4
    rw [cells_lcos] at g5
    rw [cells_lcbs] at g6
    have hlen2 : xs.length = 7 := hlen
    clear hf hlen
    simp only [List.drop_zero, List.take_succ_cons, List.take_zero, List.drop_succ_cons] at g0 g1 g2 g3 g4 g5 g6
    obtain ⟨y0, hy0⟩ : ∃ y, xs[0]? = some y := ⟨_, List.getElem?_eq_getElem (by rw [hlen2]; decide)⟩
    rw [hy0] at g0
    obtain ⟨y1, hy1⟩ : ∃ y, xs[1]? = some y := ⟨_, List.getElem?_eq_getElem (by rw [hlen2]; decide)⟩
    rw [hy1] at g1
    obtain ⟨y2, hy2⟩ : ∃ y, xs[2]? = some y := ⟨_, List.getElem?_eq_getElem (by rw [hlen2]; decide)⟩
    rw [hy2] at g2
    obtain ⟨y3, hy3⟩ : ∃ y, xs[3]? = some y := ⟨_, List.getElem?_eq_getElem (by rw [hlen2]; decide)⟩
    rw [hy3] at g3
    obtain ⟨y4, hy4⟩ : ∃ y, xs[4]? = some y := ⟨_, List.getElem?_eq_getElem (by rw [hlen2]; decide)⟩
    rw [hy4] at g4
    obtain ⟨y5, hy5⟩ : ∃ y, xs[5]? = some y := ⟨_, List.getElem?_eq_getElem (by rw [hlen2]; decide)⟩
    rw [hy5] at g5
    obtain ⟨y6, hy6⟩ : ∃ y, xs[6]? = some y := ⟨_, List.getElem?_eq_getElem (by rw [hlen2]; decide)⟩
    rw [hy6] at g6
    have e1 : IntKind.i64.min = -9223372036854775808 := by kernel_rfl
    have e2 : IntKind.i64.max = 9223372036854775807 := by kernel_rfl
    obtain ⟨k, hk, _, hwf⟩ := DataW.trod_int Tryd.underlying3 g0
    cases hk
    have hkb : -9223372036854775808 ≤ k ∧ k ≤ 9223372036854775807 := by
      simp only [Lit.wf, Bool.and_eq_true, decide_eq_true_eq] at hwf
      rw [e1, e2] at hwf
      exact hwf
    obtain ⟨nn, hnn, _, hwf2⟩ := DataW.trod_int Tryd.underlying3 g2
    cases hnn
    have hnb : -9223372036854775808 ≤ nn ∧ nn ≤ 9223372036854775807 := by
      simp only [Lit.wf, Bool.and_eq_true, decide_eq_true_eq] at hwf2
      rw [e1, e2] at hwf2
      exact hwf2
    obtain ⟨nm, hnm, _, hnml⟩ := DataW.trod_string Tryd.underlying9 g1
    cases hnm
    have hnm2 : nm.size ≤ 9223372036854775807 := by unfold maxLen at hnml; omega
    obtain ⟨d0, d1, fr, hfr, hfra⟩ := lty_open n _ _ g3
    cases hfr
    obtain ⟨d0, d1, ty, hty, htya⟩ := lty_open n _ _ g4
    cases hty
    obtain ⟨es, hes⟩ := lcos_open ih n (by omega) _ _ g5
    obtain ⟨ns, vs, hvs⟩ := lcbs_open ih n (by omega) _ _ g6
    exact ⟨_, _, _, _, _, _, _, _, _, .node k nm nn fr ty es ns vs, rfl, ⟨_, _, _, _, _, _, rfl, hkb.1, hkb.2, hnb.1, hnb.2, hnm2, hfra, htya, hes, hvs⟩⟩
set_option maxRecDepth 100000 in
theorem co_of_arg {H : Type} {enc : TypeId × Value → H} {W : World} {base b0 : Nat} {v : Value} {x : DataW H} {ps : List MemPlace} (hval : Value.okWide Tryd.prog W .any b0 28 v)
    (h : DataW.Trod enc Tryd.prog W base (fun _ => true) true 28 v x ps) : ∃ d t, CoAt W d v t := by
  obtain ⟨cs, rfl, _⟩ := okWide_struct und_lco hval
  obtain ⟨fuel, hf⟩ := h
  obtain ⟨c0, c1, c2, c3, c4, c5, c6, c7, c8, t, hc, ht⟩ := lco_open fuel _ _ hf
  have hcs : cs.toList = [c0, c1, c2, c3, c4, c5, c6, c7, c8] := hc
  have e : cs = #[c0, c1, c2, c3, c4, c5, c6, c7, c8] := Array.toList_inj.1 hcs
  subst e
  exact ⟨fuel, t, ht⟩
set_option maxRecDepth 100000 in
theorem cbs_of_arg {H : Type} {enc : TypeId × Value → H} {W : World} {base b0 : Nat} {v : Value} {x : DataW H} {ps : List MemPlace} (hval : Value.okWide Tryd.prog W .any b0 26 v)
    (h : DataW.Trod enc Tryd.prog W base (fun _ => true) true 26 v x ps) : ∃ d ns ts, CbsAt W d v ns ts := by
  obtain ⟨a, n, c, rfl⟩ := okWide_slice und_lcbs hval
  obtain ⟨fuel, hf⟩ := h
  obtain ⟨ns, ts, hc⟩ := lcbs_open (fuel := fuel + 1) (fun m _ => lco_open m) fuel (by omega) _ _ hf
  exact ⟨fuel, ns, ts, hc⟩
end Go.Proofs.YteeojgefnoaajaaDoor
