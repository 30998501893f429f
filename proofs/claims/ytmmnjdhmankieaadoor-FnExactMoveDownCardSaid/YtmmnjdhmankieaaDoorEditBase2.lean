/-
  Proved: a law that returns true and leaves all memory that was there before as it was meets its row's end, also where the row names variables to be read again.
-/
import Derived.Test.YtmmnjdhmankieaaDoorEditBase1
import Derived.Deep.RegionHeld3
import Derived.Deep.RegionLaw
import Derived.Test.YtmmnjdhmankieaaDoorTwo
import Derived.Test.YtmmnjdhmankieaaDoorIntsRow
import Derived.Maps.AppendAt
import Derived.Lib.SliceRun
import Derived.Test.YtmmnjdhmankieaaDoorToExpr
import Derived.Test.YtmmnjdhmankieaaDoorToType
import Derived.Test.YtmmnjdhmankieaaDoorTyEq
import Derived.Test.YtmmnjdhmankieaaDoorHold
import Derived.Test.YtmmnjdhmankieaaDoorPart
import Derived.Test.YtmmnjdhmankieaaDoorPut
import Derived.Test.YtmmnjdhmankieaaDoorEditIn
import Derived.Test.YtmmnjdhmankieaaDoorLaw
import Derived.OpenVars
/-
  Proved: impl.isNameFor, impl.isNumberFor, impl.isTypeFor and impl.isExprNode say whether the fields of a node belong to its kind; the memory that was there stays as it was.
-/
namespace Go.Proofs.YtmmnjdhmankieaaDoor
open Go.RowKit

set_option maxRecDepth 100000 in
theorem implNameFor (k : Int) (nm : ByteArray) (w : World) (hs : nm.size ≤ 9223372036854775807) : Calls Tryd.prog 90 #[.int .i64 k, .string nm] w fun e w' => e = .returned (.bool (nameFor k nm)) ∧ Below w.heap.size w w' := by
  by_cases q2 : k = 2
  · subst q2
    go_enter Tryd.func90, Tryd.ntmps90
    go_wp2_with fail
    refine (implName nm _ hs).mono ?_
    rintro e w1 ⟨rfl, hb⟩
    go_wp2_with fail
    go_ret
    exact ⟨by simp [nameFor], hb⟩
  by_cases q3 : k = 3
  · subst q3
    go_enter Tryd.func90, Tryd.ntmps90
    go_wp2_with fail
    refine (implName nm _ hs).mono ?_
    rintro e w1 ⟨rfl, hb⟩
    go_wp2_with fail
    go_ret
    exact ⟨by simp [nameFor], hb⟩
  have z2 : (k == 2) = false := by simp [q2]
  have z3 : (k == 3) = false := by simp [q3]
  by_cases qz : nm.size = 0
  · have e1 := text_zero qz
    have HZ : Hid (nameFor k nm = true) := by show _ = _; simp [nameFor, q2, q3, qz]
    go_enter Tryd.func90, Tryd.ntmps90
    go_wp2_with fail
    go_ret
    exact ⟨by rw [HZ.out]; rfl, Below.refl _ _⟩
  · have e1 := toList_some (s := nm) (by omega)
    have HZ : Hid (nameFor k nm = false) := by show _ = _; simp [nameFor, q2, q3, qz]
    go_enter Tryd.func90, Tryd.ntmps90
    go_wp2_with fail
    go_ret
    exact ⟨by rw [HZ.out]; rfl, Below.refl _ _⟩
set_option maxRecDepth 100000 in
theorem implNumFor (k n : Int) (w : World) : Calls Tryd.prog 91 #[.int .i64 k, .int .i64 n] w fun e w' => e = .returned (.bool (numFor k n)) ∧ Below w.heap.size w w' := by
  by_cases q1 : k = 1
  · subst q1
    by_cases r1 : 1 ≤ n
    · by_cases r2 : n ≤ 99
      · go_enter Tryd.func91, Tryd.ntmps91
        go_wp2_with fail
        go_ret
        exact ⟨by first | (simp [numFor, *]; done) | (simp [numFor, *]; omega), Below.refl _ _⟩
      · go_enter Tryd.func91, Tryd.ntmps91
        go_wp2_with fail
        go_ret
        exact ⟨by first | (simp [numFor, *]; done) | (simp [numFor, *]; omega), Below.refl _ _⟩
    · go_enter Tryd.func91, Tryd.ntmps91
      go_wp2_with fail
      go_ret
      exact ⟨by first | (simp [numFor, *]; done) | (simp [numFor, *]; omega), Below.refl _ _⟩
  by_cases q14 : k = 14
  · subst q14
    by_cases r1 : 1 ≤ n
    · by_cases r2 : n ≤ 99
      · go_enter Tryd.func91, Tryd.ntmps91
        go_wp2_with fail
        go_ret
        exact ⟨by first | (simp [numFor, *]; done) | (simp [numFor, *]; omega), Below.refl _ _⟩
      · go_enter Tryd.func91, Tryd.ntmps91
        go_wp2_with fail
        go_ret
        exact ⟨by first | (simp [numFor, *]; done) | (simp [numFor, *]; omega), Below.refl _ _⟩
    · go_enter Tryd.func91, Tryd.ntmps91
      go_wp2_with fail
      go_ret
      exact ⟨by first | (simp [numFor, *]; done) | (simp [numFor, *]; omega), Below.refl _ _⟩
  by_cases q5 : k = 5
  · subst q5
    by_cases r1 : 0 ≤ n
    · by_cases r2 : n ≤ 999
      · go_enter Tryd.func91, Tryd.ntmps91
        go_wp2_with fail
        go_ret
        exact ⟨by first | (simp [numFor, *]; done) | (simp [numFor, *]; omega), Below.refl _ _⟩
      · go_enter Tryd.func91, Tryd.ntmps91
        go_wp2_with fail
        go_ret
        exact ⟨by first | (simp [numFor, *]; done) | (simp [numFor, *]; omega), Below.refl _ _⟩
    · go_enter Tryd.func91, Tryd.ntmps91
      go_wp2_with fail
      go_ret
      exact ⟨by first | (simp [numFor, *]; done) | (simp [numFor, *]; omega), Below.refl _ _⟩
  by_cases q8 : k = 8
  · subst q8
    by_cases r0 : n = 0
    · subst r0
      go_enter Tryd.func91, Tryd.ntmps91
      go_wp2_with fail
      go_ret
      exact ⟨by simp [numFor], Below.refl _ _⟩
    · have r0b : (n == 0) = false := by simp [r0]
      by_cases r1 : n = 1
      · subst r1
        go_enter Tryd.func91, Tryd.ntmps91
        go_wp2_with fail
        go_ret
        exact ⟨by simp [numFor], Below.refl _ _⟩
      · have r1b : (n == 1) = false := by simp [r1]
        go_enter Tryd.func91, Tryd.ntmps91
        go_wp2_with fail
        go_ret
        exact ⟨by simp [numFor]; omega, Below.refl _ _⟩
  by_cases r0 : n = 0
  · subst r0
    go_enter Tryd.func91, Tryd.ntmps91
    go_wp2_with fail
    go_ret
    exact ⟨by first | (simp [numFor, *]; done) | (simp [numFor, *]; omega), Below.refl _ _⟩
  · have r0b : (n == 0) = false := by simp [r0]
    go_enter Tryd.func91, Tryd.ntmps91
    go_wp2_with fail
    go_ret
    exact ⟨by first | (simp [numFor, *]; done) | (simp [numFor, *]; omega), Below.refl _ _⟩
set_option maxRecDepth 100000 in
theorem implTypeFor (d : Nat) (v : Value) (k : Int) (ty : Ty) (w : World) (h : TyAt w d v ty) (hsz : ty.size ≤ 1048577) : Calls Tryd.prog 92 #[.int .i64 k, v] w fun e w' => e = .returned (.bool (typeFor k ty)) ∧ Below w.heap.size w w' := by
  have HT := Lib.hid h
  obtain ⟨yk, ya, yn, yc, rfl⟩ := agg_parts h
  clear h
  have E0 := below_alloc w (.cells #[.int .i64 yk, .slice ya yn yc] 34)
  have HT0 := Lib.hid (HT.out.below E0)
  have HE := Lib.hid E0
  clear E0 HT
  by_cases q3 : k = 3
  · subst q3
    go_enter Tryd.func92, Tryd.ntmps92
    go_wp2_with fail
    refine (implNote d _ ty _ HT0.out hsz).mono ?_
    rintro e w1 ⟨rfl, hb⟩
    have HB := Lib.hid (below_thru HE.out (Nat.le_refl _) hb)
    clear hb
    go_wp2_with fail
    go_ret
    exact ⟨by simp [typeFor], HB.out⟩
  by_cases q13 : k = 13
  · subst q13
    go_enter Tryd.func92, Tryd.ntmps92
    go_wp2_with fail
    refine (implNote d _ ty _ HT0.out hsz).mono ?_
    rintro e w1 ⟨rfl, hb⟩
    have HB := Lib.hid (below_thru HE.out (Nat.le_refl _) hb)
    clear hb
    go_wp2_with fail
    go_ret
    exact ⟨by simp [typeFor], HB.out⟩
  have z3 : (k == 3) = false := by simp [q3]
  have z13 : (k == 13) = false := by simp [q13]
  have qf : typeFor k ty = ty.beq (.node 0 []) := by first | (simp [typeFor, *]; done) | (simp [typeFor, *]; omega)
  cases d with
  | zero => exact HT0.out.elim
  | succ d =>
  go_enter Tryd.func92, Tryd.ntmps92
  go_wp2_with fail
  refine (implEqual (d + 1) _ _ ty (.node 0 []) _ HT0.out (own_zero _ d 0 (by omega) (by omega)).at_).mono ?_
  rintro e w1 ⟨rfl, hb⟩
  have HB := Lib.hid (below_thru HE.out (Nat.le_refl _) hb)
  clear hb
  go_wp2_with fail
  go_ret
  exact ⟨by rw [qf]; rfl, HB.out⟩
end Go.Proofs.YtmmnjdhmankieaaDoor
/-
  Proved: impl.isExprNode says whether the fields and the number of parts of a node belong to its kind; the memory that was there stays as it was.
-/
namespace Go.Proofs.YtmmnjdhmankieaaDoor
open Go.RowKit

set_option maxRecDepth 100000 in
set_option maxHeartbeats 1000000 in
theorem implFits (d : Nat) (v : Value) (kd : Int) (nm : ByteArray) (n : Int) (ty : Ty) (es : List Ex) (w : World) (h : ExAt w (d + 1) v (.node kd nm n ty es)) (hsz : (Ex.node kd nm n ty es).bulk ≤ 1048576) (htab : TabAt w) :
    Calls Tryd.prog 85 #[v] w fun e w' => e = .returned (.bool (fitsB kd nm n ty es.length)) ∧ Below w.heap.size w w' := by
  have HV := ex_parts h
  obtain ⟨c3, c4, sl, rfl, hk0, hk1, hn0, hn1, hnm, hty, a, cap, rfl, hcap, hcap2, hat⟩ := h
  obtain ⟨k', nm', n', tk, ta, tn, tc, sa, sn, sc, hv⟩ := HV
  injection hv with hv
  injection hv with hv
  simp at hv
  obtain ⟨rfl, rfl, rfl, rfl, rfl, rfl, rfl, rfl⟩ := hv
  have HAT := Lib.hid hat; clear hat
  have hbk : (Ex.node kd nm n ty es).bulk = nm.size + (ty.size - 1) + Ex.bulks es := rfl
  have HSZ : Hid (Ex.bulks es ≤ 1048576) := by show _ ≤ _; omega
  have HNM : Hid (nm.size ≤ 1048576) := by show _ ≤ _; omega
  have HTZ : Hid (ty.size ≤ 1048577) := by show _ ≤ _; omega
  have hlen : es.length ≤ 1048576 := by have := Ex.length_le es; omega
  have HTY := Lib.hid hty
  clear hsz hbk hty
  clear HAT HSZ
  have HNS : Hid (nm.size ≤ 9223372036854775807) := by have := HNM.out; show _ ≤ _; omega
  obtain ⟨W, hW⟩ : ∃ W, W = w.alloc (.cells #[.int .i64 kd, .string nm, .int .i64 n, .int .i64 tk, .slice ta tn tc, .slice a es.length cap] 37) := ⟨_, rfl⟩
  have B : Hid (Below w.heap.size w W) := by rw [hW]; exact below_alloc _ _
  have HTYb := Lib.hid (HTY.out.below B.out)
  have HTAB := Lib.hid (htab.below B.out)
  clear HTY htab
  have XA : Hid (BoxAt W w.heap.size #[.int .i64 kd, .string nm, .int .i64 n, .int .i64 tk, .slice ta tn tc, .slice a es.length cap]) := by rw [hW]; exact BoxAt.new _ _ _
  have C1 : ∀ q : Grown W.heap.size W, Calls Tryd.prog 89 #[.int .i64 kd] q.val fun e w' => e = .returned (.int .i64 (arity kd)) ∧ Below q.val.heap.size q.val w' := fun q => implArityAt _ _ (HTAB.out.below q.old)
  have C2 : ∀ q : Grown W.heap.size W, Calls Tryd.prog 90 #[.int .i64 kd, .string nm] q.val fun e w' => e = .returned (.bool (nameFor kd nm)) ∧ Below q.val.heap.size q.val w' := fun q => implNameFor _ _ _ HNS.out
  have C3 : ∀ q : Grown W.heap.size W, Calls Tryd.prog 91 #[.int .i64 kd, .int .i64 n] q.val fun e w' => e = .returned (.bool (numFor kd n)) ∧ Below q.val.heap.size q.val w' := fun q => implNumFor _ _ _
  have C4 : ∀ q : Grown W.heap.size W, Calls Tryd.prog 92 #[.int .i64 kd, .agg #[.int .i64 tk, .slice ta tn tc]] q.val fun e w' => e = .returned (.bool (typeFor kd ty)) ∧ Below q.val.heap.size q.val w' := fun q => implTypeFor d _ _ ty _ (HTYb.out.below q.old) HTZ.out
  have hfit : fitsB kd nm n ty es.length = (decide ((es.length : Int) = arity kd) && (nameFor kd nm && (numFor kd n && typeFor kd ty))) := rfl
  generalize fitsB kd nm n ty es.length = m at hfit ⊢
  generalize arity kd = r at hfit C1
  generalize nameFor kd nm = bn at hfit C2
  generalize numFor kd n = bu at hfit C3
  generalize typeFor kd ty = bt at hfit C4
  have HM := Lib.hid hfit
  clear hfit
  go_enter Tryd.func85, Tryd.ntmps85
  go_wp2_with fail
  rw [← hW]
  clear hW
  have a0 : ∀ q : Grown W.heap.size W, q.val.cell? ⟨w.heap.size, 0, none⟩ = _ := fun q => (XA.out.grown q).2 0
  have a1 : ∀ q : Grown W.heap.size W, q.val.cell? ⟨w.heap.size, 1, none⟩ = _ := fun q => (XA.out.grown q).2 1
  have a2 : ∀ q : Grown W.heap.size W, q.val.cell? ⟨w.heap.size, 2, none⟩ = _ := fun q => (XA.out.grown q).2 2
  have a3 : ∀ q : Grown W.heap.size W, q.val.cell? ⟨w.heap.size, 3, none⟩ = _ := fun q => (XA.out.grown q).2 3
  have a4 : ∀ q : Grown W.heap.size W, q.val.cell? ⟨w.heap.size, 4, none⟩ = _ := fun q => (XA.out.grown q).2 4
  have a5 : ∀ q : Grown W.heap.size W, q.val.cell? ⟨w.heap.size, 5, none⟩ = _ := fun q => (XA.out.grown q).2 5
  clear XA HTYb HTAB
  by_cases qa : (es.length : Int) = r
  case neg =>
    have qb : ((es.length : Int) == r) = false := by simp [qa]
    refine wp_region_grown W.heap.size (by kernel_rfl) (by kernel_rfl) ?_
    repeat (go_big_quiet_step ((first | (go_at_call 89; exact grown_of (Nat.le_refl _) (C1 _)) | (go_at_call 90; exact grown_of (Nat.le_refl _) (C2 _)) | (go_at_call 91; exact grown_of (Nat.le_refl _) (C3 _)) | (go_at_call 92; exact grown_of (Nat.le_refl _) (C4 _)))))
    refine wpQuiet_nil ?_
    rintro _ ⟨⟨wq, hq⟩, rfl⟩
    go_wp2_with fail
    go_ret
    exact ⟨by rw [HM.out]; simp [*], below_thru B.out (Nat.le_of_eq rfl) hq⟩
  have qb : ((es.length : Int) == r) = true := by simp [qa]
  cases bn
  case false =>
    refine wp_region_grown W.heap.size (by kernel_rfl) (by kernel_rfl) ?_
    repeat (go_big_quiet_step ((first | (go_at_call 89; exact grown_of (Nat.le_refl _) (C1 _)) | (go_at_call 90; exact grown_of (Nat.le_refl _) (C2 _)) | (go_at_call 91; exact grown_of (Nat.le_refl _) (C3 _)) | (go_at_call 92; exact grown_of (Nat.le_refl _) (C4 _)))))
    refine wpQuiet_nil ?_
    rintro _ ⟨⟨wq, hq⟩, rfl⟩
    go_wp2_with fail
    go_ret
    exact ⟨by rw [HM.out]; simp [*], below_thru B.out (Nat.le_of_eq rfl) hq⟩
  cases bu
  case false =>
    refine wp_region_grown W.heap.size (by kernel_rfl) (by kernel_rfl) ?_
    repeat (go_big_quiet_step ((first | (go_at_call 89; exact grown_of (Nat.le_refl _) (C1 _)) | (go_at_call 90; exact grown_of (Nat.le_refl _) (C2 _)) | (go_at_call 91; exact grown_of (Nat.le_refl _) (C3 _)) | (go_at_call 92; exact grown_of (Nat.le_refl _) (C4 _)))))
    refine wpQuiet_nil ?_
    rintro _ ⟨⟨wq, hq⟩, rfl⟩
    go_wp2_with fail
    go_ret
    exact ⟨by rw [HM.out]; simp [*], below_thru B.out (Nat.le_of_eq rfl) hq⟩
  refine wp_region_grown W.heap.size (by kernel_rfl) (by kernel_rfl) ?_
  repeat (go_big_quiet_step ((first | (go_at_call 89; exact grown_of (Nat.le_refl _) (C1 _)) | (go_at_call 90; exact grown_of (Nat.le_refl _) (C2 _)) | (go_at_call 91; exact grown_of (Nat.le_refl _) (C3 _)) | (go_at_call 92; exact grown_of (Nat.le_refl _) (C4 _)))))
  refine wpQuiet_nil ?_
  rintro _ ⟨⟨wq, hq⟩, rfl⟩
  go_wp2_with fail
  go_ret
  exact ⟨by rw [HM.out]; simp [*], below_thru B.out (Nat.le_of_eq rfl) hq⟩
end Go.Proofs.YtmmnjdhmankieaaDoor
/-
  Proved: impl.exprWithin says whether an expression's tree is of the right form and fits into the room and the depth that are left; it counts the room down, and touches nothing else.
-/
namespace Go.Proofs.YtmmnjdhmankieaaDoor
open Go.RowKit

def xwithin (t : Ex) (r dp : Int) : Bool := decide ((t.count : Int) ≤ r) && (decide ((t.high : Int) ≤ dp) && t.form)
def XEnd (p : Nat) (r dp : Int) (t : Ex) (w : World) (e : Ending) (w' : World) : Prop :=
  ∃ r' : Int, e = .returned (.bool (xwithin t r dp)) ∧ Room p r' w w' ∧ (xwithin t r dp = true → r' = r - t.count)
theorem XEnd.of {p : Nat} {r dp r' : Int} {t : Ex} {w w' : World} {b : Bool} (hb : xwithin t r dp = b) (hr : Room p r' w w') (h : b = true → r' = r - t.count) : XEnd p r dp t w (.returned (.bool b)) w' := by
  subst hb; exact ⟨r', rfl, hr, h⟩
theorem xwithin_form {t : Ex} {r dp : Int} (h : t.form = false) : xwithin t r dp = false := by simp [xwithin, h]
theorem xwithin_true {t : Ex} {r dp : Int} (h : xwithin t r dp = true) : (t.count : Int) ≤ r ∧ (t.high : Int) ≤ dp ∧ t.form = true := by
  simp only [xwithin, Bool.and_eq_true, decide_eq_true_eq] at h
  exact h
theorem xwithin_mk {t : Ex} {r dp : Int} (h1 : (t.count : Int) ≤ r) (h2 : (t.high : Int) ≤ dp) (h3 : t.form = true) : xwithin t r dp = true := by
  simp only [xwithin, Bool.and_eq_true, decide_eq_true_eq]
  exact ⟨h1, h2, h3⟩
theorem xwithin_mark {nm : ByteArray} {n : Int} {ty : Ty} {x : Ex} {r dp : Int} (hf : fitsB 14 nm n ty 1 = true) (hk : x.kind ≠ 14) : xwithin (.node 14 nm n ty [x]) r dp = xwithin x r dp := by
  have e1 : (Ex.node 14 nm n ty [x]).count = x.count := by simp [Ex.count, Ex.counts]
  have e2 : (Ex.node 14 nm n ty [x]).high = x.high := by simp [Ex.high, Ex.highs]
  have e3 : (Ex.node 14 nm n ty [x]).form = x.form := by simp [Ex.form, Ex.forms, bareB, hk, hf]
  unfold xwithin; rw [e1, e2, e3]
theorem xwithin_sub {kd : Int} {nm : ByteArray} {n : Int} {ty : Ty} {es : List Ex} {r dp r2 : Int} {k : Nat} (hk : kd ≠ 14) (h : k < es.length) (hr : r2 = r - 1 - Ex.counts (es.take k)) (hf : xwithin es[k] r2 (dp - 1) = false) : xwithin (.node kd nm n ty es) r dp = false := by
  cases hw : xwithin (.node kd nm n ty es) r dp with
  | false => rfl
  | true =>
    obtain ⟨w1, w2, w3⟩ := xwithin_true hw
    simp only [Ex.count, Ex.high, Ex.form, if_neg hk, Bool.and_eq_true] at w1 w2 w3
    have h1 := Ex.counts_take es k h
    have h2 := Ex.counts_le_all es (k + 1)
    have h3 := Ex.highs_get es k h
    have h4 := Ex.forms_get es k h w3.1
    have : xwithin es[k] r2 (dp - 1) = true := xwithin_mk (by omega) (by omega) h4
    rw [this] at hf; cases hf
theorem room_start {p : Nat} {r : Int} {w w2 : World} (hp : p < w.heap.size) (hb : Below w.heap.size w w2) (e0 : w.cell? ⟨p, 0, none⟩ = some (.int .i64 r)) (e1 : w.frozen? ⟨p, 0, none⟩ = false) : Room p r w w2 :=
  ⟨(hb.cell (p := ⟨p, 0, none⟩) hp).trans e0, (hb.frozen (p := ⟨p, 0, none⟩) hp).trans e1, hb.mono (Nat.le_of_lt hp), fun b h _ => hb.block b h⟩
set_option maxRecDepth 100000 in
set_option maxHeartbeats 4000000 in
theorem implExWithin (w0 : World) (htab : TabAt w0) : ∀ (d : Nat) (v : Value) (t : Ex) (p : Nat) (r dp : Int) (w : World), ExAt w0 d v t → Below w0.heap.size w0 w → w0.heap.size ≤ p → t.bulk ≤ 1048576 → p < w.heap.size → 0 ≤ r → r ≤ 1048576 → 0 ≤ dp → dp ≤ 100 → w.cell? ⟨p, 0, none⟩ = some (.int .i64 r) → w.frozen? ⟨p, 0, none⟩ = false → Calls Tryd.prog 80 #[v, .pointer (some ⟨p, 0, none⟩), .int .i64 dp] w (XEnd p r dp t w)
  | 0, _, _, _, _, _, _, h, _, _, _, _, _, _, _, _, _, _ => h.elim
  | d + 1, v, .node kd nm n ty es, p, r, dp, w, h, hw0, hp0, hsz, hp, hr0, hr1, hd0, hd1, hcell, hfroz => by
    have IH : Hid (∀ (v : Value) (t : Ex) (p : Nat) (r dp : Int) (w : World), ExAt w0 d v t → Below w0.heap.size w0 w → w0.heap.size ≤ p → t.bulk ≤ 1048576 → p < w.heap.size → 0 ≤ r → r ≤ 1048576 → 0 ≤ dp → dp ≤ 100 → w.cell? ⟨p, 0, none⟩ = some (.int .i64 r) → w.frozen? ⟨p, 0, none⟩ = false → Calls Tryd.prog 80 #[v, .pointer (some ⟨p, 0, none⟩), .int .i64 dp] w (XEnd p r dp t w)) := implExWithin w0 htab d
    have HWH := Lib.hid h
    have HBK := Lib.hid hsz
    have HV := ex_parts h
    obtain ⟨c3, c4, sl, rfl, hk0, hk1, hn0, hn1, hnm, hty, a, cap, rfl, hcap, hcap2, hat⟩ := h
    obtain ⟨k', nm', n', tk, ta, tn, tc, sa, sn, sc, hv⟩ := HV
    injection hv with hv
    injection hv with hv
    simp at hv
    obtain ⟨rfl, rfl, rfl, rfl, rfl, rfl, rfl, rfl⟩ := hv
    have HAT := Lib.hid hat; clear hat
    have hbk : (Ex.node kd nm n ty es).bulk = nm.size + (ty.size - 1) + Ex.bulks es := rfl
    have HSZ : Hid (Ex.bulks es ≤ 1048576) := by show _ ≤ _; omega
    have HNM : Hid (nm.size ≤ 1048576) := by show _ ≤ _; omega
    have HTZ : Hid (ty.size ≤ 1048577) := by show _ ≤ _; omega
    have hlen : es.length ≤ 1048576 := by have := Ex.length_le es; omega
    clear hsz hbk hty
    have HW0 := Lib.hid hw0; clear hw0
    have HTB := Lib.hid (htab.below (HW0.out.alloc HW0.out.size (.cells #[.int .i64 kd, .string nm, .int .i64 n, .int .i64 tk, .slice ta tn tc, .slice a es.length cap] 37)))
    have HWX := Lib.hid (HWH.out.below (HW0.out.alloc HW0.out.size (.cells #[.int .i64 kd, .string nm, .int .i64 n, .int .i64 tk, .slice ta tn tc, .slice a es.length cap] 37)))
    have HC0 := Lib.hid hcell; have HC1 := Lib.hid hfroz
    clear hcell hfroz
    go_enter Tryd.func80, Tryd.ntmps80
    go_wp2_with fail
    refine (implFits d _ kd nm n ty es _ HWX.out HBK.out HTB.out).mono ?_
    rintro e w2 ⟨rfl, hb2⟩
    have B2 := Lib.hid (below_on (below_alloc w _) hb2 (by simp))
    have XA := Lib.hid ((BoxAt.new w #[.int .i64 kd, .string nm, .int .i64 n, .int .i64 tk, .slice ta tn tc, .slice a es.length cap] 37).below hb2)
    have R2 := Lib.hid (room_start hp B2.out HC0.out HC1.out)
    clear hb2 HWX HTB
    obtain ⟨hz2, e0, e1⟩ : w.heap.size ≤ w2.heap.size ∧ w2.cell? ⟨p, 0, none⟩ = some (.int .i64 r) ∧ w2.frozen? ⟨p, 0, none⟩ = false := ⟨B2.out.size, R2.out.1, R2.out.2.1⟩
    have b0 := XA.out.2 0
    have b1 := XA.out.2 1
    have b2 := XA.out.2 2
    have b3 := XA.out.2 3
    have b4 := XA.out.2 4
    have b5 := XA.out.2 5
    cases hfit : fitsB kd nm n ty es.length with
    | false =>
      have HNO := Lib.hid (xwithin_form (r := r) (dp := dp) (show (Ex.node kd nm n ty es).form = false by simp [Ex.form, hfit]))
      clear hfit
      go_wp2_with fail
      go_ret
      exact XEnd.of HNO.out R2.out (fun h => by cases h)
    | true =>
      have HFIT := Lib.hid hfit; clear hfit
      by_cases q : kd = 14
      · subst q
        have hl : es.length = 1 := by
          have h := HFIT.out
          simp only [fitsB, Bool.and_eq_true, decide_eq_true_eq] at h
          have h1 : (es.length : Int) = 1 := h.1
          omega
        obtain ⟨b, off, x0, x1, x2, x3, x4, x5, rfl, hbl, hc0, hc1, hc2, hc3, hc4, hc5, ht⟩ := HAT.out 0 (by omega)
        have hg := Ex.bulk_get es 0 (by omega)
        have HS2 := HSZ.out
        obtain ⟨yk, ynm, yn, ytk, yta, ytn, ytc, ya, ym, yc, rfl, rfl, rfl, rfl, rfl, rfl⟩ := ex_cells ht
        simp only [Nat.zero_mul, Nat.add_zero] at hc0 hc1 hc2 hc3 hc4 hc5
        have a0 : w2.cell? ⟨b, off, none⟩ = some (.int .i64 yk) := by rw [((HW0.out.trans (B2.out.mono HW0.out.size)).cell (p := ⟨b, off, none⟩) hbl)]; exact hc0
        have a1 : w2.cell? ⟨b, off + 1, none⟩ = some (.string ynm) := by rw [((HW0.out.trans (B2.out.mono HW0.out.size)).cell (p := ⟨b, off + 1, none⟩) hbl)]; exact hc1
        have a2 : w2.cell? ⟨b, off + 2, none⟩ = some (.int .i64 yn) := by rw [((HW0.out.trans (B2.out.mono HW0.out.size)).cell (p := ⟨b, off + 2, none⟩) hbl)]; exact hc2
        have a3 : w2.cell? ⟨b, off + 3, none⟩ = some (.int .i64 ytk) := by rw [((HW0.out.trans (B2.out.mono HW0.out.size)).cell (p := ⟨b, off + 3, none⟩) hbl)]; exact hc3
        have a4 : w2.cell? ⟨b, off + 4, none⟩ = some (.slice yta ytn ytc) := by rw [((HW0.out.trans (B2.out.mono HW0.out.size)).cell (p := ⟨b, off + 4, none⟩) hbl)]; exact hc4
        have a5 : w2.cell? ⟨b, off + 5, none⟩ = some (.slice ya ym yc) := by rw [((HW0.out.trans (B2.out.mono HW0.out.size)).cell (p := ⟨b, off + 5, none⟩) hbl)]; exact hc5
        obtain ⟨x, hx⟩ := List.length_eq_one_iff.1 hl
        have hx0 : es[0] = x := by subst hx; rfl
        have hkind : x.kind = yk := by rw [← hx0]; exact ex_kind ht
        have hgx : 1 + x.bulk ≤ Ex.bulks es := by rw [← hx0]; exact hg
        have HT : Hid (ExAt w0 d (.agg #[.int .i64 yk, .string ynm, .int .i64 yn, .int .i64 ytk, .slice yta ytn ytc, .slice ya ym yc]) x) := by show ExAt _ _ _ _; rw [← hx0]; exact ht
        have HX := Lib.hid hx
        have HL := Lib.hid hl
        have hpos : 0 < es.length := by omega
        have HKIND := Lib.hid hkind
        clear hc0 hc1 hc2 hc3 hc4 hc5 ht hx hx0 hg hl hkind
        by_cases q2 : yk = 14
        · subst q2
          have HNO := Lib.hid (xwithin_form (r := r) (dp := dp) (show (Ex.node 14 nm n ty es).form = false by rw [HX.out]; have h := HKIND.out; simp [Ex.form, bareB, h]))
          go_wp2_with fail
          go_ret
          exact XEnd.of HNO.out R2.out (fun h => by cases h)
        · have q2b : (yk == 14) = false := by simp [q2]
          have q2c : (yk != 14) = true := by simp [q2]
          have HEQ := Lib.hid (show xwithin (.node 14 nm n ty es) r dp = xwithin x r dp by rw [HX.out]; exact xwithin_mark (by have := HFIT.out; rw [HL.out] at this; exact this) (by rw [HKIND.out]; exact q2))
          have HCT : Hid ((Ex.node 14 nm n ty es).count = x.count) := by show _ = _; rw [HX.out]; simp [Ex.count, Ex.counts]
          have HB20 := Lib.hid (HW0.out.trans (B2.out.mono HW0.out.size))
          go_wp2_with fail
          refine (IH.out _ x p r dp w2 HT.out HB20.out hp0 (by omega) (by omega) hr0 hr1 hd0 hd1 e0 e1).mono ?_
          rintro e w3 ⟨r3, rfl, hR3, h3⟩
          have HR3 := Lib.hid (R2.out.on hR3)
          have H3 := Lib.hid h3
          clear hR3 h3
          go_wp2_with fail
          go_ret
          exact XEnd.of HEQ.out HR3.out (fun h => by rw [HCT.out]; exact H3.out h)
      · have qb0 : (kd == 14) = false := by simp [q]
        have HFIN : Hid ((Ex.node kd nm n ty es).count = 1 + Ex.counts es) := by show _ = _; simp [Ex.count, q]
        have HHI : Hid ((Ex.node kd nm n ty es).high = Ex.highs es + 1) := by show _ = _; simp [Ex.high, q]
        have R3 := Lib.hid (Room.stored (r := r - 1) hp B2.out e0 e1)
        have hpw : ¬ (p = w.heap.size) := by omega
        have EARLY : Hid (r < 1 ∨ dp = 0 → xwithin (.node kd nm n ty es) r dp = false) := fun h => by
          cases hw : xwithin (.node kd nm n ty es) r dp with
          | false => rfl
          | true =>
            obtain ⟨w1, w2, w3⟩ := xwithin_true hw
            rw [HFIN.out] at w1
            rw [HHI.out] at w2
            omega
        by_cases hr : r < 1
        · go_wp2_with fail
          go_ret
          exact XEnd.of (EARLY.out (Or.inl hr)) R3.out (fun h => by cases h)
        by_cases hd : dp = 0
        · have hdb : (dp == 0) = true := by simp [hd]
          go_wp2_with fail
          go_ret
          exact XEnd.of (EARLY.out (Or.inr hd)) R3.out (fun h => by cases h)
        have hdb : (dp == 0) = false := by simp [hd]
        clear EARLY
        have HXA3 := Lib.hid (XA.out.stored (q := p) (j := 0) (u := .int .i64 (r - 1)) (fun h => hpw h.symm))
        have HZ3 : Hid (w2.heap.size ≤ (w2.setCell ⟨p, 0, none⟩ (.int .i64 (r - 1))).heap.size) := by show _ ≤ _; simp
        go_wp2_with fail
        go_loopw [46] (fun i wr => ∃ k : Nat, k ≤ es.length ∧ i = .int .i64 k ∧ 0 ≤ r - 1 - (Ex.counts (es.take k) : Int) ∧ (Ex.highs (es.take k) : Int) ≤ dp - 1 ∧ Ex.forms (es.take k) = true ∧ Room p (r - 1 - Ex.counts (es.take k)) w wr ∧ BoxAt wr w.heap.size #[.int .i64 kd, .string nm, .int .i64 n, .int .i64 tk, .slice ta tn tc, .slice a es.length cap]) (fun i _ => es.length - (intOf i).toNat)
        case atStart => exact ⟨0, by omega, rfl, by simp [Ex.counts]; omega, by simp [Ex.highs]; omega, by simp [Ex.forms], by simpa [Ex.counts] using R3.out, HXA3.out⟩
        case round =>
          obtain ⟨k, hk, rfl, hs, hds, hf, hroom, hbx⟩ := hrel
          have b0 := hbx.2 0
          have b1 := hbx.2 1
          have b2 := hbx.2 2
          have b3 := hbx.2 3
          have b4 := hbx.2 4
          have b5 := hbx.2 5
          have HS := Lib.hid hs
          have HD := Lib.hid hds
          have HF := Lib.hid hf
          have HR := Lib.hid hroom
          have HX := Lib.hid hbx
          clear hs hds hf hroom hbx
          by_cases hlt : k < es.length
          · obtain ⟨b, off, x0, x1, x2, x3, x4, x5, rfl, hbl, hc0, hc1, hc2, hc3, hc4, hc5, ht⟩ := HAT.out k hlt
            have hg := Ex.bulk_get es k hlt
            have HS2 := HSZ.out
            obtain ⟨yk, ynm, yn, ytk, yta, ytn, ytc, ya, ym, yc, rfl, rfl, rfl, rfl, rfl, rfl⟩ := ex_cells ht
            have HB0r : Hid (Below w0.heap.size w0 wr) := HW0.out.trans (HR.out.2.2.1.mono hp0)
            have g0 : wr.cell? ⟨b, off + k * 6, none⟩ = some (.int .i64 yk) := by rw [HB0r.out.cell (p := ⟨b, off + k * 6, none⟩) hbl]; exact hc0
            have g1 : wr.cell? ⟨b, off + k * 6 + 1, none⟩ = some (.string ynm) := by rw [HB0r.out.cell (p := ⟨b, off + k * 6 + 1, none⟩) hbl]; exact hc1
            have g2 : wr.cell? ⟨b, off + k * 6 + 2, none⟩ = some (.int .i64 yn) := by rw [HB0r.out.cell (p := ⟨b, off + k * 6 + 2, none⟩) hbl]; exact hc2
            have g3 : wr.cell? ⟨b, off + k * 6 + 3, none⟩ = some (.int .i64 ytk) := by rw [HB0r.out.cell (p := ⟨b, off + k * 6 + 3, none⟩) hbl]; exact hc3
            have g4 : wr.cell? ⟨b, off + k * 6 + 4, none⟩ = some (.slice yta ytn ytc) := by rw [HB0r.out.cell (p := ⟨b, off + k * 6 + 4, none⟩) hbl]; exact hc4
            have g5 : wr.cell? ⟨b, off + k * 6 + 5, none⟩ = some (.slice ya ym yc) := by rw [HB0r.out.cell (p := ⟨b, off + k * 6 + 5, none⟩) hbl]; exact hc5
            have HT := Lib.hid ht
            clear ht hc0 hc1 hc2 hc3 hc4 hc5
            have hzr : w.heap.size ≤ wr.heap.size := HR.out.2.2.1.size
            have HB0b := Lib.hid (HB0r.out.alloc HB0r.out.size (.cells #[.int .i64 yk, .string ynm, .int .i64 yn, .int .i64 ytk, .slice yta ytn ytc, .slice ya ym yc] 37))
            have HRb := Lib.hid (HR.out.below hp (below_alloc wr (.cells #[.int .i64 yk, .string ynm, .int .i64 yn, .int .i64 ytk, .slice yta ytn ytc, .slice ya ym yc] 37)))
            have HXb := Lib.hid (HX.out.below (below_alloc wr (.cells #[.int .i64 yk, .string ynm, .int .i64 yn, .int .i64 ytk, .slice yta ytn ytc, .slice ya ym yc] 37)))
            have hs0 := HS.out
            have hcl : (Ex.counts (es.take k) : Int) ≤ 1048576 := by have := Ex.counts_part es k; omega
            go_wp2_with fail
            refine (IH.out _ es[k] p (r - 1 - Ex.counts (es.take k)) (dp - 1) (wr.alloc (.cells #[.int .i64 yk, .string ynm, .int .i64 yn, .int .i64 ytk, .slice yta ytn ytc, .slice ya ym yc] 37)) HT.out HB0b.out hp0 (by omega) (by simp; omega) (by omega) (by omega) (by omega) (by omega) HRb.out.1 HRb.out.2.1).mono ?_
            rintro e w3 ⟨r3, rfl, hR3, h3⟩
            have HX3 := Lib.hid (BoxAt.kept HXb.out hR3.2.2.1.size (hR3.2.2.2 _ HXb.out.1 (fun h => hpw h.symm)))
            have HR3 := Lib.hid (HRb.out.on hR3)
            have H3 := Lib.hid h3
            clear hR3 h3
            have HT2 := Lib.hid (Ex.counts_take es k hlt)
            cases hw : xwithin es[k] (r - 1 - Ex.counts (es.take k)) (dp - 1) with
            | false =>
              have HNO := Lib.hid (xwithin_sub (nm := nm) (n := n) (ty := ty) (r := r) q hlt rfl hw)
              clear hw
              go_wp2_with fail
              go_ret
              exact XEnd.of HNO.out HR3.out (fun h => by cases h)
            | true =>
              obtain ⟨v1, v2, v3⟩ := xwithin_true hw
              have hr3 := H3.out hw
              have HHT := Lib.hid (Ex.highs_take es k hlt)
              have HFT := Lib.hid (Ex.forms_take es k hlt)
              have HV1 := Lib.hid v1
              have HV2 := Lib.hid v2
              have HV3 := Lib.hid v3
              have HRR := Lib.hid hr3
              clear hw v1 v2 v3 hr3
              go_wp2_with fail
              refine ⟨⟨k + 1, by omega, by go_num, ?_, ?_, ?_, ?_, HX3.out⟩, by simp [intOf]; omega⟩
              · have h1 := HV1.out; rw [HT2.out]; omega
              · have h1 := HV2.out; have h2 := HD.out; rw [HHT.out]; omega
              · rw [HFT.out, HF.out, HV3.out]; rfl
              · have h1 := HR3.out; rw [HRR.out] at h1; rw [HT2.out]; have e : r - 1 - (Ex.counts (es.take k) : Int) - (es[k].count : Int) = r - 1 - ((Ex.counts (es.take k) + es[k].count : Nat) : Int) := by omega
                rw [e] at h1; exact h1
          · obtain rfl : k = es.length := by omega
            have HNO : Hid (xwithin (.node kd nm n ty es) r dp = true) := by
              have h1 := HS.out
              have h2 := HD.out
              have h3 := HF.out
              rw [List.take_length] at h1 h2 h3
              refine xwithin_mk (by rw [HFIN.out]; omega) (by rw [HHI.out]; omega) ?_
              have e : bareB kd es = true := by cases es with | nil => rfl | cons x r => simp [bareB, q]
              have hft := HFIT.out
              simp only [Ex.form, h3, e, hft, Bool.and_self]
            have HRL : Hid (Room p (r - 1 - Ex.counts es) w wr) := by have := HR.out; rw [List.take_length] at this; exact this
            go_wp2_with fail
            go_ret
            exact XEnd.of HNO.out HRL.out (fun _ => by rw [HFIN.out]; omega)
theorem xwithin_valid (t : Ex) : xwithin t 40 12 = t.valid := by
  have e1 : decide ((t.count : Int) ≤ 40) = decide (t.count ≤ 40) := decide_eq_decide.2 (by omega)
  have e2 : decide ((t.high : Int) ≤ 12) = decide (t.high ≤ 12) := decide_eq_decide.2 (by omega)
  unfold xwithin Ex.valid
  rw [e1, e2]
set_option maxRecDepth 100000 in
set_option maxHeartbeats 1000000 in
theorem implExValid (d : Nat) (v : Value) (t : Ex) (w : World) (h : ExAt w d v t) (hsz : t.bulk ≤ 1048576) (htab : TabAt w) :
    Calls Tryd.prog 71 #[v] w fun e w' => e = .returned (.bool t.valid) ∧ Below w.heap.size w w' := by
  have HT := Lib.hid h
  obtain ⟨yk, ynm, yn, ytk, yta, ytn, ytc, ya, ym, yc, rfl⟩ := ex_parts h
  clear h
  have X : Hid (Below w.heap.size w ((w.alloc (.cells #[.int .i64 yk, .string ynm, .int .i64 yn, .int .i64 ytk, .slice yta ytn ytc, .slice ya ym yc] 37)).alloc (.cells #[.int .i64 40] 3))) := ((Below.refl _ _).alloc (Nat.le_refl _) _).alloc (by simp) _
  go_enter Tryd.func71, Tryd.ntmps71
  go_wp2_with fail
  refine (implExWithin w htab d _ t (w.heap.size + 1) 40 12 _ HT.out X.out (by omega) hsz (by simp) (by omega) (by omega) (by omega) (by omega) (by simp [go_sem]) (by simp [go_sem])).mono ?_
  rintro e w' ⟨r', rfl, hr, _⟩
  have HB := Lib.hid (X.out.trans (hr.2.2.1.mono (Nat.le_succ _)))
  clear hr
  go_wp2_with fail
  go_ret
  exact ⟨by rw [xwithin_valid]; rfl, HB.out⟩
end Go.Proofs.YtmmnjdhmankieaaDoor
/-
  Proved: impl.hasMarks says whether a mark occurs in an expression; the memory that was there stays as it was.
-/
namespace Go.Proofs.YtmmnjdhmankieaaDoor
open Go.RowKit

set_option maxRecDepth 100000 in
set_option maxHeartbeats 2000000 in
theorem implExMarks : ∀ (d : Nat) (v : Value) (t : Ex) (w : World), ExAt w d v t → t.bulk ≤ 1048576 → Calls Tryd.prog 72 #[v] w fun e w' => e = .returned (.bool (t.has 14)) ∧ Below w.heap.size w w'
  | 0, _, _, _, h, _ => h.elim
  | d + 1, v, .node kd nm n ty es, w, h, hsz => by
    have IH : Hid (∀ (v : Value) (t : Ex) (w : World), ExAt w d v t → t.bulk ≤ 1048576 → Calls Tryd.prog 72 #[v] w fun e w' => e = .returned (.bool (t.has 14)) ∧ Below w.heap.size w w') := implExMarks d
    have HV := ex_parts h
    obtain ⟨c3, c4, sl, rfl, hk0, hk1, hn0, hn1, hnm, hty, a, cap, rfl, hcap, hcap2, hat⟩ := h
    obtain ⟨k', nm', n', tk, ta, tn, tc, sa, sn, sc, hv⟩ := HV
    injection hv with hv
    injection hv with hv
    simp at hv
    obtain ⟨rfl, rfl, rfl, rfl, rfl, rfl, rfl, rfl⟩ := hv
    have HAT := Lib.hid hat; clear hat
    have hbk : (Ex.node kd nm n ty es).bulk = nm.size + (ty.size - 1) + Ex.bulks es := rfl
    have HSZ : Hid (Ex.bulks es ≤ 1048576) := by show _ ≤ _; omega
    have HNM : Hid (nm.size ≤ 1048576) := by show _ ≤ _; omega
    have HTZ : Hid (ty.size ≤ 1048577) := by show _ ≤ _; omega
    have hlen : es.length ≤ 1048576 := by have := Ex.length_le es; omega
    clear hsz hbk hty
    by_cases q : kd = 14
    · subst q
      go_enter Tryd.func72, Tryd.ntmps72
      go_wp2_with fail
      go_ret
      exact ⟨by simp [Ex.has], below_alloc _ _⟩
    · have qb0 : (kd == 14) = false := by simp [q]
      go_enter Tryd.func72, Tryd.ntmps72
      go_wp2_with fail
      go_loopw [11] (fun i wr => ∃ k : Nat, k ≤ es.length ∧ i = .int .i64 k ∧ Ex.hass 14 (es.take k) = false ∧ Below (w.heap.size + 1) (w.alloc (.cells #[.int .i64 kd, .string nm, .int .i64 n, .int .i64 tk, .slice ta tn tc, .slice a es.length cap] 37)) wr) (fun i _ => es.length - (intOf i).toNat)
      case atStart => exact ⟨0, by omega, rfl, by simp [Ex.hass], Below.refl _ _⟩
      case round =>
        obtain ⟨k, hk, rfl, hf, hb⟩ := hrel
        have HF := Lib.hid hf; clear hf
        have b0 := box_cell hb 0
        have b1 := box_cell hb 1
        have b2 := box_cell hb 2
        have b3 := box_cell hb 3
        have b4 := box_cell hb 4
        have b5 := box_cell hb 5
        have HB := Lib.hid (box_below hb)
        have HBX := Lib.hid hb; clear hb
        have HS2 := HSZ.out
        by_cases hlt : k < es.length
        · obtain ⟨b, off, x0, x1, x2, x3, x4, x5, rfl, hbl, hc0, hc1, hc2, hc3, hc4, hc5, ht⟩ := HAT.out k hlt
          have hg := Ex.bulk_get es k hlt
          obtain ⟨yk, ynm, yn, ytk, yta, ytn, ytc, ya, ym, yc, rfl, rfl, rfl, rfl, rfl, rfl⟩ := ex_cells ht
          have e0 : wr.cell? ⟨b, off + k * 6, none⟩ = some (.int .i64 yk) := by rw [HB.out.cell (p := ⟨b, off + k * 6, none⟩) hbl]; exact hc0
          have e1 : wr.cell? ⟨b, off + k * 6 + 1, none⟩ = some (.string ynm) := by rw [HB.out.cell (p := ⟨b, off + k * 6 + 1, none⟩) hbl]; exact hc1
          have e2 : wr.cell? ⟨b, off + k * 6 + 2, none⟩ = some (.int .i64 yn) := by rw [HB.out.cell (p := ⟨b, off + k * 6 + 2, none⟩) hbl]; exact hc2
          have e3 : wr.cell? ⟨b, off + k * 6 + 3, none⟩ = some (.int .i64 ytk) := by rw [HB.out.cell (p := ⟨b, off + k * 6 + 3, none⟩) hbl]; exact hc3
          have e4 : wr.cell? ⟨b, off + k * 6 + 4, none⟩ = some (.slice yta ytn ytc) := by rw [HB.out.cell (p := ⟨b, off + k * 6 + 4, none⟩) hbl]; exact hc4
          have e5 : wr.cell? ⟨b, off + k * 6 + 5, none⟩ = some (.slice ya ym yc) := by rw [HB.out.cell (p := ⟨b, off + k * 6 + 5, none⟩) hbl]; exact hc5
          have hp := below_box wr (.cells #[.int .i64 yk, .string ynm, .int .i64 yn, .int .i64 ytk, .slice yta ytn ytc, .slice ya ym yc] 37)
          have HT := Lib.hid ((ht.below HB.out).below hp)
          have HPX := Lib.hid (box_next HBX.out hp)
          clear hp
          clear ht hc0 hc1 hc2 hc3 hc4 hc5
          go_wp2_with fail
          refine (IH.out _ _ _ HT.out (by omega)).mono ?_
          rintro e w' ⟨rfl, hb1⟩
          have HN := Lib.hid (box_next HPX.out hb1); clear hb1
          have HT2 := Lib.hid (Ex.hass_take 14 es k hlt)
          cases hfk : es[k].has 14 with
          | false =>
            have HFK := Lib.hid hfk; clear hfk
            go_wp2_with fail
            exact ⟨⟨k + 1, by omega, by go_num, by rw [HT2.out, HF.out, HFK.out]; rfl, HN.out⟩, by simp [intOf]; omega⟩
          | true =>
            have HFK := Lib.hid hfk; clear hfk
            go_wp2_with fail
            go_ret
            have e : Ex.hass 14 es = true := Ex.hass_true 14 es (k + 1) (by rw [HT2.out, HF.out, HFK.out]; rfl)
            exact ⟨by simp [Ex.has, e], box_below HN.out⟩
        · obtain rfl : k = es.length := by omega
          have HFT : Hid (Ex.hass 14 es = false) := by have := HF.out; rw [List.take_length] at this; exact this
          go_wp2_with fail
          go_ret
          exact ⟨by simp [Ex.has, HFT.out, q], HB.out⟩
end Go.Proofs.YtmmnjdhmankieaaDoor
/-
  Proved: impl.IsRaw says whether an expression is valid and has no marks; the memory that was there stays as it was.
-/
namespace Go.Proofs.YtmmnjdhmankieaaDoor
open Go.RowKit

set_option maxRecDepth 100000 in
set_option maxHeartbeats 2000000 in
theorem implExRaw (d : Nat) (v : Value) (t : Ex) (w : World) (h : ExAt w d v t) (hsz : t.bulk ≤ 1048576) (htab : TabAt w) :
    Calls Tryd.prog 55 #[v] w fun e w' => e = .returned (.bool (t.valid && !t.has 14)) ∧ Below w.heap.size w w' := by
  have HT := Lib.hid h
  obtain ⟨yk, ynm, yn, ytk, yta, ytn, ytc, ya, ym, yc, rfl⟩ := ex_parts h
  clear h
  have E0 := below_alloc w (.cells #[.int .i64 yk, .string ynm, .int .i64 yn, .int .i64 ytk, .slice yta ytn ytc, .slice ya ym yc] 37)
  have HT0 := Lib.hid (HT.out.below E0)
  have HTAB := Lib.hid (htab.below E0)
  clear htab
  clear E0
  go_enter Tryd.func55, Tryd.ntmps55
  go_wp2_with fail
  refine (implExValid d _ t _ HT0.out hsz HTAB.out).mono ?_
  rintro e w1 ⟨rfl, hb⟩
  have B1 := Lib.hid (box_next (Below.refl _ _) hb)
  clear hb
  have c0 := box_cell B1.out 0
  have c1 := box_cell B1.out 1
  have c2 := box_cell B1.out 2
  have c3 := box_cell B1.out 3
  have c4 := box_cell B1.out 4
  have c5 := box_cell B1.out 5
  cases hv0 : t.valid with
  | false =>
    go_wp2_with fail
    go_ret
    exact ⟨by simp [hv0], box_below B1.out⟩
  | true =>
    go_wp2_with fail
    refine (implExMarks d _ t _ (HT.out.below (box_below B1.out)) hsz).mono ?_
    rintro e w2 ⟨rfl, hb⟩
    have B2 := Lib.hid (box_next B1.out hb)
    clear hb B1 c0 c1 c2 c3 c4 c5
    go_wp2_with fail
    go_ret
    exact ⟨by simp [hv0], box_below B2.out⟩
end Go.Proofs.YtmmnjdhmankieaaDoor
/-
  Proved: impl.IsEdit says whether an edit is valid; it leaves the memory that was there as it was.
-/
namespace Go.Proofs.YtmmnjdhmankieaaDoor
open Go.RowKit

set_option maxRecDepth 100000 in
set_option maxHeartbeats 2000000 in
theorem implIsEdit (d : Nat) (v : Value) (t : Edi) (w : World) (h : EditAt w d v t) (hn : t.bulk ≤ 1048576) (htab : TabAt w) :
    Calls Tryd.prog 31 #[v] w fun e w' => e = .returned (.bool t.okB) ∧ Below w.heap.size w w' := by
  cases t with
  | mk ex ps =>
    obtain ⟨k, nm, n, tk, ta, tn, tc, sa, sn, sc, pa, pn, pc, rfl, he, hp, hl⟩ := h
    dsimp only at he hp hl ⊢
    have hbk : (Edi.mk ex ps).bulk = ex.bulk + ps.length := rfl
    have hn1 : ex.bulk ≤ 1048576 := by omega
    have hn2 : ps.length ≤ 1048576 := by omega
    have HQ : Hid ((Edi.mk ex ps).okB = ((ex.sub ps).isSome && (ex.valid && !ex.has 14))) := rfl
    clear hn hbk hl
    have B : Hid (Below w.heap.size w (w.alloc (.cells #[.int .i64 k, .string nm, .int .i64 n, .int .i64 tk, .slice ta tn tc, .slice sa sn sc, .slice pa pn pc] 39))) := below_alloc _ _
    have XA : Hid (BoxAt (w.alloc (.cells #[.int .i64 k, .string nm, .int .i64 n, .int .i64 tk, .slice ta tn tc, .slice sa sn sc, .slice pa pn pc] 39)) w.heap.size #[.int .i64 k, .string nm, .int .i64 n, .int .i64 tk, .slice ta tn tc, .slice sa sn sc, .slice pa pn pc]) := BoxAt.new _ _ _
    have HE := Lib.hid (he.below B.out)
    have HP := Lib.hid (hp.below B.out)
    have HTB := Lib.hid (htab.below B.out)
    clear he hp htab
    go_enter Tryd.func31, Tryd.ntmps31
    go_wp2_with fail
    refine (implExRaw d _ ex _ HE.out hn1 HTB.out).mono ?_
    rintro e w1 ⟨he1, hb⟩
    replace B := Lib.hid (below_thru B.out (Nat.le_refl _) hb)
    replace XA := Lib.hid (XA.out.below hb)
    replace HE := Lib.hid (HE.out.below hb)
    replace HP := Lib.hid (HP.out.below hb)
    clear hb
    cases hv : (ex.valid && !ex.has 14) with
    | false =>
      rw [hv] at he1 HQ
      subst he1
      go_wp2_with fail
      go_ret
      exact ⟨by rw [HQ.out, Bool.and_false]; rfl, B.out⟩
    | true =>
      rw [hv] at he1 HQ
      subst he1
      have HPT : Hid (PtrAt w1 d (.pointer (some ⟨w.heap.size, 0, none⟩)) ex) := ⟨_, _, _, _, _, _, _, _, _, _, _, _, rfl, XA.out.1, XA.out.2 0, XA.out.2 1, XA.out.2 2, XA.out.2 3, XA.out.2 4, XA.out.2 5, HE.out⟩
      have c6 := XA.out.2 6
      go_wp2_with fail
      clear c6
      refine (implNodeAt d _ _ ex ps _ HPT.out HP.out hn2).mono ?_
      rintro e w2 ⟨hw, hr⟩
      subst hw
      cases hq : ex.sub ps with
      | none =>
        rw [hq] at hr HQ
        subst hr
        go_wp2_with fail
        go_ret
        exact ⟨by rw [HQ.out]; rfl, B.out⟩
      | some x =>
        rw [hq] at hr HQ
        obtain ⟨s, rfl, hs⟩ := hr
        obtain ⟨b, off, _, _, _, _, _, _, _, _, _, _, rfl, _⟩ := hs
        go_wp2_with fail
        go_ret
        exact ⟨by rw [HQ.out]; rfl, B.out⟩
end Go.Proofs.YtmmnjdhmankieaaDoor
/-
  Proved: slices.Clone copies a row of numbers into new memory; the memory that was there stays as it was.
-/
namespace Go.Proofs.YtmmnjdhmankieaaDoor
open Go.RowKit

set_option maxRecDepth 100000 in
set_option maxHeartbeats 2000000 in
theorem cloneInts (v : Value) (ss : List Int) (w : World) (h : Ints w v ss) (hn : ss.length ≤ 1048576) :
    Calls Tryd.prog 58 #[v] w fun e w' => ∃ a cap, e = .returned (.slice a ss.length cap) ∧ IntsIn w' (.slice a ss.length cap) ss w.heap.size w'.heap.size ∧ Below w.heap.size w w' := by
  obtain ⟨a, cap, rfl, hcap, hat⟩ := h
  have q22 : ∀ (w : World) (a : Option Addr) (n c n' c' : Nat), (binOp .eql 28 (.slice a n c) (.slice none n' c')).run Tryd.prog w = .ok (.bool a.isNone) w := fun w a n c n' c' => Lib.run_eql_slice_nil w _ _ a n c n' c' Tryd.underlying28
  cases a with
  | none =>
    have hl : ss = [] := List.eq_nil_of_length_eq_zero (Nat.eq_zero_of_not_pos fun hp => by
      obtain ⟨_, _, h, _⟩ := hat 0 hp
      cases h)
    subst hl
    go_enter Tryd.func58, Tryd.ntmps58
    go_wp2_with fail
    go_ret
    exact ⟨none, 0, rfl, ⟨World.ownsRow_nil _ _ _ _, (fun k hk => by simp [Value.ownBlock] at hk), Nat.le_refl _⟩, Below.refl _ _⟩
  | some p =>
    have hcell : ∀ j u, (ss.map (Value.int IntKind.i64))[j]? = some u → w.cell? (p.add j) = some u := fun j u hj => by
      have hjl : j < ss.length := by
        have := (List.getElem?_eq_some_iff.1 hj).1
        simpa using this
      obtain ⟨b, off, ha, _, hc⟩ := hat j hjl
      cases ha
      rw [addr_add, hc]
      rw [List.getElem?_map, List.getElem?_eq_getElem hjl] at hj
      simpa using hj
    have HC := Lib.hid hcell
    clear hcell hat
    obtain ⟨i0, hi, hz0, hz1, hz2⟩ := info_parts info_i
    go_enter Tryd.func58, Tryd.ntmps58
    go_wp2_with (at_builtin; refine wpList_append_own _ rfl _ _ 28 rfl w.heap.size 3 i0 (.int .i64 0) 1 8 Tryd.underlying28 hi hz0 hz1 hz2 rfl (by decide) _ _ _ rfl (World.ownsRow_made w #[] 0 (Nat.le_refl _) (Nat.zero_le _) rfl) p ss.length cap (ss.map (Value.int IntKind.i64)) rfl ?qc1 ?qc2 ?qc3 ?qc4 ?qc5 ?qc6 ?_)
    case qc1 => simp
    case qc2 => intro j u hj; exact Lib.cell?_alloc_some _ (HC.out j u hj)
    case qc3 => intro u hu; obtain ⟨x, _, rfl⟩ := List.mem_map.1 hu; rfl
    case qc4 => unfold maxLen; omega
    case qc5 => omega
    case qc6 => simp
    intro v' w1 hown hgrow hnil
    have HOWN : Hid (w1.ownsRow w.heap.size 3 1 v' ss.length (ss.map (Value.int IntKind.i64))) := by show World.ownsRow _ _ _ _ _ _ _; simpa using hown
    have HB : Hid (Below w.heap.size w w1) := ((Below.refl _ w).alloc (Nat.le_refl _) _).grown hgrow (by simp) (by intro k hk; simp [Value.ownBlock] at hk; omega)
    clear hown hgrow hnil hi hz0 hz1 hz2
    obtain ⟨a2, c2, hv⟩ : ∃ a2 c2, v' = .slice a2 ss.length c2 := by
      rcases HOWN.out.2 with ⟨h1, h2⟩ | ⟨g, cap2, cur, h1, _⟩
      · exact ⟨none, 0, by rw [h1, h2]⟩
      · exact ⟨_, cap2, h1⟩
    subst hv
    go_wp2_with fail
    go_ret
    exact ⟨a2, c2, rfl, IntsIn.of HOWN.out (Nat.le_refl _), HB.out⟩
end Go.Proofs.YtmmnjdhmankieaaDoor
/-
  Proved: slices.Clone copies the nodes of a row of expressions into a new block; the memory that was there stays as it was.
-/
namespace Go.Proofs.YtmmnjdhmankieaaDoor
open Go.RowKit

set_option maxRecDepth 100000 in
set_option maxHeartbeats 2000000 in
theorem cloneEx (d : Nat) (v : Value) (es : List Ex) (w0 w : World) (h : ExsAt w0 d v es) (hbel : Below w0.heap.size w0 w) (hn : es.length ≤ 1048576) :
    Calls Tryd.prog 81 #[v] w fun e w' => ∃ a cap, e = .returned (.slice a es.length cap) ∧ es.length ≤ cap ∧ cap ≤ 9223372036854775807 ∧ Below w.heap.size w w' ∧
      (0 < es.length → ∃ g, a = some ⟨g, 0, none⟩ ∧ w.heap.size ≤ g ∧ g < w'.heap.size ∧ (∀ o, w'.frozen? ⟨g, o, none⟩ = false) ∧
        ∀ j (h : j < es.length), ∃ c0 c1 c2 c3 c4 c5, w'.cell? ⟨g, j * 6, none⟩ = some c0 ∧ w'.cell? ⟨g, j * 6 + 1, none⟩ = some c1 ∧ w'.cell? ⟨g, j * 6 + 2, none⟩ = some c2 ∧ w'.cell? ⟨g, j * 6 + 3, none⟩ = some c3 ∧ w'.cell? ⟨g, j * 6 + 4, none⟩ = some c4 ∧ w'.cell? ⟨g, j * 6 + 5, none⟩ = some c5 ∧ ExAt w0 d (.agg #[c0, c1, c2, c3, c4, c5]) es[j]) := by
  obtain ⟨a, cap, rfl, hcap, hcap2, hat⟩ := h
  cases a with
  | none =>
    have hl : es.length = 0 := Nat.eq_zero_of_not_pos fun hp => by
      obtain ⟨_, _, _, _, _, _, _, _, h, _⟩ := hat 0 hp
      cases h
    have q22 : ∀ (w : World) (a : Option Addr) (n c n' c' : Nat), (binOp .eql 35 (.slice a n c) (.slice none n' c')).run Tryd.prog w = .ok (.bool a.isNone) w := fun w a n c n' c' => Lib.run_eql_slice_nil w _ _ a n c n' c' Tryd.underlying35
    go_enter Tryd.func81, Tryd.ntmps81
    go_wp2_with fail
    go_ret
    exact ⟨none, 0, by rw [hl]; rfl, by omega, by omega, Below.refl _ _, fun h => by omega⟩
  | some p =>
    have hone : ∀ j (h : j < es.length), ∃ b off c0 c1 c2 c3 c4 c5, p = ⟨b, off, none⟩ ∧ w.cell? ⟨b, off + j * 6, none⟩ = some c0 ∧ w.cell? ⟨b, off + j * 6 + 1, none⟩ = some c1 ∧ w.cell? ⟨b, off + j * 6 + 2, none⟩ = some c2 ∧ w.cell? ⟨b, off + j * 6 + 3, none⟩ = some c3 ∧ w.cell? ⟨b, off + j * 6 + 4, none⟩ = some c4 ∧ w.cell? ⟨b, off + j * 6 + 5, none⟩ = some c5 ∧ ExAt w0 d (.agg #[c0, c1, c2, c3, c4, c5]) es[j] := fun j hj => by
      obtain ⟨b, off, c0, c1, c2, c3, c4, c5, ha, hlt, h0, h1, h2, h3, h4, h5, ht⟩ := hat j hj
      have hk : ∀ o, w.cell? ⟨b, o, none⟩ = w0.cell? ⟨b, o, none⟩ := fun o => hbel.cell (p := ⟨b, o, none⟩) hlt
      exact ⟨b, off, c0, c1, c2, c3, c4, c5, Option.some.inj ha, (hk _).trans h0, (hk _).trans h1, (hk _).trans h2, (hk _).trans h3, (hk _).trans h4, (hk _).trans h5, ht⟩
    have hcell : ∀ j, j < es.length * 6 → ∃ u, w.cell? (p.add j) = some u ∧ u.oneCell' = true := fun j hj => by
      obtain ⟨b, off, c0, c1, c2, c3, c4, c5, rfl, h0, h1, h2, h3, h4, h5, ht⟩ := hone (j / 6) (by omega)
      obtain ⟨k, nm, n, tk, ta, tn, tc, sa, sn, sc, rfl, rfl, rfl, rfl, rfl, rfl⟩ := ex_cells ht
      rw [addr_add]
      have hm : j % 6 < 6 := Nat.mod_lt _ (by omega)
      have hj6 : j = j / 6 * 6 + j % 6 := by omega
      generalize j % 6 = r at hm hj6
      generalize j / 6 = q at h0 h1 h2 h3 h4 h5 hj6
      subst hj6
      match r, hm with
      | 0, _ => exact ⟨_, h0, rfl⟩
      | 1, _ => exact ⟨_, by rw [← h1, Nat.add_assoc], rfl⟩
      | 2, _ => exact ⟨_, by rw [← h2, Nat.add_assoc], rfl⟩
      | 3, _ => exact ⟨_, by rw [← h3, Nat.add_assoc], rfl⟩
      | 4, _ => exact ⟨_, by rw [← h4, Nat.add_assoc], rfl⟩
      | 5, _ => exact ⟨_, by rw [← h5, Nat.add_assoc], rfl⟩
    obtain ⟨news, hnews⟩ : ∃ news : List Value, news = (List.range (es.length * 6)).map fun o => (w.cell? (p.add o)).getD undef := ⟨_, rfl⟩
    have hnl : news.length = es.length * 6 := by rw [hnews]; simp
    have hnj : ∀ j, j < es.length * 6 → news[j]? = w.cell? (p.add j) := fun j hj => by
      obtain ⟨u, hu, _⟩ := hcell j hj
      rw [hnews, List.getElem?_map, List.getElem?_range hj, Option.map_some, hu]
      rfl
    have HNL := Lib.hid hnl
    have HNJ := Lib.hid hnj
    have HONE := Lib.hid hone
    have HCELL := Lib.hid hcell
    clear hnews hnl hnj hone hcell hat hbel
    obtain ⟨i0, hi, hz0, hz1, hz2⟩ := info_parts info_ex
    have q22 : ∀ (w : World) (a : Option Addr) (n c n' c' : Nat), (binOp .eql 35 (.slice a n c) (.slice none n' c')).run Tryd.prog w = .ok (.bool a.isNone) w := fun w a n c n' c' => Lib.run_eql_slice_nil w _ _ a n c n' c' Tryd.underlying35
    go_enter Tryd.func81, Tryd.ntmps81
    go_wp2_with (at_builtin; refine wpList_append_own _ rfl _ _ 35 rfl w.heap.size 37 i0 (.agg #[.int .i64 0, .string ⟨#[]⟩, .int .i64 0, .int .i64 0, .slice none 0 0, .slice none 0 0]) 6 88 Tryd.underlying35 hi hz0 hz1 hz2 rfl (by decide) _ _ _ rfl (World.ownsRow_made w #[] 0 (Nat.le_refl _) (Nat.zero_le _) rfl) p es.length cap news rfl ?qc1 ?qc2 ?qc3 ?qc4 ?qc5 ?qc6 ?_)
    case qc1 => exact HNL.out
    case qc2 =>
      intro j u hj
      have hjl : j < es.length * 6 := by
        have := (List.getElem?_eq_some_iff.1 hj).1
        rw [HNL.out] at this
        exact this
      rw [HNJ.out j hjl] at hj
      exact Lib.cell?_alloc_some _ hj
    case qc3 =>
      intro u hu
      obtain ⟨j, hj, rfl⟩ := List.getElem_of_mem hu
      obtain ⟨u2, h2, h3⟩ := HCELL.out j (by rw [← HNL.out]; exact hj)
      have h4 := HNJ.out j (by rw [← HNL.out]; exact hj)
      rw [List.getElem?_eq_getElem hj, h2] at h4
      rw [Option.some.inj h4]
      exact h3
    case qc4 => unfold maxLen; omega
    case qc5 => omega
    case qc6 => simp
    intro v' w1 hown hgrow hnil
    have HOWN : Hid (w1.ownsRow w.heap.size 37 6 v' es.length news) := by show World.ownsRow _ _ _ _ _ _ _; simpa using hown
    have HB : Hid (Below w.heap.size w w1) := ((Below.refl _ w).alloc (Nat.le_refl _) _).grown hgrow (by simp) (by intro k hk; simp [Value.ownBlock] at hk; omega)
    clear hown hgrow hi hz0 hz1 hz2
    rcases HOWN.out.2 with ⟨hv, hl⟩ | ⟨g, cap2, cur, hv, hbg, hg, hnc, hcm, _⟩
    · subst hv
      exact absurd hnil (by simp)
    · subst hv
      have hlt := (HOWN.out.lt g rfl).2
      have HG := Lib.hid hbg
      have HLT := Lib.hid hlt
      have HNC := Lib.hid hnc
      have HCM := Lib.hid hcm
      clear hbg hg hnc hcm hlt
      go_wp2_with fail
      go_ret
      refine ⟨some ⟨g, 0, none⟩, cap2, rfl, HNC.out, by have := HCM.out; unfold maxLen at this; omega, HB.out, fun _ => ⟨g, rfl, HG.out, HLT.out, fun o => HOWN.out.frozenAt o, fun j hj => ?_⟩⟩
      obtain ⟨b, off, c0, c1, c2, c3, c4, c5, rfl, h0, h1, h2, h3, h4, h5, ht⟩ := HONE.out j hj
      refine ⟨c0, c1, c2, c3, c4, c5, (by rw [HOWN.out.cellAt (j * 6) (by have := HNL.out; omega), HNJ.out (j * 6) (by omega), addr_add]; exact h0), (by rw [HOWN.out.cellAt (j * 6 + 1) (by have := HNL.out; omega), HNJ.out (j * 6 + 1) (by omega), addr_add, ← Nat.add_assoc]; exact h1), (by rw [HOWN.out.cellAt (j * 6 + 2) (by have := HNL.out; omega), HNJ.out (j * 6 + 2) (by omega), addr_add, ← Nat.add_assoc]; exact h2), (by rw [HOWN.out.cellAt (j * 6 + 3) (by have := HNL.out; omega), HNJ.out (j * 6 + 3) (by omega), addr_add, ← Nat.add_assoc]; exact h3), (by rw [HOWN.out.cellAt (j * 6 + 4) (by have := HNL.out; omega), HNJ.out (j * 6 + 4) (by omega), addr_add, ← Nat.add_assoc]; exact h4), (by rw [HOWN.out.cellAt (j * 6 + 5) (by have := HNL.out; omega), HNJ.out (j * 6 + 5) (by omega), addr_add, ← Nat.add_assoc]; exact h5), ht⟩
end Go.Proofs.YtmmnjdhmankieaaDoor
/-
  Proved: impl.copyType copies a tree of at most 2^20 nodes into new memory; it leaves the memory that was there as it was.
-/
namespace Go.Proofs.YtmmnjdhmankieaaDoor
open Go.RowKit

theorem own_leaf (w : World) (d : Nat) (k : Int) (h0 : -9223372036854775808 ≤ k) (h1 : k ≤ 9223372036854775807) : TyOwn w (d + 1) (.agg #[.int .i64 k, .slice none 0 0]) (.node k []) [] :=
  ⟨_, rfl, h0, h1, none, 0, [], [], rfl, Nat.le_refl _, by omega, rfl, rfl, (fun b hb => by cases hb), fun j hj => by simp at hj⟩
theorem two_frozen {w wr : World} {cs ds : Array Value} {T U : TypeId} (h : Below (w.heap.size + 2) ((w.alloc (.cells cs T)).alloc (.cells ds U)) wr) (j : Nat) : wr.frozen? ⟨w.heap.size + 1, j, none⟩ = false := by
  rw [h.frozen (p := ⟨w.heap.size + 1, j, none⟩) (Nat.lt_succ_self _)]
  simp [go_sem]

set_option maxRecDepth 100000 in
set_option maxHeartbeats 2000000 in
theorem implCopy : ∀ (d : Nat) (v : Value) (t : Ty) (w : World), t.size ≤ 1048577 → TyAt w d v t →
    Calls Tryd.prog 67 #[v] w (ToTyEnd d t w)
  | 0, _, _, _, _, h => h.elim
  | d + 1, v, .node kd ts, w, hsz, h => by
    have IH : Hid (∀ (v : Value) (t : Ty) (w : World), t.size ≤ 1048577 → TyAt w d v t → Calls Tryd.prog 67 #[v] w (ToTyEnd d t w)) := implCopy d
    obtain ⟨i0, hi, hz0, hz1, hz2⟩ := info_parts info_ty
    have hlen := Ty.length_le ts
    have HSZ : Hid (1 + Ty.sizes ts ≤ 1048577) := by simp [Ty.size] at hsz; show _ ≤ _; omega
    have hn2 : ts.length ≤ 1048577 := by have := HSZ.out; omega
    clear hsz hlen
    obtain ⟨sl, rfl, hk0, hk1, a, cap, rfl, hcap, hcap2, hat⟩ := h
    have HAT := Lib.hid hat; clear hat
    obtain ⟨n, hn⟩ : ∃ n, n = ts.length := ⟨_, rfl⟩
    have HN := Lib.hid hn
    rw [← hn] at hcap hn2 ⊢
    clear hn
    by_cases z : n = 0
    · subst z
      have HTS : Hid (ts = []) := List.eq_nil_of_length_eq_zero HN.out.symm
      go_enter Tryd.func67, Tryd.ntmps67
      go_wp2_with fail
      refine bodyPost_ret (v := .agg #[.int .i64 kd, .slice none 0 0]) (by simp [results, Tryd.results67, go_sem]) rfl ?_
      rw [HTS.out]
      exact ⟨_, [], rfl, own_leaf _ _ _ hk0 hk1, Fp.nil _ _, ((Below.refl _ _).alloc (Nat.le_refl _) _).alloc (by simp) _⟩
    · have z3 : ((n : Int) == 0) = false := by simp [z]
      go_enter Tryd.func67, Tryd.ntmps67
      go_wp2_with (at_make; refine wpList_make_full _ rfl _ _ 32 rfl (w.heap.size + 1 + 1) 34 i0 (.agg #[.int .i64 0, .slice none 0 0]) 2 Tryd.underlying32 hi hz0 hz1 .i64 .i64 _ _ n rfl rfl rfl rfl (by rw [hz2]; omega) (by unfold maxLen; omega) (by simp) ?_; intro w0 hown0 hg0; refine Hid.out ?_)
      refine Lib.hid ?_
      rw [show ((w.alloc (.cells #[.int .i64 kd, .slice a n cap] 34)).alloc (.cells #[.int .i64 0, .slice none 0 0] 34)).heap.size = w.heap.size + 1 + 1 from by simp] at hown0
      have HB0 : Hid (Below (w.heap.size + 2) ((w.alloc (.cells #[.int .i64 kd, .slice a n cap] 34)).alloc (.cells #[.int .i64 0, .slice none 0 0] 34)) w0) := (Below.refl _ _).grown hg0 (by simp) (fun k hk => by cases hk)
      have HO0 := Lib.hid hown0
      clear hown0 hg0 hi hz0 hz1 hz2
      have p00 := two_first HB0.out 0
      have p01 := two_first HB0.out 1
      go_wp2_with fail
      clear p00 p01
      go_loopw [20] (fun i wr => ∃ (k : Nat) (cs : List Value) (fps : List (List Nat)), k ≤ n ∧ i = .int .i64 k ∧ wr.ownsRow (w.heap.size + 1 + 1) 34 2 (.slice (some ⟨w.heap.size + 1 + 1, 0, none⟩) n n) n cs ∧
          fps.length = k ∧ Fp (w.heap.size + 1 + 1 + 1) wr.heap.size (List.flatten fps) ∧ (∀ j (h : j < ts.length), j < k → ∃ c0 c1 f, cs[j * 2]? = some c0 ∧ cs[j * 2 + 1]? = some c1 ∧ fps[j]? = some f ∧ TyOwn wr d (.agg #[c0, c1]) ts[j] f) ∧
          Below (w.heap.size + 2) ((w.alloc (.cells #[.int .i64 kd, .slice a n cap] 34)).alloc (.cells #[.int .i64 0, .slice none 0 0] 34)) wr) (fun i _ => n - (intOf i).toNat)
      case atStart => exact ⟨0, _, [], by omega, rfl, HO0.out, rfl, Fp.nil _ _, fun j h h2 => by omega, HB0.out⟩
      case round =>
        obtain ⟨k, cs, fps, hk, rfl, hown, hfl, hfp, hdone, hb⟩ := hrel
        have HF := Lib.hid hfp; clear hfp
        have HL := Lib.hid hfl; clear hfl
        have HO := Lib.hid hown
        have HD := Lib.hid hdone; clear hdone
        have HB := Lib.hid hb
        have HBW := Lib.hid (two_below hb); clear hb
        have hgl := (hown.lt (w.heap.size + 1 + 1) rfl).2
        clear hown
        by_cases hlt : k < n
        · have hlt2 : k < ts.length := by have := HN.out; omega
          obtain ⟨b, off, x0, x1, rfl, hbl, hc0, hc1, ht⟩ := HAT.out k hlt2
          obtain ⟨yk, ya, yn, yc, rfl, rfl⟩ := at_parts ht
          have hg := Ty.size_get ts k hlt2
          have e0 : wr.cell? ⟨b, off + k * 2, none⟩ = some (.int .i64 yk) := by rw [HBW.out.cell (p := ⟨b, off + k * 2, none⟩) hbl]; exact hc0
          have e1 : wr.cell? ⟨b, off + k * 2 + 1, none⟩ = some (.slice ya yn yc) := by rw [HBW.out.cell (p := ⟨b, off + k * 2 + 1, none⟩) hbl]; exact hc1
          have hp : Below wr.heap.size wr (wr.alloc (.cells #[.int .i64 yk, .slice ya yn yc] 34)) := below_alloc _ _
          have HT := Lib.hid ((ht.below HBW.out).below hp)
          have HP := Lib.hid hp
          have hzk : ts[k].size ≤ 1048577 := by have := HSZ.out; omega
          clear ht hc0 hc1 hp hg
          go_wp2_with fail
          refine (IH.out _ _ _ hzk HT.out).mono ?_
          rintro e w' ⟨v2, fp, rfl, ht, hfp, hb1⟩
          have hb2 := HP.out.trans (hb1.mono HP.out.size)
          have HF1 := Lib.hid (hfp.mono (lo' := wr.heap.size) HP.out.size (Nat.le_refl _)); clear hfp
          have HO1 := Lib.hid (own_below HO.out hb2); clear HO
          have hz1 := hb2.size
          obtain ⟨zk, za, zn, zc, rfl, HY⟩ := ty_parts ht
          clear ht
          have p0 : ∃ u, w'.cell? ⟨w.heap.size + 1 + 1, k * 2, none⟩ = some u := by
            rw [HO1.out.cellAt (k * 2) (by omega)]
            exact ⟨_, List.getElem?_eq_getElem (by rw [HO1.out.1]; omega)⟩
          have p1 : ∃ u, w'.cell? ⟨w.heap.size + 1 + 1, k * 2 + 1, none⟩ = some u := by
            rw [HO1.out.cellAt (k * 2 + 1) (by omega)]
            exact ⟨_, List.getElem?_eq_getElem (by rw [HO1.out.1]; omega)⟩
          obtain ⟨u0, p0⟩ := p0
          obtain ⟨u1, p1⟩ := p1
          have f0 := HO1.out.frozenAt (k * 2)
          have f1 := HO1.out.frozenAt (k * 2 + 1)
          have HB1 := Lib.hid hb2; clear hb1 hb2
          go_wp2_with fail
          have hcs : cs.length = n * 2 := HO1.out.1
          have hs1 := HO1.out.stored (k * 2) (.int .i64 zk)
          have hs2 := hs1.1.stored (k * 2 + 1) (.slice za zn zc)
          have hkeep : ∀ b, w.heap.size + 1 + 1 + 1 ≤ b → b < w'.heap.size → ((w'.setCell ⟨w.heap.size + 1 + 1, k * 2, none⟩ (.int .i64 zk)).setCell ⟨w.heap.size + 1 + 1, k * 2 + 1, none⟩ (.slice za zn zc)).heap[b]? = w'.heap[b]? := fun b h1 h2 => by
            rw [heap_setCell_other _ _ _ _ (by simp; omega), heap_setCell_other _ _ _ _ (by simp; omega)]
          have hF := HF.out
          have hF1 := HF1.out
          have hL := HL.out
          have hz2 : ((w'.setCell ⟨w.heap.size + 1 + 1, k * 2, none⟩ (.int .i64 zk)).setCell ⟨w.heap.size + 1 + 1, k * 2 + 1, none⟩ (.slice za zn zc)).heap.size = w'.heap.size := by simp
          refine ⟨⟨k + 1, _, fps ++ [fp], by omega, by go_num, hs2.1, by simp [hL], ?_, ?_, ((HB.out.trans (HB1.out.mono (by omega))).setCell (Nat.le_refl _) _).setCell (Nat.le_refl _) _⟩, by simp [intOf]; omega⟩
          · rw [hz2, List.flatten_append, List.flatten_cons, List.flatten_nil, List.append_nil]
            exact hF.join hF1 (by omega) hz1
          · intro j hj hjk
            by_cases hjk2 : j = k
            · subst hjk2
              refine ⟨_, _, fp, ?_, ?_, ?_, HY.out.kept (by simp) fun b hb => hkeep b ?_ (hF1.2 b hb).2⟩
              · rw [List.getElem?_set_ne (by omega), List.getElem?_set_self (by omega)]
              · rw [List.getElem?_set_self (by simp; omega)]
              · rw [List.getElem?_append_right (by omega), hL]; simp
              · have := (hF1.2 b hb).1; omega
            · obtain ⟨c0, c1, f, hc0, hc1, hfj, hty⟩ := HD.out j hj (by omega)
              have hsub : ∀ b, b ∈ f → b ∈ fps.flatten := fun b hb => List.mem_flatten.2 ⟨f, List.mem_of_getElem? hfj, hb⟩
              refine ⟨c0, c1, f, ?_, ?_, ?_, hty.kept (by simp; omega) fun b hb => ?_⟩
              · rw [List.getElem?_set_ne (by omega), List.getElem?_set_ne (by omega)]; exact hc0
              · rw [List.getElem?_set_ne (by omega), List.getElem?_set_ne (by omega)]; exact hc1
              · rw [List.getElem?_append_left (by omega)]; exact hfj
              · have hb2 := hF.2 b (hsub b hb)
                rw [hkeep b hb2.1 (by omega)]; exact HB1.out.block b hb2.2
        · obtain rfl : k = n := by omega
          have p00 := two_first HB.out 0
          have p01 := two_first HB.out 1
          have p10 := two_next HB.out 0
          have p11 := two_next HB.out 1
          have q10 := two_frozen HB.out 0
          have q11 := two_frozen HB.out 1
          go_wp2_with fail
          have hkeep : ∀ b, b ≠ w.heap.size + 1 → ((wr.setCell ⟨w.heap.size + 1, 0, none⟩ (.int .i64 kd)).setCell ⟨w.heap.size + 1, 1, none⟩ (.slice (some ⟨w.heap.size + 1 + 1, 0, none⟩) k k)).heap[b]? = wr.heap[b]? := fun b hb => by
            rw [heap_setCell_other _ _ _ _ hb, heap_setCell_other _ _ _ _ hb]
          have hz2 : ((wr.setCell ⟨w.heap.size + 1, 0, none⟩ (.int .i64 kd)).setCell ⟨w.heap.size + 1, 1, none⟩ (.slice (some ⟨w.heap.size + 1 + 1, 0, none⟩) k k)).heap.size = wr.heap.size := by simp
          have g0 : ((wr.setCell ⟨w.heap.size + 1, 0, none⟩ (.int .i64 kd)).setCell ⟨w.heap.size + 1, 1, none⟩ (.slice (some ⟨w.heap.size + 1 + 1, 0, none⟩) k k)).cell? ⟨w.heap.size + 1, 0, none⟩ = some (.int .i64 kd) := by simp [go_sem, p10]
          have g1 : ((wr.setCell ⟨w.heap.size + 1, 0, none⟩ (.int .i64 kd)).setCell ⟨w.heap.size + 1, 1, none⟩ (.slice (some ⟨w.heap.size + 1 + 1, 0, none⟩) k k)).cell? ⟨w.heap.size + 1, 1, none⟩ = some (.slice (some ⟨w.heap.size + 1 + 1, 0, none⟩) k k) := by simp [go_sem, p11]
          refine bodyPost_ret (v := .agg #[.int .i64 kd, .slice (some ⟨w.heap.size + 1 + 1, 0, none⟩) k k]) (by simp [results, Tryd.results67, go_sem, g0, g1]) rfl ?_
          refine ⟨_, [w.heap.size + 1 + 1] ++ fps.flatten, rfl, ⟨_, rfl, hk0, hk1, some ⟨w.heap.size + 1 + 1, 0, none⟩, k, [w.heap.size + 1 + 1], fps, by rw [HN.out], by rw [← HN.out]; exact Nat.le_refl _, by omega, by rw [HL.out, HN.out], rfl, fun b hb => by cases List.mem_singleton.1 hb; rw [hz2]; exact hgl, fun j hj => ?_⟩, ?_, (HBW.out.setCell (by simp) _).setCell (by simp) _⟩
          · obtain ⟨c0, c1, f, hc0, hc1, hfj, hty⟩ := HD.out j hj (by have := HN.out; omega)
            have hjk : j < k := by have := HN.out; omega
            refine ⟨w.heap.size + 1 + 1, 0, c0, c1, f, rfl, rfl, by rw [hz2]; exact hgl, ?_, ?_, ?_, hfj, hty.kept (by rw [hz2]; exact Nat.le_refl _) fun b hb => hkeep b ?_⟩
            · rw [World.cell?_of_block (hkeep _ (show w.heap.size + 1 + 1 ≠ w.heap.size + 1 by omega)), Nat.zero_add, HO.out.cellAt (j * 2) (by omega)]; exact hc0
            · rw [World.frozen?_of_block (hkeep _ (show w.heap.size + 1 + 1 ≠ w.heap.size + 1 by omega))]; exact HO.out.frozenAt _
            · rw [World.cell?_of_block (hkeep _ (show w.heap.size + 1 + 1 ≠ w.heap.size + 1 by omega)), Nat.zero_add, HO.out.cellAt (j * 2 + 1) (by omega)]; exact hc1
            · have := (HF.out.2 b (List.mem_flatten.2 ⟨f, List.mem_of_getElem? hfj, hb⟩)).1; omega
          · rw [hz2]
            exact (Fp.one (Nat.le_refl _) (Nat.lt_succ_self _)).join HF.out (by omega) (by omega) |>.mono (by omega) (Nat.le_refl _)
end Go.Proofs.YtmmnjdhmankieaaDoor
/-
  Proved: impl.detach gives a node memory of its own, in place: its type, its parts and theirs; all other memory stays as it was.
-/
namespace Go.Proofs.YtmmnjdhmankieaaDoor
open Go.RowKit

/-- All old memory but three cells of block b (a node's type and parts, from off on) is as it was. -/
def KeptAt (b off : Nat) (w w' : World) : Prop :=
  Below b w w' ∧ (∀ x, x < w.heap.size → x ≠ b → w'.heap[x]? = w.heap[x]?) ∧ (∀ o, (o < off + 3 ∨ off + 5 < o) → w'.cell? ⟨b, o, none⟩ = w.cell? ⟨b, o, none⟩) ∧ (∀ o, w'.frozen? ⟨b, o, none⟩ = w.frozen? ⟨b, o, none⟩)
def DetSaid (d : Nat) : Prop := ∀ (b off : Nat) (c0 c1 c2 c3 c4 c5 : Value) (t : Ex) (w0 w : World), t.bulk ≤ 1048576 → ExAt w0 d (.agg #[c0, c1, c2, c3, c4, c5]) t → Below w0.heap.size w0 w → w0.heap.size ≤ b → b < w.heap.size →
  w.cell? ⟨b, off, none⟩ = some c0 → w.cell? ⟨b, off + 1, none⟩ = some c1 → w.cell? ⟨b, off + 2, none⟩ = some c2 → w.cell? ⟨b, off + 3, none⟩ = some c3 → w.cell? ⟨b, off + 4, none⟩ = some c4 → w.cell? ⟨b, off + 5, none⟩ = some c5 → (∀ o, w.frozen? ⟨b, o, none⟩ = false) →
  Calls Tryd.prog 73 #[.pointer (some ⟨b, off, none⟩)] w fun e w' => ∃ d3 d4 d5 fp, e = .returned (.tuple #[]) ∧
    w'.cell? ⟨b, off, none⟩ = some c0 ∧ w'.cell? ⟨b, off + 1, none⟩ = some c1 ∧ w'.cell? ⟨b, off + 2, none⟩ = some c2 ∧ w'.cell? ⟨b, off + 3, none⟩ = some d3 ∧ w'.cell? ⟨b, off + 4, none⟩ = some d4 ∧ w'.cell? ⟨b, off + 5, none⟩ = some d5 ∧ ExOwn w' d (.agg #[c0, c1, c2, d3, d4, d5]) t fp ∧ Fp w.heap.size w'.heap.size fp ∧ KeptAt b off w w'

theorem set_far {w : World} {b o p : Nat} {u : Value} (h : o ≠ p) : (w.setCell ⟨b, p, none⟩ u).cell? ⟨b, o, none⟩ = w.cell? ⟨b, o, none⟩ := World.cell?_setCell_other _ _ _ _ (by first | (simp; omega) | simp)
/-- The loop over the parts is done: the node owns its memory. -/
theorem det_done {wr : World} {d g cap : Nat} {es : List Ex} {fps : List (List Nat)} (hc : es.length ≤ cap) (hm : cap ≤ 9223372036854775807) (hg : g < wr.heap.size) (hf : ∀ o, wr.frozen? ⟨g, o, none⟩ = false) (hl : fps.length = es.length)
    (h : ∀ j (h : j < es.length), ∃ x0 x1 x2 x3 x4 x5 f, wr.cell? ⟨g, j * 6, none⟩ = some x0 ∧ wr.cell? ⟨g, j * 6 + 1, none⟩ = some x1 ∧ wr.cell? ⟨g, j * 6 + 2, none⟩ = some x2 ∧ wr.cell? ⟨g, j * 6 + 3, none⟩ = some x3 ∧ wr.cell? ⟨g, j * 6 + 4, none⟩ = some x4 ∧ wr.cell? ⟨g, j * 6 + 5, none⟩ = some x5 ∧ fps[j]? = some f ∧ ExOwn wr d (.agg #[x0, x1, x2, x3, x4, x5]) es[j] f) :
    ExsOwn wr d (.slice (some ⟨g, 0, none⟩) es.length cap) es ([g] ++ fps.flatten) := by
  refine ⟨_, _, [g], fps, rfl, hc, hm, hl, rfl, fun b hb => by cases List.mem_singleton.1 hb; exact hg, fun j hj => ?_⟩
  obtain ⟨x0, x1, x2, x3, x4, x5, f, h0, h1, h2, h3, h4, h5, h6, h7⟩ := h j hj
  exact ⟨g, 0, x0, x1, x2, x3, x4, x5, f, rfl, rfl, hg, by rw [Nat.zero_add]; exact h0, by rw [Nat.zero_add]; exact h1, by rw [Nat.zero_add]; exact h2, by rw [Nat.zero_add]; exact h3, by rw [Nat.zero_add]; exact h4, by rw [Nat.zero_add]; exact h5, hf, h6, h7⟩
theorem det_none (wr : World) (d : Nat) (a : Option Addr) (cap : Nat) (hm : cap ≤ 9223372036854775807) : ExsOwn wr d (.slice a 0 cap) [] [] :=
  ⟨_, _, [], [], rfl, Nat.zero_le _, hm, rfl, rfl, (fun b hb => by cases hb), fun j hj => by simp at hj⟩

set_option maxRecDepth 100000 in
set_option maxHeartbeats 4000000 in
theorem detach_step (d : Nat) (ih : DetSaid d) : DetSaid (d + 1) := by
  intro b off c0 c1 c2 c3 c4 c5 t w0 w hsz hat hb0 hwb hbw h0 h1 h2 h3 h4 h5 hfr
  have IH := Lib.hid ih; clear ih
  obtain ⟨k', nm', n', tk, ta, tn, tc, sa, sn, sc, rfl, rfl, rfl, rfl, rfl, rfl⟩ := ex_cells hat
  cases t with
  | node kd nm n ty es =>
    obtain ⟨c3, c4, sl, hv, hk0, hk1, hn0, hn1, hnm, hty, hes⟩ := hat
    injection hv with hv
    injection hv with hv
    simp at hv
    obtain ⟨rfl, rfl, rfl, rfl, rfl, rfl⟩ := hv
    have hbk : (Ex.node k' nm' n' ty es).bulk = nm'.size + (ty.size - 1) + Ex.bulks es := rfl
    have hsz1 : ty.size ≤ 1048577 := by omega
    have HSZ : Hid (Ex.bulks es ≤ 1048576) := by show _ ≤ _; omega
    have hlen : es.length ≤ 1048576 := by have := Ex.length_le es; have := HSZ.out; omega
    clear hsz hbk
    have HB0 := Lib.hid hb0; clear hb0
    have HTY := Lib.hid (hty.below HB0.out); clear hty
    have HES : Hid (ExsAt w0 d (.slice sa sn sc) es) := hes
    have HFR := Lib.hid hfr
    have E0 := Lib.hid h0
    have E1 := Lib.hid h1
    have E2 := Lib.hid h2
    have E3 := Lib.hid h3
    have E4 := Lib.hid h4
    have E5 := Lib.hid h5
    clear h0 h1 h2 h3 h4 h5
    have u3 := hfr (off + 3)
    have u4 := hfr (off + 4)
    clear hfr hes
    go_enter Tryd.func73, Tryd.ntmps73
    have e3 := E3.out
    have e4 := E4.out
    go_wp2_with fail
    clear e3 e4 u3 u4
    refine (implCopy d _ ty _ hsz1 HTY.out).mono ?_
    rintro e w1 ⟨v1, f1, rfl, ht, hf1, hb1⟩
    obtain ⟨gk, ga, gn, gc, rfl, HG⟩ := ty_parts ht
    have F1 := Lib.hid hf1
    have B1 := Lib.hid hb1
    have hz1 := hb1.size
    clear ht hf1 hb1 HTY
    have kc1 : ∀ o, w1.cell? ⟨b, o, none⟩ = w.cell? ⟨b, o, none⟩ := fun o => B1.out.cell (p := ⟨b, o, none⟩) hbw
    have kf1 : ∀ o, w1.frozen? ⟨b, o, none⟩ = false := fun o => (B1.out.frozen (p := ⟨b, o, none⟩) hbw).trans (HFR.out o)
    have KC1 := Lib.hid kc1
    have KF1 := Lib.hid kf1
    have e3 := (kc1 (off + 3)).trans E3.out
    have e4 := (kc1 (off + 4)).trans E4.out
    have e5 := (kc1 (off + 5)).trans E5.out
    have u3 := kf1 (off + 3)
    have u4 := kf1 (off + 4)
    have e5s : ((w1.setCell ⟨b, off + 3, none⟩ (.int .i64 gk)).setCell ⟨b, off + 4, none⟩ (.slice ga gn gc)).cell? ⟨b, off + 5, none⟩ = some (.slice sa sn sc) := by rw [set_far (by omega), set_far (by omega)]; exact e5
    have E5S := Lib.hid e5s
    have BB1 : Hid (Below w0.heap.size w0 ((w1.setCell ⟨b, off + 3, none⟩ (.int .i64 gk)).setCell ⟨b, off + 4, none⟩ (.slice ga gn gc))) := ((HB0.out.trans (B1.out.mono HB0.out.size)).setCell hwb _).setCell hwb _
    have hs1 : ((w1.setCell ⟨b, off + 3, none⟩ (.int .i64 gk)).setCell ⟨b, off + 4, none⟩ (.slice ga gn gc)).heap.size = w1.heap.size := by simp
    clear kc1 kf1
    go_wp2_with fail
    clear e3 e4 e5 u3 u4 e5s
    refine (cloneEx d _ es w0 _ HES.out BB1.out hlen).mono ?_
    rintro e w2 ⟨a2, cap2, rfl, hc2, hm2, hb2, hrow⟩
    have B2 := Lib.hid hb2; clear hb2
    have HROW := Lib.hid hrow; clear hrow
    have hz2 := B2.out.size
    rw [hs1] at hz2
    have hbS : b < ((w1.setCell ⟨b, off + 3, none⟩ (.int .i64 gk)).setCell ⟨b, off + 4, none⟩ (.slice ga gn gc)).heap.size := by rw [hs1]; omega
    have hb2' : b < w2.heap.size := by omega
    have kc2 : ∀ o, o ≠ off + 3 → o ≠ off + 4 → w2.cell? ⟨b, o, none⟩ = w.cell? ⟨b, o, none⟩ := fun o h1 h2 => by
      rw [B2.out.cell (p := ⟨b, o, none⟩) hbS, set_far h2, set_far h1]; exact KC1.out o
    have kf2 : ∀ o, w2.frozen? ⟨b, o, none⟩ = false := fun o => by
      rw [B2.out.frozen (p := ⟨b, o, none⟩) hbS, World.frozen?_setCell, World.frozen?_setCell]; exact KF1.out o
    have k23 : w2.cell? ⟨b, off + 3, none⟩ = some (.int .i64 gk) := by
      rw [B2.out.cell (p := ⟨b, off + 3, none⟩) hbS, set_far (by omega)]
      exact World.cell?_setCell_same _ _ _ ((KC1.out _).trans E3.out)
    have k24 : w2.cell? ⟨b, off + 4, none⟩ = some (.slice ga gn gc) := by
      rw [B2.out.cell (p := ⟨b, off + 4, none⟩) hbS]
      exact World.cell?_setCell_same _ _ _ (by rw [set_far (by omega)]; exact (KC1.out _).trans E4.out)
    have KC2 := Lib.hid kc2
    have KF2 := Lib.hid kf2
    have K23 := Lib.hid k23
    have K24 := Lib.hid k24
    have e5 := (kc2 (off + 5) (by omega) (by omega)).trans E5.out
    have u5 := kf2 (off + 5)
    have e5s : (w2.setCell ⟨b, off + 5, none⟩ (.slice a2 es.length cap2)).cell? ⟨b, off + 5, none⟩ = some (.slice a2 es.length cap2) := World.cell?_setCell_same _ _ _ e5
    have E5T := Lib.hid e5s
    clear kc2 kf2 k23 k24
    go_wp2_with fail
    clear e5 u5 e5s
    -- what the rest is shown from: the node's cells, the type's copy, and what was kept, at the world behind the stores
    obtain ⟨W, hW⟩ : ∃ W, W = (w2.setCell ⟨b, off + 5, none⟩ (.slice a2 es.length cap2)) := ⟨_, rfl⟩
    have hzW : W.heap.size = w2.heap.size := by rw [hW]; simp
    have CB : Hid (∀ o, o ≠ off + 3 → o ≠ off + 4 → o ≠ off + 5 → W.cell? ⟨b, o, none⟩ = w.cell? ⟨b, o, none⟩) := fun o h1 h2 h3 => by
      rw [hW, set_far h3]; exact KC2.out o h1 h2
    have C3 : Hid (W.cell? ⟨b, off + 3, none⟩ = some (.int .i64 gk)) := by show _ = _; rw [hW, set_far (by omega)]; exact K23.out
    have C4 : Hid (W.cell? ⟨b, off + 4, none⟩ = some (.slice ga gn gc)) := by show _ = _; rw [hW, set_far (by omega)]; exact K24.out
    have C5 : Hid (W.cell? ⟨b, off + 5, none⟩ = some (.slice a2 es.length cap2)) := by show _ = _; rw [hW]; exact E5T.out
    have CF : Hid (∀ o, W.frozen? ⟨b, o, none⟩ = false) := fun o => by rw [hW, World.frozen?_setCell]; exact KF2.out o
    have KX : Hid (∀ x, x < w1.heap.size → x ≠ b → W.heap[x]? = w1.heap[x]?) := fun x h1 h2 => by
      rw [hW, heap_setCell_other _ _ _ _ h2, B2.out.block x (by rw [hs1]; exact h1), heap_setCell_other _ _ _ _ h2, heap_setCell_other _ _ _ _ h2]
    have BB : Hid (Below b w W) := by
      show Below _ _ _
      rw [hW]
      have q1 : Below b w w1 := B1.out.mono (by omega)
      have q2 : Below b w ((w1.setCell ⟨b, off + 3, none⟩ (.int .i64 gk)).setCell ⟨b, off + 4, none⟩ (.slice ga gn gc)) := (q1.setCell (Nat.le_refl _) _).setCell (Nat.le_refl _) _
      have q3 : Below b w w2 := q2.trans (B2.out.mono (by rw [hs1]; omega))
      exact q3.setCell (Nat.le_refl _) _
    have BW0 : Hid (Below w0.heap.size w0 W) := HB0.out.trans (BB.out.mono hwb)
    have HGW : Hid (TyOwn W d (.agg #[.int .i64 gk, .slice ga gn gc]) ty f1) := HG.kept (by rw [hzW]; omega) fun x hx => KX.out x (F1.out.2 x hx).2 (by have := (F1.out.2 x hx).1; omega)
    have HROWW : Hid (0 < es.length → ∃ g, a2 = some ⟨g, 0, none⟩ ∧ w1.heap.size ≤ g ∧ g < W.heap.size ∧ (∀ o, W.frozen? ⟨g, o, none⟩ = false) ∧
        ∀ j (h : j < es.length), ∃ x0 x1 x2 x3 x4 x5, W.cell? ⟨g, j * 6, none⟩ = some x0 ∧ W.cell? ⟨g, j * 6 + 1, none⟩ = some x1 ∧ W.cell? ⟨g, j * 6 + 2, none⟩ = some x2 ∧ W.cell? ⟨g, j * 6 + 3, none⟩ = some x3 ∧ W.cell? ⟨g, j * 6 + 4, none⟩ = some x4 ∧ W.cell? ⟨g, j * 6 + 5, none⟩ = some x5 ∧ ExAt w0 d (.agg #[x0, x1, x2, x3, x4, x5]) es[j]) := by
      show _ → _
      intro hp
      obtain ⟨g, hg, hg1, hg2, hgf, hgc⟩ := HROW.out hp
      rw [hs1] at hg1
      have hgb : g ≠ b := by omega
      have hgc2 : ∀ o, W.cell? ⟨g, o, none⟩ = w2.cell? ⟨g, o, none⟩ := fun o => by rw [hW]; exact World.cell?_of_block (a := ⟨g, o, none⟩) (heap_setCell_other _ _ _ _ hgb)
      refine ⟨g, hg, hg1, by rw [hzW]; exact hg2, fun o => by rw [hW, World.frozen?_setCell]; exact hgf o, fun j hj => ?_⟩
      obtain ⟨x0, x1, x2, x3, x4, x5, h0, h1, h2, h3, h4, h5, ht⟩ := hgc j hj
      exact ⟨x0, x1, x2, x3, x4, x5, (hgc2 _).trans h0, (hgc2 _).trans h1, (hgc2 _).trans h2, (hgc2 _).trans h3, (hgc2 _).trans h4, (hgc2 _).trans h5, ht⟩
    clear KC2 KF2 K23 K24 E5T B2 HROW KC1 KF1
    rw [← hW]
    clear hW
    have c5 := C5.out
    by_cases hp : 0 < es.length
    · obtain ⟨g, rfl, hg1, hg2, hgf, hgc⟩ := HROWW.out hp
      have HGC := Lib.hid hgc
      have HGF := Lib.hid hgf
      clear hgc hgf HROWW
      have hgb : b < g := by omega
      go_wp2_with fail
      clear c5
      go_loopw [24] (fun i wr => ∃ (k : Nat) (fps : List (List Nat)), k ≤ es.length ∧ i = .int .i64 k ∧ fps.length = k ∧ Fp W.heap.size wr.heap.size (List.flatten fps) ∧ Below g W wr ∧ (∀ o, wr.frozen? ⟨g, o, none⟩ = false) ∧
        (∀ j (h : j < es.length), ∃ x0 x1 x2 x3 x4 x5, wr.cell? ⟨g, j * 6, none⟩ = some x0 ∧ wr.cell? ⟨g, j * 6 + 1, none⟩ = some x1 ∧ wr.cell? ⟨g, j * 6 + 2, none⟩ = some x2 ∧ wr.cell? ⟨g, j * 6 + 3, none⟩ = some x3 ∧ wr.cell? ⟨g, j * 6 + 4, none⟩ = some x4 ∧ wr.cell? ⟨g, j * 6 + 5, none⟩ = some x5 ∧ (j < k → ∃ f, fps[j]? = some f ∧ ExOwn wr d (.agg #[x0, x1, x2, x3, x4, x5]) es[j] f) ∧ (k ≤ j → ExAt w0 d (.agg #[x0, x1, x2, x3, x4, x5]) es[j]))) (fun i _ => es.length - (intOf i).toNat)
      case atStart =>
        refine ⟨0, [], by omega, rfl, rfl, Fp.nil _ _, Below.refl _ _, HGF.out, fun j hj => ?_⟩
        obtain ⟨x0, x1, x2, x3, x4, x5, h0, h1, h2, h3, h4, h5, ht⟩ := HGC.out j hj
        exact ⟨x0, x1, x2, x3, x4, x5, h0, h1, h2, h3, h4, h5, fun h => by omega, fun _ => ht⟩
      case round =>
        obtain ⟨k, fps, hk, rfl, hfl, hfp, hb, hgfr, hrow⟩ := hrel
        have FP := Lib.hid hfp; clear hfp
        have FL := Lib.hid hfl; clear hfl
        have HB := Lib.hid hb; clear hb
        have GF := Lib.hid hgfr; clear hgfr
        have RW := Lib.hid hrow; clear hrow
        have hzr := HB.out.size
        have z5 : wr.cell? ⟨b, off + 5, none⟩ = some (.slice (some ⟨g, 0, none⟩) es.length cap2) := (HB.out.cell (p := ⟨b, off + 5, none⟩) hgb).trans C5.out
        by_cases hlt : k < es.length
        · have hgz : es[k].bulk ≤ 1048576 := by have := Ex.bulk_get es k hlt; have := HSZ.out; omega
          obtain ⟨x0, x1, x2, x3, x4, x5, h0, h1, h2, h3, h4, h5, _, ht⟩ := RW.out k hlt
          have BR : Hid (Below w0.heap.size w0 wr) := BW0.out.trans (HB.out.mono (by omega))
          have HT := Lib.hid (ht (Nat.le_refl _))
          have H0 := Lib.hid h0
          have H1 := Lib.hid h1
          have H2 := Lib.hid h2
          have H3 := Lib.hid h3
          have H4 := Lib.hid h4
          have H5 := Lib.hid h5
          clear ht h0 h1 h2 h3 h4 h5
          go_wp2_with fail
          refine (IH.out g (k * 6) x0 x1 x2 x3 x4 x5 es[k] w0 wr hgz HT.out BR.out (by omega) (by omega) H0.out H1.out H2.out H3.out H4.out H5.out GF.out).mono ?_
          rintro e w' ⟨d3, d4, d5, fp, rfl, q0, q1, q2, q3, q4, q5, hown, hfp, hkb, hkx, hkc, hkf⟩
          have OWN := Lib.hid hown
          have FQ := Lib.hid hfp
          have KB := Lib.hid hkb
          have KHX := Lib.hid hkx
          have KCC := Lib.hid hkc
          have KFF := Lib.hid hkf
          have Q0 := Lib.hid q0
          have Q1 := Lib.hid q1
          have Q2 := Lib.hid q2
          have Q3 := Lib.hid q3
          have Q4 := Lib.hid q4
          have Q5 := Lib.hid q5
          clear hown hfp hkb hkx hkc hkf q0 q1 q2 q3 q4 q5 z5
          have z5' : w'.cell? ⟨b, off + 5, none⟩ = some (.slice (some ⟨g, 0, none⟩) es.length cap2) := (KB.out.cell (p := ⟨b, off + 5, none⟩) hgb).trans ((HB.out.cell (p := ⟨b, off + 5, none⟩) hgb).trans C5.out)
          go_wp2_with fail
          clear z5'
          have hzw := KB.out.size
          have hF := FP.out
          have hQ := FQ.out
          have hL := FL.out
          refine ⟨⟨k + 1, fps ++ [fp], by omega, by go_num, by simp [hL], ?_, HB.out.trans KB.out, fun o => (KFF.out o).trans (GF.out o), fun j hj => ?_⟩, by simp [intOf]; omega⟩
          · rw [List.flatten_append, List.flatten_cons, List.flatten_nil, List.append_nil]
            exact hF.join hQ (by omega) (by omega)
          · by_cases hjk : j = k
            · subst hjk
              exact ⟨x0, x1, x2, d3, d4, d5, Q0.out, Q1.out, Q2.out, Q3.out, Q4.out, Q5.out, fun _ => ⟨fp, by rw [List.getElem?_append_right (by omega), hL]; simp, OWN.out⟩, fun h => by omega⟩
            · obtain ⟨x0, x1, x2, x3, x4, x5, h0, h1, h2, h3, h4, h5, hdone, hto⟩ := RW.out j hj
              refine ⟨x0, x1, x2, x3, x4, x5, (by rw [KCC.out (j * 6) (by omega)]; exact h0), (by rw [KCC.out (j * 6 + 1) (by omega)]; exact h1), (by rw [KCC.out (j * 6 + 2) (by omega)]; exact h2), (by rw [KCC.out (j * 6 + 3) (by omega)]; exact h3), (by rw [KCC.out (j * 6 + 4) (by omega)]; exact h4), (by rw [KCC.out (j * 6 + 5) (by omega)]; exact h5), fun h => ?_, fun h => hto (by omega)⟩
              obtain ⟨f, hf, ho⟩ := hdone (by omega)
              refine ⟨f, by rw [List.getElem?_append_left (by omega)]; exact hf, ho.kept (by omega) fun x hx => ?_⟩
              have hx2 := hF.2 x (List.mem_flatten.2 ⟨f, List.mem_of_getElem? hf, hx⟩)
              exact KHX.out x hx2.2 (by omega)
        · obtain rfl : k = es.length := by omega
          go_wp2_with fail
          refine bodyPost_end (results_none (by kernel_rfl) _ _ _) rfl ?_
          have hall : ∀ j (h : j < es.length), ∃ x0 x1 x2 x3 x4 x5 f, wr.cell? ⟨g, j * 6, none⟩ = some x0 ∧ wr.cell? ⟨g, j * 6 + 1, none⟩ = some x1 ∧ wr.cell? ⟨g, j * 6 + 2, none⟩ = some x2 ∧ wr.cell? ⟨g, j * 6 + 3, none⟩ = some x3 ∧ wr.cell? ⟨g, j * 6 + 4, none⟩ = some x4 ∧ wr.cell? ⟨g, j * 6 + 5, none⟩ = some x5 ∧ fps[j]? = some f ∧ ExOwn wr d (.agg #[x0, x1, x2, x3, x4, x5]) es[j] f := fun j hj => by
            obtain ⟨x0, x1, x2, x3, x4, x5, h0, h1, h2, h3, h4, h5, hdone, _⟩ := RW.out j hj
            obtain ⟨f, hf, ho⟩ := hdone hj
            exact ⟨x0, x1, x2, x3, x4, x5, f, h0, h1, h2, h3, h4, h5, hf, ho⟩
          have hso := det_done hc2 hm2 (by omega) GF.out FL.out hall
          have kb : ∀ o, wr.cell? ⟨b, o, none⟩ = W.cell? ⟨b, o, none⟩ := fun o => HB.out.cell (p := ⟨b, o, none⟩) hgb
          have hty : TyOwn wr d (.agg #[.int .i64 gk, .slice ga gn gc]) ty f1 := HGW.out.kept hzr fun x hx => HB.out.block x (by have := (F1.out.2 x hx).2; omega)
          refine ⟨.int .i64 gk, .slice ga gn gc, .slice (some ⟨g, 0, none⟩) es.length cap2, f1 ++ ([g] ++ fps.flatten), rfl, (kb _).trans ((CB.out _ (by omega) (by omega) (by omega)).trans E0.out), (kb _).trans ((CB.out _ (by omega) (by omega) (by omega)).trans E1.out), (kb _).trans ((CB.out _ (by omega) (by omega) (by omega)).trans E2.out), (kb _).trans C3.out, (kb _).trans C4.out, (kb _).trans C5.out,
            ⟨_, _, _, f1, _, rfl, hk0, hk1, hn0, hn1, hnm, rfl, hty, hso⟩, ?_, BB.out.trans (HB.out.mono (by omega)), fun x h1 h2 => ?_, fun o ho => ?_, fun o => ?_⟩
          · have hj1 := (Fp.one (g := g) (lo := w1.heap.size) (hi := W.heap.size) hg1 hg2).join FP.out (by omega) hzr
            exact (F1.out.join hj1 hz1 (by omega)).mono (Nat.le_refl _) (Nat.le_refl _)
          · rw [HB.out.block x (by omega), KX.out x (by omega) h2]
            exact B1.out.block x h1
          · rw [kb, CB.out o (by omega) (by omega) (by omega)]
          · rw [HB.out.frozen (p := ⟨b, o, none⟩) hgb, CF.out o, HFR.out o]
    · have hl0 : es.length = 0 := by omega
      obtain rfl : es = [] := List.eq_nil_of_length_eq_zero hl0
      go_wp2_with fail
      go_loopw [24] (fun i wr => i = .int .i64 0 ∧ wr = W) (fun _ _ => 0)
      case atStart => exact ⟨rfl, rfl⟩
      case round =>
        obtain ⟨rfl, rfl⟩ := hrel
        go_wp2_with fail
        refine bodyPost_end (results_none (by kernel_rfl) _ _ _) rfl ?_
        refine ⟨.int .i64 gk, .slice ga gn gc, .slice a2 0 cap2, f1 ++ [], rfl, (CB.out _ (by omega) (by omega) (by omega)).trans E0.out, (CB.out _ (by omega) (by omega) (by omega)).trans E1.out, (CB.out _ (by omega) (by omega) (by omega)).trans E2.out, C3.out, C4.out, C5.out,
          ⟨_, _, _, f1, _, rfl, hk0, hk1, hn0, hn1, hnm, rfl, HGW.out, det_none _ _ _ _ hm2⟩, ?_, BB.out, fun x h1 h2 => ?_, fun o ho => ?_, fun o => ?_⟩
        · rw [List.append_nil]
          exact F1.out.mono (Nat.le_refl _) (by omega)
        · rw [KX.out x (by omega) h2]
          exact B1.out.block x h1
        · exact CB.out o (by omega) (by omega) (by omega)
        · rw [CF.out o, HFR.out o]
theorem detach_all : ∀ d, DetSaid d
  | 0 => fun _ _ _ _ _ _ _ _ _ _ _ _ h => h.elim
  | d + 1 => detach_step d (detach_all d)
end Go.Proofs.YtmmnjdhmankieaaDoor
/-
  Proved: impl.copyExpr copies an expression into new memory; the memory that was there stays as it was.
-/
namespace Go.Proofs.YtmmnjdhmankieaaDoor
open Go.RowKit

set_option maxRecDepth 100000 in
set_option maxHeartbeats 4000000 in
theorem implExCopy (d : Nat) (v : Value) (t : Ex) (w : World) (hsz : t.bulk ≤ 1048576) (h : ExAt w d v t) :
    Calls Tryd.prog 57 #[v] w (ToExEnd d t w) := by
  obtain ⟨k, nm, n, tk, ta, tn, tc, sa, sn, sc, rfl⟩ := ex_parts h
  have B : Hid (Below w.heap.size w ((w.alloc (.cells #[.int .i64 k, .string nm, .int .i64 n, .int .i64 tk, .slice ta tn tc, .slice sa sn sc] 37)).alloc (.cells #[.int .i64 0, .string ⟨#[]⟩, .int .i64 0, .int .i64 0, .slice none 0 0, .slice none 0 0] 37))) := ((Below.refl _ _).alloc (Nat.le_refl _) _).alloc (by simp) _
  have XA : Hid (BoxAt ((w.alloc (.cells #[.int .i64 k, .string nm, .int .i64 n, .int .i64 tk, .slice ta tn tc, .slice sa sn sc] 37)).alloc (.cells #[.int .i64 0, .string ⟨#[]⟩, .int .i64 0, .int .i64 0, .slice none 0 0, .slice none 0 0] 37)) w.heap.size #[.int .i64 k, .string nm, .int .i64 n, .int .i64 tk, .slice ta tn tc, .slice sa sn sc]) := (BoxAt.new _ _ _).below (below_alloc _ _)
  have FA : Hid (FreeAt ((w.alloc (.cells #[.int .i64 k, .string nm, .int .i64 n, .int .i64 tk, .slice ta tn tc, .slice sa sn sc] 37)).alloc (.cells #[.int .i64 0, .string ⟨#[]⟩, .int .i64 0, .int .i64 0, .slice none 0 0, .slice none 0 0] 37)) w.heap.size) := (FreeAt.new _ _ _).below (below_alloc _ _)
  have XR : Hid (BoxAt ((w.alloc (.cells #[.int .i64 k, .string nm, .int .i64 n, .int .i64 tk, .slice ta tn tc, .slice sa sn sc] 37)).alloc (.cells #[.int .i64 0, .string ⟨#[]⟩, .int .i64 0, .int .i64 0, .slice none 0 0, .slice none 0 0] 37)) (w.heap.size + 1) #[.int .i64 0, .string ⟨#[]⟩, .int .i64 0, .int .i64 0, .slice none 0 0, .slice none 0 0]) := box_at (BoxAt.new _ _ _) (by simp)
  have FR : Hid (FreeAt ((w.alloc (.cells #[.int .i64 k, .string nm, .int .i64 n, .int .i64 tk, .slice ta tn tc, .slice sa sn sc] 37)).alloc (.cells #[.int .i64 0, .string ⟨#[]⟩, .int .i64 0, .int .i64 0, .slice none 0 0, .slice none 0 0] 37)) (w.heap.size + 1)) := free_at (FreeAt.new _ _ _) (by simp)
  have hz : ((w.alloc (.cells #[.int .i64 k, .string nm, .int .i64 n, .int .i64 tk, .slice ta tn tc, .slice sa sn sc] 37)).alloc (.cells #[.int .i64 0, .string ⟨#[]⟩, .int .i64 0, .int .i64 0, .slice none 0 0, .slice none 0 0] 37)).heap.size = w.heap.size + 2 := by simp
  have H := Lib.hid h; clear h
  go_enter Tryd.func57, Tryd.ntmps57
  go_wp2_with fail
  refine (detach_all d w.heap.size 0 _ _ _ _ _ _ t w _ hsz H.out B.out (Nat.le_refl _) XA.out.1 (XA.out.2 0) (XA.out.2 1) (XA.out.2 2) (XA.out.2 3) (XA.out.2 4) (XA.out.2 5) FA.out.2).mono ?_
  rintro e w1 ⟨d3, d4, d5, fp, rfl, q0, q1, q2, q3, q4, q5, hown, hfp, hkb, hkx, hkc, hkf⟩
  obtain ⟨_, _, _, zk, za, zn, zc, ya, ym, yc, e0, e1, e2, rfl, rfl, rfl⟩ := ex_cells hown.at_
  injection e0 with _ e0
  injection e1 with e1
  injection e2 with _ e2
  subst e0 e1 e2
  have HO := Lib.hid hown
  have HF := Lib.hid hfp
  have KX := Lib.hid hkx
  have Q0 := Lib.hid q0
  have Q1 := Lib.hid q1
  have Q2 := Lib.hid q2
  have Q3 := Lib.hid q3
  have Q4 := Lib.hid q4
  have Q5 := Lib.hid q5
  have hz1 := hkb.size
  rw [hz] at hz1
  have B1 : Hid (Below w.heap.size w w1) := B.out.trans hkb
  have XR1 : Hid (BoxAt w1 (w.heap.size + 1) #[.int .i64 0, .string ⟨#[]⟩, .int .i64 0, .int .i64 0, .slice none 0 0, .slice none 0 0]) := XR.out.kept hkb.size (hkx _ XR.out.1 (by omega))
  have FR1 : Hid (FreeAt w1 (w.heap.size + 1)) := ⟨by omega, fun j => (World.frozen?_of_block (a := ⟨w.heap.size + 1, j, none⟩) (hkx (w.heap.size + 1) XR.out.1 (by omega))).trans (FR.out.2 j)⟩
  clear hown hfp hkb hkx hkc hkf q0 q1 q2 q3 q4 q5 XA FA XR FR B H
  have p0 := Q0.out
  have p1 := Q1.out
  have p2 := Q2.out
  have p3 := Q3.out
  have p4 := Q4.out
  have p5 := Q5.out
  have r0 := XR1.out.2 0
  have s0 := FR1.out.2 0
  have r1 := XR1.out.2 1
  have s1 := FR1.out.2 1
  have r2 := XR1.out.2 2
  have s2 := FR1.out.2 2
  have r3 := XR1.out.2 3
  have s3 := FR1.out.2 3
  have r4 := XR1.out.2 4
  have s4 := FR1.out.2 4
  have r5 := XR1.out.2 5
  have s5 := FR1.out.2 5
  go_wp2_with fail
  have XRF : BoxAt ((((((w1.setCell ⟨w.heap.size + 1, 0, none⟩ (.int .i64 k)).setCell ⟨w.heap.size + 1, 1, none⟩ (.string nm)).setCell ⟨w.heap.size + 1, 2, none⟩ (.int .i64 n)).setCell ⟨w.heap.size + 1, 3, none⟩ (.int .i64 zk)).setCell ⟨w.heap.size + 1, 4, none⟩ (.slice za zn zc)).setCell ⟨w.heap.size + 1, 5, none⟩ (.slice ya ym yc)) (w.heap.size + 1) #[.int .i64 k, .string nm, .int .i64 n, .int .i64 zk, .slice za zn zc, .slice ya ym yc] := by
    have := ((((((XR1.out.put (j := 0) (u := .int .i64 k) (by simp)).put (j := 1) (u := .string nm) (by simp)).put (j := 2) (u := .int .i64 n) (by simp)).put (j := 3) (u := .int .i64 zk) (by simp)).put (j := 4) (u := .slice za zn zc) (by simp)).put (j := 5) (u := .slice ya ym yc) (by simp))
    exact this
  have K1 : ∀ b, b ≠ w.heap.size + 1 → ((((((w1.setCell ⟨w.heap.size + 1, 0, none⟩ (.int .i64 k)).setCell ⟨w.heap.size + 1, 1, none⟩ (.string nm)).setCell ⟨w.heap.size + 1, 2, none⟩ (.int .i64 n)).setCell ⟨w.heap.size + 1, 3, none⟩ (.int .i64 zk)).setCell ⟨w.heap.size + 1, 4, none⟩ (.slice za zn zc)).setCell ⟨w.heap.size + 1, 5, none⟩ (.slice ya ym yc)).heap[b]? = w1.heap[b]? := fun b hb => by rw [heap_setCell_other _ _ _ _ (by simpa using hb), heap_setCell_other _ _ _ _ (by simpa using hb), heap_setCell_other _ _ _ _ (by simpa using hb), heap_setCell_other _ _ _ _ (by simpa using hb), heap_setCell_other _ _ _ _ (by simpa using hb), heap_setCell_other _ _ _ _ (by simpa using hb)]
  have hzf : ((((((w1.setCell ⟨w.heap.size + 1, 0, none⟩ (.int .i64 k)).setCell ⟨w.heap.size + 1, 1, none⟩ (.string nm)).setCell ⟨w.heap.size + 1, 2, none⟩ (.int .i64 n)).setCell ⟨w.heap.size + 1, 3, none⟩ (.int .i64 zk)).setCell ⟨w.heap.size + 1, 4, none⟩ (.slice za zn zc)).setCell ⟨w.heap.size + 1, 5, none⟩ (.slice ya ym yc)).heap.size = w1.heap.size := by simp
  have hbF : Below w.heap.size w ((((((w1.setCell ⟨w.heap.size + 1, 0, none⟩ (.int .i64 k)).setCell ⟨w.heap.size + 1, 1, none⟩ (.string nm)).setCell ⟨w.heap.size + 1, 2, none⟩ (.int .i64 n)).setCell ⟨w.heap.size + 1, 3, none⟩ (.int .i64 zk)).setCell ⟨w.heap.size + 1, 4, none⟩ (.slice za zn zc)).setCell ⟨w.heap.size + 1, 5, none⟩ (.slice ya ym yc)) := ((((((B1.out.setCell (by simp) _).setCell (by simp) _).setCell (by simp) _).setCell (by simp) _).setCell (by simp) _).setCell (by simp) _)
  have g0 := XRF.2 0
  have g1 := XRF.2 1
  have g2 := XRF.2 2
  have g3 := XRF.2 3
  have g4 := XRF.2 4
  have g5 := XRF.2 5
  clear XRF
  have HOF : ExOwn ((((((w1.setCell ⟨w.heap.size + 1, 0, none⟩ (.int .i64 k)).setCell ⟨w.heap.size + 1, 1, none⟩ (.string nm)).setCell ⟨w.heap.size + 1, 2, none⟩ (.int .i64 n)).setCell ⟨w.heap.size + 1, 3, none⟩ (.int .i64 zk)).setCell ⟨w.heap.size + 1, 4, none⟩ (.slice za zn zc)).setCell ⟨w.heap.size + 1, 5, none⟩ (.slice ya ym yc)) d (.agg #[.int .i64 k, .string nm, .int .i64 n, .int .i64 zk, .slice za zn zc, .slice ya ym yc]) t fp := HO.out.kept (by rw [hzf]; omega) fun b hb => K1 b (by have := (HF.out.2 b hb).1; rw [hz] at this; omega)
  have hfpF : Fp w.heap.size ((((((w1.setCell ⟨w.heap.size + 1, 0, none⟩ (.int .i64 k)).setCell ⟨w.heap.size + 1, 1, none⟩ (.string nm)).setCell ⟨w.heap.size + 1, 2, none⟩ (.int .i64 n)).setCell ⟨w.heap.size + 1, 3, none⟩ (.int .i64 zk)).setCell ⟨w.heap.size + 1, 4, none⟩ (.slice za zn zc)).setCell ⟨w.heap.size + 1, 5, none⟩ (.slice ya ym yc)).heap.size fp := by rw [hzf]; exact HF.out.mono (by rw [hz]; omega) (Nat.le_refl _)
  generalize ((((((w1.setCell ⟨w.heap.size + 1, 0, none⟩ (.int .i64 k)).setCell ⟨w.heap.size + 1, 1, none⟩ (.string nm)).setCell ⟨w.heap.size + 1, 2, none⟩ (.int .i64 n)).setCell ⟨w.heap.size + 1, 3, none⟩ (.int .i64 zk)).setCell ⟨w.heap.size + 1, 4, none⟩ (.slice za zn zc)).setCell ⟨w.heap.size + 1, 5, none⟩ (.slice ya ym yc)) = WX at g0 g1 g2 g3 g4 g5 HOF hfpF hbF ⊢
  refine bodyPost_ret (v := .agg #[.int .i64 k, .string nm, .int .i64 n, .int .i64 zk, .slice za zn zc, .slice ya ym yc]) (by simp [results, Tryd.results57, go_sem, g0, g1, g2, g3, g4, g5]) rfl ?_
  exact ⟨_, fp, rfl, HOF, hfpF, hbF⟩
end Go.Proofs.YtmmnjdhmankieaaDoor
/-
  Proved: plain facts on cells that are written one after another.
-/
namespace Go.Proofs.YtmmnjdhmankieaaDoor
open Go.RowKit

/-- Cells written one after another into block p, from cell j on. -/
def putAll (p : Nat) : Nat → List Value → World → World
  | _, [], w => w
  | j, u :: r, w => putAll p (j + 1) r (w.setCell ⟨p, j, none⟩ u)
theorem BoxAt.puts {p : Nat} : ∀ (us old pre : List Value) (w : World), BoxAt w p (pre ++ old).toArray → us.length = old.length → BoxAt (putAll p pre.length us w) p (pre ++ us).toArray
  | [], [], pre, w, h, _ => h
  | [], _ :: _, _, _, _, h => by simp at h
  | _ :: _, [], _, _, _, h => by simp at h
  | u :: r, o :: s, pre, w, h, hl => by
    have h1 := h.put (j := pre.length) (u := u) (by simp)
    have e1 : (pre ++ o :: s).toArray.setIfInBounds pre.length u = ((pre ++ [u]) ++ s).toArray := by simp
    rw [e1] at h1
    have h2 := BoxAt.puts r s (pre ++ [u]) _ h1 (by simpa using hl)
    rw [List.append_assoc, List.length_append] at h2
    exact h2
end Go.Proofs.YtmmnjdhmankieaaDoor
/-
  Proved: impl.editAt and copyEdit copy an edit into new memory of its own; the memory that was there stays as it was.
-/
namespace Go.Proofs.YtmmnjdhmankieaaDoor
open Go.RowKit

theorem IntsIn.stored {w : World} {v : Value} {ns : List Int} {lo hi q j : Nat} {u : Value} (h : IntsIn w v ns lo hi) (hq : q < lo) : IntsIn (w.setCell ⟨q, j, none⟩ u) v ns lo hi :=
  ⟨own_keeps h.1 fun k hk => heap_setCell_other _ _ _ _ (by have := (h.1.lt k hk).1; simp; omega), h.2.1, by simpa using h.2.2⟩
theorem IntsIn.wide {w : World} {v : Value} {ns : List Int} {lo hi hi2 : Nat} (h : IntsIn w v ns lo hi) (h2 : hi ≤ hi2) (h3 : hi2 ≤ w.heap.size) : IntsIn w v ns lo hi2 :=
  ⟨h.1, fun k hk => Nat.lt_of_lt_of_le (h.2.1 k hk) h2, h3⟩
set_option maxRecDepth 100000 in
set_option maxHeartbeats 4000000 in
theorem implEditAt (d : Nat) (v1 v2 : Value) (t : Ex) (ps : List Int) (w : World) (h : ExAt w d v1 t) (hp : Ints w v2 ps) (hsz : t.bulk ≤ 1048576) (hn : ps.length ≤ 1048576) :
    Calls Tryd.prog 33 #[v1, v2] w fun e w' => ∃ v', e = .returned v' ∧ EditIn w' d v' ⟨t, ps⟩ w.heap.size w'.heap.size ∧ Below w.heap.size w w' := by
  obtain ⟨k, nm, n, tk, ta, tn, tc, sa, sn, sc, rfl⟩ := ex_parts h
  have B : Hid (Below w.heap.size w ((w.alloc (.cells #[.int .i64 k, .string nm, .int .i64 n, .int .i64 tk, .slice ta tn tc, .slice sa sn sc] 37)).alloc (.cells #[.int .i64 0, .string ⟨#[]⟩, .int .i64 0, .int .i64 0, .slice none 0 0, .slice none 0 0, .slice none 0 0] 39))) := ((Below.refl _ _).alloc (Nat.le_refl _) _).alloc (by simp) _
  have XR : Hid (BoxAt ((w.alloc (.cells #[.int .i64 k, .string nm, .int .i64 n, .int .i64 tk, .slice ta tn tc, .slice sa sn sc] 37)).alloc (.cells #[.int .i64 0, .string ⟨#[]⟩, .int .i64 0, .int .i64 0, .slice none 0 0, .slice none 0 0, .slice none 0 0] 39)) (w.heap.size + 1) #[.int .i64 0, .string ⟨#[]⟩, .int .i64 0, .int .i64 0, .slice none 0 0, .slice none 0 0, .slice none 0 0]) := box_at (BoxAt.new _ _ _) (by simp)
  have FR : Hid (FreeAt ((w.alloc (.cells #[.int .i64 k, .string nm, .int .i64 n, .int .i64 tk, .slice ta tn tc, .slice sa sn sc] 37)).alloc (.cells #[.int .i64 0, .string ⟨#[]⟩, .int .i64 0, .int .i64 0, .slice none 0 0, .slice none 0 0, .slice none 0 0] 39)) (w.heap.size + 1)) := free_at (FreeAt.new _ _ _) (by simp)
  have hz0 : ((w.alloc (.cells #[.int .i64 k, .string nm, .int .i64 n, .int .i64 tk, .slice ta tn tc, .slice sa sn sc] 37)).alloc (.cells #[.int .i64 0, .string ⟨#[]⟩, .int .i64 0, .int .i64 0, .slice none 0 0, .slice none 0 0, .slice none 0 0] 39)).heap.size = w.heap.size + 2 := by simp
  have HE := Lib.hid (h.below B.out)
  have HP := Lib.hid (hp.below B.out)
  obtain ⟨pa, pc, rfl, _, _⟩ := hp
  clear h
  go_enter Tryd.func33, Tryd.ntmps33
  go_wp2_with fail
  refine (implExCopy d _ t _ hsz HE.out).mono ?_
  rintro e1 w1 ⟨v1, fp, rfl, ht, hf, hb⟩
  obtain ⟨zk, znm, zn, ztk, zta, ztn, ztc, zsa, zsn, zsc, rfl⟩ := ex_parts ht.at_
  have hz1 := hb.size
  rw [hz0] at hz1 hf
  have HO : Hid (ExIn w1 d (.agg #[.int .i64 zk, .string znm, .int .i64 zn, .int .i64 ztk, .slice zta ztn ztc, .slice zsa zsn zsc]) t (w.heap.size + 2) w1.heap.size) := ⟨fp, ht, hf, Nat.le_refl _⟩
  replace B := Lib.hid (below_thru B.out (Nat.le_refl _) hb)
  replace HP := Lib.hid (HP.out.below hb)
  replace XR := Lib.hid (XR.out.below hb)
  replace FR := Lib.hid (FR.out.below hb)
  clear ht hf hb HE hz0
  go_wp2_with fail
  refine (cloneInts _ ps _ HP.out hn).mono ?_
  rintro e2 w2 ⟨qa, qc, rfl, hi, hb⟩
  have hz2 := hb.size
  have HI := Lib.hid hi
  replace HO := Lib.hid (HO.out.below hb)
  replace B := Lib.hid (below_thru B.out (Nat.le_refl _) hb)
  replace XR := Lib.hid (XR.out.below hb)
  replace FR := Lib.hid (FR.out.below hb)
  clear hi hb HP
  have r0 := XR.out.2 0
  have s0 := FR.out.2 0
  have r1 := XR.out.2 1
  have s1 := FR.out.2 1
  have r2 := XR.out.2 2
  have s2 := FR.out.2 2
  have r3 := XR.out.2 3
  have s3 := FR.out.2 3
  have r4 := XR.out.2 4
  have s4 := FR.out.2 4
  have r5 := XR.out.2 5
  have s5 := FR.out.2 5
  have r6 := XR.out.2 6
  have s6 := FR.out.2 6
  go_wp2_with fail
  have XRF : BoxAt (((((((w2.setCell ⟨w.heap.size + 1, 0, none⟩ (.int .i64 zk)).setCell ⟨w.heap.size + 1, 1, none⟩ (.string znm)).setCell ⟨w.heap.size + 1, 2, none⟩ (.int .i64 zn)).setCell ⟨w.heap.size + 1, 3, none⟩ (.int .i64 ztk)).setCell ⟨w.heap.size + 1, 4, none⟩ (.slice zta ztn ztc)).setCell ⟨w.heap.size + 1, 5, none⟩ (.slice zsa zsn zsc)).setCell ⟨w.heap.size + 1, 6, none⟩ (.slice qa ps.length qc)) (w.heap.size + 1) #[.int .i64 zk, .string znm, .int .i64 zn, .int .i64 ztk, .slice zta ztn ztc, .slice zsa zsn zsc, .slice qa ps.length qc] := by
    have := BoxAt.puts [.int .i64 zk, .string znm, .int .i64 zn, .int .i64 ztk, .slice zta ztn ztc, .slice zsa zsn zsc, .slice qa ps.length qc] [.int .i64 0, .string ⟨#[]⟩, .int .i64 0, .int .i64 0, .slice none 0 0, .slice none 0 0, .slice none 0 0] [] _ XR.out rfl
    exact this
  have hBF : Below w.heap.size w (((((((w2.setCell ⟨w.heap.size + 1, 0, none⟩ (.int .i64 zk)).setCell ⟨w.heap.size + 1, 1, none⟩ (.string znm)).setCell ⟨w.heap.size + 1, 2, none⟩ (.int .i64 zn)).setCell ⟨w.heap.size + 1, 3, none⟩ (.int .i64 ztk)).setCell ⟨w.heap.size + 1, 4, none⟩ (.slice zta ztn ztc)).setCell ⟨w.heap.size + 1, 5, none⟩ (.slice zsa zsn zsc)).setCell ⟨w.heap.size + 1, 6, none⟩ (.slice qa ps.length qc)) := (((((((B.out.setCell (by simp) _).setCell (by simp) _).setCell (by simp) _).setCell (by simp) _).setCell (by simp) _).setCell (by simp) _).setCell (by simp) _)
  have HOF : ExIn (((((((w2.setCell ⟨w.heap.size + 1, 0, none⟩ (.int .i64 zk)).setCell ⟨w.heap.size + 1, 1, none⟩ (.string znm)).setCell ⟨w.heap.size + 1, 2, none⟩ (.int .i64 zn)).setCell ⟨w.heap.size + 1, 3, none⟩ (.int .i64 ztk)).setCell ⟨w.heap.size + 1, 4, none⟩ (.slice zta ztn ztc)).setCell ⟨w.heap.size + 1, 5, none⟩ (.slice zsa zsn zsc)).setCell ⟨w.heap.size + 1, 6, none⟩ (.slice qa ps.length qc)) d (.agg #[.int .i64 zk, .string znm, .int .i64 zn, .int .i64 ztk, .slice zta ztn ztc, .slice zsa zsn zsc]) t (w.heap.size + 2) w1.heap.size := (((((((HO.out.stored (by omega)).stored (by omega)).stored (by omega)).stored (by omega)).stored (by omega)).stored (by omega)).stored (by omega))
  have HIF : IntsIn (((((((w2.setCell ⟨w.heap.size + 1, 0, none⟩ (.int .i64 zk)).setCell ⟨w.heap.size + 1, 1, none⟩ (.string znm)).setCell ⟨w.heap.size + 1, 2, none⟩ (.int .i64 zn)).setCell ⟨w.heap.size + 1, 3, none⟩ (.int .i64 ztk)).setCell ⟨w.heap.size + 1, 4, none⟩ (.slice zta ztn ztc)).setCell ⟨w.heap.size + 1, 5, none⟩ (.slice zsa zsn zsc)).setCell ⟨w.heap.size + 1, 6, none⟩ (.slice qa ps.length qc)) (.slice qa ps.length qc) ps w1.heap.size w2.heap.size := (((((((HI.out.stored (by omega)).stored (by omega)).stored (by omega)).stored (by omega)).stored (by omega)).stored (by omega)).stored (by omega))
  have hzF : (((((((w2.setCell ⟨w.heap.size + 1, 0, none⟩ (.int .i64 zk)).setCell ⟨w.heap.size + 1, 1, none⟩ (.string znm)).setCell ⟨w.heap.size + 1, 2, none⟩ (.int .i64 zn)).setCell ⟨w.heap.size + 1, 3, none⟩ (.int .i64 ztk)).setCell ⟨w.heap.size + 1, 4, none⟩ (.slice zta ztn ztc)).setCell ⟨w.heap.size + 1, 5, none⟩ (.slice zsa zsn zsc)).setCell ⟨w.heap.size + 1, 6, none⟩ (.slice qa ps.length qc)).heap.size = w2.heap.size := by simp
  have g0 := XRF.2 0
  have g1 := XRF.2 1
  have g2 := XRF.2 2
  have g3 := XRF.2 3
  have g4 := XRF.2 4
  have g5 := XRF.2 5
  have g6 := XRF.2 6
  clear XRF
  generalize (((((((w2.setCell ⟨w.heap.size + 1, 0, none⟩ (.int .i64 zk)).setCell ⟨w.heap.size + 1, 1, none⟩ (.string znm)).setCell ⟨w.heap.size + 1, 2, none⟩ (.int .i64 zn)).setCell ⟨w.heap.size + 1, 3, none⟩ (.int .i64 ztk)).setCell ⟨w.heap.size + 1, 4, none⟩ (.slice zta ztn ztc)).setCell ⟨w.heap.size + 1, 5, none⟩ (.slice zsa zsn zsc)).setCell ⟨w.heap.size + 1, 6, none⟩ (.slice qa ps.length qc)) = WX at g0 g1 g2 g3 g4 g5 g6 hBF HOF HIF hzF ⊢
  refine bodyPost_ret (v := .agg #[.int .i64 zk, .string znm, .int .i64 zn, .int .i64 ztk, .slice zta ztn ztc, .slice zsa zsn zsc, .slice qa ps.length qc]) (by simp [results, Tryd.results33, go_sem, g0, g1, g2, g3, g4, g5, g6]) rfl ?_
  exact ⟨_, rfl, ⟨_, _, _, _, _, _, _, _, _, _, _, _, _, w1.heap.size, rfl, HOF.wide (by omega) (Nat.le_refl _) (by omega), HIF.wide (by omega) (Nat.le_refl _), by omega, by omega, by show ps.length ≤ _; omega⟩, hBF⟩
set_option maxRecDepth 100000 in
set_option maxHeartbeats 4000000 in
theorem implCopyEdit (d : Nat) (v : Value) (t : Edi) (w : World) (h : EditAt w d v t) (hsz : t.bulk ≤ 1048576) :
    Calls Tryd.prog 32 #[v] w fun e w' => ∃ v', e = .returned v' ∧ EditIn w' d v' t w.heap.size w'.heap.size ∧ Below w.heap.size w w' := by
  cases t with
  | mk ex ps =>
    obtain ⟨k, nm, n, tk, ta, tn, tc, sa, sn, sc, pa, pn, pc, rfl, he, hp, hl⟩ := h
    dsimp only at he hp hl
    have hbk : (Edi.mk ex ps).bulk = ex.bulk + ps.length := rfl
    have hn1 : ex.bulk ≤ 1048576 := by omega
    have hn2 : ps.length ≤ 1048576 := by omega
    have B : Hid (Below w.heap.size w ((w.alloc (.cells #[.int .i64 k, .string nm, .int .i64 n, .int .i64 tk, .slice ta tn tc, .slice sa sn sc, .slice pa pn pc] 39)).alloc (.cells #[.int .i64 0, .string ⟨#[]⟩, .int .i64 0, .int .i64 0, .slice none 0 0, .slice none 0 0, .slice none 0 0] 39))) := ((Below.refl _ _).alloc (Nat.le_refl _) _).alloc (by simp) _
    have XR : Hid (BoxAt ((w.alloc (.cells #[.int .i64 k, .string nm, .int .i64 n, .int .i64 tk, .slice ta tn tc, .slice sa sn sc, .slice pa pn pc] 39)).alloc (.cells #[.int .i64 0, .string ⟨#[]⟩, .int .i64 0, .int .i64 0, .slice none 0 0, .slice none 0 0, .slice none 0 0] 39)) (w.heap.size + 1) #[.int .i64 0, .string ⟨#[]⟩, .int .i64 0, .int .i64 0, .slice none 0 0, .slice none 0 0, .slice none 0 0]) := box_at (BoxAt.new _ _ _) (by simp)
    have FR : Hid (FreeAt ((w.alloc (.cells #[.int .i64 k, .string nm, .int .i64 n, .int .i64 tk, .slice ta tn tc, .slice sa sn sc, .slice pa pn pc] 39)).alloc (.cells #[.int .i64 0, .string ⟨#[]⟩, .int .i64 0, .int .i64 0, .slice none 0 0, .slice none 0 0, .slice none 0 0] 39)) (w.heap.size + 1)) := free_at (FreeAt.new _ _ _) (by simp)
    have hz0 : ((w.alloc (.cells #[.int .i64 k, .string nm, .int .i64 n, .int .i64 tk, .slice ta tn tc, .slice sa sn sc, .slice pa pn pc] 39)).alloc (.cells #[.int .i64 0, .string ⟨#[]⟩, .int .i64 0, .int .i64 0, .slice none 0 0, .slice none 0 0, .slice none 0 0] 39)).heap.size = w.heap.size + 2 := by simp
    have HE := Lib.hid (he.below B.out)
    have HP := Lib.hid (hp.below B.out)
    clear he hp hbk hsz
    go_enter Tryd.func32, Tryd.ntmps32
    go_wp2_with fail
    refine (implEditAt d _ _ ex ps _ HE.out HP.out hn1 hn2).mono ?_
    rintro e1 w1 ⟨v1, rfl, hi, hb⟩
    have hz1 := hb.size
    rw [hz0] at hz1
    obtain ⟨zk, znm, zn, ztk, zta, ztn, ztc, zsa, zsn, zsc, zpa, zpn, zpc, mid, rfl, ho, hq, h1, h2, h3⟩ := hi
    rw [hz0] at h1 ho
    have HO := Lib.hid ho
    have HI := Lib.hid hq
    replace B := Lib.hid (below_thru B.out (Nat.le_refl _) hb)
    replace XR := Lib.hid (XR.out.below hb)
    replace FR := Lib.hid (FR.out.below hb)
    clear ho hq hb HE HP hz0
    have r0 := XR.out.2 0
    have s0 := FR.out.2 0
    have r1 := XR.out.2 1
    have s1 := FR.out.2 1
    have r2 := XR.out.2 2
    have s2 := FR.out.2 2
    have r3 := XR.out.2 3
    have s3 := FR.out.2 3
    have r4 := XR.out.2 4
    have s4 := FR.out.2 4
    have r5 := XR.out.2 5
    have s5 := FR.out.2 5
    have r6 := XR.out.2 6
    have s6 := FR.out.2 6
    go_wp2_with fail
    have XRF : BoxAt (((((((w1.setCell ⟨w.heap.size + 1, 0, none⟩ (.int .i64 zk)).setCell ⟨w.heap.size + 1, 1, none⟩ (.string znm)).setCell ⟨w.heap.size + 1, 2, none⟩ (.int .i64 zn)).setCell ⟨w.heap.size + 1, 3, none⟩ (.int .i64 ztk)).setCell ⟨w.heap.size + 1, 4, none⟩ (.slice zta ztn ztc)).setCell ⟨w.heap.size + 1, 5, none⟩ (.slice zsa zsn zsc)).setCell ⟨w.heap.size + 1, 6, none⟩ (.slice zpa zpn zpc)) (w.heap.size + 1) #[.int .i64 zk, .string znm, .int .i64 zn, .int .i64 ztk, .slice zta ztn ztc, .slice zsa zsn zsc, .slice zpa zpn zpc] := by
      have := BoxAt.puts [.int .i64 zk, .string znm, .int .i64 zn, .int .i64 ztk, .slice zta ztn ztc, .slice zsa zsn zsc, .slice zpa zpn zpc] [.int .i64 0, .string ⟨#[]⟩, .int .i64 0, .int .i64 0, .slice none 0 0, .slice none 0 0, .slice none 0 0] [] _ XR.out rfl
      exact this
    have hBF : Below w.heap.size w (((((((w1.setCell ⟨w.heap.size + 1, 0, none⟩ (.int .i64 zk)).setCell ⟨w.heap.size + 1, 1, none⟩ (.string znm)).setCell ⟨w.heap.size + 1, 2, none⟩ (.int .i64 zn)).setCell ⟨w.heap.size + 1, 3, none⟩ (.int .i64 ztk)).setCell ⟨w.heap.size + 1, 4, none⟩ (.slice zta ztn ztc)).setCell ⟨w.heap.size + 1, 5, none⟩ (.slice zsa zsn zsc)).setCell ⟨w.heap.size + 1, 6, none⟩ (.slice zpa zpn zpc)) := (((((((B.out.setCell (by simp) _).setCell (by simp) _).setCell (by simp) _).setCell (by simp) _).setCell (by simp) _).setCell (by simp) _).setCell (by simp) _)
    have HOF : ExIn (((((((w1.setCell ⟨w.heap.size + 1, 0, none⟩ (.int .i64 zk)).setCell ⟨w.heap.size + 1, 1, none⟩ (.string znm)).setCell ⟨w.heap.size + 1, 2, none⟩ (.int .i64 zn)).setCell ⟨w.heap.size + 1, 3, none⟩ (.int .i64 ztk)).setCell ⟨w.heap.size + 1, 4, none⟩ (.slice zta ztn ztc)).setCell ⟨w.heap.size + 1, 5, none⟩ (.slice zsa zsn zsc)).setCell ⟨w.heap.size + 1, 6, none⟩ (.slice zpa zpn zpc)) d (.agg #[.int .i64 zk, .string znm, .int .i64 zn, .int .i64 ztk, .slice zta ztn ztc, .slice zsa zsn zsc]) ex (w.heap.size + 2) mid := (((((((HO.out.stored (by omega)).stored (by omega)).stored (by omega)).stored (by omega)).stored (by omega)).stored (by omega)).stored (by omega))
    have HIF : IntsIn (((((((w1.setCell ⟨w.heap.size + 1, 0, none⟩ (.int .i64 zk)).setCell ⟨w.heap.size + 1, 1, none⟩ (.string znm)).setCell ⟨w.heap.size + 1, 2, none⟩ (.int .i64 zn)).setCell ⟨w.heap.size + 1, 3, none⟩ (.int .i64 ztk)).setCell ⟨w.heap.size + 1, 4, none⟩ (.slice zta ztn ztc)).setCell ⟨w.heap.size + 1, 5, none⟩ (.slice zsa zsn zsc)).setCell ⟨w.heap.size + 1, 6, none⟩ (.slice zpa zpn zpc)) (.slice zpa zpn zpc) ps mid w1.heap.size := (((((((HI.out.stored (by omega)).stored (by omega)).stored (by omega)).stored (by omega)).stored (by omega)).stored (by omega)).stored (by omega))
    have hzF : (((((((w1.setCell ⟨w.heap.size + 1, 0, none⟩ (.int .i64 zk)).setCell ⟨w.heap.size + 1, 1, none⟩ (.string znm)).setCell ⟨w.heap.size + 1, 2, none⟩ (.int .i64 zn)).setCell ⟨w.heap.size + 1, 3, none⟩ (.int .i64 ztk)).setCell ⟨w.heap.size + 1, 4, none⟩ (.slice zta ztn ztc)).setCell ⟨w.heap.size + 1, 5, none⟩ (.slice zsa zsn zsc)).setCell ⟨w.heap.size + 1, 6, none⟩ (.slice zpa zpn zpc)).heap.size = w1.heap.size := by simp
    have g0 := XRF.2 0
    have g1 := XRF.2 1
    have g2 := XRF.2 2
    have g3 := XRF.2 3
    have g4 := XRF.2 4
    have g5 := XRF.2 5
    have g6 := XRF.2 6
    clear XRF
    generalize (((((((w1.setCell ⟨w.heap.size + 1, 0, none⟩ (.int .i64 zk)).setCell ⟨w.heap.size + 1, 1, none⟩ (.string znm)).setCell ⟨w.heap.size + 1, 2, none⟩ (.int .i64 zn)).setCell ⟨w.heap.size + 1, 3, none⟩ (.int .i64 ztk)).setCell ⟨w.heap.size + 1, 4, none⟩ (.slice zta ztn ztc)).setCell ⟨w.heap.size + 1, 5, none⟩ (.slice zsa zsn zsc)).setCell ⟨w.heap.size + 1, 6, none⟩ (.slice zpa zpn zpc)) = WX at g0 g1 g2 g3 g4 g5 g6 hBF HOF HIF hzF ⊢
    refine bodyPost_ret (v := .agg #[.int .i64 zk, .string znm, .int .i64 zn, .int .i64 ztk, .slice zta ztn ztc, .slice zsa zsn zsc, .slice zpa zpn zpc]) (by simp [results, Tryd.results32, go_sem, g0, g1, g2, g3, g4, g5, g6]) rfl ?_
    exact ⟨_, rfl, ⟨_, _, _, _, _, _, _, _, _, _, _, _, _, mid, rfl, HOF.wide (by omega) (Nat.le_refl _) (by omega), HIF.wide (by omega) (Nat.le_refl _), by omega, by omega, hl⟩, hBF⟩
end Go.Proofs.YtmmnjdhmankieaaDoor
/-
  Proved: a valid edit stays valid when its path loses its last steps.
-/
namespace Go.Proofs.YtmmnjdhmankieaaDoor
open Go.RowKit

theorem sub_take (k : Nat) : ∀ (ps : List Int) (e : Ex), (e.sub ps).isSome = true → (e.sub (ps.take k)).isSome = true := by
  induction k with
  | zero => intro ps e _; rw [List.take_zero, sub_nil]; rfl
  | succ k ih =>
    intro ps e h
    cases ps with
    | nil => rw [List.take_nil]; exact h
    | cons p r =>
      rw [List.take_succ_cons]
      by_cases h0 : 0 ≤ p
      · by_cases h1 : p.toNat < e.parts.length
        · rw [sub_step h0 h1] at h ⊢
          exact ih r _ h
        · rw [sub_high (by omega)] at h
          cases h
      · rw [sub_low (by omega)] at h
        cases h
theorem okB_take {t : Edi} (k : Nat) (h : t.okB = true) : (Edi.mk t.ex (t.path.take k)).okB = true := by
  unfold Edi.okB at h ⊢
  rw [Bool.and_eq_true] at h ⊢
  exact ⟨sub_take k _ _ h.1, h.2⟩
/-- Up: what the program answers is what the reference answers. -/
theorem upB_ok {t : Edi} (h : t.okB = true) (h0 : t.path.length ≠ 0) : t.upB = (⟨t.ex, t.path.take (t.path.length - 1)⟩, true) := by
  unfold Edi.upB Edi.to
  rw [if_neg h0, h, okB_take _ h]
  rfl
theorem upB_not {t : Edi} (h : t.okB = false) : t.upB = (t, false) := by
  unfold Edi.upB Edi.to
  rw [h]
  simp
theorem upB_nil {t : Edi} (h : t.path.length = 0) : t.upB = (t, false) := by
  unfold Edi.upB
  rw [if_pos h]
theorem up_bulk (t : Edi) : t.upB.1.bulk ≤ t.bulk := by
  unfold Edi.upB Edi.to
  split
  · exact Nat.le_refl _
  · split
    · show t.ex.bulk + (t.path.take (t.path.length - 1)).length ≤ t.ex.bulk + t.path.length
      rw [List.length_take]
      omega
    · exact Nat.le_refl _
end Go.Proofs.YtmmnjdhmankieaaDoor
/-
  Proved: plain facts on a result box that holds a new edit.
-/
namespace Go.Proofs.YtmmnjdhmankieaaDoor
open Go.RowKit

theorem EditIn.wide {w : World} {d : Nat} {v : Value} {a : Edi} {lo hi lo2 hi2 : Nat} (h : EditIn w d v a lo hi) (h1 : lo2 ≤ lo) (h2 : hi ≤ hi2) (h3 : hi2 ≤ w.heap.size) : EditIn w d v a lo2 hi2 := by
  obtain ⟨k, nm, n, tk, ta, tn, tc, sa, sn, sc, pa, pn, pc, mid, hv, he, hp, g1, g2, g3⟩ := h
  exact ⟨k, nm, n, tk, ta, tn, tc, sa, sn, sc, pa, pn, pc, mid, hv, he.wide h1 (Nat.le_refl _) (by omega), hp.wide h2 h3, by omega, by omega, g3⟩
theorem EditIn.cell {w : World} {d : Nat} {v : Value} {a : Edi} {lo hi q j : Nat} {u : Value} (h : EditIn w d v a lo hi) (hq : q < lo) : EditIn (w.setCell ⟨q, j, none⟩ u) d v a lo hi :=
  h.beside (lo2 := q) (hi2 := q + 1) ⟨by simp, fun b _ hor => heap_setCell_other _ _ _ _ (by simp; omega)⟩ (by omega)
/-- The result box of a function that was called in w holds the edit r; the variable u is true. -/
def ImAt (w : World) (d : Nat) (r : Edi) (u : Value) (wx : World) : Prop :=
  u = .bool true ∧ ∃ zk znm zn ztk zta ztn ztc zsa zsn zsc zpa zpn zpc, BoxAt wx (w.heap.size + 1) #[.int .i64 zk, .string znm, .int .i64 zn, .int .i64 ztk, .slice zta ztn ztc, .slice zsa zsn zsc, .slice zpa zpn zpc] ∧ EditIn wx d (.agg #[.int .i64 zk, .string znm, .int .i64 zn, .int .i64 ztk, .slice zta ztn ztc, .slice zsa zsn zsc, .slice zpa zpn zpc]) r w.heap.size wx.heap.size ∧ Below w.heap.size w wx
theorem im_old {w w5 : World} {d lo : Nat} {r : Edi} {zk zn ztk : Int} {znm : ByteArray} {zta zsa zpa : Option Addr} {ztn ztc zsn zsc zpn zpc : Nat} (G : Below w.heap.size w w5) (Ho : EditIn w5 d (.agg #[.int .i64 zk, .string znm, .int .i64 zn, .int .i64 ztk, .slice zta ztn ztc, .slice zsa zsn zsc, .slice zpa zpn zpc]) r lo w5.heap.size) (hlo : w.heap.size + 2 ≤ lo) (X : BoxAt w5 (w.heap.size + 1) #[.int .i64 0, .string ⟨#[]⟩, .int .i64 0, .int .i64 0, .slice none 0 0, .slice none 0 0, .slice none 0 0]) :
    ImAt w d r (.bool true) (((((((w5.setCell ⟨w.heap.size + 1, 0, none⟩ (.int .i64 zk)).setCell ⟨w.heap.size + 1, 1, none⟩ (.string znm)).setCell ⟨w.heap.size + 1, 2, none⟩ (.int .i64 zn)).setCell ⟨w.heap.size + 1, 3, none⟩ (.int .i64 ztk)).setCell ⟨w.heap.size + 1, 4, none⟩ (.slice zta ztn ztc)).setCell ⟨w.heap.size + 1, 5, none⟩ (.slice zsa zsn zsc)).setCell ⟨w.heap.size + 1, 6, none⟩ (.slice zpa zpn zpc)) := by
  refine ⟨rfl, zk, znm, zn, ztk, zta, ztn, ztc, zsa, zsn, zsc, zpa, zpn, zpc, ?_, ?_, (((((((G.setCell (by simp) _).setCell (by simp) _).setCell (by simp) _).setCell (by simp) _).setCell (by simp) _).setCell (by simp) _).setCell (by simp) _)⟩
  · have := (((((((X.put (j := 0) (u := .int .i64 zk) (by simp)).put (j := 1) (u := .string znm) (by simp)).put (j := 2) (u := .int .i64 zn) (by simp)).put (j := 3) (u := .int .i64 ztk) (by simp)).put (j := 4) (u := .slice zta ztn ztc) (by simp)).put (j := 5) (u := .slice zsa zsn zsc) (by simp)).put (j := 6) (u := .slice zpa zpn zpc) (by simp))
    exact this
  · have hq : w.heap.size + 1 < lo := by omega
    exact (((((((Ho.cell hq).cell hq).cell hq).cell hq).cell hq).cell hq).cell hq).wide (by omega) (by simp) (Nat.le_refl _)
end Go.Proofs.YtmmnjdhmankieaaDoor
namespace Go.Proofs.YtmmnjdhmankieaaDoor.Law
open Go.ChangeShapes Go.WideShapes Go.ChangeAt Go.RowKit
variable {H : Type} {enc : TypeId × Value → H} {P : Program} {W W' : World}

theorem law_post_vars {f : Func} {s : ChangeSpec} {args : Array Value} {ds gs : List (DataW H)} {before : List MemPlace} {tb : TypeId}
    (hW : DataW.Whole enc P f.params.toList s.vars false W args.toList ds gs before) (hv : varsRowed P s.vars = true)
    (hres : f.resultTypes = #[tb]) (ub : P.underlying tb = some .bool) (hl : laidOutB P = true)
    (hr : (f.params.toList.all fun t => P.readableRec t && decide (t < P.types.size)) = true)
    (hfn : s.fn H (ds ++ gs) = { results := [.lit (.bool true)], args := ds, vars := gs })
    (hb : Below W.heap.size W W') : s.post enc P f false true false false W args (.bool true) W' := by
  have hlt := hW.lt
  have hW' := hW
  obtain ⟨p, q, hA, hV, rfl, hfz, hnd⟩ := hW
  refine ⟨ds, gs, _, [], p, q, hW', ?_, ?_, ?_, hb.frame _, fun h => by cases h⟩
  · rw [hres, hfn]
    exact trodAll_mk1 (shut_bool ub true)
  · rw [hfn]
    exact trodAll_below hl hb hr hA (fun x hx => hlt x (by simp [hx]))
  · rw [hfn]
    exact Below.trodVars hl hb hv hV
end Go.Proofs.YtmmnjdhmankieaaDoor.Law
