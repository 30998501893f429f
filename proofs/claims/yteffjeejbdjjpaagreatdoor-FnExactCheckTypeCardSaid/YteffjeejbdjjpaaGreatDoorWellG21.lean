/-
  Proved: impl.IsCtx says whether a list of typings is a context; the memory that was there stays as it was.
-/
import Derived.Test.YteffjeejbdjjpaaGreatDoorWellG6
import Derived.Test.YteffjeejbdjjpaaGreatDoorWellG5
import Derived.Test.YteffjeejbdjjpaaGreatDoorWellG7
import Derived.Test.YteffjeejbdjjpaaGreatDoorWellG10
import Derived.Test.YteffjeejbdjjpaaGreatDoorWellG8
import Derived.Test.YteffjeejbdjjpaaGreatDoorWellG2
import Derived.Test.YteffjeejbdjjpaaGreatDoorWellG4
import Derived.Deep.RegionHeld3
import Derived.Deep.RegionLaw
import Derived.Test.YteffjeejbdjjpaaGreatDoorWellG3
import Derived.Test.YteffjeejbdjjpaaGreatDoorWellG20
/-
  Proved: impl.IsNote says whether a type's tree is a note; it leaves the memory that was there as it was.
-/
namespace Go.Proofs.YteffjeejbdjjpaaGreatDoor
open Go.RowKit

theorem within_note (t : Ty) : within t 15 5 = t.note := by
  have e1 : decide ((t.size : Int) ≤ 15) = decide (t.size ≤ 15) := decide_eq_decide.2 (by omega)
  have e2 : decide ((t.depth : Int) ≤ 5) = decide (t.depth ≤ 5) := decide_eq_decide.2 (by omega)
  unfold within Ty.note Ty.valid
  rw [e1, e2]
  by_cases h1 : t.size ≤ 15 <;> by_cases h2 : t.depth ≤ 5
  · have h3 : t.size ≤ 800 := by omega
    have h4 : t.depth ≤ 24 := by omega
    simp [h1, h2, h3, h4]
  · simp [h2]
  · simp [h1]
  · simp [h1]

set_option maxRecDepth 100000 in
set_option maxHeartbeats 1000000 in
theorem implNote (d : Nat) (v : Value) (t : Ty) (w : World) (h : TyAt w d v t) (hsz : t.size ≤ 1048577) :
    Calls Tryz.prog 65 #[v] w fun e w' => e = .returned (.bool t.note) ∧ Below w.heap.size w w' := by
  have HT := Lib.hid h
  obtain ⟨yk, ya, yn, yc, rfl⟩ := agg_parts h
  clear h
  have X : Hid (Below w.heap.size w ((w.alloc (.cells #[.int .i64 yk, .slice ya yn yc] 33)).alloc (.cells #[.int .i64 15] 3))) := ((Below.refl _ _).alloc (Nat.le_refl _) _).alloc (by simp) _
  go_enter Tryz.func65, Tryz.ntmps65
  go_wp2_with fail
  refine (implWithin w d _ t (w.heap.size + 1) 15 5 _ HT.out X.out (by omega) hsz (by simp) (by omega) (by omega) (by omega) (by omega) (by simp [go_sem]) (by simp [go_sem])).mono ?_
  intro e w' hend
  obtain ⟨r', rfl, hr, _⟩ := hend.room
  have HB := Lib.hid (X.out.trans (hr.2.2.1.mono (Nat.le_succ _)))
  clear hend hr
  go_wp2_with fail
  go_ret
  exact ⟨by rw [within_note]; rfl, HB.out⟩
end Go.Proofs.YteffjeejbdjjpaaGreatDoor
/-
  Proved: the table of arities reads as it is written while old memory stays.
-/
namespace Go.Proofs.YteffjeejbdjjpaaGreatDoor
open Go.RowKit

def TabAt (w : World) : Prop := Lib.TabIs Tryz.prog w "loop.example/g00585/impl.arities" .i64 arTab
theorem TabAt.below {w w' : World} (h : TabAt w) (hb : Below w.heap.size w w') : TabAt w' := Law.tab_below hb h
theorem implArityAt (n : Int) (w : World) (h : TabAt w) : Calls Tryz.prog 113 #[.int .i64 n] w fun e w' => e = .returned (.int .i64 (arity n)) ∧ Below w.heap.size w w' := implArity n w h
end Go.Proofs.YteffjeejbdjjpaaGreatDoor
/-
  Proved: impl.isNameFor, impl.isNumberFor, impl.isTypeFor and impl.isExprNode say whether the fields of a node belong to its kind; the memory that was there stays as it was.
-/
namespace Go.Proofs.YteffjeejbdjjpaaGreatDoor
open Go.RowKit

set_option maxRecDepth 100000 in
theorem implNameFor (k : Int) (nm : ByteArray) (w : World) (hs : nm.size ≤ 9223372036854775807) : Calls Tryz.prog 114 #[.int .i64 k, .string nm] w fun e w' => e = .returned (.bool (nameFor k nm)) ∧ Below w.heap.size w w' := by
  by_cases q2 : k = 2
  · subst q2
    go_enter Tryz.func114, Tryz.ntmps114
    go_wp2_with fail
    refine (implName nm _ hs).mono ?_
    rintro e w1 ⟨rfl, hb⟩
    go_wp2_with fail
    go_ret
    exact ⟨by simp [nameFor], hb⟩
  by_cases q3 : k = 3
  · subst q3
    go_enter Tryz.func114, Tryz.ntmps114
    go_wp2_with fail
    refine (implName nm _ hs).mono ?_
    rintro e w1 ⟨rfl, hb⟩
    go_wp2_with fail
    go_ret
    exact ⟨by simp [nameFor], hb⟩
  have z2 : (k == 2) = false := by simp [q2]
  have z3 : (k == 3) = false := by simp [q3]
  by_cases qz : nm.size = 0
  · have e1 := text_zero qz
    have HZ : Hid (nameFor k nm = true) := by show _ = _; simp [nameFor, q2, q3, qz]
    go_enter Tryz.func114, Tryz.ntmps114
    go_wp2_with fail
    go_ret
    exact ⟨by rw [HZ.out]; rfl, Below.refl _ _⟩
  · have e1 := toList_some (s := nm) (by omega)
    have HZ : Hid (nameFor k nm = false) := by show _ = _; simp [nameFor, q2, q3, qz]
    go_enter Tryz.func114, Tryz.ntmps114
    go_wp2_with fail
    go_ret
    exact ⟨by rw [HZ.out]; rfl, Below.refl _ _⟩
set_option maxRecDepth 100000 in
theorem implNumFor (k n : Int) (w : World) : Calls Tryz.prog 115 #[.int .i64 k, .int .i64 n] w fun e w' => e = .returned (.bool (numFor k n)) ∧ Below w.heap.size w w' := by
  by_cases q1 : k = 1
  · subst q1
    by_cases r1 : 1 ≤ n
    · by_cases r2 : n ≤ 99
      · go_enter Tryz.func115, Tryz.ntmps115
        go_wp2_with fail
        go_ret
        exact ⟨by first | (simp [numFor, *]; done) | (simp [numFor, *]; omega), Below.refl _ _⟩
      · go_enter Tryz.func115, Tryz.ntmps115
        go_wp2_with fail
        go_ret
        exact ⟨by first | (simp [numFor, *]; done) | (simp [numFor, *]; omega), Below.refl _ _⟩
    · go_enter Tryz.func115, Tryz.ntmps115
      go_wp2_with fail
      go_ret
      exact ⟨by first | (simp [numFor, *]; done) | (simp [numFor, *]; omega), Below.refl _ _⟩
  by_cases q14 : k = 14
  · subst q14
    by_cases r1 : 1 ≤ n
    · by_cases r2 : n ≤ 99
      · go_enter Tryz.func115, Tryz.ntmps115
        go_wp2_with fail
        go_ret
        exact ⟨by first | (simp [numFor, *]; done) | (simp [numFor, *]; omega), Below.refl _ _⟩
      · go_enter Tryz.func115, Tryz.ntmps115
        go_wp2_with fail
        go_ret
        exact ⟨by first | (simp [numFor, *]; done) | (simp [numFor, *]; omega), Below.refl _ _⟩
    · go_enter Tryz.func115, Tryz.ntmps115
      go_wp2_with fail
      go_ret
      exact ⟨by first | (simp [numFor, *]; done) | (simp [numFor, *]; omega), Below.refl _ _⟩
  by_cases q5 : k = 5
  · subst q5
    by_cases r1 : 0 ≤ n
    · by_cases r2 : n ≤ 999
      · go_enter Tryz.func115, Tryz.ntmps115
        go_wp2_with fail
        go_ret
        exact ⟨by first | (simp [numFor, *]; done) | (simp [numFor, *]; omega), Below.refl _ _⟩
      · go_enter Tryz.func115, Tryz.ntmps115
        go_wp2_with fail
        go_ret
        exact ⟨by first | (simp [numFor, *]; done) | (simp [numFor, *]; omega), Below.refl _ _⟩
    · go_enter Tryz.func115, Tryz.ntmps115
      go_wp2_with fail
      go_ret
      exact ⟨by first | (simp [numFor, *]; done) | (simp [numFor, *]; omega), Below.refl _ _⟩
  by_cases q8 : k = 8
  · subst q8
    by_cases r0 : n = 0
    · subst r0
      go_enter Tryz.func115, Tryz.ntmps115
      go_wp2_with fail
      go_ret
      exact ⟨by simp [numFor], Below.refl _ _⟩
    · have r0b : (n == 0) = false := by simp [r0]
      by_cases r1 : n = 1
      · subst r1
        go_enter Tryz.func115, Tryz.ntmps115
        go_wp2_with fail
        go_ret
        exact ⟨by simp [numFor], Below.refl _ _⟩
      · have r1b : (n == 1) = false := by simp [r1]
        go_enter Tryz.func115, Tryz.ntmps115
        go_wp2_with fail
        go_ret
        exact ⟨by simp [numFor]; omega, Below.refl _ _⟩
  by_cases r0 : n = 0
  · subst r0
    go_enter Tryz.func115, Tryz.ntmps115
    go_wp2_with fail
    go_ret
    exact ⟨by first | (simp [numFor, *]; done) | (simp [numFor, *]; omega), Below.refl _ _⟩
  · have r0b : (n == 0) = false := by simp [r0]
    go_enter Tryz.func115, Tryz.ntmps115
    go_wp2_with fail
    go_ret
    exact ⟨by first | (simp [numFor, *]; done) | (simp [numFor, *]; omega), Below.refl _ _⟩
set_option maxRecDepth 100000 in
theorem implTypeFor (d : Nat) (v : Value) (k : Int) (ty : Ty) (w : World) (h : TyAt w d v ty) (hsz : ty.size ≤ 1048577) : Calls Tryz.prog 116 #[.int .i64 k, v] w fun e w' => e = .returned (.bool (typeFor k ty)) ∧ Below w.heap.size w w' := by
  have HT := Lib.hid h
  obtain ⟨yk, ya, yn, yc, rfl⟩ := agg_parts h
  clear h
  have E0 := below_alloc w (.cells #[.int .i64 yk, .slice ya yn yc] 33)
  have HT0 := Lib.hid (HT.out.below E0)
  have HE := Lib.hid E0
  clear E0 HT
  by_cases q3 : k = 3
  · subst q3
    go_enter Tryz.func116, Tryz.ntmps116
    go_wp2_with fail
    refine (implNote d _ ty _ HT0.out hsz).mono ?_
    rintro e w1 ⟨rfl, hb⟩
    have HB := Lib.hid (below_thru HE.out (Nat.le_refl _) hb)
    clear hb
    go_wp2_with fail
    go_ret
    exact ⟨by simp [typeFor], HB.out⟩
  by_cases q13 : k = 13
  · subst q13
    go_enter Tryz.func116, Tryz.ntmps116
    go_wp2_with fail
    refine (implNote d _ ty _ HT0.out hsz).mono ?_
    rintro e w1 ⟨rfl, hb⟩
    have HB := Lib.hid (below_thru HE.out (Nat.le_refl _) hb)
    clear hb
    go_wp2_with fail
    go_ret
    exact ⟨by simp [typeFor], HB.out⟩
  have z3 : (k == 3) = false := by simp [q3]
  have z13 : (k == 13) = false := by simp [q13]
  have qf : typeFor k ty = ty.beq (.node 0 []) := by first | (simp [typeFor, *]; done) | (simp [typeFor, *]; omega)
  cases d with
  | zero => exact HT0.out.elim
  | succ d =>
  go_enter Tryz.func116, Tryz.ntmps116
  go_wp2_with fail
  refine (implEqual (d + 1) _ _ ty (.node 0 []) _ HT0.out (own_zero _ d 0 (by omega) (by omega)).at_).mono ?_
  rintro e w1 ⟨rfl, hb⟩
  have HB := Lib.hid (below_thru HE.out (Nat.le_refl _) hb)
  clear hb
  go_wp2_with fail
  go_ret
  exact ⟨by rw [qf]; rfl, HB.out⟩
end Go.Proofs.YteffjeejbdjjpaaGreatDoor
/-
  Proved: impl.isExprNode says whether the fields and the number of parts of a node belong to its kind; the memory that was there stays as it was.
-/
namespace Go.Proofs.YteffjeejbdjjpaaGreatDoor
open Go.RowKit

set_option maxRecDepth 100000 in
set_option maxHeartbeats 1000000 in
theorem implFits (d : Nat) (v : Value) (kd : Int) (nm : ByteArray) (n : Int) (ty : Ty) (es : List Ex) (w : World) (h : ExAt w (d + 1) v (.node kd nm n ty es)) (hsz : (Ex.node kd nm n ty es).bulk ≤ 1048576) (htab : TabAt w) :
    Calls Tryz.prog 105 #[v] w fun e w' => e = .returned (.bool (fitsB kd nm n ty es.length)) ∧ Below w.heap.size w w' := by
  have HV := ex_parts h
  obtain ⟨c3, c4, sl, rfl, hk0, hk1, hn0, hn1, hnm, hty, a, cap, rfl, hcap, hcap2, hat⟩ := h
  obtain ⟨k', nm', n', tk, ta, tn, tc, sa, sn, sc, hv⟩ := HV
  injection hv with hv
  injection hv with hv
  simp at hv
  obtain ⟨rfl, rfl, rfl, rfl, rfl, rfl, rfl, rfl⟩ := hv
  have HAT := Lib.hid hat; clear hat
  have hbk : (Ex.node kd nm n ty es).bulk = nm.size + (ty.size - 1) + Ex.bulks es := rfl
  have HSZ : Hid (Ex.bulks es ≤ 1048576) := by show _ ≤ _; omega
  have HNM : Hid (nm.size ≤ 1048576) := by show _ ≤ _; omega
  have HTZ : Hid (ty.size ≤ 1048577) := by show _ ≤ _; omega
  have hlen : es.length ≤ 1048576 := by have := Ex.length_le es; omega
  have HTY := Lib.hid hty
  clear hsz hbk hty
  clear HAT HSZ
  have HNS : Hid (nm.size ≤ 9223372036854775807) := by have := HNM.out; show _ ≤ _; omega
  obtain ⟨W, hW⟩ : ∃ W, W = w.alloc (.cells #[.int .i64 kd, .string nm, .int .i64 n, .int .i64 tk, .slice ta tn tc, .slice a es.length cap] 40) := ⟨_, rfl⟩
  have B : Hid (Below w.heap.size w W) := by rw [hW]; exact below_alloc _ _
  have HTYb := Lib.hid (HTY.out.below B.out)
  have HTAB := Lib.hid (htab.below B.out)
  clear HTY htab
  have XA : Hid (BoxAt W w.heap.size #[.int .i64 kd, .string nm, .int .i64 n, .int .i64 tk, .slice ta tn tc, .slice a es.length cap]) := by rw [hW]; exact BoxAt.new _ _ _
  have C1 : ∀ q : Grown W.heap.size W, Calls Tryz.prog 113 #[.int .i64 kd] q.val fun e w' => e = .returned (.int .i64 (arity kd)) ∧ Below q.val.heap.size q.val w' := fun q => implArityAt _ _ (HTAB.out.below q.old)
  have C2 : ∀ q : Grown W.heap.size W, Calls Tryz.prog 114 #[.int .i64 kd, .string nm] q.val fun e w' => e = .returned (.bool (nameFor kd nm)) ∧ Below q.val.heap.size q.val w' := fun q => implNameFor _ _ _ HNS.out
  have C3 : ∀ q : Grown W.heap.size W, Calls Tryz.prog 115 #[.int .i64 kd, .int .i64 n] q.val fun e w' => e = .returned (.bool (numFor kd n)) ∧ Below q.val.heap.size q.val w' := fun q => implNumFor _ _ _
  have C4 : ∀ q : Grown W.heap.size W, Calls Tryz.prog 116 #[.int .i64 kd, .agg #[.int .i64 tk, .slice ta tn tc]] q.val fun e w' => e = .returned (.bool (typeFor kd ty)) ∧ Below q.val.heap.size q.val w' := fun q => implTypeFor d _ _ ty _ (HTYb.out.below q.old) HTZ.out
  have hfit : fitsB kd nm n ty es.length = (decide ((es.length : Int) = arity kd) && (nameFor kd nm && (numFor kd n && typeFor kd ty))) := rfl
  generalize fitsB kd nm n ty es.length = m at hfit ⊢
  generalize arity kd = r at hfit C1
  generalize nameFor kd nm = bn at hfit C2
  generalize numFor kd n = bu at hfit C3
  generalize typeFor kd ty = bt at hfit C4
  have HM := Lib.hid hfit
  clear hfit
  go_enter Tryz.func105, Tryz.ntmps105
  go_wp2_with fail
  rw [← hW]
  clear hW
  have a0 : ∀ q : Grown W.heap.size W, q.val.cell? ⟨w.heap.size, 0, none⟩ = _ := fun q => (XA.out.grown q).2 0
  have a1 : ∀ q : Grown W.heap.size W, q.val.cell? ⟨w.heap.size, 1, none⟩ = _ := fun q => (XA.out.grown q).2 1
  have a2 : ∀ q : Grown W.heap.size W, q.val.cell? ⟨w.heap.size, 2, none⟩ = _ := fun q => (XA.out.grown q).2 2
  have a3 : ∀ q : Grown W.heap.size W, q.val.cell? ⟨w.heap.size, 3, none⟩ = _ := fun q => (XA.out.grown q).2 3
  have a4 : ∀ q : Grown W.heap.size W, q.val.cell? ⟨w.heap.size, 4, none⟩ = _ := fun q => (XA.out.grown q).2 4
  have a5 : ∀ q : Grown W.heap.size W, q.val.cell? ⟨w.heap.size, 5, none⟩ = _ := fun q => (XA.out.grown q).2 5
  clear XA HTYb HTAB
  by_cases qa : (es.length : Int) = r
  case neg =>
    have qb : ((es.length : Int) == r) = false := by simp [qa]
    refine wp_region_grown W.heap.size (by kernel_rfl) (by kernel_rfl) ?_
    repeat (go_big_quiet_step ((first | (go_at_call 113; exact grown_of (Nat.le_refl _) (C1 _)) | (go_at_call 114; exact grown_of (Nat.le_refl _) (C2 _)) | (go_at_call 115; exact grown_of (Nat.le_refl _) (C3 _)) | (go_at_call 116; exact grown_of (Nat.le_refl _) (C4 _)))))
    refine wpQuiet_nil ?_
    rintro _ ⟨⟨wq, hq⟩, rfl⟩
    go_wp2_with fail
    go_ret
    exact ⟨by rw [HM.out]; simp [*], below_thru B.out (Nat.le_of_eq rfl) hq⟩
  have qb : ((es.length : Int) == r) = true := by simp [qa]
  cases bn
  case false =>
    refine wp_region_grown W.heap.size (by kernel_rfl) (by kernel_rfl) ?_
    repeat (go_big_quiet_step ((first | (go_at_call 113; exact grown_of (Nat.le_refl _) (C1 _)) | (go_at_call 114; exact grown_of (Nat.le_refl _) (C2 _)) | (go_at_call 115; exact grown_of (Nat.le_refl _) (C3 _)) | (go_at_call 116; exact grown_of (Nat.le_refl _) (C4 _)))))
    refine wpQuiet_nil ?_
    rintro _ ⟨⟨wq, hq⟩, rfl⟩
    go_wp2_with fail
    go_ret
    exact ⟨by rw [HM.out]; simp [*], below_thru B.out (Nat.le_of_eq rfl) hq⟩
  cases bu
  case false =>
    refine wp_region_grown W.heap.size (by kernel_rfl) (by kernel_rfl) ?_
    repeat (go_big_quiet_step ((first | (go_at_call 113; exact grown_of (Nat.le_refl _) (C1 _)) | (go_at_call 114; exact grown_of (Nat.le_refl _) (C2 _)) | (go_at_call 115; exact grown_of (Nat.le_refl _) (C3 _)) | (go_at_call 116; exact grown_of (Nat.le_refl _) (C4 _)))))
    refine wpQuiet_nil ?_
    rintro _ ⟨⟨wq, hq⟩, rfl⟩
    go_wp2_with fail
    go_ret
    exact ⟨by rw [HM.out]; simp [*], below_thru B.out (Nat.le_of_eq rfl) hq⟩
  refine wp_region_grown W.heap.size (by kernel_rfl) (by kernel_rfl) ?_
  repeat (go_big_quiet_step ((first | (go_at_call 113; exact grown_of (Nat.le_refl _) (C1 _)) | (go_at_call 114; exact grown_of (Nat.le_refl _) (C2 _)) | (go_at_call 115; exact grown_of (Nat.le_refl _) (C3 _)) | (go_at_call 116; exact grown_of (Nat.le_refl _) (C4 _)))))
  refine wpQuiet_nil ?_
  rintro _ ⟨⟨wq, hq⟩, rfl⟩
  go_wp2_with fail
  go_ret
  exact ⟨by rw [HM.out]; simp [*], below_thru B.out (Nat.le_of_eq rfl) hq⟩
end Go.Proofs.YteffjeejbdjjpaaGreatDoor
namespace Go.Proofs.YteffjeejbdjjpaaGreatDoor
open Go.RowKit

set_option maxRecDepth 100000 in
set_option maxHeartbeats 2000000 in
theorem implCtx (d : Nat) (v : Value) (bs : List Bi) (w : World) (h : BisAt w d v bs) (hsz : Bi.bulks bs ≤ 1048576) :
    Calls Tryz.prog 32 #[v] w fun e w' => e = .returned (.bool (ctxB bs)) ∧ Below w.heap.size w w' := by
  have hlen := Bi.length_le bs
  obtain ⟨a, cap, rfl, hcap, hcap2, hat⟩ := h
  have HAT := Lib.hid hat; clear hat
  have HSZ := Lib.hid hsz; clear hsz
  by_cases q : 8 < bs.length
  · have q2 : (8 : Int) < (bs.length : Int) := by omega
    have HF := Lib.hid (ctx_long q)
    go_enter Tryz.func32, Tryz.ntmps32
    go_wp2_with fail
    go_ret
    exact ⟨by rw [HF.out]; rfl, Below.refl _ _⟩
  · have q2 : ¬ ((8 : Int) < (bs.length : Int)) := by omega
    go_enter Tryz.func32, Tryz.ntmps32
    go_wp2_with fail
    go_loopw [10] (fun i wr => ∃ k : Nat, k ≤ bs.length ∧ i = .int .i64 k ∧ (bs.take k).all Bi.ok = true ∧ Below w.heap.size w wr) (fun i _ => bs.length - (intOf i).toNat)
    case atStart => exact ⟨0, by omega, rfl, rfl, Below.refl _ _⟩
    case round =>
      obtain ⟨k, hk, rfl, ha, hb⟩ := hrel
      have HA := Lib.hid ha; clear ha
      have HB := Lib.hid hb; clear hb
      by_cases hlt : k < bs.length
      · obtain ⟨b, off, x0, x1, x2, rfl, hbl, hc0, hc1, hc2, ht⟩ := HAT.out k hlt
        have hg := Bi.bulk_get bs k hlt
        have hgb : bs[k].bulk = bs[k].name.size + (bs[k].ty.size - 1) := rfl
        have hsz2 := HSZ.out
        have hnz : Hid (bs[k].ty.size ≤ 1048577) := by show _ ≤ _; omega
        clear hg hgb hsz2
        obtain ⟨tk, ta, tn, tc, rfl, rfl, rfl, hnm, hty⟩ := bi_cells ht
        have HN := Lib.hid (all_next bs k hlt)
        have HBAD : Hid (bs[k].ok = false → ctxB bs = false) := fun h => all_bad bs k hlt h
        have HOK : Hid (bs[k].ok = (nameB bs[k].name && bs[k].ty.note)) := rfl
        have e0 : wr.cell? ⟨b, off + k * 3, none⟩ = some (.string bs[k].name) := by rw [HB.out.cell (p := ⟨b, off + k * 3, none⟩) hbl]; exact hc0
        have e1 : wr.cell? ⟨b, off + k * 3 + 1, none⟩ = some (.int .i64 tk) := by rw [HB.out.cell (p := ⟨b, off + k * 3 + 1, none⟩) hbl]; exact hc1
        have e2 : wr.cell? ⟨b, off + k * 3 + 2, none⟩ = some (.slice ta tn tc) := by rw [HB.out.cell (p := ⟨b, off + k * 3 + 2, none⟩) hbl]; exact hc2
        have HT := Lib.hid (hty.below HB.out)
        clear ht hty hc0 hc1 hc2
        generalize bs[k] = bk at hnz hnm HN HBAD HOK e0 HT
        obtain ⟨nm, ty⟩ := bk
        dsimp only at hnz hnm HOK e0 HT
        have hb := below_alloc wr (.cells #[.string nm, .int .i64 tk, .slice ta tn tc] 61)
        have XA : Hid (BoxAt (wr.alloc (.cells #[.string nm, .int .i64 tk, .slice ta tn tc] 61)) wr.heap.size #[.string nm, .int .i64 tk, .slice ta tn tc]) := BoxAt.new _ _ _
        go_wp2_with fail
        clear e0 e1 e2
        replace HB := Lib.hid (HB.out.trans (hb.mono HB.out.size))
        replace HT := Lib.hid (HT.out.below hb)
        clear hb
        refine (implName nm _ hnm).mono ?_
        rintro e w1 ⟨rfl, hb⟩
        replace HB := Lib.hid (HB.out.trans (hb.mono HB.out.size))
        replace HT := Lib.hid (HT.out.below hb)
        replace XA := Lib.hid (XA.out.below hb)
        clear hb
        cases hnb : nameB nm with
        | false =>
          have HF := Lib.hid (HBAD.out (by rw [HOK.out, hnb]; rfl))
          clear hnb
          go_wp2_with fail
          go_ret
          exact ⟨by rw [HF.out]; rfl, HB.out⟩
        | true =>
          rw [hnb] at HOK
          clear hnb
          have c1 := XA.out.2 1
          have c2 := XA.out.2 2
          go_wp2_with fail
          clear c1 c2
          refine (implNote d _ ty _ HT.out hnz.out).mono ?_
          rintro e w2 ⟨rfl, hb⟩
          replace HB := Lib.hid (HB.out.trans (hb.mono HB.out.size))
          clear hb
          cases hno : ty.note with
          | false =>
            have HF := Lib.hid (HBAD.out (by rw [HOK.out, hno]; rfl))
            clear hno
            go_wp2_with fail
            go_ret
            exact ⟨by rw [HF.out]; rfl, HB.out⟩
          | true =>
            have HK : Hid ((bs.take (k + 1)).all Bi.ok = true) := by show _ = _; rw [HN.out, HA.out, HOK.out, hno]; rfl
            clear hno
            go_wp2_with fail
            exact ⟨⟨k + 1, by omega, by go_num, HK.out, HB.out⟩, by simp [intOf]; omega⟩
      · obtain rfl : k = bs.length := by omega
        have HF := Lib.hid (ctx_all HA.out)
        have HG : Hid (ctxB bs = true) := by show _ = _; rw [HF.out]; exact decide_eq_true (by omega)
        go_wp2_with fail
        go_ret
        exact ⟨by rw [HG.out]; rfl, HB.out⟩
end Go.Proofs.YteffjeejbdjjpaaGreatDoor
