/-
  Proved: the law FnExactCheckType answers true for all typings, every expression and every type, and leaves the memory that was there as it was.
-/
import Derived.Test.YteffjeejbdjjpaaGreatDoorWellG1
import Derived.StillTailTactics
import Derived.Test.YteffjeejbdjjpaaGreatDoorWellG2
import Derived.Test.YteffjeejbdjjpaaGreatDoorWellG48
import Derived.Test.YteffjeejbdjjpaaGreatDoorWellG22
import Derived.Test.YteffjeejbdjjpaaGreatDoorWellG9
import Derived.Test.YteffjeejbdjjpaaGreatDoorWellG21
import Derived.Test.YteffjeejbdjjpaaGreatDoorWellG34
import Derived.Test.YteffjeejbdjjpaaGreatDoorWellG47
import Derived.Test.YteffjeejbdjjpaaGreatDoorWellG4
import Derived.Test.YteffjeejbdjjpaaGreatDoorWellG20
/-
  Proved: laws.eqType and eqTypeS answer true for two readings of the same tree, and change no memory that was there.
-/
namespace Go.Proofs.YteffjeejbdjjpaaGreatDoor
open Go.RowKit

def EqTrueEnd (w : World) (e : Ending) (w' : World) : Prop := e = .returned (.bool true) ∧ Below w.heap.size w w'
def EqTySaid (d : Nat) : Prop := ∀ (v1 v2 : Value) (t : Ty) (w : World), TyAt w d v1 t → TyAt w d v2 t →
  Calls Tryz.prog 12 #[v1, v2] w (EqTrueEnd w)
def EqTysSaid (d : Nat) : Prop := ∀ (v1 v2 : Value) (ts : List Ty) (w : World), TysAt w d v1 ts → TysAt w d v2 ts →
  Calls Tryz.prog 36 #[v1, v2] w (EqTrueEnd w)

set_option maxRecDepth 100000 in
set_option maxHeartbeats 1000000 in
theorem eqTys_step (d : Nat) (ih : EqTySaid d) : EqTysSaid d := by
  intro v1 v2 ts w h1 h2
  have IH := Lib.hid ih; clear ih
  obtain ⟨a1, cap1, rfl, hcap1, hm1, hat1⟩ := h1
  obtain ⟨a2, cap2, rfl, hcap2, hm2, hat2⟩ := h2
  have HA1 := Lib.hid hat1; clear hat1
  have HA2 := Lib.hid hat2; clear hat2
  go_enter Tryz.func36, Tryz.ntmps36
  go_wp2_with fail
  go_loopw [5] (fun i wr => ∃ k : Nat, k ≤ ts.length ∧ i = .int .i64 k ∧ Below w.heap.size w wr) (fun i _ => ts.length - (intOf i).toNat)
  case atStart => exact ⟨0, by omega, rfl, Below.refl _ _⟩
  case round =>
    obtain ⟨k, hk, rfl, hb⟩ := hrel
    have HB := Lib.hid hb; clear hb
    by_cases hlt : k < ts.length
    · obtain ⟨b1, off1, x0, x1, rfl, hbl1, hc10, hc11, ht1⟩ := HA1.out k hlt
      obtain ⟨b2, off2, y0, y1, rfl, hbl2, hc20, hc21, ht2⟩ := HA2.out k hlt
      have c10 : wr.cell? ⟨b1, off1 + k * 2, none⟩ = some x0 := by rw [HB.out.cell (p := ⟨b1, off1 + k * 2, none⟩) hbl1]; exact hc10
      have c11 : wr.cell? ⟨b1, off1 + k * 2 + 1, none⟩ = some x1 := by rw [HB.out.cell (p := ⟨b1, off1 + k * 2 + 1, none⟩) hbl1]; exact hc11
      have c20 : wr.cell? ⟨b2, off2 + k * 2, none⟩ = some y0 := by rw [HB.out.cell (p := ⟨b2, off2 + k * 2, none⟩) hbl2]; exact hc20
      have c21 : wr.cell? ⟨b2, off2 + k * 2 + 1, none⟩ = some y1 := by rw [HB.out.cell (p := ⟨b2, off2 + k * 2 + 1, none⟩) hbl2]; exact hc21
      have HT1 := Lib.hid (ht1.below HB.out.drew)
      have HT2 := Lib.hid (ht2.below HB.out.drew)
      clear ht1 ht2 hc10 hc11 hc20 hc21
      go_wp2_with fail
      go_still_tail 8, (by kernel_rfl)
      change wpList _ _ _ _ _ wr.drew
      go_wp2_with fail
      refine (IH.out _ _ _ wr.drew HT1.out HT2.out).mono ?_
      rintro e w' ⟨rfl, hb1⟩
      have HB2 := Lib.hid (HB.out.drew.trans (hb1.mono HB.out.drew.size)); clear hb1
      go_wp2_with fail
      exact ⟨⟨k + 1, by omega, by go_num, HB2.out⟩, by simp [intOf]; omega⟩
    · go_wp2_with fail
      go_ret
      exact ⟨rfl, HB.out⟩

set_option maxRecDepth 100000 in
set_option maxHeartbeats 1000000 in
theorem eqTy_step (d : Nat) (ih : EqTysSaid d) : EqTySaid (d + 1) := by
  intro v1 v2 t w h1 h2
  have IH := Lib.hid ih; clear ih
  cases t with
  | node kd ts =>
    obtain ⟨s1, rfl, hk0, hk1, h1⟩ := h1
    obtain ⟨s2, rfl, _, _, h2⟩ := h2
    have e2 : Below w.heap.size w ((w.alloc (.cells #[.int .i64 kd, s1] 33)).alloc (.cells #[.int .i64 kd, s2] 33)) :=
      ((Below.refl _ _).alloc (Nat.le_refl _) _).alloc (by simp) _
    have HT1 : Hid (TysAt ((w.alloc (.cells #[.int .i64 kd, s1] 33)).alloc (.cells #[.int .i64 kd, s2] 33)) d s1 ts) := TysAt.below h1 e2
    have HT2 : Hid (TysAt ((w.alloc (.cells #[.int .i64 kd, s1] 33)).alloc (.cells #[.int .i64 kd, s2] 33)) d s2 ts) := TysAt.below h2 e2
    have HE := Lib.hid e2; clear e2
    obtain ⟨a1, cap1, rfl, _⟩ := h1
    obtain ⟨a2, cap2, rfl, _⟩ := h2
    go_enter Tryz.func12, Tryz.ntmps12
    go_wp2_with fail
    refine (IH.out _ _ _ _ HT1.out HT2.out).mono ?_
    rintro e w' ⟨rfl, hb1⟩
    have HB2 := Lib.hid (HE.out.trans (hb1.mono HE.out.size)); clear hb1
    go_wp2_with fail
    go_ret
    exact ⟨rfl, HB2.out⟩
theorem eqTy_all : ∀ d, EqTySaid d
  | 0 => fun _ _ _ _ h => h.elim
  | d + 1 => eqTy_step d (eqTys_step d (eqTy_all d))
end Go.Proofs.YteffjeejbdjjpaaGreatDoor
/-
  Proved: laws.eqExpr and eqExprS answer true for two readings of the same expression, and change no memory that was there.
-/
namespace Go.Proofs.YteffjeejbdjjpaaGreatDoor
open Go.RowKit

def EqExSaid (d : Nat) : Prop := ∀ (v1 v2 : Value) (t : Ex) (w : World), ExAt w d v1 t → ExAt w d v2 t →
  Calls Tryz.prog 14 #[v1, v2] w (EqTrueEnd w)
def EqExsSaid (d : Nat) : Prop := ∀ (v1 v2 : Value) (ts : List Ex) (w : World), ExsAt w d v1 ts → ExsAt w d v2 ts →
  Calls Tryz.prog 38 #[v1, v2] w (EqTrueEnd w)

set_option maxRecDepth 100000 in
set_option maxHeartbeats 2000000 in
theorem eqExs_step (d : Nat) (ih : EqExSaid d) : EqExsSaid d := by
  intro v1 v2 ts w h1 h2
  have IH := Lib.hid ih; clear ih
  obtain ⟨a1, cap1, rfl, hcap1, hm1, hat1⟩ := h1
  obtain ⟨a2, cap2, rfl, hcap2, hm2, hat2⟩ := h2
  have HA1 := Lib.hid hat1; clear hat1
  have HA2 := Lib.hid hat2; clear hat2
  go_enter Tryz.func38, Tryz.ntmps38
  go_wp2_with fail
  go_loopw [5] (fun i wr => ∃ k : Nat, k ≤ ts.length ∧ i = .int .i64 k ∧ Below w.heap.size w wr) (fun i _ => ts.length - (intOf i).toNat)
  case atStart => exact ⟨0, by omega, rfl, Below.refl _ _⟩
  case round =>
    obtain ⟨k, hk, rfl, hb⟩ := hrel
    have HB := Lib.hid hb; clear hb
    by_cases hlt : k < ts.length
    · obtain ⟨b1, off1, x0, x1, x2, x3, x4, x5, rfl, hbl1, hc10, hc11, hc12, hc13, hc14, hc15, ht1⟩ := HA1.out k hlt
      obtain ⟨b2, off2, y0, y1, y2, y3, y4, y5, rfl, hbl2, hc20, hc21, hc22, hc23, hc24, hc25, ht2⟩ := HA2.out k hlt
      have c10 : wr.cell? ⟨b1, off1 + k * 6, none⟩ = some x0 := by rw [HB.out.cell (p := ⟨b1, off1 + k * 6, none⟩) hbl1]; exact hc10
      have c20 : wr.cell? ⟨b2, off2 + k * 6, none⟩ = some y0 := by rw [HB.out.cell (p := ⟨b2, off2 + k * 6, none⟩) hbl2]; exact hc20
      have c11 : wr.cell? ⟨b1, off1 + k * 6 + 1, none⟩ = some x1 := by rw [HB.out.cell (p := ⟨b1, off1 + k * 6 + 1, none⟩) hbl1]; exact hc11
      have c21 : wr.cell? ⟨b2, off2 + k * 6 + 1, none⟩ = some y1 := by rw [HB.out.cell (p := ⟨b2, off2 + k * 6 + 1, none⟩) hbl2]; exact hc21
      have c12 : wr.cell? ⟨b1, off1 + k * 6 + 2, none⟩ = some x2 := by rw [HB.out.cell (p := ⟨b1, off1 + k * 6 + 2, none⟩) hbl1]; exact hc12
      have c22 : wr.cell? ⟨b2, off2 + k * 6 + 2, none⟩ = some y2 := by rw [HB.out.cell (p := ⟨b2, off2 + k * 6 + 2, none⟩) hbl2]; exact hc22
      have c13 : wr.cell? ⟨b1, off1 + k * 6 + 3, none⟩ = some x3 := by rw [HB.out.cell (p := ⟨b1, off1 + k * 6 + 3, none⟩) hbl1]; exact hc13
      have c23 : wr.cell? ⟨b2, off2 + k * 6 + 3, none⟩ = some y3 := by rw [HB.out.cell (p := ⟨b2, off2 + k * 6 + 3, none⟩) hbl2]; exact hc23
      have c14 : wr.cell? ⟨b1, off1 + k * 6 + 4, none⟩ = some x4 := by rw [HB.out.cell (p := ⟨b1, off1 + k * 6 + 4, none⟩) hbl1]; exact hc14
      have c24 : wr.cell? ⟨b2, off2 + k * 6 + 4, none⟩ = some y4 := by rw [HB.out.cell (p := ⟨b2, off2 + k * 6 + 4, none⟩) hbl2]; exact hc24
      have c15 : wr.cell? ⟨b1, off1 + k * 6 + 5, none⟩ = some x5 := by rw [HB.out.cell (p := ⟨b1, off1 + k * 6 + 5, none⟩) hbl1]; exact hc15
      have c25 : wr.cell? ⟨b2, off2 + k * 6 + 5, none⟩ = some y5 := by rw [HB.out.cell (p := ⟨b2, off2 + k * 6 + 5, none⟩) hbl2]; exact hc25
      have HT1 := Lib.hid (ht1.below HB.out.drew)
      have HT2 := Lib.hid (ht2.below HB.out.drew)
      clear ht1 ht2 hc10 hc11 hc12 hc13 hc14 hc15 hc20 hc21 hc22 hc23 hc24 hc25
      go_wp2_with fail
      go_still_tail 8, (by kernel_rfl)
      change wpList _ _ _ _ _ wr.drew
      go_wp2_with fail
      refine (IH.out _ _ _ wr.drew HT1.out HT2.out).mono ?_
      rintro e w' ⟨rfl, hb1⟩
      have HB2 := Lib.hid (HB.out.drew.trans (hb1.mono HB.out.drew.size)); clear hb1
      go_wp2_with fail
      exact ⟨⟨k + 1, by omega, by go_num, HB2.out⟩, by simp [intOf]; omega⟩
    · go_wp2_with fail
      go_ret
      exact ⟨rfl, HB.out⟩

set_option maxRecDepth 100000 in
set_option maxHeartbeats 2000000 in
theorem eqEx_step (d : Nat) (ih : EqExsSaid d) : EqExSaid (d + 1) := by
  intro v1 v2 t w h1 h2
  have IH := Lib.hid ih; clear ih
  have HV1 := ex_parts h1
  have HV2 := ex_parts h2
  cases t with
  | node kd nm n ty ts =>
    obtain ⟨c3, c4, sl, rfl, hk0, hk1, hn0, hn1, hnm, hty1, g1⟩ := h1
    obtain ⟨d3, d4, sl2, rfl, _, _, _, _, _, hty2, g2⟩ := h2
    obtain ⟨k', nm', n', tk, ta, tn, tc, sa, sn, sc, hv⟩ := HV1
    injection hv with hv
    injection hv with hv
    simp at hv
    obtain ⟨rfl, rfl, rfl, rfl, rfl, rfl⟩ := hv
    obtain ⟨k', nm', n', uk, ua, un, uc, qa, qn, qc, hv⟩ := HV2
    injection hv with hv
    injection hv with hv
    simp at hv
    obtain ⟨rfl, rfl, rfl, rfl, rfl, rfl⟩ := hv
    have e2 : Below w.heap.size w ((w.alloc (.cells #[.int .i64 kd, .string nm, .int .i64 n, .int .i64 tk, .slice ta tn tc, .slice sa sn sc] 40)).alloc (.cells #[.int .i64 kd, .string nm, .int .i64 n, .int .i64 uk, .slice ua un uc, .slice qa qn qc] 40)) := ((Below.refl _ _).alloc (Nat.le_refl _) _).alloc (by simp) _
    have HY1 := Lib.hid (hty1.below e2)
    have HY2 := Lib.hid (hty2.below e2)
    have HT1 : Hid (ExsAt ((w.alloc (.cells #[.int .i64 kd, .string nm, .int .i64 n, .int .i64 tk, .slice ta tn tc, .slice sa sn sc] 40)).alloc (.cells #[.int .i64 kd, .string nm, .int .i64 n, .int .i64 uk, .slice ua un uc, .slice qa qn qc] 40)) d (.slice sa sn sc) ts) := ExsAt.below g1 e2
    have HT2 : Hid (ExsAt ((w.alloc (.cells #[.int .i64 kd, .string nm, .int .i64 n, .int .i64 tk, .slice ta tn tc, .slice sa sn sc] 40)).alloc (.cells #[.int .i64 kd, .string nm, .int .i64 n, .int .i64 uk, .slice ua un uc, .slice qa qn qc] 40)) d (.slice qa qn qc) ts) := ExsAt.below g2 e2
    have HE := Lib.hid e2; clear e2 hty1 hty2 g1 g2
    go_enter Tryz.func14, Tryz.ntmps14
    go_wp2_with fail
    refine (eqTy_all d _ _ ty _ HY1.out HY2.out).mono ?_
    rintro e w' ⟨rfl, hb1⟩
    have HB := Lib.hid (two_on (Below.refl _ _) hb1)
    have HT1' := Lib.hid (HT1.out.below hb1)
    have HT2' := Lib.hid (HT2.out.below hb1)
    have p5 := two_first HB.out 5
    have q5 := two_next HB.out 5
    clear hb1 HT1 HT2
    go_wp2_with fail
    refine (IH.out _ _ ts _ HT1'.out HT2'.out).mono ?_
    rintro e w2 ⟨rfl, hb2⟩
    have HB2 := Lib.hid (two_on HB.out hb2); clear hb2
    go_wp2_with fail
    go_ret
    exact ⟨rfl, two_below HB2.out⟩
theorem eqEx_all : ∀ d, EqExSaid d
  | 0 => fun _ _ _ _ h => h.elim
  | d + 1 => eqEx_step d (eqExs_step d (eqEx_all d))
end Go.Proofs.YteffjeejbdjjpaaGreatDoor
/-
  Proved: laws.eqTyping and eqTypingS answer true for two readings of the same typings, and change no memory that was there.
-/
namespace Go.Proofs.YteffjeejbdjjpaaGreatDoor
open Go.RowKit

set_option maxRecDepth 100000 in
set_option maxHeartbeats 2000000 in
theorem eqBi (d : Nat) (v1 v2 : Value) (t : Bi) (w : World) (h1 : BiAt w d v1 t) (h2 : BiAt w d v2 t) :
    Calls Tryz.prog 37 #[v1, v2] w (EqTrueEnd w) := by
  cases t with
  | mk nm ty =>
    obtain ⟨tk, ta, tn, tc, rfl, hnm, hty1⟩ := h1
    obtain ⟨uk, ua, un, uc, rfl, _, hty2⟩ := h2
    dsimp only at hnm hty1 hty2 ⊢
    have e2 : Below w.heap.size w ((w.alloc (.cells #[.string nm, .int .i64 tk, .slice ta tn tc] 61)).alloc (.cells #[.string nm, .int .i64 uk, .slice ua un uc] 61)) := ((Below.refl _ _).alloc (Nat.le_refl _) _).alloc (by simp) _
    have HY1 := Lib.hid (hty1.below e2)
    have HY2 := Lib.hid (hty2.below e2)
    clear e2 hty1 hty2
    go_enter Tryz.func37, Tryz.ntmps37
    go_wp2_with fail
    refine (eqTy_all d _ _ ty _ HY1.out HY2.out).mono ?_
    rintro e w' ⟨rfl, hb1⟩
    have HB := Lib.hid (two_on (Below.refl _ _) hb1)
    clear hb1
    go_wp2_with fail
    go_ret
    exact ⟨rfl, two_below HB.out⟩

set_option maxRecDepth 100000 in
set_option maxHeartbeats 2000000 in
theorem eqBis (d : Nat) (v1 v2 : Value) (ts : List Bi) (w : World) (h1 : BisAt w d v1 ts) (h2 : BisAt w d v2 ts) :
    Calls Tryz.prog 13 #[v1, v2] w (EqTrueEnd w) := by
  obtain ⟨a1, cap1, rfl, hcap1, hm1, hat1⟩ := h1
  obtain ⟨a2, cap2, rfl, hcap2, hm2, hat2⟩ := h2
  have HA1 := Lib.hid hat1; clear hat1
  have HA2 := Lib.hid hat2; clear hat2
  go_enter Tryz.func13, Tryz.ntmps13
  go_wp2_with fail
  go_loopw [5] (fun i wr => ∃ k : Nat, k ≤ ts.length ∧ i = .int .i64 k ∧ Below w.heap.size w wr) (fun i _ => ts.length - (intOf i).toNat)
  case atStart => exact ⟨0, by omega, rfl, Below.refl _ _⟩
  case round =>
    obtain ⟨k, hk, rfl, hb⟩ := hrel
    have HB := Lib.hid hb; clear hb
    by_cases hlt : k < ts.length
    · obtain ⟨b1, off1, x0, x1, x2, rfl, hbl1, hc10, hc11, hc12, ht1⟩ := HA1.out k hlt
      obtain ⟨b2, off2, y0, y1, y2, rfl, hbl2, hc20, hc21, hc22, ht2⟩ := HA2.out k hlt
      have c10 : wr.cell? ⟨b1, off1 + k * 3, none⟩ = some x0 := by rw [HB.out.cell (p := ⟨b1, off1 + k * 3, none⟩) hbl1]; exact hc10
      have c20 : wr.cell? ⟨b2, off2 + k * 3, none⟩ = some y0 := by rw [HB.out.cell (p := ⟨b2, off2 + k * 3, none⟩) hbl2]; exact hc20
      have c11 : wr.cell? ⟨b1, off1 + k * 3 + 1, none⟩ = some x1 := by rw [HB.out.cell (p := ⟨b1, off1 + k * 3 + 1, none⟩) hbl1]; exact hc11
      have c21 : wr.cell? ⟨b2, off2 + k * 3 + 1, none⟩ = some y1 := by rw [HB.out.cell (p := ⟨b2, off2 + k * 3 + 1, none⟩) hbl2]; exact hc21
      have c12 : wr.cell? ⟨b1, off1 + k * 3 + 2, none⟩ = some x2 := by rw [HB.out.cell (p := ⟨b1, off1 + k * 3 + 2, none⟩) hbl1]; exact hc12
      have c22 : wr.cell? ⟨b2, off2 + k * 3 + 2, none⟩ = some y2 := by rw [HB.out.cell (p := ⟨b2, off2 + k * 3 + 2, none⟩) hbl2]; exact hc22
      have HT1 := Lib.hid (ht1.below HB.out.drew)
      have HT2 := Lib.hid (ht2.below HB.out.drew)
      clear ht1 ht2 hc10 hc11 hc12 hc20 hc21 hc22
      go_wp2_with fail
      go_still_tail 8, (by kernel_rfl)
      change wpList _ _ _ _ _ wr.drew
      go_wp2_with fail
      refine (eqBi d _ _ _ wr.drew HT1.out HT2.out).mono ?_
      rintro e w' ⟨rfl, hb1⟩
      have HB2 := Lib.hid (HB.out.drew.trans (hb1.mono HB.out.drew.size)); clear hb1
      go_wp2_with fail
      exact ⟨⟨k + 1, by omega, by go_num, HB2.out⟩, by simp [intOf]; omega⟩
    · go_wp2_with fail
      go_ret
      exact ⟨rfl, HB.out⟩
end Go.Proofs.YteffjeejbdjjpaaGreatDoor
namespace Go.Proofs.YteffjeejbdjjpaaGreatDoor
open Go.RowKit

set_option maxRecDepth 100000 in
set_option maxHeartbeats 2000000 in
theorem checkTypeWalk (d D D2 : Nat) (pe : Addr) (vc v tv : Value) (C : List Bi) (t : Ex) (x : Ty) (w : World) (hv : BisAt w D vc C) (he : ExAt w d v t) (ht : TyAt w D2 tv x) (herr : ErrAt w pe) (hmt : MeetTab w) (htab : TabAt w) :
  Calls Tryz.prog 4 #[vc, v, tv] w fun e w' => e = .returned (.bool true) ∧ Below w.heap.size w w' := by
 have HE := Lib.hid he
 obtain ⟨kd', nm', n', tk, ta, tn, tc, sa, sm, sc, hv2⟩ := ex_parts he
 obtain ⟨va, vn, vc1, rfl⟩ : ∃ a n c, vc = .slice a n c := by obtain ⟨a, cap, hv, _⟩ := hv; exact ⟨_, _, _, hv⟩
 subst hv2
 clear he
 have HV := Lib.hid hv
 have HERR := Lib.hid herr
 have HMT := Lib.hid hmt
 have HTAB := Lib.hid htab
 clear hv herr hmt htab
 obtain ⟨uk, ua, un, uc, rfl⟩ := agg_parts ht
 have HU := Lib.hid ht
 clear ht
 obtain ⟨w0, hw0, B, hz_w0, XA, FA, XT, FT⟩ := laid2 w #[.int .i64 kd', .string nm', .int .i64 n', .int .i64 tk, .slice ta tn tc, .slice sa sm sc] 28 #[.int .i64 uk, .slice ua un uc] 25
 replace B := Lib.hid B
 go_enter Tryz.func4, Tryz.ntmps4
 go_wp2_with fail
 rw [← hw0]
 clear hw0
 refine (szBis D _ C 1048576 _ (by omega) (by omega) (HV.out.below B.out)).mono ?_
 rintro e w1 ⟨r1, rfl, hb, hr1⟩
 have hz_w1 := hb.size
 replace B := bb B hb
 replace XA := xb XA hb
 replace FA := fb FA hb
 replace XT := xb XT hb
 replace FT := fb FT hb
 clear hb
 rcases hr1 with ⟨hr1, hs1⟩ | ⟨hr1, hs1⟩
 ·go_wp2_with fail
  go_ret
  exact ⟨rfl, B.out⟩
 have hq1 : r1 ≤ 1048576 := by omega
 have cA_0 := XA.out.2 0
 have cA_1 := XA.out.2 1
 have cA_2 := XA.out.2 2
 have cA_3 := XA.out.2 3
 have cA_4 := XA.out.2 4
 have cA_5 := XA.out.2 5
 go_wp2_with fail
 clear cA_0 cA_1 cA_2 cA_3 cA_4 cA_5
 refine (szEx_all d _ t r1 _ hr1 hq1 (HE.out.below B.out)).mono ?_
 rintro e w2 ⟨r2, rfl, hb, hr2⟩
 have hz_w2 := hb.size
 replace B := bb B hb
 replace XA := xb XA hb
 replace FA := fb FA hb
 replace XT := xb XT hb
 replace FT := fb FT hb
 clear hb
 rcases hr2 with ⟨hr2, hs2⟩ | ⟨hr2, hs2⟩
 ·go_wp2_with fail
  go_ret
  exact ⟨rfl, B.out⟩
 have hq2 : r2 ≤ 1048576 := by omega
 have hs : Bi.bulks C + t.bulk ≤ 1048576 := by omega
 have hn1 : Bi.bulks C ≤ 1048576 := by omega
 have hn2 : t.bulk ≤ 1048576 := by omega
 have cT_0 := XT.out.2 0
 have cT_1 := XT.out.2 1
 go_wp2_with fail
 clear cT_0 cT_1
 refine (szTy_all D2 _ x r2 _ hr2 hq2 (HU.out.below B.out)).mono ?_
 rintro e w3 ⟨r3, rfl, hb, hr3⟩
 have hz_w3 := hb.size
 replace B := bb B hb
 replace XA := xb XA hb
 replace FA := fb FA hb
 replace XT := xb XT hb
 replace FT := fb FT hb
 clear hb
 rcases hr3 with ⟨hr3, hs3⟩ | ⟨hr3, hs3⟩
 ·go_wp2_with fail
  go_ret
  exact ⟨rfl, B.out⟩
 have hp3 := x.size_pos
 have hx : x.size ≤ 1048577 := by omega
 clear hs3
 clear hs1 hs2
 go_wp2_with fail
 obtain ⟨wd4, hwd4⟩ : ∃ W, W = w3.drew := ⟨_, rfl⟩
 have hb : Below w3.heap.size w3 wd4 := by rw [hwd4]; exact below_drew _
 have hz_wd4 := hb.size
 replace B := bb B hb
 replace XA := xb XA hb
 replace FA := fb FA hb
 replace XT := xb XT hb
 replace FT := fb FT hb
 clear hb
 refine wp_region_held_drew (S := fun w' => w'.cell? ⟨w.heap.size, 0, none⟩ = some (.int .i64 kd') ∧ w'.cell? ⟨w.heap.size, 1, none⟩ = some (.string nm') ∧ w'.cell? ⟨w.heap.size, 2, none⟩ = some (.int .i64 n') ∧ w'.cell? ⟨w.heap.size, 3, none⟩ = some (.int .i64 tk) ∧ w'.cell? ⟨w.heap.size, 4, none⟩ = some (.slice ta tn tc) ∧ w'.cell? ⟨w.heap.size, 5, none⟩ = some (.slice sa sm sc) ∧ w'.cell? ⟨w.heap.size + 1, 0, none⟩ = some (.int .i64 uk) ∧ w'.cell? ⟨w.heap.size + 1, 1, none⟩ = some (.slice ua un uc)) (by kernel_rfl) (by rw [← hwd4]; exact ⟨XA.out.2 0, XA.out.2 1, XA.out.2 2, XA.out.2 3, XA.out.2 4, XA.out.2 5, XT.out.2 0, XT.out.2 1⟩) (fun hHeld => ?_)
 rw [← hwd4] at hHeld ⊢
 clear hwd4
 refine wpAnyH_take (i := 0) (v := ?v6_0) rfl (by kernel_rfl) (by kernel_rfl) (by kernel_rfl) (fun _ _ _ h => h) (Or.inl ⟨by kernel_rfl, ?hy6_0⟩) hHeld ?rest6_0
 case hy6_0 =>
  intro w hSw
  (try dsimp only at hSw)
  go_simp
  all_goals (first | done | with_reducible rfl)
 try simp only [Act.put]
 try simp only [List.setIfInBounds_toArray]
 try simp only [List.set_cons_succ]
 try simp only [List.set_cons_zero]
 refine wpAnyH_take (i := 2) (v := ?v7_2) rfl (by kernel_rfl) (by kernel_rfl) (by kernel_rfl) (fun _ _ _ h => h) (Or.inl ⟨by kernel_rfl, ?hy7_2⟩) hHeld ?rest7_2
 case hy7_2 =>
  intro w hSw
  (try dsimp only at hSw)
  go_simp
  all_goals (first | done | with_reducible rfl)
 try simp only [Act.put]
 try simp only [List.setIfInBounds_toArray]
 try simp only [List.set_cons_succ]
 try simp only [List.set_cons_zero]
 refine wpAnyH_take (i := 4) (v := ?v8_4) rfl (by kernel_rfl) (by kernel_rfl) (by kernel_rfl) (fun _ _ _ h => h) (Or.inl ⟨by kernel_rfl, ?hy8_4⟩) hHeld ?rest8_4
 case hy8_4 =>
  intro w hSw
  (try dsimp only at hSw)
  go_simp
  all_goals (first | done | with_reducible rfl)
 try simp only [Act.put]
 try simp only [List.setIfInBounds_toArray]
 try simp only [List.set_cons_succ]
 try simp only [List.set_cons_zero]
 refine wpAnyH_ready (rs := [1]) (by kernel_rfl) (by simp) ?_
 refine AllReadyH.cons rfl (fun K hK => ?_) AllReadyH.nil
 go_simp
 go_at_call 9
 refine (toBis D _ C _ hn1 (HV.out.below B.out)).mono ?_
 rintro e w5 ⟨s0, rfl, hcs, hb⟩
 have hz_w5 := hb.size
 replace B := bb B hb
 replace XA := xb XA hb
 replace FA := fb FA hb
 replace XT := xb XT hb
 replace FT := fb FT hb
 clear hb
 have HS0 := Lib.hid hcs
 clear hcs
 clear hHeld
 try go_wp2_with fail
 refine hK.out _ _ (by exact ⟨XA.out.2 0, XA.out.2 1, XA.out.2 2, XA.out.2 3, XA.out.2 4, XA.out.2 5, XT.out.2 0, XT.out.2 1⟩) (fun hHeld => ?_)
 clear hK K
 try simp only [Act.put]
 try simp only [List.setIfInBounds_toArray]
 try simp only [List.set_cons_succ]
 try simp only [List.set_cons_zero]
 refine wpAnyH_ready (rs := [3]) (by kernel_rfl) (by simp) ?_
 refine AllReadyH.cons rfl (fun K hK => ?_) AllReadyH.nil
 go_simp
 go_at_call 10
 refine ((toEx_all d).1 _ t _ hn2 (HE.out.below B.out)).mono ?_
 rintro e w6 ⟨s1, fp, rfl, ht, hf, hb⟩
 have hz_w6 := hb.size
 replace B := bb B hb
 replace XA := xb XA hb
 replace FA := fb FA hb
 replace XT := xb XT hb
 replace FT := fb FT hb
 replace HS0 := Lib.hid (HS0.out.below hb)
 clear hb
 have HS1 := Lib.hid ht.at_
 clear ht hf
 clear hHeld
 try go_wp2_with fail
 refine hK.out _ _ (by exact ⟨XA.out.2 0, XA.out.2 1, XA.out.2 2, XA.out.2 3, XA.out.2 4, XA.out.2 5, XT.out.2 0, XT.out.2 1⟩) (fun hHeld => ?_)
 clear hK K
 try simp only [Act.put]
 try simp only [List.setIfInBounds_toArray]
 try simp only [List.set_cons_succ]
 try simp only [List.set_cons_zero]
 refine wpAnyH_ready (rs := [5]) (by kernel_rfl) (by simp) ?_
 refine AllReadyH.cons rfl (fun K hK => ?_) AllReadyH.nil
 go_simp
 go_at_call 21
 refine ((toTy_all D2).1 _ x _ hx (HU.out.below B.out)).mono ?_
 rintro e w7 ⟨s2, fp, rfl, ht, hf, hb⟩
 have hz_w7 := hb.size
 replace B := bb B hb
 replace XA := xb XA hb
 replace FA := fb FA hb
 replace XT := xb XT hb
 replace FT := fb FT hb
 replace HS0 := Lib.hid (HS0.out.below hb)
 replace HS1 := Lib.hid (HS1.out.below hb)
 clear hb
 have HS2 := Lib.hid ht.at_
 clear ht hf
 clear hHeld
 try go_wp2_with fail
 refine hK.out _ _ (by exact ⟨XA.out.2 0, XA.out.2 1, XA.out.2 2, XA.out.2 3, XA.out.2 4, XA.out.2 5, XT.out.2 0, XT.out.2 1⟩) (fun hHeld => ?_)
 clear hK K
 try simp only [Act.put]
 try simp only [List.setIfInBounds_toArray]
 try simp only [List.set_cons_succ]
 try simp only [List.set_cons_zero]
 refine wpAnyH_ready (rs := [6]) (by kernel_rfl) (by simp) ?_
 refine AllReadyH.cons rfl (fun K hK => ?_) AllReadyH.nil
 go_simp
 go_at_call 20
 refine (specCheckType d D D2 _ _ _ C t x _ HS0.out HS1.out HS2.out hs hx).mono ?_
 rintro e w8 ⟨rfl, hb⟩
 have hz_w8 := hb.size
 replace B := bb B hb
 replace XA := xb XA hb
 replace FA := fb FA hb
 replace XT := xb XT hb
 replace FT := fb FT hb
 replace HS0 := Lib.hid (HS0.out.below hb)
 replace HS1 := Lib.hid (HS1.out.below hb)
 replace HS2 := Lib.hid (HS2.out.below hb)
 clear hb
 clear HS0 HS1 HS2
 clear hHeld
 try go_wp2_with fail
 refine hK.out _ _ (by exact ⟨XA.out.2 0, XA.out.2 1, XA.out.2 2, XA.out.2 3, XA.out.2 4, XA.out.2 5, XT.out.2 0, XT.out.2 1⟩) (fun hHeld => ?_)
 clear hK K
 try simp only [Act.put]
 try simp only [List.setIfInBounds_toArray]
 try simp only [List.set_cons_succ]
 try simp only [List.set_cons_zero]
 refine wpAnyH_ready (rs := [7]) (by kernel_rfl) (by simp) ?_
 refine AllReadyH.cons rfl (fun K hK => ?_) AllReadyH.nil
 go_simp
 refine hK.out _ _ hHeld (fun hHeld => ?_)
 clear hK K
 try simp only [Act.put]
 try simp only [List.setIfInBounds_toArray]
 try simp only [List.set_cons_succ]
 try simp only [List.set_cons_zero]
 refine wpAnyH_done (by kernel_rfl) ?_ _
 try simp only [List.getElem_toArray]
 try simp only [List.getElem_cons_succ]
 try simp only [List.getElem_cons_zero]
 try simp only [Act.put]
 try simp only [List.setIfInBounds_toArray]
 try simp only [List.set_cons_succ]
 try simp only [List.set_cons_zero]
 go_wp2_with fail
 refine (toBis D _ C _ hn1 (HV.out.below B.out)).mono ?_
 rintro e w9 ⟨x0, rfl, hcs, hb⟩
 have hz_w9 := hb.size
 replace B := bb B hb
 replace XA := xb XA hb
 replace FA := fb FA hb
 replace XT := xb XT hb
 replace FT := fb FT hb
 clear hb
 have HX := Lib.hid hcs
 clear hcs
 have cA_0 := XA.out.2 0
 have cA_1 := XA.out.2 1
 have cA_2 := XA.out.2 2
 have cA_3 := XA.out.2 3
 have cA_4 := XA.out.2 4
 have cA_5 := XA.out.2 5
 go_wp2_with fail
 clear cA_0 cA_1 cA_2 cA_3 cA_4 cA_5
 refine ((toEx_all d).1 _ t _ hn2 (HE.out.below B.out)).mono ?_
 rintro e w10 ⟨x1, fp, rfl, ht, hf, hb⟩
 have hz_w10 := hb.size
 replace B := bb B hb
 replace XA := xb XA hb
 replace FA := fb FA hb
 replace XT := xb XT hb
 replace FT := fb FT hb
 replace HX := Lib.hid (HX.out.below hb)
 clear hb
 obtain ⟨x1k, x1m, x1n, x1tk, x1ta, x1tn, x1tc, x1sa, x1sn, x1sc, rfl⟩ := ex_parts ht.at_
 have HX1 := Lib.hid ht.at_
 clear ht hf
 obtain ⟨wa11, hwa11, hb, hy_wa11, XX, FX⟩ := laid1 w10 #[.int .i64 x1k, .string x1m, .int .i64 x1n, .int .i64 x1tk, .slice x1ta x1tn x1tc, .slice x1sa x1sn x1sc] 40
 have hz_wa11 := hb.size
 replace B := bb B hb
 replace XA := xb XA hb
 replace FA := fb FA hb
 replace XT := xb XT hb
 replace FT := fb FT hb
 replace HX := Lib.hid (HX.out.below hb)
 replace HX1 := Lib.hid (HX1.out.below hb)
 clear hb
 have cT_0 := XT.out.2 0
 have cT_1 := XT.out.2 1
 rw [hwa11] at cT_0
 rw [hwa11] at cT_1
 go_wp2_with fail
 clear cT_0 cT_1
 rw [← hwa11]
 clear hwa11
 refine ((toTy_all D2).1 _ x _ hx (HU.out.below B.out)).mono ?_
 rintro e w12 ⟨x2, fp, rfl, ht, hf, hb⟩
 have hz_w12 := hb.size
 replace B := bb B hb
 replace XA := xb XA hb
 replace FA := fb FA hb
 replace XT := xb XT hb
 replace FT := fb FT hb
 replace XX := xb XX hb
 replace FX := fb FX hb
 replace HX := Lib.hid (HX.out.below hb)
 replace HX1 := Lib.hid (HX1.out.below hb)
 clear hb
 obtain ⟨x2k, x2a, x2n, x2c, rfl⟩ := agg_parts ht.at_
 have HX2 := Lib.hid ht.at_
 clear ht hf
 obtain ⟨wa13, hwa13, hb, hy_wa13, XX2, FX2⟩ := laid1 w12 #[.int .i64 x2k, .slice x2a x2n x2c] 33
 have hz_wa13 := hb.size
 replace B := bb B hb
 replace XA := xb XA hb
 replace FA := fb FA hb
 replace XT := xb XT hb
 replace FT := fb FT hb
 replace XX := xb XX hb
 replace FX := fb FX hb
 replace HX := Lib.hid (HX.out.below hb)
 replace HX1 := Lib.hid (HX1.out.below hb)
 replace HX2 := Lib.hid (HX2.out.below hb)
 clear hb
 have cX_0 := XX.out.2 0
 have cX_1 := XX.out.2 1
 have cX_2 := XX.out.2 2
 have cX_3 := XX.out.2 3
 have cX_4 := XX.out.2 4
 have cX_5 := XX.out.2 5
 have cX2_0 := XX2.out.2 0
 have cX2_1 := XX2.out.2 1
 rw [hwa13] at cX_0
 rw [hwa13] at cX_1
 rw [hwa13] at cX_2
 rw [hwa13] at cX_3
 rw [hwa13] at cX_4
 rw [hwa13] at cX_5
 rw [hwa13] at cX2_0
 rw [hwa13] at cX2_1
 go_wp2_with fail
 clear cX_0 cX_1 cX_2 cX_3 cX_4 cX_5 cX2_0 cX2_1
 rw [← hwa13]
 clear hwa13
 refine (implCheckType d D D2 pe _ _ _ C t x _ HX.out HX1.out HX2.out hs hx (HERR.out.below B.out) (HMT.out.below B.out) (HTAB.out.below B.out)).mono ?_
 rintro e w14 ⟨rfl, hb⟩
 have hz_w14 := hb.size
 replace B := bb B hb
 replace XA := xb XA hb
 replace FA := fb FA hb
 replace XT := xb XT hb
 replace FT := fb FT hb
 replace XX := xb XX hb
 replace FX := fb FX hb
 replace XX2 := xb XX2 hb
 replace FX2 := fb FX2 hb
 replace HX := Lib.hid (HX.out.below hb)
 replace HX1 := Lib.hid (HX1.out.below hb)
 replace HX2 := Lib.hid (HX2.out.below hb)
 clear hb
 go_wp2_with fail
 refine (toBis D _ C _ hn1 (HV.out.below B.out)).mono ?_
 rintro e w15 ⟨y0, rfl, hcs, hb⟩
 have hz_w15 := hb.size
 replace B := bb B hb
 replace XA := xb XA hb
 replace FA := fb FA hb
 replace XT := xb XT hb
 replace FT := fb FT hb
 replace XX := xb XX hb
 replace FX := fb FX hb
 replace XX2 := xb XX2 hb
 replace FX2 := fb FX2 hb
 replace HX := Lib.hid (HX.out.below hb)
 replace HX1 := Lib.hid (HX1.out.below hb)
 replace HX2 := Lib.hid (HX2.out.below hb)
 clear hb
 have HY := Lib.hid hcs
 clear hcs
 go_wp2_with fail
 refine (eqBis D _ _ C _ HX.out HY.out).mono ?_
 rintro e w16 ⟨rfl, hb⟩
 have hz_w16 := hb.size
 replace B := bb B hb
 replace XA := xb XA hb
 replace FA := fb FA hb
 replace XT := xb XT hb
 replace FT := fb FT hb
 replace XX := xb XX hb
 replace FX := fb FX hb
 replace XX2 := xb XX2 hb
 replace FX2 := fb FX2 hb
 replace HX := Lib.hid (HX.out.below hb)
 replace HX1 := Lib.hid (HX1.out.below hb)
 replace HX2 := Lib.hid (HX2.out.below hb)
 replace HY := Lib.hid (HY.out.below hb)
 clear hb
 clear HY
 go_wp2_with fail
 obtain ⟨wd17, hwd17⟩ : ∃ W, W = w16.drew := ⟨_, rfl⟩
 have hb : Below w16.heap.size w16 wd17 := by rw [hwd17]; exact below_drew _
 have hz_wd17 := hb.size
 replace B := bb B hb
 replace XA := xb XA hb
 replace FA := fb FA hb
 replace XT := xb XT hb
 replace FT := fb FT hb
 replace XX := xb XX hb
 replace FX := fb FX hb
 replace XX2 := xb XX2 hb
 replace FX2 := fb FX2 hb
 replace HX := Lib.hid (HX.out.below hb)
 replace HX1 := Lib.hid (HX1.out.below hb)
 replace HX2 := Lib.hid (HX2.out.below hb)
 clear hb
 refine wp_region_held_drew (S := fun w' => w'.cell? ⟨w10.heap.size, 0, none⟩ = some (.int .i64 x1k) ∧ w'.cell? ⟨w10.heap.size, 1, none⟩ = some (.string x1m) ∧ w'.cell? ⟨w10.heap.size, 2, none⟩ = some (.int .i64 x1n) ∧ w'.cell? ⟨w10.heap.size, 3, none⟩ = some (.int .i64 x1tk) ∧ w'.cell? ⟨w10.heap.size, 4, none⟩ = some (.slice x1ta x1tn x1tc) ∧ w'.cell? ⟨w10.heap.size, 5, none⟩ = some (.slice x1sa x1sn x1sc) ∧ w'.cell? ⟨w.heap.size, 0, none⟩ = some (.int .i64 kd') ∧ w'.cell? ⟨w.heap.size, 1, none⟩ = some (.string nm') ∧ w'.cell? ⟨w.heap.size, 2, none⟩ = some (.int .i64 n') ∧ w'.cell? ⟨w.heap.size, 3, none⟩ = some (.int .i64 tk) ∧ w'.cell? ⟨w.heap.size, 4, none⟩ = some (.slice ta tn tc) ∧ w'.cell? ⟨w.heap.size, 5, none⟩ = some (.slice sa sm sc)) (by kernel_rfl) (by rw [← hwd17]; exact ⟨XX.out.2 0, XX.out.2 1, XX.out.2 2, XX.out.2 3, XX.out.2 4, XX.out.2 5, XA.out.2 0, XA.out.2 1, XA.out.2 2, XA.out.2 3, XA.out.2 4, XA.out.2 5⟩) (fun hHeld => ?_)
 rw [← hwd17] at hHeld ⊢
 clear hwd17
 refine wpAnyH_take (i := 0) (v := ?v9_0) rfl (by kernel_rfl) (by kernel_rfl) (by kernel_rfl) (fun _ _ _ h => h) (Or.inl ⟨by kernel_rfl, ?hy9_0⟩) hHeld ?rest9_0
 case hy9_0 =>
  intro w hSw
  (try dsimp only at hSw)
  go_simp
  all_goals (first | done | with_reducible rfl)
 try simp only [Act.put]
 try simp only [List.setIfInBounds_toArray]
 try simp only [List.set_cons_succ]
 try simp only [List.set_cons_zero]
 refine wpAnyH_take (i := 1) (v := ?v10_1) rfl (by kernel_rfl) (by kernel_rfl) (by kernel_rfl) (fun _ _ _ h => h) (Or.inl ⟨by kernel_rfl, ?hy10_1⟩) hHeld ?rest10_1
 case hy10_1 =>
  intro w hSw
  (try dsimp only at hSw)
  go_simp
  all_goals (first | done | with_reducible rfl)
 try simp only [Act.put]
 try simp only [List.setIfInBounds_toArray]
 try simp only [List.set_cons_succ]
 try simp only [List.set_cons_zero]
 refine wpAnyH_ready (rs := [2]) (by kernel_rfl) (by simp) ?_
 refine AllReadyH.cons rfl (fun K hK => ?_) AllReadyH.nil
 go_simp
 go_at_call 10
 refine ((toEx_all d).1 _ t _ hn2 (HE.out.below B.out)).mono ?_
 rintro e w18 ⟨y1, fp, rfl, ht, hf, hb⟩
 have hz_w18 := hb.size
 replace B := bb B hb
 replace XA := xb XA hb
 replace FA := fb FA hb
 replace XT := xb XT hb
 replace FT := fb FT hb
 replace XX := xb XX hb
 replace FX := fb FX hb
 replace XX2 := xb XX2 hb
 replace FX2 := fb FX2 hb
 replace HX := Lib.hid (HX.out.below hb)
 replace HX1 := Lib.hid (HX1.out.below hb)
 replace HX2 := Lib.hid (HX2.out.below hb)
 clear hb
 have HZ := Lib.hid ht.at_
 clear ht hf
 clear hHeld
 try go_wp2_with fail
 refine hK.out _ _ (by exact ⟨XX.out.2 0, XX.out.2 1, XX.out.2 2, XX.out.2 3, XX.out.2 4, XX.out.2 5, XA.out.2 0, XA.out.2 1, XA.out.2 2, XA.out.2 3, XA.out.2 4, XA.out.2 5⟩) (fun hHeld => ?_)
 clear hK K
 try simp only [Act.put]
 try simp only [List.setIfInBounds_toArray]
 try simp only [List.set_cons_succ]
 try simp only [List.set_cons_zero]
 refine wpAnyH_ready (rs := [3]) (by kernel_rfl) (by simp) ?_
 refine AllReadyH.cons rfl (fun K hK => ?_) AllReadyH.nil
 go_simp
 go_at_call 14
 refine (eqEx_all d _ _ t _ HX1.out HZ.out).mono ?_
 rintro e w19 ⟨rfl, hb⟩
 have hz_w19 := hb.size
 replace B := bb B hb
 replace XA := xb XA hb
 replace FA := fb FA hb
 replace XT := xb XT hb
 replace FT := fb FT hb
 replace XX := xb XX hb
 replace FX := fb FX hb
 replace XX2 := xb XX2 hb
 replace FX2 := fb FX2 hb
 replace HX := Lib.hid (HX.out.below hb)
 replace HX1 := Lib.hid (HX1.out.below hb)
 replace HX2 := Lib.hid (HX2.out.below hb)
 replace HZ := Lib.hid (HZ.out.below hb)
 clear hb
 clear HZ
 clear hHeld
 try go_wp2_with fail
 refine hK.out _ _ (by exact ⟨XX.out.2 0, XX.out.2 1, XX.out.2 2, XX.out.2 3, XX.out.2 4, XX.out.2 5, XA.out.2 0, XA.out.2 1, XA.out.2 2, XA.out.2 3, XA.out.2 4, XA.out.2 5⟩) (fun hHeld => ?_)
 clear hK K
 try simp only [Act.put]
 try simp only [List.setIfInBounds_toArray]
 try simp only [List.set_cons_succ]
 try simp only [List.set_cons_zero]
 refine wpAnyH_take (i := 4) (v := ?v11_4) rfl (by kernel_rfl) (by kernel_rfl) (by kernel_rfl) (fun _ _ _ h => h) (Or.inl ⟨by kernel_rfl, ?hy11_4⟩) hHeld ?rest11_4
 case hy11_4 =>
  intro w hSw
  (try dsimp only at hSw)
  go_simp
  all_goals (first | done | with_reducible rfl)
 try simp only [Act.put]
 try simp only [List.setIfInBounds_toArray]
 try simp only [List.set_cons_succ]
 try simp only [List.set_cons_zero]
 refine wpAnyH_done (by kernel_rfl) ?_ _
 try simp only [List.getElem_toArray]
 try simp only [List.getElem_cons_succ]
 try simp only [List.getElem_cons_zero]
 try simp only [Act.put]
 try simp only [List.setIfInBounds_toArray]
 try simp only [List.set_cons_succ]
 try simp only [List.set_cons_zero]
 go_wp2_with fail
 obtain ⟨wd20, hwd20⟩ : ∃ W, W = w19.drew := ⟨_, rfl⟩
 have hb : Below w19.heap.size w19 wd20 := by rw [hwd20]; exact below_drew _
 have hz_wd20 := hb.size
 replace B := bb B hb
 replace XA := xb XA hb
 replace FA := fb FA hb
 replace XT := xb XT hb
 replace FT := fb FT hb
 replace XX := xb XX hb
 replace FX := fb FX hb
 replace XX2 := xb XX2 hb
 replace FX2 := fb FX2 hb
 replace HX := Lib.hid (HX.out.below hb)
 replace HX1 := Lib.hid (HX1.out.below hb)
 replace HX2 := Lib.hid (HX2.out.below hb)
 clear hb
 refine wp_region_held_drew (S := fun w' => w'.cell? ⟨w12.heap.size, 0, none⟩ = some (.int .i64 x2k) ∧ w'.cell? ⟨w12.heap.size, 1, none⟩ = some (.slice x2a x2n x2c) ∧ w'.cell? ⟨w.heap.size + 1, 0, none⟩ = some (.int .i64 uk) ∧ w'.cell? ⟨w.heap.size + 1, 1, none⟩ = some (.slice ua un uc)) (by kernel_rfl) (by rw [← hwd20]; exact ⟨XX2.out.2 0, XX2.out.2 1, XT.out.2 0, XT.out.2 1⟩) (fun hHeld => ?_)
 rw [← hwd20] at hHeld ⊢
 clear hwd20
 refine wpAnyH_take (i := 0) (v := ?v12_0) rfl (by kernel_rfl) (by kernel_rfl) (by kernel_rfl) (fun _ _ _ h => h) (Or.inl ⟨by kernel_rfl, ?hy12_0⟩) hHeld ?rest12_0
 case hy12_0 =>
  intro w hSw
  (try dsimp only at hSw)
  go_simp
  all_goals (first | done | with_reducible rfl)
 try simp only [Act.put]
 try simp only [List.setIfInBounds_toArray]
 try simp only [List.set_cons_succ]
 try simp only [List.set_cons_zero]
 refine wpAnyH_take (i := 1) (v := ?v13_1) rfl (by kernel_rfl) (by kernel_rfl) (by kernel_rfl) (fun _ _ _ h => h) (Or.inl ⟨by kernel_rfl, ?hy13_1⟩) hHeld ?rest13_1
 case hy13_1 =>
  intro w hSw
  (try dsimp only at hSw)
  go_simp
  all_goals (first | done | with_reducible rfl)
 try simp only [Act.put]
 try simp only [List.setIfInBounds_toArray]
 try simp only [List.set_cons_succ]
 try simp only [List.set_cons_zero]
 refine wpAnyH_ready (rs := [2]) (by kernel_rfl) (by simp) ?_
 refine AllReadyH.cons rfl (fun K hK => ?_) AllReadyH.nil
 go_simp
 go_at_call 21
 refine ((toTy_all D2).1 _ x _ hx (HU.out.below B.out)).mono ?_
 rintro e w21 ⟨y2, fp, rfl, ht, hf, hb⟩
 have hz_w21 := hb.size
 replace B := bb B hb
 replace XA := xb XA hb
 replace FA := fb FA hb
 replace XT := xb XT hb
 replace FT := fb FT hb
 replace XX := xb XX hb
 replace FX := fb FX hb
 replace XX2 := xb XX2 hb
 replace FX2 := fb FX2 hb
 replace HX := Lib.hid (HX.out.below hb)
 replace HX1 := Lib.hid (HX1.out.below hb)
 replace HX2 := Lib.hid (HX2.out.below hb)
 clear hb
 have HZ := Lib.hid ht.at_
 clear ht hf
 clear hHeld
 try go_wp2_with fail
 refine hK.out _ _ (by exact ⟨XX2.out.2 0, XX2.out.2 1, XT.out.2 0, XT.out.2 1⟩) (fun hHeld => ?_)
 clear hK K
 try simp only [Act.put]
 try simp only [List.setIfInBounds_toArray]
 try simp only [List.set_cons_succ]
 try simp only [List.set_cons_zero]
 refine wpAnyH_ready (rs := [3]) (by kernel_rfl) (by simp) ?_
 refine AllReadyH.cons rfl (fun K hK => ?_) AllReadyH.nil
 go_simp
 go_at_call 12
 refine (eqTy_all D2 _ _ x _ HX2.out HZ.out).mono ?_
 rintro e w22 ⟨rfl, hb⟩
 have hz_w22 := hb.size
 replace B := bb B hb
 replace XA := xb XA hb
 replace FA := fb FA hb
 replace XT := xb XT hb
 replace FT := fb FT hb
 replace XX := xb XX hb
 replace FX := fb FX hb
 replace XX2 := xb XX2 hb
 replace FX2 := fb FX2 hb
 replace HX := Lib.hid (HX.out.below hb)
 replace HX1 := Lib.hid (HX1.out.below hb)
 replace HX2 := Lib.hid (HX2.out.below hb)
 replace HZ := Lib.hid (HZ.out.below hb)
 clear hb
 clear HZ
 clear hHeld
 try go_wp2_with fail
 refine hK.out _ _ (by exact ⟨XX2.out.2 0, XX2.out.2 1, XT.out.2 0, XT.out.2 1⟩) (fun hHeld => ?_)
 clear hK K
 try simp only [Act.put]
 try simp only [List.setIfInBounds_toArray]
 try simp only [List.set_cons_succ]
 try simp only [List.set_cons_zero]
 refine wpAnyH_take (i := 4) (v := ?v14_4) rfl (by kernel_rfl) (by kernel_rfl) (by kernel_rfl) (fun _ _ _ h => h) (Or.inl ⟨by kernel_rfl, ?hy14_4⟩) hHeld ?rest14_4
 case hy14_4 =>
  intro w hSw
  (try dsimp only at hSw)
  go_simp
  all_goals (first | done | with_reducible rfl)
 try simp only [Act.put]
 try simp only [List.setIfInBounds_toArray]
 try simp only [List.set_cons_succ]
 try simp only [List.set_cons_zero]
 refine wpAnyH_done (by kernel_rfl) ?_ _
 try simp only [List.getElem_toArray]
 try simp only [List.getElem_cons_succ]
 try simp only [List.getElem_cons_zero]
 try simp only [Act.put]
 try simp only [List.setIfInBounds_toArray]
 try simp only [List.set_cons_succ]
 try simp only [List.set_cons_zero]
 go_wp2_with fail
 go_ret
 exact ⟨rfl, B.out⟩
end Go.Proofs.YteffjeejbdjjpaaGreatDoor
