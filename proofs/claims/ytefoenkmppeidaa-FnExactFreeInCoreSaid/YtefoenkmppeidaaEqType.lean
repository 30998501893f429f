/-
  Proved: laws.eqType and eqTypeS answer true for two readings of the same tree, and change no memory that was there.
-/
import Derived.Test.YtefoenkmppeidaaTree
import Derived.StillTailTactics
namespace Go.Proofs.Ytefoenkmppeidaa
open Go.RowKit

def EqTrueEnd (w : World) (e : Ending) (w' : World) : Prop := e = .returned (.bool true) ∧ Below w.heap.size w w'
def EqTySaid (d : Nat) : Prop := ∀ (v1 v2 : Value) (t : Ty) (w : World), TyAt w d v1 t → TyAt w d v2 t →
  Calls Try.prog 47 #[v1, v2] w (EqTrueEnd w)
def EqTysSaid (d : Nat) : Prop := ∀ (v1 v2 : Value) (ts : List Ty) (w : World), TysAt w d v1 ts → TysAt w d v2 ts →
  Calls Try.prog 97 #[v1, v2] w (EqTrueEnd w)

set_option maxRecDepth 100000 in
set_option maxHeartbeats 1000000 in
theorem eqTys_step (d : Nat) (ih : EqTySaid d) : EqTysSaid d := by
  intro v1 v2 ts w h1 h2
  have IH := Lib.hid ih; clear ih
  obtain ⟨a1, cap1, rfl, hcap1, hm1, hat1⟩ := h1
  obtain ⟨a2, cap2, rfl, hcap2, hm2, hat2⟩ := h2
  have HA1 := Lib.hid hat1; clear hat1
  have HA2 := Lib.hid hat2; clear hat2
  go_enter Try.func97, Try.ntmps97
  go_wp2_with fail
  go_loopw [5] (fun i wr => ∃ k : Nat, k ≤ ts.length ∧ i = .int .i64 k ∧ Below w.heap.size w wr) (fun i _ => ts.length - (intOf i).toNat)
  case atStart => exact ⟨0, by omega, rfl, Below.refl _ _⟩
  case round =>
    obtain ⟨k, hk, rfl, hb⟩ := hrel
    have HB := Lib.hid hb; clear hb
    by_cases hlt : k < ts.length
    · obtain ⟨b1, off1, x0, x1, rfl, hbl1, hc10, hc11, ht1⟩ := HA1.out k hlt
      obtain ⟨b2, off2, y0, y1, rfl, hbl2, hc20, hc21, ht2⟩ := HA2.out k hlt
      have c10 : wr.cell? ⟨b1, off1 + k * 2, none⟩ = some x0 := by rw [HB.out.cell (p := ⟨b1, off1 + k * 2, none⟩) hbl1]; exact hc10
      have c11 : wr.cell? ⟨b1, off1 + k * 2 + 1, none⟩ = some x1 := by rw [HB.out.cell (p := ⟨b1, off1 + k * 2 + 1, none⟩) hbl1]; exact hc11
      have c20 : wr.cell? ⟨b2, off2 + k * 2, none⟩ = some y0 := by rw [HB.out.cell (p := ⟨b2, off2 + k * 2, none⟩) hbl2]; exact hc20
      have c21 : wr.cell? ⟨b2, off2 + k * 2 + 1, none⟩ = some y1 := by rw [HB.out.cell (p := ⟨b2, off2 + k * 2 + 1, none⟩) hbl2]; exact hc21
      have HT1 := Lib.hid (ht1.below HB.out.drew)
      have HT2 := Lib.hid (ht2.below HB.out.drew)
      clear ht1 ht2 hc10 hc11 hc20 hc21
      go_wp2_with fail
      go_still_tail 8, (by kernel_rfl)
      change wpList _ _ _ _ _ wr.drew
      go_wp2_with fail
      refine (IH.out _ _ _ wr.drew HT1.out HT2.out).mono ?_
      rintro e w' ⟨rfl, hb1⟩
      have HB2 := Lib.hid (HB.out.drew.trans (hb1.mono HB.out.drew.size)); clear hb1
      go_wp2_with fail
      exact ⟨⟨k + 1, by omega, by go_num, HB2.out⟩, by simp [intOf]; omega⟩
    · go_wp2_with fail
      go_ret
      exact ⟨rfl, HB.out⟩

set_option maxRecDepth 100000 in
set_option maxHeartbeats 1000000 in
theorem eqTy_step (d : Nat) (ih : EqTysSaid d) : EqTySaid (d + 1) := by
  intro v1 v2 t w h1 h2
  have IH := Lib.hid ih; clear ih
  cases t with
  | node kd ts =>
    obtain ⟨s1, rfl, hk0, hk1, h1⟩ := h1
    obtain ⟨s2, rfl, _, _, h2⟩ := h2
    have e2 : Below w.heap.size w ((w.alloc (.cells #[.int .i64 kd, s1] 31)).alloc (.cells #[.int .i64 kd, s2] 31)) :=
      ((Below.refl _ _).alloc (Nat.le_refl _) _).alloc (by simp) _
    have HT1 : Hid (TysAt ((w.alloc (.cells #[.int .i64 kd, s1] 31)).alloc (.cells #[.int .i64 kd, s2] 31)) d s1 ts) := TysAt.below h1 e2
    have HT2 : Hid (TysAt ((w.alloc (.cells #[.int .i64 kd, s1] 31)).alloc (.cells #[.int .i64 kd, s2] 31)) d s2 ts) := TysAt.below h2 e2
    have HE := Lib.hid e2; clear e2
    obtain ⟨a1, cap1, rfl, _⟩ := h1
    obtain ⟨a2, cap2, rfl, _⟩ := h2
    go_enter Try.func47, Try.ntmps47
    go_wp2_with fail
    refine (IH.out _ _ _ _ HT1.out HT2.out).mono ?_
    rintro e w' ⟨rfl, hb1⟩
    have HB2 := Lib.hid (HE.out.trans (hb1.mono HE.out.size)); clear hb1
    go_wp2_with fail
    go_ret
    exact ⟨rfl, HB2.out⟩
theorem eqTy_all : ∀ d, EqTySaid d
  | 0 => fun _ _ _ _ h => h.elim
  | d + 1 => eqTy_step d (eqTys_step d (eqTy_all d))
end Go.Proofs.Ytefoenkmppeidaa
