/-
  Proved: spec.l5Consistent and spec.Consistent say whether two types agree wherever both say something; the memory that was there stays as it was.
-/
import Derived.Test.YtimigpdbegfjaaaDoorTyMeet
import Derived.Test.YtimigpdbegfjaaaDoorSpecValid
import Derived.Test.YtimigpdbegfjaaaDoorHold
namespace Go.Proofs.YtimigpdbegfjaaaDoor
open Go.RowKit

set_option maxRecDepth 100000 in
set_option maxHeartbeats 2000000 in
theorem specCons : ∀ (d : Nat) (v1 v2 : Value) (t1 t2 : Ty) (w : World), TyAt w d v1 t1 → TyAt w d v2 t2 → t1.form = true → t2.form = true →
    Calls Tryd.prog 44 #[v1, v2] w fun e w' => e = .returned (.bool (t1.cons t2)) ∧ Below w.heap.size w w'
  | 0, _, _, _, _, _, h, _, _, _ => h.elim
  | d + 1, v1, v2, .node k1 cs, .node k2 bs, w, h1, h2, hf1, hf2 => by
    have IH : Hid (∀ (v1 v2 : Value) (t1 t2 : Ty) (w : World), TyAt w d v1 t1 → TyAt w d v2 t2 → t1.form = true → t2.form = true → Calls Tryd.prog 44 #[v1, v2] w fun e w' => e = .returned (.bool (t1.cons t2)) ∧ Below w.heap.size w w') := specCons d
    obtain ⟨s1, rfl, hk0, hk1, a1, cap1, rfl, hcap1, hm1, hat1⟩ := h1
    obtain ⟨s2, rfl, hk2, hk3, a2, cap2, rfl, hcap2, hm2, hat2⟩ := h2
    have HA1 := Lib.hid hat1; clear hat1
    have HA2 := Lib.hid hat2; clear hat2
    by_cases q0 : k1 = 1
    · subst q0
      have HFIN : Hid ((Ty.node 1 cs).cons (Ty.node k2 bs) = true) := by show _ = _; simp [Ty.cons]
      go_enter Tryd.func44, Tryd.ntmps44
      go_wp2_with fail
      go_ret
      exact ⟨by rw [HFIN.out]; rfl, ((Below.refl _ _).alloc (Nat.le_refl _) _).alloc (by simp) _⟩
    have q0b : (k1 == 1) = false := by simp [q0]
    by_cases q9 : k2 = 1
    · subst q9
      have HFIN : Hid ((Ty.node k1 cs).cons (Ty.node 1 bs) = true) := by show _ = _; simp [Ty.cons]
      go_enter Tryd.func44, Tryd.ntmps44
      go_wp2_with fail
      go_ret
      exact ⟨by rw [HFIN.out]; rfl, ((Below.refl _ _).alloc (Nat.le_refl _) _).alloc (by simp) _⟩
    have q9b : (k2 == 1) = false := by simp [q9]
    by_cases q1 : k1 = k2
    · subst q1
      have q2 : bs.length = cs.length := form_lenm hf1 hf2
      have HC1 : Hid (Ty.forms cs = true) := by simp only [Ty.form, Bool.and_eq_true] at hf1; exact hf1.1
      have HC2 : Hid (Ty.forms bs = true) := by simp only [Ty.form, Bool.and_eq_true] at hf2; exact hf2.1
      clear hf1 hf2
      · have HFIN : Hid ((Ty.node k1 cs).cons (Ty.node k1 bs) = Ty.conss cs bs) := by show _ = _; simp [Ty.cons, q0]
        rw [q2]
        go_enter Tryd.func44, Tryd.ntmps44
        go_wp2_with fail
        go_loopw [5] (fun i wr => ∃ k : Nat, k ≤ cs.length ∧ i = .int .i64 k ∧ Ty.conss (cs.take k) (bs.take k) = true ∧ Below (w.heap.size + 2) ((w.alloc (.cells #[.int .i64 k1, .slice a1 cs.length cap1] 28)).alloc (.cells #[.int .i64 k1, .slice a2 cs.length cap2] 28)) wr) (fun i _ => cs.length - (intOf i).toNat)
        case atStart => exact ⟨0, by omega, rfl, by simp [Ty.conss], Below.refl _ _⟩
        case round =>
          obtain ⟨k, hk, rfl, hf, hb⟩ := hrel
          have HF := Lib.hid hf; clear hf
          have y1 := two_first hb 1
          have y2 := two_next hb 1
          have HB := Lib.hid (two_below hb)
          have HBX := Lib.hid hb; clear hb
          by_cases hlt : k < cs.length
          · have hlt2 : k < bs.length := by omega
            obtain ⟨b1, off1, x0, x1, rfl, hbl1, hc10, hc11, ht1⟩ := HA1.out k hlt
            obtain ⟨b2, off2, z0, z1, rfl, hbl2, hc20, hc21, ht2⟩ := HA2.out k hlt2
            have c10 : wr.cell? ⟨b1, off1 + k * 2, none⟩ = some x0 := by rw [HB.out.cell (p := ⟨b1, off1 + k * 2, none⟩) hbl1]; exact hc10
            have c11 : wr.cell? ⟨b1, off1 + k * 2 + 1, none⟩ = some x1 := by rw [HB.out.cell (p := ⟨b1, off1 + k * 2 + 1, none⟩) hbl1]; exact hc11
            have c20 : wr.cell? ⟨b2, off2 + k * 2, none⟩ = some z0 := by rw [HB.out.cell (p := ⟨b2, off2 + k * 2, none⟩) hbl2]; exact hc20
            have c21 : wr.cell? ⟨b2, off2 + k * 2 + 1, none⟩ = some z1 := by rw [HB.out.cell (p := ⟨b2, off2 + k * 2 + 1, none⟩) hbl2]; exact hc21
            have HT1 := Lib.hid (ht1.below HB.out.drew)
            have HT2 := Lib.hid (ht2.below HB.out.drew)
            clear ht1 ht2 hc10 hc11 hc20 hc21
            go_wp2_with fail
            go_still_tail 10, (by kernel_rfl)
            change wpList _ _ _ _ _ wr.drew
            go_wp2_with fail
            refine (IH.out _ _ _ _ wr.drew HT1.out HT2.out (Ty.forms_getm cs HC1.out k hlt) (Ty.forms_getm bs HC2.out k hlt2)).mono ?_
            rintro e w' ⟨rfl, hb1⟩
            have HN := Lib.hid (two_on HBX.out.drew hb1); clear hb1
            have HTK := Lib.hid (Ty.conss_take cs bs k hlt hlt2)
            cases hfk : cs[k].cons bs[k] with
            | true =>
              have HFK := Lib.hid hfk; clear hfk
              go_wp2_with fail
              exact ⟨⟨k + 1, by omega, by go_num, by rw [HTK.out, HF.out, HFK.out]; rfl, HN.out⟩, by simp [intOf]; omega⟩
            | false =>
              have HFK := Lib.hid hfk; clear hfk
              go_wp2_with fail
              go_ret
              have e : Ty.conss cs bs = false := Ty.conss_false cs bs (k + 1) (by rw [HTK.out, HF.out, HFK.out]; rfl) q2.symm
              exact ⟨by rw [HFIN.out, e]; rfl, two_below HN.out⟩
          · obtain rfl : k = cs.length := by omega
            have e : Hid (Ty.conss cs bs = true) := by
              have := HF.out
              rw [List.take_length, ← q2, List.take_length] at this; exact this
            go_wp2_with fail
            go_ret
            exact ⟨by rw [HFIN.out, e.out]; rfl, HB.out⟩
    · have HFIN : Hid ((Ty.node k1 cs).cons (Ty.node k2 bs) = false) := by show _ = _; simp [Ty.cons, q0, q1, q9]
      go_enter Tryd.func44, Tryd.ntmps44
      go_wp2_with fail
      go_ret
      exact ⟨by rw [HFIN.out]; rfl, ((Below.refl _ _).alloc (Nat.le_refl _) _).alloc (by simp) _⟩
set_option maxRecDepth 100000 in
set_option maxHeartbeats 1000000 in
theorem specConsistent (d : Nat) (v1 v2 : Value) (t1 t2 : Ty) (w : World) (h1 : TyAt w d v1 t1) (h2 : TyAt w d v2 t2) (hn1 : t1.size ≤ 1048577) (hn2 : t2.size ≤ 1048577) :
    Calls Tryd.prog 23 #[v1, v2] w fun e w' => e = .returned (.bool (t1.valid && (t2.valid && t1.cons t2))) ∧ Below w.heap.size w w' := by
  obtain ⟨ak, aa, an, ac, rfl⟩ := agg_parts h1
  obtain ⟨bk, ba, bn, bc, rfl⟩ := agg_parts h2
  have B : Hid (Below w.heap.size w ((w.alloc (.cells #[.int .i64 ak, .slice aa an ac] 28)).alloc (.cells #[.int .i64 bk, .slice ba bn bc] 28))) := ((Below.refl _ _).alloc (Nat.le_refl _) _).alloc (by simp) _
  have HA := Lib.hid (h1.below B.out)
  have HB := Lib.hid (h2.below B.out)
  have XA : Hid (BoxAt ((w.alloc (.cells #[.int .i64 ak, .slice aa an ac] 28)).alloc (.cells #[.int .i64 bk, .slice ba bn bc] 28)) w.heap.size #[.int .i64 ak, .slice aa an ac]) := (BoxAt.new _ _ _).below (below_alloc _ _)
  have XB : Hid (BoxAt ((w.alloc (.cells #[.int .i64 ak, .slice aa an ac] 28)).alloc (.cells #[.int .i64 bk, .slice ba bn bc] 28)) (w.heap.size + 1) #[.int .i64 bk, .slice ba bn bc]) := by
    have := BoxAt.new (w.alloc (.cells #[.int .i64 ak, .slice aa an ac] 28)) #[.int .i64 bk, .slice ba bn bc] 28
    rw [show (w.alloc (.cells #[.int .i64 ak, .slice aa an ac] 28)).heap.size = w.heap.size + 1 from by simp] at this
    exact this
  clear h1 h2
  go_enter Tryd.func23, Tryd.ntmps23
  go_wp2_with fail
  refine (specValid d _ t1 _ HA.out hn1).mono ?_
  rintro e w1 ⟨rfl, hb⟩
  replace B := Lib.hid (below_thru B.out (Nat.le_refl _) hb)
  replace HA := Lib.hid (HA.out.below hb)
  replace HB := Lib.hid (HB.out.below hb)
  replace XA := Lib.hid (XA.out.below hb)
  replace XB := Lib.hid (XB.out.below hb)
  clear hb
  cases hv1 : t1.valid with
  | false =>
    go_wp2_with fail
    go_ret
    exact ⟨by simp [hv1], B.out⟩
  | true =>
    have a0 := XA.out.2 0
    have a1 := XA.out.2 1
    have b0 := XB.out.2 0
    have b1 := XB.out.2 1
    go_wp2_with fail
    clear a0 a1 b0 b1
    refine (specValid d _ t2 _ HB.out hn2).mono ?_
    rintro e w2 ⟨rfl, hb⟩
    replace B := Lib.hid (below_thru B.out (Nat.le_refl _) hb)
    replace HA := Lib.hid (HA.out.below hb)
    replace HB := Lib.hid (HB.out.below hb)
    replace XA := Lib.hid (XA.out.below hb)
    replace XB := Lib.hid (XB.out.below hb)
    clear hb
    cases hv2 : t2.valid with
    | false =>
      go_wp2_with fail
      go_ret
      exact ⟨by simp [hv2], B.out⟩
    | true =>
      have hf1 : Hid (t1.form = true) := by simp only [Ty.valid, Bool.and_eq_true] at hv1; exact hv1.2
      have hf2 : Hid (t2.form = true) := by simp only [Ty.valid, Bool.and_eq_true] at hv2; exact hv2.2
      have a0 := XA.out.2 0
      have a1 := XA.out.2 1
      have b0 := XB.out.2 0
      have b1 := XB.out.2 1
      go_wp2_with fail
      clear a0 a1 b0 b1
      refine (specCons d _ _ t1 t2 _ HA.out HB.out hf1.out hf2.out).mono ?_
      rintro e w3 ⟨rfl, hb⟩
      have B3 := Lib.hid (below_thru B.out (Nat.le_refl _) hb); clear hb
      go_wp2_with fail
      go_ret
      exact ⟨by simp [hv1, hv2], B3.out⟩
end Go.Proofs.YtimigpdbegfjaaaDoor
