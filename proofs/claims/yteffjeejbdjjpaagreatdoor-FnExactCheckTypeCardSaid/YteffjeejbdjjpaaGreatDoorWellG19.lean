/-
  Proved: plain facts on the types of expressions: what is synthesized, what is analyzed, how large a synthesized type is.
-/
import Derived.Test.YteffjeejbdjjpaaGreatDoorWellG5
import Derived.Test.YteffjeejbdjjpaaGreatDoorWellG4
import Derived.Test.YteffjeejbdjjpaaGreatDoorWellG3
import Derived.Test.YteffjeejbdjjpaaGreatDoorWellG18
import Derived.Test.YteffjeejbdjjpaaGreatDoorWellG17
import Derived.Test.YteffjeejbdjjpaaGreatDoorWellG14
import Derived.Test.YteffjeejbdjjpaaGreatDoorWellG8
/-
  Proved: spec.l5Consistent and spec.Consistent say whether two types agree wherever both say something; the memory that was there stays as it was.
-/
namespace Go.Proofs.YteffjeejbdjjpaaGreatDoor
open Go.RowKit

set_option maxRecDepth 100000 in
set_option maxHeartbeats 2000000 in
theorem specCons : ∀ (d : Nat) (v1 v2 : Value) (t1 t2 : Ty) (w : World), TyAt w d v1 t1 → TyAt w d v2 t2 → t1.form = true → t2.form = true →
    Calls Tryz.prog 108 #[v1, v2] w fun e w' => e = .returned (.bool (t1.cons t2)) ∧ Below w.heap.size w w'
  | 0, _, _, _, _, _, h, _, _, _ => h.elim
  | d + 1, v1, v2, .node k1 cs, .node k2 bs, w, h1, h2, hf1, hf2 => by
    have IH : Hid (∀ (v1 v2 : Value) (t1 t2 : Ty) (w : World), TyAt w d v1 t1 → TyAt w d v2 t2 → t1.form = true → t2.form = true → Calls Tryz.prog 108 #[v1, v2] w fun e w' => e = .returned (.bool (t1.cons t2)) ∧ Below w.heap.size w w') := specCons d
    obtain ⟨s1, rfl, hk0, hk1, a1, cap1, rfl, hcap1, hm1, hat1⟩ := h1
    obtain ⟨s2, rfl, hk2, hk3, a2, cap2, rfl, hcap2, hm2, hat2⟩ := h2
    have HA1 := Lib.hid hat1; clear hat1
    have HA2 := Lib.hid hat2; clear hat2
    by_cases q0 : k1 = 1
    · subst q0
      have HFIN : Hid ((Ty.node 1 cs).cons (Ty.node k2 bs) = true) := by show _ = _; simp [Ty.cons]
      go_enter Tryz.func108, Tryz.ntmps108
      go_wp2_with fail
      go_ret
      exact ⟨by rw [HFIN.out]; rfl, ((Below.refl _ _).alloc (Nat.le_refl _) _).alloc (by simp) _⟩
    have q0b : (k1 == 1) = false := by simp [q0]
    by_cases q9 : k2 = 1
    · subst q9
      have HFIN : Hid ((Ty.node k1 cs).cons (Ty.node 1 bs) = true) := by show _ = _; simp [Ty.cons]
      go_enter Tryz.func108, Tryz.ntmps108
      go_wp2_with fail
      go_ret
      exact ⟨by rw [HFIN.out]; rfl, ((Below.refl _ _).alloc (Nat.le_refl _) _).alloc (by simp) _⟩
    have q9b : (k2 == 1) = false := by simp [q9]
    by_cases q1 : k1 = k2
    · subst q1
      have q2 : bs.length = cs.length := form_lenm hf1 hf2
      have HC1 : Hid (Ty.forms cs = true) := by simp only [Ty.form, Bool.and_eq_true] at hf1; exact hf1.1
      have HC2 : Hid (Ty.forms bs = true) := by simp only [Ty.form, Bool.and_eq_true] at hf2; exact hf2.1
      clear hf1 hf2
      · have HFIN : Hid ((Ty.node k1 cs).cons (Ty.node k1 bs) = Ty.conss cs bs) := by show _ = _; simp [Ty.cons, q0]
        rw [q2]
        go_enter Tryz.func108, Tryz.ntmps108
        go_wp2_with fail
        go_loopw [5] (fun i wr => ∃ k : Nat, k ≤ cs.length ∧ i = .int .i64 k ∧ Ty.conss (cs.take k) (bs.take k) = true ∧ Below (w.heap.size + 2) ((w.alloc (.cells #[.int .i64 k1, .slice a1 cs.length cap1] 33)).alloc (.cells #[.int .i64 k1, .slice a2 cs.length cap2] 33)) wr) (fun i _ => cs.length - (intOf i).toNat)
        case atStart => exact ⟨0, by omega, rfl, by simp [Ty.conss], Below.refl _ _⟩
        case round =>
          obtain ⟨k, hk, rfl, hf, hb⟩ := hrel
          have HF := Lib.hid hf; clear hf
          have y1 := two_first hb 1
          have y2 := two_next hb 1
          have HB := Lib.hid (two_below hb)
          have HBX := Lib.hid hb; clear hb
          by_cases hlt : k < cs.length
          · have hlt2 : k < bs.length := by omega
            obtain ⟨b1, off1, x0, x1, rfl, hbl1, hc10, hc11, ht1⟩ := HA1.out k hlt
            obtain ⟨b2, off2, z0, z1, rfl, hbl2, hc20, hc21, ht2⟩ := HA2.out k hlt2
            have c10 : wr.cell? ⟨b1, off1 + k * 2, none⟩ = some x0 := by rw [HB.out.cell (p := ⟨b1, off1 + k * 2, none⟩) hbl1]; exact hc10
            have c11 : wr.cell? ⟨b1, off1 + k * 2 + 1, none⟩ = some x1 := by rw [HB.out.cell (p := ⟨b1, off1 + k * 2 + 1, none⟩) hbl1]; exact hc11
            have c20 : wr.cell? ⟨b2, off2 + k * 2, none⟩ = some z0 := by rw [HB.out.cell (p := ⟨b2, off2 + k * 2, none⟩) hbl2]; exact hc20
            have c21 : wr.cell? ⟨b2, off2 + k * 2 + 1, none⟩ = some z1 := by rw [HB.out.cell (p := ⟨b2, off2 + k * 2 + 1, none⟩) hbl2]; exact hc21
            have HT1 := Lib.hid (ht1.below HB.out.drew)
            have HT2 := Lib.hid (ht2.below HB.out.drew)
            clear ht1 ht2 hc10 hc11 hc20 hc21
            go_wp2_with fail
            go_still_tail 10, (by kernel_rfl)
            change wpList _ _ _ _ _ wr.drew
            go_wp2_with fail
            refine (IH.out _ _ _ _ wr.drew HT1.out HT2.out (Ty.forms_getm cs HC1.out k hlt) (Ty.forms_getm bs HC2.out k hlt2)).mono ?_
            rintro e w' ⟨rfl, hb1⟩
            have HN := Lib.hid (two_on HBX.out.drew hb1); clear hb1
            have HTK := Lib.hid (Ty.conss_take cs bs k hlt hlt2)
            cases hfk : cs[k].cons bs[k] with
            | true =>
              have HFK := Lib.hid hfk; clear hfk
              go_wp2_with fail
              exact ⟨⟨k + 1, by omega, by go_num, by rw [HTK.out, HF.out, HFK.out]; rfl, HN.out⟩, by simp [intOf]; omega⟩
            | false =>
              have HFK := Lib.hid hfk; clear hfk
              go_wp2_with fail
              go_ret
              have e : Ty.conss cs bs = false := Ty.conss_false cs bs (k + 1) (by rw [HTK.out, HF.out, HFK.out]; rfl) q2.symm
              exact ⟨by rw [HFIN.out, e]; rfl, two_below HN.out⟩
          · obtain rfl : k = cs.length := by omega
            have e : Hid (Ty.conss cs bs = true) := by
              have := HF.out
              rw [List.take_length, ← q2, List.take_length] at this; exact this
            go_wp2_with fail
            go_ret
            exact ⟨by rw [HFIN.out, e.out]; rfl, HB.out⟩
    · have HFIN : Hid ((Ty.node k1 cs).cons (Ty.node k2 bs) = false) := by show _ = _; simp [Ty.cons, q0, q1, q9]
      go_enter Tryz.func108, Tryz.ntmps108
      go_wp2_with fail
      go_ret
      exact ⟨by rw [HFIN.out]; rfl, ((Below.refl _ _).alloc (Nat.le_refl _) _).alloc (by simp) _⟩
set_option maxRecDepth 100000 in
set_option maxHeartbeats 1000000 in
theorem specConsistent (d : Nat) (v1 v2 : Value) (t1 t2 : Ty) (w : World) (h1 : TyAt w d v1 t1) (h2 : TyAt w d v2 t2) (hn1 : t1.size ≤ 1048577) (hn2 : t2.size ≤ 1048577) :
    Calls Tryz.prog 88 #[v1, v2] w fun e w' => e = .returned (.bool (t1.valid && (t2.valid && t1.cons t2))) ∧ Below w.heap.size w w' := by
  obtain ⟨ak, aa, an, ac, rfl⟩ := agg_parts h1
  obtain ⟨bk, ba, bn, bc, rfl⟩ := agg_parts h2
  have B : Hid (Below w.heap.size w ((w.alloc (.cells #[.int .i64 ak, .slice aa an ac] 33)).alloc (.cells #[.int .i64 bk, .slice ba bn bc] 33))) := ((Below.refl _ _).alloc (Nat.le_refl _) _).alloc (by simp) _
  have HA := Lib.hid (h1.below B.out)
  have HB := Lib.hid (h2.below B.out)
  have XA : Hid (BoxAt ((w.alloc (.cells #[.int .i64 ak, .slice aa an ac] 33)).alloc (.cells #[.int .i64 bk, .slice ba bn bc] 33)) w.heap.size #[.int .i64 ak, .slice aa an ac]) := (BoxAt.new _ _ _).below (below_alloc _ _)
  have XB : Hid (BoxAt ((w.alloc (.cells #[.int .i64 ak, .slice aa an ac] 33)).alloc (.cells #[.int .i64 bk, .slice ba bn bc] 33)) (w.heap.size + 1) #[.int .i64 bk, .slice ba bn bc]) := by
    have := BoxAt.new (w.alloc (.cells #[.int .i64 ak, .slice aa an ac] 33)) #[.int .i64 bk, .slice ba bn bc] 33
    rw [show (w.alloc (.cells #[.int .i64 ak, .slice aa an ac] 33)).heap.size = w.heap.size + 1 from by simp] at this
    exact this
  clear h1 h2
  go_enter Tryz.func88, Tryz.ntmps88
  go_wp2_with fail
  refine (specValid d _ t1 _ HA.out hn1).mono ?_
  rintro e w1 ⟨rfl, hb⟩
  replace B := Lib.hid (below_thru B.out (Nat.le_refl _) hb)
  replace HA := Lib.hid (HA.out.below hb)
  replace HB := Lib.hid (HB.out.below hb)
  replace XA := Lib.hid (XA.out.below hb)
  replace XB := Lib.hid (XB.out.below hb)
  clear hb
  cases hv1 : t1.valid with
  | false =>
    go_wp2_with fail
    go_ret
    exact ⟨by simp [hv1], B.out⟩
  | true =>
    have a0 := XA.out.2 0
    have a1 := XA.out.2 1
    have b0 := XB.out.2 0
    have b1 := XB.out.2 1
    go_wp2_with fail
    clear a0 a1 b0 b1
    refine (specValid d _ t2 _ HB.out hn2).mono ?_
    rintro e w2 ⟨rfl, hb⟩
    replace B := Lib.hid (below_thru B.out (Nat.le_refl _) hb)
    replace HA := Lib.hid (HA.out.below hb)
    replace HB := Lib.hid (HB.out.below hb)
    replace XA := Lib.hid (XA.out.below hb)
    replace XB := Lib.hid (XB.out.below hb)
    clear hb
    cases hv2 : t2.valid with
    | false =>
      go_wp2_with fail
      go_ret
      exact ⟨by simp [hv2], B.out⟩
    | true =>
      have hf1 : Hid (t1.form = true) := by simp only [Ty.valid, Bool.and_eq_true] at hv1; exact hv1.2
      have hf2 : Hid (t2.form = true) := by simp only [Ty.valid, Bool.and_eq_true] at hv2; exact hv2.2
      have a0 := XA.out.2 0
      have a1 := XA.out.2 1
      have b0 := XB.out.2 0
      have b1 := XB.out.2 1
      go_wp2_with fail
      clear a0 a1 b0 b1
      refine (specCons d _ _ t1 t2 _ HA.out HB.out hf1.out hf2.out).mono ?_
      rintro e w3 ⟨rfl, hb⟩
      have B3 := Lib.hid (below_thru B.out (Nat.le_refl _) hb); clear hb
      go_wp2_with fail
      go_ret
      exact ⟨by simp [hv1, hv2], B3.out⟩
end Go.Proofs.YteffjeejbdjjpaaGreatDoor
/-
  Proved: spec.MeetType gives the meet of two types where they agree; the memory that was there stays as it was.
-/
namespace Go.Proofs.YteffjeejbdjjpaaGreatDoor
open Go.RowKit

set_option maxRecDepth 100000 in
set_option maxHeartbeats 2000000 in
theorem specMeetType (d : Nat) (v1 v2 : Value) (t1 t2 : Ty) (w : World) (h1 : TyAt w d v1 t1) (h2 : TyAt w d v2 t2) (hn1 : t1.size ≤ 1048577) (hn2 : t2.size ≤ 1048577) :
    Calls Tryz.prog 103 #[v1, v2] w (MeetTop d t1 t2 w) := by
  obtain ⟨ak, aa, an, ac, rfl⟩ := agg_parts h1
  obtain ⟨bk, ba, bn, bc, rfl⟩ := agg_parts h2
  obtain ⟨W0, hW0⟩ : ∃ W0, W0 = (((w.alloc (.cells #[.int .i64 ak, .slice aa an ac] 33)).alloc (.cells #[.int .i64 bk, .slice ba bn bc] 33)).alloc (.cells #[.int .i64 0, .slice none 0 0] 33)) := ⟨_, rfl⟩
  have hz0 : W0.heap.size = w.heap.size + 3 := by rw [hW0]; simp
  have B : Hid (Below w.heap.size w W0) := by show Below _ _ _; rw [hW0]; exact (((Below.refl _ _).alloc (Nat.le_refl _) _).alloc (by simp) _).alloc (by simp; omega) _
  have XA : Hid (BoxAt W0 w.heap.size #[.int .i64 ak, .slice aa an ac]) := by show BoxAt _ _ _; rw [hW0]; exact ((BoxAt.new _ _ _).below (below_alloc _ _)).below (below_alloc _ _)
  have XB : Hid (BoxAt W0 (w.heap.size + 1) #[.int .i64 bk, .slice ba bn bc]) := by show BoxAt _ _ _; rw [hW0]; exact (box_at (BoxAt.new _ _ _) (by simp)).below (below_alloc _ _)
  have XR : Hid (BoxAt W0 (w.heap.size + 1 + 1) #[.int .i64 0, .slice none 0 0]) := by show BoxAt _ _ _; rw [hW0]; exact box_at (BoxAt.new _ _ _) (by simp)
  have XF : Hid (FreeAt W0 (w.heap.size + 1 + 1)) := by show FreeAt _ _; rw [hW0]; exact free_at (FreeAt.new _ _ _) (by simp)
  have HA := Lib.hid (h1.below B.out)
  have HB := Lib.hid (h2.below B.out)
  clear h1 h2
  go_enter Tryz.func103, Tryz.ntmps103
  go_wp2_with fail
  rw [← hW0]
  clear hW0
  refine (specConsistent d _ _ t1 t2 _ HA.out HB.out hn1 hn2).mono ?_
  rintro e w1 ⟨rfl, hb⟩
  have hzb := hb.size
  replace B := Lib.hid (B.out.trans (hb.mono B.out.size))
  replace HA := Lib.hid (HA.out.below hb)
  replace HB := Lib.hid (HB.out.below hb)
  replace XA := Lib.hid (XA.out.below hb)
  replace XB := Lib.hid (XB.out.below hb)
  replace XR := Lib.hid (XR.out.below hb)
  replace XF := Lib.hid (XF.out.below hb)
  clear hb
  cases hok : t1.valid && (t2.valid && t1.cons t2) with
  | false =>
    have r0 := XR.out.2 0
    have r1 := XR.out.2 1
    have q0 := XF.out.2 0
    have q1 := XF.out.2 1
    go_wp2_with fail
    refine bodyPost_ret (v := .tuple #[.agg #[.int .i64 0, .slice none 0 0], .bool false]) (by simp [results, Tryz.results103, go_sem, r0, r1]) rfl ?_
    exact top_no hok ((B.out.setCell (by dsimp only; omega) _).setCell (by dsimp only; omega) _)
  | true =>
    have HOK : Hid (t1.okay t2 = true) := hok
    simp only [Bool.and_eq_true] at hok
    obtain ⟨hv1, hv2, hc⟩ := hok
    have hf1 : Hid (t1.form = true) := by simp only [Ty.valid, Bool.and_eq_true] at hv1; exact hv1.2
    have hf2 : Hid (t2.form = true) := by simp only [Ty.valid, Bool.and_eq_true] at hv2; exact hv2.2
    have HC := Lib.hid hc
    clear hv1 hv2 hc
    have a0 := XA.out.2 0
    have a1 := XA.out.2 1
    have b0 := XB.out.2 0
    have b1 := XB.out.2 1
    go_wp2_with fail
    clear a0 a1 b0 b1
    refine (specMeet d _ _ t1 t2 _ HA.out HB.out hf1.out hf2.out hn1 hn2 HC.out).mono ?_
    rintro e w3 ⟨v', fp, rfl, ht, hfp, hb⟩
    obtain ⟨zk, za, zn, zc, rfl, HY⟩ := ty_parts ht
    clear HY
    have hzb3 := hb.size
    have r0 := (XR.out.below hb).2 0
    have r1 := (XR.out.below hb).2 1
    have q0 := (XF.out.below hb).2 0
    have q1 := (XF.out.below hb).2 1
    have HT := Lib.hid ht
    have HFP := Lib.hid hfp
    have B3 := Lib.hid (B.out.trans (hb.mono B.out.size))
    clear hb ht hfp
    go_wp2_with fail
    refine bodyPost_ret (v := .tuple #[.agg #[.int .i64 zk, .slice za zn zc], .bool true]) (by simp [results, Tryz.results103, go_sem, r0, r1]) rfl ?_
    exact ⟨zk, za, zn, zc, fp, by rw [HOK.out], fun _ => ⟨own_put (own_put HT.out HFP.out (by omega)) HFP.out (by omega), HFP.out.mono (by omega) (by simp)⟩, fun h => (by rw [HOK.out] at h; cases h), (B3.out.setCell (by dsimp only; omega) _).setCell (by dsimp only; omega) _⟩
end Go.Proofs.YteffjeejbdjjpaaGreatDoor
/-
  Proved: plain facts on a variable that holds a new tree: its block was made before or after the tree's blocks.
-/
namespace Go.Proofs.YteffjeejbdjjpaaGreatDoor
open Go.RowKit

/-- The variable s holds the tree t, all of it made since w. -/
def MadeAt (w : World) (D : Nat) (t : Ty) (s : Value) (wx : World) : Prop :=
  ∃ p k a n c, s = .pointer (some ⟨p, 0, none⟩) ∧ w.heap.size ≤ p ∧ BoxAt wx p #[.int .i64 k, .slice a n c] ∧ OwnIn wx D (.agg #[.int .i64 k, .slice a n c]) t w.heap.size wx.heap.size ∧ Below w.heap.size w wx
theorem OwnIn.wide {w : World} {d : Nat} {v : Value} {t : Ty} {lo hi lo2 hi2 : Nat} (h : OwnIn w d v t lo hi) (h1 : lo2 ≤ lo) (h2 : hi ≤ hi2) (h3 : hi2 ≤ w.heap.size) : OwnIn w d v t lo2 hi2 := by
  obtain ⟨fp, h, hf, _⟩ := h
  exact ⟨fp, h, hf.mono h1 h2, h3⟩
theorem made_new {w w8 : World} {D : Nat} {t : Ty} {k : Int} {a : Option Addr} {n c lo : Nat} {T : TypeId} (G : Below w.heap.size w w8) (Ho : OwnIn w8 D (.agg #[.int .i64 k, .slice a n c]) t lo w8.heap.size) (hlo : w.heap.size ≤ lo) :
    MadeAt w D t (.pointer (some ⟨w8.heap.size, 0, none⟩)) (w8.alloc (.cells #[.int .i64 k, .slice a n c] T)) :=
  ⟨w8.heap.size, k, a, n, c, rfl, G.size, BoxAt.new _ _ _, (Ho.below (below_alloc _ _)).wide hlo (by simp) (Nat.le_refl _), G.alloc G.size _⟩
theorem made_old {w w8 : World} {D : Nat} {t : Ty} {k : Int} {a : Option Addr} {n c lo p : Nat} (G : Below w.heap.size w w8) (Ho : OwnIn w8 D (.agg #[.int .i64 k, .slice a n c]) t lo w8.heap.size) (hlo : w.heap.size ≤ lo)
    (hP : w.heap.size ≤ p) (hp : p < lo) (X : BoxAt w8 p #[.int .i64 0, .slice none 0 0]) :
    MadeAt w D t (.pointer (some ⟨p, 0, none⟩)) ((w8.setCell ⟨p, 0, none⟩ (.int .i64 k)).setCell ⟨p, 1, none⟩ (.slice a n c)) := by
  refine ⟨p, k, a, n, c, rfl, hP, ?_, ?_, (G.setCell hP _).setCell hP _⟩
  · have h1 := X.put (j := 0) (u := .int .i64 k) (by simp)
    have h2 := h1.put (j := 1) (u := .slice a n c) (by simp)
    simpa using h2
  · obtain ⟨fp, h, hf, _⟩ := Ho
    refine ⟨fp, h.kept (by simp) fun b hb => ?_, hf.mono hlo (by simp), Nat.le_refl _⟩
    have := (hf.2 b hb).1
    rw [heap_setCell_other _ _ _ _ (by simp; omega), heap_setCell_other _ _ _ _ (by simp; omega)]
end Go.Proofs.YteffjeejbdjjpaaGreatDoor
/-
  Proved: the end that both contracts of MeetType share, as one tree in memory of its own and a Bool.
-/
namespace Go.Proofs.YteffjeejbdjjpaaGreatDoor
open Go.RowKit

def Ty.both (t1 t2 : Ty) : Ty := if t1.okay t2 then t1.meet t2 else .node 0 []
mutual
theorem Ty.meet_size : ∀ (a b : Ty), (a.meet b).size ≤ a.size + b.size
  | .node k cs, .node l bs => by
    have h := Ty.meets_size cs bs
    unfold Ty.meet
    split
    · omega
    · split
      · omega
      · simp only [Ty.size] at h ⊢; omega
theorem Ty.meets_size : ∀ (cs bs : List Ty), Ty.sizes (Ty.meets cs bs) ≤ Ty.sizes cs + Ty.sizes bs
  | [], bs => by simp [Ty.meets, Ty.sizes]
  | _ :: _, [] => by simp [Ty.meets, Ty.sizes]
  | a :: r, b :: s => by
    have h1 := Ty.meet_size a b
    have h2 := Ty.meets_size r s
    simp only [Ty.meets, Ty.sizes]; omega
end
theorem Ty.both_size (a b : Ty) : (a.both b).size ≤ a.size + b.size := by
  unfold Ty.both
  split
  · exact Ty.meet_size a b
  · have := a.size_pos; have := b.size_pos
    simp only [Ty.size, Ty.sizes]; omega
theorem own_zero0 (w : World) (d : Nat) : TyOwn w (d + 1) (.agg #[.int .i64 0, .slice none 0 0]) (.node 0 []) [] :=
  ⟨_, rfl, by omega, by omega, none, 0, [], [], rfl, Nat.le_refl _, by omega, rfl, rfl, (fun b hb => by cases hb), fun j hj => by simp at hj⟩
theorem meet_end {d : Nat} {t1 t2 : Ty} {w w' : World} {v1 : Value} {w0 : World} {e : Ending} (h1 : TyAt w0 d v1 t1) (h : MeetTop d t1 t2 w e w') :
    ∃ o fp, e = .returned (.tuple #[o, .bool (t1.okay t2)]) ∧ TyOwn w' d o (t1.both t2) fp ∧ Fp w.heap.size w'.heap.size fp ∧ Below w.heap.size w w' := by
  cases d with
  | zero => exact h1.elim
  | succ d =>
    obtain ⟨k, a, n, c, fp, he, hy, hn, hb⟩ := h
    cases hok : t1.okay t2 with
    | true =>
      obtain ⟨ht, hf⟩ := hy hok
      rw [hok] at he
      refine ⟨_, fp, he, ?_, hf, hb⟩
      unfold Ty.both; rw [if_pos hok]; exact ht
    | false =>
      obtain ⟨rfl, rfl, rfl, rfl⟩ := hn hok
      rw [hok] at he
      refine ⟨_, [], he, ?_, Fp.nil _ _, hb⟩
      unfold Ty.both; rw [if_neg (by rw [hok]; exact Bool.false_ne_true)]; exact own_zero0 _ _
/-- One tree in memory of its own, and a Bool. -/
def MeetL (d : Nat) (t1 t2 : Ty) (w : World) (e : Ending) (w' : World) : Prop :=
  ∃ o fp, e = .returned (.tuple #[o, .bool (t1.okay t2)]) ∧ TyOwn w' d o (t1.both t2) fp ∧ Fp w.heap.size w'.heap.size fp ∧ Below w.heap.size w w'
theorem specMeetL (d : Nat) (v1 v2 : Value) (t1 t2 : Ty) (w : World) (hn1 : t1.size ≤ 1048577) (hn2 : t2.size ≤ 1048577) (h1 : TyAt w d v1 t1) (h2 : TyAt w d v2 t2) :
    Calls Tryz.prog 103 #[v1, v2] w (MeetL d t1 t2 w) :=
  (specMeetType d v1 v2 t1 t2 w h1 h2 hn1 hn2).mono fun _ _ h => meet_end h1 h
theorem implMeetL (d : Nat) (v1 v2 : Value) (t1 t2 : Ty) (w : World) (hn1 : t1.size ≤ 1048577) (hn2 : t2.size ≤ 1048577) (h1 : TyAt w d v1 t1) (h2 : TyAt w d v2 t2) (htab : MeetTab w) :
    Calls Tryz.prog 106 #[v1, v2] w (MeetL d t1 t2 w) :=
  (implMeetType d v1 v2 t1 t2 w h1 h2 hn1 hn2 htab).mono fun _ _ h => meet_end h1 h
end Go.Proofs.YteffjeejbdjjpaaGreatDoor
namespace Go.Proofs.YteffjeejbdjjpaaGreatDoor
open Go.RowKit

def exNull : Ex := .node 0 ⟨#[]⟩ 0 (.node 0 []) []
/-- The part with this number (an empty expression where there is none). -/
def Ex.arg (es : List Ex) (k : Nat) : Ex := es.getD k exNull
theorem Ex.arg_get {es : List Ex} {k : Nat} (h : k < es.length) : Ex.arg es k = es[k] := by
  unfold Ex.arg
  rw [List.getD_eq_getElem?_getD, List.getElem?_eq_getElem h]; rfl
/-- The name of the root. -/
def Ex.name : Ex → ByteArray
  | .node _ nm _ _ _ => nm
def arrowOf (t : Ty) (r : Option Ty) : Option Ty := r.map fun x => .node 4 [t, x]
def pairOf (a b : Option Ty) : Option Ty := match a, b with | some x, some y => some (.node 5 [x, y]) | _, _ => none
def onlyIf (b : Bool) (t : Ty) : Option Ty := if b = true then some t else none
/-- What an application synthesizes: its function's type has two parts, and the argument fits the first. -/
def apOf (f : Option Ty) (ana : Ty → Bool) : Option Ty := match f with | some t => onlyIf ((t.parts 4).2.2 && ana (t.parts 4).1) (t.parts 4).2.1 | none => none
def ifOf (a b : Option Ty) (c : Bool) : Option Ty := match a, b with | some x, some y => onlyIf (c && x.okay y) (x.meet y) | _, _ => none
def partOf (first : Bool) (p : Option Ty) : Option Ty := match p with | some t => onlyIf (t.parts 5).2.2 (if first = true then (t.parts 5).1 else (t.parts 5).2.1) | none => none
def tyU : Ty := .node 1 []
def tyN : Ty := .node 2 []
def tyB : Ty := .node 3 []
/-- What a node synthesizes, where its parts synthesize S and are analyzed by A. -/
def synStep (S : List Bi → Ex → Option Ty) (A : List Bi → Ex → Ty → Bool) (C : List Bi) : Ex → Option Ty
  | .node k nm _ ty es =>
    if k = 2 then Bi.look C nm
    else if k = 3 then arrowOf ty (S (C ++ [⟨nm, ty⟩]) (Ex.arg es 0))
    else if k = 4 then apOf (S C (Ex.arg es 0)) (A C (Ex.arg es 1))
    else if k = 5 then some tyN
    else if k = 6 then onlyIf (A C (Ex.arg es 0) tyN && A C (Ex.arg es 1) tyN) tyN
    else if k = 7 then onlyIf (A C (Ex.arg es 0) tyN && A C (Ex.arg es 1) tyN) tyB
    else if k = 8 then some tyB
    else if k = 9 then ifOf (S C (Ex.arg es 1)) (S C (Ex.arg es 2)) (A C (Ex.arg es 0) tyB)
    else if k = 10 then pairOf (S C (Ex.arg es 0)) (S C (Ex.arg es 1))
    else if k = 11 then partOf true (S C (Ex.arg es 0))
    else if k = 12 then partOf false (S C (Ex.arg es 0))
    else if k = 13 then onlyIf (A C (Ex.arg es 0) ty) ty
    else if k = 14 then onlyIf ((S C (Ex.arg es 0)).isSome || (decide ((Ex.arg es 0).kind = 2) && !(Bi.look C (Ex.arg es 0).name).isSome)) tyU
    else some tyU
/-- Whether a node is analyzed against a type, where its parts are analyzed by A and it synthesizes s. -/
def anaStep (A : List Bi → Ex → Ty → Bool) (s : Option Ty) (C : List Bi) : Ex → Ty → Bool
  | .node k nm _ ty es, t =>
    if k = 3 then (t.parts 4).2.2 && (ty.okay (t.parts 4).1 && A (C ++ [⟨nm, ty⟩]) (Ex.arg es 0) (t.parts 4).2.1)
    else if k = 9 then A C (Ex.arg es 0) tyB && (A C (Ex.arg es 1) t && A C (Ex.arg es 2) t)
    else if k = 10 then (t.parts 5).2.2 && (A C (Ex.arg es 0) (t.parts 5).1 && A C (Ex.arg es 1) (t.parts 5).2.1)
    else match s with | some x => x.okay t | none => false
def typingS : Nat → (List Bi → Ex → Option Ty) × (List Bi → Ex → Ty → Bool)
  | 0 => (fun _ _ => none, fun _ _ _ => false)
  | d + 1 => (synStep (typingS d).1 (typingS d).2, fun C e t => anaStep (typingS d).2 (synStep (typingS d).1 (typingS d).2 C e) C e t)
/-- The type that an expression synthesizes (the number bounds its depth). -/
def synE (d : Nat) (C : List Bi) (e : Ex) : Option Ty := (typingS d).1 C e
/-- Whether an expression is analyzed against a type. -/
def anaE (d : Nat) (C : List Bi) (e : Ex) (t : Ty) : Bool := (typingS d).2 C e t
theorem synE_succ (d : Nat) (C : List Bi) (e : Ex) : synE (d + 1) C e = synStep (synE d) (anaE d) C e := rfl
theorem anaE_succ (d : Nat) (C : List Bi) (e : Ex) (t : Ty) : anaE (d + 1) C e t = anaStep (anaE d) (synE (d + 1) C e) C e t := rfl
/-! Sizes -/
def smallCtx (C : List Bi) : Prop := ∀ j (h : j < C.length), C[j].ty.size ≤ 15
theorem smallCtx_add {C : List Bi} {b : Bi} (h : smallCtx C) (hb : b.ty.size ≤ 15) : smallCtx (C ++ [b]) := by
  intro j hj
  by_cases q : j < C.length
  · rw [List.getElem_append_left q]; exact h j q
  · rw [List.getElem_append_right (by omega)]
    have : j - C.length = 0 := by simp at hj; omega
    simp only [this, List.getElem_cons_zero]; exact hb
theorem look_small : ∀ (C : List Bi) (nm : ByteArray) (t : Ty), smallCtx C → Bi.look C nm = some t → t.size ≤ 15
  | [], _, _, _, h => by cases h
  | b :: r, nm, t, hs, h => by
    simp only [Bi.look] at h
    have hr : smallCtx r := fun j hj => by have := hs (j + 1) (by simp; omega); simpa using this
    cases hl : Bi.look r nm with
    | some x => rw [hl] at h; injection h with h; subst h; exact look_small r nm x hr hl
    | none =>
      rw [hl] at h
      dsimp only at h
      split at h
      · injection h with h; subst h; exact hs 0 (by simp)
      · cases h
/-- A node of the right form: its parts, its note. -/
theorem form_parts {k : Int} {nm : ByteArray} {n : Int} {ty : Ty} {es : List Ex} (h : (Ex.node k nm n ty es).form = true) : (es.length : Int) = arity k ∧ (∀ j (hj : j < es.length), es[j].form = true) ∧ ((k = 3 ∨ k = 13) → ty.note = true) := by
  simp only [Ex.form, Bool.and_eq_true, fitsB, decide_eq_true_eq] at h
  obtain ⟨hf, _, hl, _, _, ht⟩ := h
  refine ⟨hl, fun j hj => ?_, fun hk => ?_⟩
  · have h1 := Ex.forms_take es j hj
    cases h2 : Ex.forms (es.take (j + 1)) with
    | false => rw [Ex.forms_false es (j + 1) h2] at hf; cases hf
    | true => rw [h2] at h1; cases h3 : es[j].form with
      | true => rfl
      | false => rw [h3, Bool.and_false] at h1; cases h1
  · unfold typeFor at ht
    rw [if_pos hk] at ht; exact ht
theorem note_small {t : Ty} (h : t.note = true) : t.size ≤ 15 := by
  unfold Ty.note at h
  simp only [Bool.and_eq_true, decide_eq_true_eq] at h
  exact h.2.1
/-- The number of parts of a kind that is known. -/
theorem form_kind {k : Int} {nm : ByteArray} {n : Int} {ty : Ty} {es : List Ex} (h : (Ex.node k nm n ty es).form = true) : k = 1 ∨ k = 2 ∨ k = 3 ∨ k = 4 ∨ k = 5 ∨ k = 6 ∨ k = 7 ∨ k = 8 ∨ k = 9 ∨ k = 10 ∨ k = 11 ∨ k = 12 ∨ k = 13 ∨ k = 14 := by
  have h1 := (form_parts h).1
  by_cases q : 1 ≤ k ∧ k ≤ 14
  · omega
  · rw [arity_out q] at h1; omega
theorem onlyIf_size {b : Bool} {t x : Ty} (h : onlyIf b t = some x) : x = t := by
  unfold onlyIf at h
  split at h
  · injection h with h; exact h.symm
  · cases h
theorem count_part (es : List Ex) (j : Nat) (h : j < es.length) : es[j].count ≤ Ex.counts es := by
  have h1 := Ex.counts_take es j h
  have h2 := Ex.counts_le_all es (j + 1)
  omega
theorem counts_two {es : List Ex} {i j : Nat} (hij : i < j) (h : j < es.length) : es[i].count + es[j].count ≤ Ex.counts es := by
  have h1 := Ex.counts_take es j h
  have h2 := Ex.counts_le_all es (j + 1)
  have h3 := Ex.counts_take es i (by omega)
  have h4 : Ex.counts (es.take (i + 1)) ≤ Ex.counts (es.take j) := by
    have := Ex.counts_le_all (es.take j) (i + 1)
    rw [List.take_take, Nat.min_eq_left (by omega)] at this
    exact this
  omega
theorem syn_size : ∀ (d : Nat) (C : List Bi) (e : Ex) (x : Ty), smallCtx C → e.form = true → synE d C e = some x → x.size ≤ 16 * e.count + 1
  | 0, _, _, _, _, _, h => by cases h
  | d + 1, C, .node k nm n ty es, x, hC, hf, h => by
    obtain ⟨hl, hfs, hty⟩ := form_parts hf
    have hcn : (Ex.node k nm n ty es).count = (if k = 14 then 0 else 1) + Ex.counts es := rfl
    rw [synE_succ] at h
    rw [hcn]
    rcases form_kind hf with rfl | rfl | rfl | rfl | rfl | rfl | rfl | rfl | rfl | rfl | rfl | rfl | rfl | rfl
    · simp [synStep, tyU] at h; subst h; simp only [Ty.size, Ty.sizes]; omega
    · simp [synStep] at h
      have := look_small C nm x hC h
      simp; omega
    · simp [synStep] at h
      have hq : 0 < es.length := by have : arity 3 = 1 := rfl; omega
      rw [Ex.arg_get hq] at h
      have hn := note_small (hty (Or.inl rfl))
      cases hs : synE d (C ++ [⟨nm, ty⟩]) es[0] with
      | none => rw [hs] at h; cases h
      | some y =>
        rw [hs] at h
        injection h with h
        have h1 := syn_size d _ es[0] y (smallCtx_add hC hn) (hfs 0 hq) hs
        have h2 := count_part es 0 hq
        subst h
        simp only [Ty.size, Ty.sizes]; simp; omega
    · simp [synStep] at h
      have hq : 0 < es.length := by have : arity 4 = 2 := rfl; omega
      rw [Ex.arg_get hq] at h
      cases hs : synE d C es[0] with
      | none => rw [hs] at h; cases h
      | some y =>
        rw [hs] at h
        have h0 := onlyIf_size h
        have h1 := syn_size d C es[0] y hC (hfs 0 hq) hs
        have h2 := count_part es 0 hq
        have h3 := (parts_size 4 y).2
        subst h0
        simp; omega
    · simp [synStep, tyN] at h; subst h; simp only [Ty.size, Ty.sizes]; omega
    · simp [synStep] at h
      have h0 := onlyIf_size h
      subst h0; simp only [tyN, Ty.size, Ty.sizes]; omega
    · simp [synStep] at h
      have h0 := onlyIf_size h
      subst h0; simp only [tyB, Ty.size, Ty.sizes]; omega
    · simp [synStep, tyB] at h; subst h; simp only [Ty.size, Ty.sizes]; omega
    · simp [synStep] at h
      have hq1 : 1 < es.length := by have : arity 9 = 3 := rfl; omega
      have hq2 : 2 < es.length := by have : arity 9 = 3 := rfl; omega
      rw [Ex.arg_get hq1, Ex.arg_get hq2] at h
      cases hs : synE d C es[1] with
      | none => rw [hs] at h; cases h
      | some y =>
        cases hs2 : synE d C es[2] with
        | none => rw [hs, hs2] at h; cases h
        | some z =>
          rw [hs, hs2] at h
          have h0 := onlyIf_size h
          have h1 := syn_size d C es[1] y hC (hfs 1 hq1) hs
          have h2 := syn_size d C es[2] z hC (hfs 2 hq2) hs2
          have h3 := counts_two (i := 1) (j := 2) (by omega) hq2
          have h4 := Ty.meet_size y z
          subst h0
          simp; omega
    · simp [synStep] at h
      have hq1 : 1 < es.length := by have : arity 10 = 2 := rfl; omega
      have hq0 : 0 < es.length := by omega
      rw [Ex.arg_get hq1, Ex.arg_get hq0] at h
      cases hs : synE d C es[0] with
      | none => rw [hs] at h; cases h
      | some y =>
        cases hs2 : synE d C es[1] with
        | none => rw [hs, hs2] at h; cases h
        | some z =>
          rw [hs, hs2] at h
          injection h with h
          have h1 := syn_size d C es[0] y hC (hfs 0 hq0) hs
          have h2 := syn_size d C es[1] z hC (hfs 1 hq1) hs2
          have h3 := counts_two (i := 0) (j := 1) (by omega) hq1
          subst h
          simp only [Ty.size, Ty.sizes]; simp; omega
    · simp [synStep] at h
      have hq : 0 < es.length := by have : arity 11 = 1 := rfl; omega
      rw [Ex.arg_get hq] at h
      cases hs : synE d C es[0] with
      | none => rw [hs] at h; cases h
      | some y =>
        rw [hs] at h
        have h0 := onlyIf_size h
        have h1 := syn_size d C es[0] y hC (hfs 0 hq) hs
        have h2 := count_part es 0 hq
        have h3 := (parts_size 5 y).1
        rw [if_pos rfl] at h0
        subst h0
        simp; omega
    · simp [synStep] at h
      have hq : 0 < es.length := by have : arity 12 = 1 := rfl; omega
      rw [Ex.arg_get hq] at h
      cases hs : synE d C es[0] with
      | none => rw [hs] at h; cases h
      | some y =>
        rw [hs] at h
        have h0 := onlyIf_size h
        have h1 := syn_size d C es[0] y hC (hfs 0 hq) hs
        have h2 := count_part es 0 hq
        have h3 := (parts_size 5 y).2
        rw [if_neg (by decide)] at h0
        subst h0
        simp; omega
    · simp [synStep] at h
      have h0 := onlyIf_size h
      have hn := note_small (hty (Or.inr rfl))
      subst h0; simp; omega
    · simp [synStep] at h
      have h0 := onlyIf_size h
      subst h0; simp only [tyU, Ty.size, Ty.sizes]; omega
end Go.Proofs.YteffjeejbdjjpaaGreatDoor
