/-
  Proved: spec.l5Meet gives the meet of two types that agree, in new memory; the memory that was there stays as it was.
-/
import Derived.Test.YteffjeejbdjjpaaGreatDoorWellG16
import Derived.Test.YteffjeejbdjjpaaGreatDoorWellG11
import Derived.Deep.RegionLaw
namespace Go.Proofs.YteffjeejbdjjpaaGreatDoor
open Go.RowKit

theorem Ty.conss_get {cs bs : List Ty} (h : Ty.conss cs bs = true) (hl : bs.length = cs.length) (k : Nat) (h1 : k < cs.length) (h2 : k < bs.length) : cs[k].cons bs[k] = true := by
  cases hc : cs[k].cons bs[k] with
  | true => rfl
  | false =>
    have e := Ty.conss_take cs bs k h1 h2
    rw [hc, Bool.and_false] at e
    rw [Ty.conss_false cs bs (k + 1) e hl.symm] at h; cases h
set_option maxRecDepth 100000 in
set_option maxHeartbeats 4000000 in
theorem specMeet : ∀ (d : Nat) (v1 v2 : Value) (t1 t2 : Ty) (w : World), TyAt w d v1 t1 → TyAt w d v2 t2 → t1.form = true → t2.form = true → t1.size ≤ 1048577 → t2.size ≤ 1048577 → t1.cons t2 = true → Calls Tryz.prog 112 #[v1, v2] w (ToTyEnd d (t1.meet t2) w)
  | 0, _, _, _, _, _, h, _, _, _, _, _, _ => h.elim
  | d + 1, v1, v2, .node k1 cs, .node k2 bs, w, h1, h2, hf1, hf2, hs1, hs2, hcons => by
    have IH : Hid (∀ (v1 v2 : Value) (t1 t2 : Ty) (w : World), TyAt w d v1 t1 → TyAt w d v2 t2 → t1.form = true → t2.form = true → t1.size ≤ 1048577 → t2.size ≤ 1048577 → t1.cons t2 = true → Calls Tryz.prog 112 #[v1, v2] w (ToTyEnd d (t1.meet t2) w)) := specMeet d
    have HA := Lib.hid h1
    have HB := Lib.hid h2
    obtain ⟨s1, rfl, hk0, hk1, a1, cap1, rfl, hcap1, hm1, hat1⟩ := h1
    obtain ⟨s2, rfl, hk2, hk3, a2, cap2, rfl, hcap2, hm2, hat2⟩ := h2
    have HA1 := Lib.hid hat1; clear hat1
    have HA2 := Lib.hid hat2; clear hat2
    clear hcap1 hm1 hcap2 hm2
    by_cases q1 : k1 = 1
    · subst q1
      have HM : Hid ((Ty.node 1 cs).meet (.node k2 bs) = .node k2 bs) := meet_second.2
      clear hcons hf1 hf2 HA1 HA2
      have HB4 := Lib.hid (HB.out.below ((((Below.refl w.heap.size w).alloc (Nat.le_refl _) (.cells #[.int .i64 1, .slice a1 cs.length cap1] 33)).alloc (by simp) (.cells #[.int .i64 k2, .slice a2 bs.length cap2] 33)).alloc (by simp; omega) (.cells #[.int .i64 0, .slice none 0 0] 33)))
      have BW : Hid (Below w.heap.size w (((w.alloc (.cells #[.int .i64 1, .slice a1 cs.length cap1] 33)).alloc (.cells #[.int .i64 k2, .slice a2 bs.length cap2] 33)).alloc (.cells #[.int .i64 0, .slice none 0 0] 33))) := (((Below.refl _ _).alloc (Nat.le_refl _) _).alloc (by simp) _).alloc (by simp; omega) _
      have XR : Hid (BoxAt (((w.alloc (.cells #[.int .i64 1, .slice a1 cs.length cap1] 33)).alloc (.cells #[.int .i64 k2, .slice a2 bs.length cap2] 33)).alloc (.cells #[.int .i64 0, .slice none 0 0] 33)) (w.heap.size + 1 + 1) #[.int .i64 0, .slice none 0 0]) := box_at (BoxAt.new _ _ _) (by simp)
      have XF : Hid (FreeAt (((w.alloc (.cells #[.int .i64 1, .slice a1 cs.length cap1] 33)).alloc (.cells #[.int .i64 k2, .slice a2 bs.length cap2] 33)).alloc (.cells #[.int .i64 0, .slice none 0 0] 33)) (w.heap.size + 1 + 1)) := free_at (FreeAt.new _ _ _) (by simp)
      go_enter Tryz.func112, Tryz.ntmps112
      go_wp2_with fail
      refine (specCopy (d + 1) _ (.node k2 bs) _ hs2 HB4.out).mono ?_
      rintro e w' ⟨v', fp, rfl, ht, hfp, hb1⟩
      obtain ⟨zk, za, zn, zc, rfl, HY⟩ := ty_parts ht
      clear HY
      have HT := Lib.hid ht; clear ht
      have r0 := (XR.out.below hb1).2 0
      have r1 := (XR.out.below hb1).2 1
      have f0 := (XF.out.below hb1).2 0
      have f1 := (XF.out.below hb1).2 1
      have hz1 := hb1.size
      simp only [World.size_alloc] at hz1 hfp
      have HFP := Lib.hid hfp; clear hfp
      have HBN := Lib.hid (BW.out.trans (hb1.mono BW.out.size)); clear hb1
      go_wp2_with fail
      refine bodyPost_ret (v := .agg #[.int .i64 zk, .slice za zn zc]) (by simp [results, Tryz.results112, go_sem, r0, r1]) rfl ?_
      rw [HM.out]
      exact ⟨_, fp, rfl, own_put (own_put HT.out HFP.out (by omega)) HFP.out (by omega), HFP.out.mono (by omega) (by simp), (HBN.out.setCell (by dsimp only; omega) _).setCell (by dsimp only; omega) _⟩
    have q1b : (k1 == 1) = false := by simp [q1]
    by_cases q2 : k2 = 1
    · subst q2
      have HM : Hid ((Ty.node k1 cs).meet (.node 1 bs) = .node k1 cs) := by show _ = _; simp [Ty.meet, q1]
      clear hcons hf1 hf2 HA1 HA2
      have HA4 := Lib.hid (HA.out.below ((((Below.refl w.heap.size w).alloc (Nat.le_refl _) (.cells #[.int .i64 k1, .slice a1 cs.length cap1] 33)).alloc (by simp) (.cells #[.int .i64 1, .slice a2 bs.length cap2] 33)).alloc (by simp; omega) (.cells #[.int .i64 0, .slice none 0 0] 33)))
      have BW : Hid (Below w.heap.size w (((w.alloc (.cells #[.int .i64 k1, .slice a1 cs.length cap1] 33)).alloc (.cells #[.int .i64 1, .slice a2 bs.length cap2] 33)).alloc (.cells #[.int .i64 0, .slice none 0 0] 33))) := (((Below.refl _ _).alloc (Nat.le_refl _) _).alloc (by simp) _).alloc (by simp; omega) _
      have XR : Hid (BoxAt (((w.alloc (.cells #[.int .i64 k1, .slice a1 cs.length cap1] 33)).alloc (.cells #[.int .i64 1, .slice a2 bs.length cap2] 33)).alloc (.cells #[.int .i64 0, .slice none 0 0] 33)) (w.heap.size + 1 + 1) #[.int .i64 0, .slice none 0 0]) := box_at (BoxAt.new _ _ _) (by simp)
      have XF : Hid (FreeAt (((w.alloc (.cells #[.int .i64 k1, .slice a1 cs.length cap1] 33)).alloc (.cells #[.int .i64 1, .slice a2 bs.length cap2] 33)).alloc (.cells #[.int .i64 0, .slice none 0 0] 33)) (w.heap.size + 1 + 1)) := free_at (FreeAt.new _ _ _) (by simp)
      go_enter Tryz.func112, Tryz.ntmps112
      go_wp2_with fail
      refine (specCopy (d + 1) _ (.node k1 cs) _ hs1 HA4.out).mono ?_
      rintro e w' ⟨v', fp, rfl, ht, hfp, hb1⟩
      obtain ⟨zk, za, zn, zc, rfl, HY⟩ := ty_parts ht
      clear HY
      have HT := Lib.hid ht; clear ht
      have r0 := (XR.out.below hb1).2 0
      have r1 := (XR.out.below hb1).2 1
      have f0 := (XF.out.below hb1).2 0
      have f1 := (XF.out.below hb1).2 1
      have hz1 := hb1.size
      simp only [World.size_alloc] at hz1 hfp
      have HFP := Lib.hid hfp; clear hfp
      have HBN := Lib.hid (BW.out.trans (hb1.mono BW.out.size)); clear hb1
      go_wp2_with fail
      refine bodyPost_ret (v := .agg #[.int .i64 zk, .slice za zn zc]) (by simp [results, Tryz.results112, go_sem, r0, r1]) rfl ?_
      rw [HM.out]
      exact ⟨_, fp, rfl, own_put (own_put HT.out HFP.out (by omega)) HFP.out (by omega), HFP.out.mono (by omega) (by simp), (HBN.out.setCell (by dsimp only; omega) _).setCell (by dsimp only; omega) _⟩
    have q2b : (k2 == 1) = false := by simp [q2]
    obtain ⟨rfl, hc⟩ : k1 = k2 ∧ Ty.conss cs bs = true := by simpa [Ty.cons, q1, q2] using hcons
    have HCN := Lib.hid hc; clear hc hcons
    have HM : Hid ((Ty.node k1 cs).meet (.node k1 bs) = .node k1 (Ty.meets cs bs)) := by show _ = _; simp [Ty.meet, q1]
    obtain ⟨i0, hi, hz0, hz1, hz2⟩ := info_parts info_ty
    have HI := Lib.hid hi
    have HZ0 := Lib.hid hz0
    have HZ1 := Lib.hid hz1
    have HZ2 := Lib.hid hz2
    clear hi hz0 hz1 hz2
    have ql : bs.length = cs.length := form_lenm hf1 hf2
    have HC1 : Hid (Ty.forms cs = true) := by simp only [Ty.form, Bool.and_eq_true] at hf1; exact hf1.1
    have HC2 : Hid (Ty.forms bs = true) := by simp only [Ty.form, Bool.and_eq_true] at hf2; exact hf2.1
    have HS1 : Hid (1 + Ty.sizes cs ≤ 1048577) := by simp [Ty.size] at hs1; show _ ≤ _; omega
    have HS2 : Hid (1 + Ty.sizes bs ≤ 1048577) := by simp [Ty.size] at hs2; show _ ≤ _; omega
    have hn2 : cs.length ≤ 1048577 := by have := HS1.out; have := Ty.length_le cs; omega
    clear hf1 hf2 hs1 hs2 HA HB
    rw [ql]
    go_enter Tryz.func112, Tryz.ntmps112
    go_wp2_with fail
    obtain ⟨W0, hW0⟩ : ∃ W0, W0 = ((((w.alloc (.cells #[.int .i64 k1, .slice a1 cs.length cap1] 33)).alloc (.cells #[.int .i64 k1, .slice a2 cs.length cap2] 33)).alloc (.cells #[.int .i64 0, .slice none 0 0] 33)).alloc (.cells #[.int .i64 k1, .slice none 0 0] 33)) := ⟨_, rfl⟩
    have hz0 : W0.heap.size = w.heap.size + 4 := by rw [hW0]; simp
    have HBW : Hid (Below w.heap.size w W0) := by show Below _ _ _; rw [hW0]; exact ((((Below.refl _ _).alloc (Nat.le_refl _) _).alloc (by simp) _).alloc (by simp; omega) _).alloc (by simp; omega) _
    have XA : Hid (BoxAt W0 w.heap.size #[.int .i64 k1, .slice a1 cs.length cap1]) := by show BoxAt _ _ _; rw [hW0]; exact (((BoxAt.new _ _ _).below (below_alloc _ _)).below (below_alloc _ _)).below (below_alloc _ _)
    have XB : Hid (BoxAt W0 (w.heap.size + 1) #[.int .i64 k1, .slice a2 cs.length cap2]) := by show BoxAt _ _ _; rw [hW0]; exact ((box_at (BoxAt.new _ _ _) (by simp)).below (below_alloc _ _)).below (below_alloc _ _)
    have XR : Hid (BoxAt W0 (w.heap.size + 1 + 1) #[.int .i64 0, .slice none 0 0]) := by show BoxAt _ _ _; rw [hW0]; exact (box_at (BoxAt.new _ _ _) (by simp)).below (below_alloc _ _)
    have XF : Hid (FreeAt W0 (w.heap.size + 1 + 1)) := by show FreeAt _ _; rw [hW0]; exact (free_at (FreeAt.new _ _ _) (by simp)).below (below_alloc _ _)
    have XK : Hid (BoxAt W0 (w.heap.size + 1 + 1 + 1) #[.int .i64 k1, .slice none 0 0]) := by show BoxAt _ _ _; rw [hW0]; exact box_at (BoxAt.new _ _ _) (by simp)
    have XG : Hid (FreeAt W0 (w.heap.size + 1 + 1 + 1)) := by show FreeAt _ _; rw [hW0]; exact free_at (FreeAt.new _ _ _) (by simp)
    rw [← hW0]
    clear hW0
    go_loopw [6] (fun i wr => ∃ (k : Nat) (vo : Value), k ≤ cs.length ∧ i = .int .i64 k ∧ wr.cell? ⟨w.heap.size + 1 + 1 + 1, 0, none⟩ = some (.int .i64 k1) ∧ wr.cell? ⟨w.heap.size + 1 + 1 + 1, 1, none⟩ = some vo ∧ wr.frozen? ⟨w.heap.size + 1 + 1 + 1, 1, none⟩ = false ∧
        CopyRow wr (w.heap.size + 4) d vo (Ty.meets (cs.take k) (bs.take k)) ∧ Below (w.heap.size + 3) W0 wr) (fun i _ => cs.length - (intOf i).toNat)
    case atStart => exact ⟨0, _, by omega, rfl, XK.out.2 0, XK.out.2 1, XG.out.2 1, by simp only [List.take_zero, Ty.meets]; exact CopyRow.nil _ _ _, Below.refl _ _⟩
    case round =>
      obtain ⟨k, vo, hk, rfl, o0, o1, o2, hrow, hb⟩ := hrel
      have hL : (Ty.meets (cs.take k) (bs.take k)).length = k := by rw [Ty.meets_length _ _ (by simp [ql])]; simp; omega
      obtain ⟨oa, oc, hvo⟩ := hrow.form
      rw [hL] at hvo
      subst hvo
      have HLL := Lib.hid hL; clear hL
      have HROW := Lib.hid hrow; clear hrow
      have hz := hb.size
      have HB := Lib.hid hb
      have HBW2 := Lib.hid (HBW.out.trans (hb.mono (by omega))); clear hb
      have b1 := (HB.out.cell (p := ⟨w.heap.size, 1, none⟩) (by show w.heap.size < _; omega)).trans (XA.out.2 1)
      have c1 := (HB.out.cell (p := ⟨w.heap.size + 1, 1, none⟩) (by show w.heap.size + 1 < _; omega)).trans (XB.out.2 1)
      by_cases hlt : k < cs.length
      · have hlt2 : k < bs.length := by omega
        obtain ⟨p1, off1, x0, x1, rfl, hbl1, hc10, hc11, ht1⟩ := HA1.out k hlt
        obtain ⟨p2, off2, z0, z1, rfl, hbl2, hc20, hc21, ht2⟩ := HA2.out k hlt2
        have hg1 := Ty.size_get cs k hlt
        have hg2 := Ty.size_get bs k hlt2
        have c10 : wr.cell? ⟨p1, off1 + k * 2, none⟩ = some x0 := by rw [HBW2.out.cell (p := ⟨p1, off1 + k * 2, none⟩) hbl1]; exact hc10
        have c11 : wr.cell? ⟨p1, off1 + k * 2 + 1, none⟩ = some x1 := by rw [HBW2.out.cell (p := ⟨p1, off1 + k * 2 + 1, none⟩) hbl1]; exact hc11
        have c20 : wr.cell? ⟨p2, off2 + k * 2, none⟩ = some z0 := by rw [HBW2.out.cell (p := ⟨p2, off2 + k * 2, none⟩) hbl2]; exact hc20
        have c21 : wr.cell? ⟨p2, off2 + k * 2 + 1, none⟩ = some z1 := by rw [HBW2.out.cell (p := ⟨p2, off2 + k * 2 + 1, none⟩) hbl2]; exact hc21
        have HT1 := Lib.hid ((ht1.below HBW2.out).below (below_drew wr))
        have HT2 := Lib.hid ((ht2.below HBW2.out).below (below_drew wr))
        have hy1 : cs[k].size ≤ 1048577 := by have := HS1.out; omega
        have hy2 : bs[k].size ≤ 1048577 := by have := HS2.out; omega
        clear ht1 ht2 hc10 hc11 hc20 hc21 hg1 hg2
        go_wp2_with fail
        go_region_law (first
          | (refine step_append_lies _ (by rfl) (.tmp 28) (.tmp 40) 31 (by rfl) (w.heap.size + 4) 33 i0 (.agg #[.int .i64 0, .slice none 0 0]) 2 32 Tryz.underlying31 HI.out HZ0.out HZ1.out HZ2.out rfl (by omega) (.slice oa k oc) k csx (by simp [Act.eval]) (HOWN.out.alloc _) ⟨w'.heap.size, 0, none⟩ 1 1 [.int .i64 zk, .slice za zn zc] (by simp [Act.eval]) rfl (World.news_of_block (cs := #[.int .i64 zk, .slice za zn zc]) (t := 33) (fr := (0, 0)) (heap_alloc_new w' _)) (by simp [Value.oneCell']) (by omega) (by unfold maxLen; omega) (by omega) (by simp; omega) (w'.heap.size + 1) (by simp) ?_
             intro g gc w1 hown1 hgrow hat1 hlt1
             have hne : some (w.heap.size + 1 + 1 + 1) ≠ (Value.slice oa k oc).ownBlock := fun e => by have := (HOWN.out.lt _ e.symm).1; omega
             have hlw : w.heap.size + 1 + 1 + 1 < w'.heap.size := by omega
             have n1 : w1.cell? ⟨w.heap.size + 1 + 1 + 1, 1, none⟩ = some (.slice oa k oc) := by
               rw [hgrow.cell_far _ (by simp; omega) hne, World.cell?_of_block (heap_alloc_old _ _ hlw)]; exact o1'
             have n0 : w1.cell? ⟨w.heap.size + 1 + 1 + 1, 0, none⟩ = some (.int .i64 k1) := by
               rw [hgrow.cell_far _ (by simp; omega) hne, World.cell?_of_block (heap_alloc_old _ _ hlw)]; exact o0'
             have n2 : w1.frozen? ⟨w.heap.size + 1 + 1 + 1, 1, none⟩ = false := by
               rw [hgrow.frozen_far _ (by simp; omega) hne, World.frozen?_of_block (heap_alloc_old _ _ hlw)]; exact o2'
             have HR1 := Lib.hid (HAPP.out _ g gc w1 hown1 hgrow hat1)
             have hz2 := hgrow.size
             have HB3 : Hid (Below (w.heap.size + 3) W0 w1) := (((HB.out.trans (HB2.out.mono (by omega))).alloc (by omega) _).grown hgrow (by simp; omega) (fun k hk => by have := (HOWN.out.lt _ hk).1; omega))
             clear hown1 hgrow hat1 hlt1 hne hlw)
          | (go_simp
             go_at_call 112
             refine (IH.out _ _ _ _ _ HT1.out HT2.out (Ty.forms_getm cs HC1.out k hlt) (Ty.forms_getm bs HC2.out k hlt2) hy1 hy2 (Ty.conss_get HCN.out ql k hlt hlt2)).mono ?_
             rintro e w' ⟨v2, fp, rfl, ht, hfp, hb1⟩
             obtain ⟨zk, za, zn, zc, rfl, HY⟩ := ty_parts ht
             clear ht
             have hb2 := below_thru (below_drew wr) (Nat.le_refl _) hb1
             have hz1 := hb2.size
             obtain ⟨csx, hown, happ⟩ := HROW.out.append hb2 (by omega) HY.out hfp
             rw [HLL.out] at hown happ
             have HOWN := Lib.hid hown
             have HAPP := Lib.hid happ
             have HB2 := Lib.hid hb2
             have o1' := (hb2.cell (p := ⟨w.heap.size + 1 + 1 + 1, 1, none⟩) (by show w.heap.size + 1 + 1 + 1 < _; omega)).trans o1
             have o1'' : (w'.alloc (.cells #[.int .i64 zk, .slice za zn zc] 33)).cell? ⟨w.heap.size + 1 + 1 + 1, 1, none⟩ = some (.slice oa k oc) := (World.cell?_of_block (heap_alloc_old _ _ (by show w.heap.size + 1 + 1 + 1 < _; omega))).trans o1'
             have o0' := (hb2.cell (p := ⟨w.heap.size + 1 + 1 + 1, 0, none⟩) (by show w.heap.size + 1 + 1 + 1 < _; omega)).trans o0
             have o2' := (hb2.frozen (p := ⟨w.heap.size + 1 + 1 + 1, 1, none⟩) (by show w.heap.size + 1 + 1 + 1 < _; omega)).trans o2
             clear hown happ hb1 hb2 HY))
        all_goals go_wp2_with fail
        all_goals
          exact ⟨⟨k + 1, .slice (some ⟨g, 0, none⟩) (k + 1) gc, by omega, by go_num, by simp [go_sem, n0], by simp [go_sem, n1], by simp [go_sem, n2], by rw [Ty.meets_take cs bs k hlt hlt2]; exact HR1.out.stored (by omega) _, HB3.out.setCell (by simp) _⟩, by simp [intOf]; omega⟩
      · obtain rfl : k = cs.length := by omega
        have p10 := (HB.out.cell (p := ⟨w.heap.size + 1 + 1, 0, none⟩) (by show w.heap.size + 1 + 1 < _; omega)).trans (XR.out.2 0)
        have p11 := (HB.out.cell (p := ⟨w.heap.size + 1 + 1, 1, none⟩) (by show w.heap.size + 1 + 1 < _; omega)).trans (XR.out.2 1)
        have q10 := (HB.out.frozen (p := ⟨w.heap.size + 1 + 1, 0, none⟩) (by show w.heap.size + 1 + 1 < _; omega)).trans (XF.out.2 0)
        have q11 := (HB.out.frozen (p := ⟨w.heap.size + 1 + 1, 1, none⟩) (by show w.heap.size + 1 + 1 < _; omega)).trans (XF.out.2 1)
        go_wp2_with fail
        have HR2 := (HROW.out.stored (p := w.heap.size + 1 + 1) (o := 0) (by omega) (.int .i64 k1)).stored (p := w.heap.size + 1 + 1) (o := 1) (by omega) (.slice oa cs.length oc)
        rw [List.take_length, ← ql, List.take_length, ql] at HR2
        obtain ⟨fp, hown, hfp⟩ := HR2.tree k1 hk0 hk1
        refine bodyPost_ret (v := .agg #[.int .i64 k1, .slice oa cs.length oc]) (by simp [results, Tryz.results112, go_sem, p10, p11]) rfl ?_
        rw [HM.out]
        exact ⟨_, fp, rfl, hown, hfp.mono (by omega) (Nat.le_refl _), (HBW2.out.setCell (by dsimp only; omega) _).setCell (by dsimp only; omega) _⟩
end Go.Proofs.YteffjeejbdjjpaaGreatDoor
