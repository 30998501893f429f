/-
  Proved: spec.PairType makes a type of two copied parts in new memory; the memory that was there stays as it was.
-/
import Derived.Test.YteffjeejbdjjpaaGreatDoorWellG5
import Derived.Deep.RegionLaw
import Derived.Test.YteffjeejbdjjpaaGreatDoorWellG3
import Derived.Test.YteffjeejbdjjpaaGreatDoorWellG4
import Derived.Deep.RegionHeld3
/-
  Proved: spec.l3Copy copies a tree of at most 2^20 nodes into new memory; it leaves the memory that was there as it was.
-/
namespace Go.Proofs.YteffjeejbdjjpaaGreatDoor
open Go.RowKit

/-- Three boxes were laid; below the third one nothing has changed since. -/
theorem three_below {w wr : World} {o q r : Obj} (h : Below (w.heap.size + 2) (((w.alloc o).alloc q).alloc r) wr) : Below w.heap.size w wr :=
  ((((Below.refl _ _).alloc (Nat.le_refl _) _).alloc (by simp) _).alloc (by simp; omega) _).trans (h.mono (by omega))
theorem three_first {w wr : World} {cs : Array Value} {T : TypeId} {q r : Obj} (h : Below (w.heap.size + 2) (((w.alloc (.cells cs T)).alloc q).alloc r) wr) (j : Nat) : wr.cell? ⟨w.heap.size, j, none⟩ = cs[j]? := by
  rw [h.cell (p := ⟨w.heap.size, j, none⟩) (Nat.lt_of_lt_of_le (Nat.lt_succ_self _) (Nat.le_succ _)), World.cell?_alloc_lt _ _ _ (by simp; omega), World.cell?_alloc_lt _ _ _ (by simp)]
  exact World.cell?_alloc_mark w cs T (0, 0) j
theorem three_next {w wr : World} {ds : Array Value} {U : TypeId} {o r : Obj} (h : Below (w.heap.size + 2) (((w.alloc o).alloc (.cells ds U)).alloc r) wr) (j : Nat) : wr.cell? ⟨w.heap.size + 1, j, none⟩ = ds[j]? := by
  rw [h.cell (p := ⟨w.heap.size + 1, j, none⟩) (Nat.lt_succ_self _), World.cell?_alloc_lt _ _ _ (by simp)]
  have := World.cell?_alloc_mark (w.alloc o) ds U (0, 0) j
  rw [show (w.alloc o).heap.size = w.heap.size + 1 from by simp] at this
  exact this
theorem three_frozen {w wr : World} {ds : Array Value} {U : TypeId} {o r : Obj} (h : Below (w.heap.size + 2) (((w.alloc o).alloc (.cells ds U)).alloc r) wr) (j : Nat) : wr.frozen? ⟨w.heap.size + 1, j, none⟩ = false := by
  rw [h.frozen (p := ⟨w.heap.size + 1, j, none⟩) (Nat.lt_succ_self _)]
  simp [go_sem]

set_option maxRecDepth 100000 in
set_option maxHeartbeats 4000000 in
theorem specCopy : ∀ (d : Nat) (v : Value) (t : Ty) (w : World), t.size ≤ 1048577 → TyAt w d v t →
    Calls Tryz.prog 62 #[v] w (ToTyEnd d t w)
  | 0, _, _, _, _, h => h.elim
  | d + 1, v, .node kd ts, w, hsz, h => by
    have IH : Hid (∀ (v : Value) (t : Ty) (w : World), t.size ≤ 1048577 → TyAt w d v t → Calls Tryz.prog 62 #[v] w (ToTyEnd d t w)) := specCopy d
    obtain ⟨i0, hi, hz0, hz1, hz2⟩ := info_parts info_ty
    have HI := Lib.hid hi
    have HZ0 := Lib.hid hz0
    have HZ1 := Lib.hid hz1
    have HZ2 := Lib.hid hz2
    have hlen := Ty.length_le ts
    have HSZ : Hid (1 + Ty.sizes ts ≤ 1048577) := by simp [Ty.size] at hsz; show _ ≤ _; omega
    have hn2 : ts.length ≤ 1048577 := by have := HSZ.out; omega
    clear hsz hlen hi hz0 hz1 hz2
    obtain ⟨sl, rfl, hk0, hk1, a, cap, rfl, hcap, hcap2, hat⟩ := h
    have HAT := Lib.hid hat; clear hat
    go_enter Tryz.func62, Tryz.ntmps62
    go_wp2_with fail
    go_loopw [4] (fun i wr => ∃ (k : Nat) (vo : Value), k ≤ ts.length ∧ i = .int .i64 k ∧ wr.cell? ⟨w.heap.size + 1 + 1, 0, none⟩ = some (.int .i64 kd) ∧ wr.cell? ⟨w.heap.size + 1 + 1, 1, none⟩ = some vo ∧ wr.frozen? ⟨w.heap.size + 1 + 1, 1, none⟩ = false ∧
        CopyRow wr (w.heap.size + 1 + 1 + 1) d vo (ts.take k) ∧ Below (w.heap.size + 2) (((w.alloc (.cells #[.int .i64 kd, .slice a ts.length cap] 33)).alloc (.cells #[.int .i64 0, .slice none 0 0] 33)).alloc (.cells #[.int .i64 kd, .slice none 0 0] 33)) wr) (fun i _ => ts.length - (intOf i).toNat)
    case atStart => exact ⟨0, _, by omega, rfl, by simp [go_sem], by simp [go_sem], by simp [go_sem], CopyRow.nil _ _ _, Below.refl _ _⟩
    case round =>
      obtain ⟨k, vo, hk, rfl, o0, o1, o2, hrow, hb⟩ := hrel
      obtain ⟨oa, oc, hvo⟩ := hrow.form
      rw [List.length_take, Nat.min_eq_left hk] at hvo
      subst hvo
      have HROW := Lib.hid hrow; clear hrow
      have hz := hb.size
      simp only [World.size_alloc] at hz
      have b0 := three_first hb 0
      have b1 := three_first hb 1
      have HB := Lib.hid hb
      have HBW := Lib.hid (three_below hb); clear hb
      by_cases hlt : k < ts.length
      · obtain ⟨b, off, x0, x1, rfl, hbl, hc0, hc1, ht⟩ := HAT.out k hlt
        have hg := Ty.size_get ts k hlt
        have e0 : wr.cell? ⟨b, off + k * 2, none⟩ = some x0 := by rw [HBW.out.cell (p := ⟨b, off + k * 2, none⟩) hbl]; exact hc0
        have e1 : wr.cell? ⟨b, off + k * 2 + 1, none⟩ = some x1 := by rw [HBW.out.cell (p := ⟨b, off + k * 2 + 1, none⟩) hbl]; exact hc1
        have HT := Lib.hid ((ht.below HBW.out).below (below_drew wr))
        have hzk : ts[k].size ≤ 1048577 := by have := HSZ.out; omega
        clear ht hc0 hc1 hg
        go_wp2_with fail
        go_region_law (first
          | (refine step_append_lies _ (by rfl) (.tmp 16) (.tmp 23) 31 (by rfl) (w.heap.size + 1 + 1 + 1) 33 i0 (.agg #[.int .i64 0, .slice none 0 0]) 2 32 Tryz.underlying31 HI.out HZ0.out HZ1.out HZ2.out rfl (by omega) (.slice oa k oc) k cs (by simp [Act.eval]) (HOWN.out.alloc _) ⟨w'.heap.size, 0, none⟩ 1 1 [.int .i64 zk, .slice za zn zc] (by simp [Act.eval]) rfl (World.news_of_block (cs := #[.int .i64 zk, .slice za zn zc]) (t := 33) (fr := (0, 0)) (heap_alloc_new w' _)) (by simp [Value.oneCell']) (by omega) (by unfold maxLen; omega) (by omega) (by simp; omega) (w'.heap.size + 1) (by simp) ?_
             intro g gc w1 hown1 hgrow hat1 hlt1
             have hne : some (w.heap.size + 1 + 1) ≠ (Value.slice oa k oc).ownBlock := fun e => by have := (HOWN.out.lt _ e.symm).1; omega
             have hlw : w.heap.size + 1 + 1 < w'.heap.size := by omega
             have k1 : w1.cell? ⟨w.heap.size + 1 + 1, 1, none⟩ = some (.slice oa k oc) := by
               rw [hgrow.cell_far _ (by simp; omega) hne, World.cell?_of_block (heap_alloc_old _ _ hlw)]; exact o1'
             have k0 : w1.cell? ⟨w.heap.size + 1 + 1, 0, none⟩ = some (.int .i64 kd) := by
               rw [hgrow.cell_far _ (by simp; omega) hne, World.cell?_of_block (heap_alloc_old _ _ hlw)]; exact o0'
             have k2 : w1.frozen? ⟨w.heap.size + 1 + 1, 1, none⟩ = false := by
               rw [hgrow.frozen_far _ (by simp; omega) hne, World.frozen?_of_block (heap_alloc_old _ _ hlw)]; exact o2'
             have HR1 := Lib.hid (HAPP.out _ g gc w1 hown1 hgrow hat1)
             have hz2 := hgrow.size
             have HB3 : Hid (Below (w.heap.size + 2) (((w.alloc (.cells #[.int .i64 kd, .slice (some ⟨b, off, none⟩) ts.length cap] 33)).alloc (.cells #[.int .i64 0, .slice none 0 0] 33)).alloc (.cells #[.int .i64 kd, .slice none 0 0] 33)) w1) :=
               (((HB.out.trans (HB2.out.mono (by omega))).alloc (by omega) _).grown hgrow (by simp; omega) (fun k hk => by have := (HOWN.out.lt _ hk).1; omega))
             clear hown1 hgrow hat1 hlt1 hne hlw)
          | (go_simp
             go_at_call 62
             refine (IH.out _ _ _ hzk HT.out).mono ?_
             rintro e w' ⟨v2, fp, rfl, ht, hfp, hb1⟩
             obtain ⟨zk, za, zn, zc, rfl, HY⟩ := ty_parts ht
             clear ht
             have hb2 := below_thru (below_drew wr) (Nat.le_refl _) hb1
             have hz1 := hb2.size
             obtain ⟨cs, hown, happ⟩ := HROW.out.append hb2 (by omega) HY.out hfp
             rw [List.length_take, Nat.min_eq_left hk] at hown happ
             have HOWN := Lib.hid hown
             have HAPP := Lib.hid happ
             have HB2 := Lib.hid hb2
             have o1' := (hb2.cell (p := ⟨w.heap.size + 1 + 1, 1, none⟩) (by show w.heap.size + 1 + 1 < _; omega)).trans o1
             have o1'' : (w'.alloc (.cells #[.int .i64 zk, .slice za zn zc] 33)).cell? ⟨w.heap.size + 1 + 1, 1, none⟩ = some (.slice oa k oc) := (World.cell?_of_block (heap_alloc_old _ _ (by show w.heap.size + 1 + 1 < _; omega))).trans o1'
             have o0' := (hb2.cell (p := ⟨w.heap.size + 1 + 1, 0, none⟩) (by show w.heap.size + 1 + 1 < _; omega)).trans o0
             have o2' := (hb2.frozen (p := ⟨w.heap.size + 1 + 1, 1, none⟩) (by show w.heap.size + 1 + 1 < _; omega)).trans o2
             have b1' := (hb2.cell (p := ⟨w.heap.size, 1, none⟩) (by show w.heap.size < _; omega)).trans b1
             clear hown happ hb1 hb2 HY))
        all_goals go_wp2_with fail
        all_goals
          exact ⟨⟨k + 1, .slice (some ⟨g, 0, none⟩) (k + 1) gc, by omega, by go_num, by simp [go_sem, k0], by simp [go_sem, k1], by simp [go_sem, k2], by rw [List.take_succ_eq_append_getElem hlt]; exact HR1.out.stored (by omega) _, HB3.out.setCell (by simp) _⟩, by simp [intOf]; omega⟩
      · obtain rfl : k = ts.length := by omega
        have p10 := three_next HB.out 0
        have p11 := three_next HB.out 1
        have q10 := three_frozen HB.out 0
        have q11 := three_frozen HB.out 1
        go_wp2_with fail
        have HR2 := (HROW.out.stored (p := w.heap.size + 1) (o := 0) (by omega) (.int .i64 kd)).stored (p := w.heap.size + 1) (o := 1) (by omega) (.slice oa ts.length oc)
        rw [List.take_length] at HR2
        obtain ⟨fp, hown, hfp⟩ := HR2.tree kd hk0 hk1
        have g0 : ((wr.setCell ⟨w.heap.size + 1, 0, none⟩ (.int .i64 kd)).setCell ⟨w.heap.size + 1, 1, none⟩ (.slice oa ts.length oc)).cell? ⟨w.heap.size + 1, 0, none⟩ = some (.int .i64 kd) := by simp [go_sem, p10]
        have g1 : ((wr.setCell ⟨w.heap.size + 1, 0, none⟩ (.int .i64 kd)).setCell ⟨w.heap.size + 1, 1, none⟩ (.slice oa ts.length oc)).cell? ⟨w.heap.size + 1, 1, none⟩ = some (.slice oa ts.length oc) := by simp [go_sem, p11]
        refine bodyPost_ret (v := .agg #[.int .i64 kd, .slice oa ts.length oc]) (by simp [results, Tryz.results62, go_sem, g0, g1]) rfl ?_
        exact ⟨_, fp, rfl, hown, hfp.mono (by omega) (Nat.le_refl _), (HBW.out.setCell (by simp) _).setCell (by simp) _⟩
end Go.Proofs.YteffjeejbdjjpaaGreatDoor
/-
  Proved: spec.ArrowType makes a type of two copied parts in new memory; the memory that was there stays as it was.
-/
namespace Go.Proofs.YteffjeejbdjjpaaGreatDoor
open Go.RowKit

set_option maxRecDepth 100000 in
set_option maxHeartbeats 2000000 in
theorem specArrowBuilt (d : Nat) (v1 v2 : Value) (t1 t2 : Ty) (w : World) (hn1 : t1.size ≤ 1048577) (hn2 : t2.size ≤ 1048577) (h1 : TyAt w d v1 t1) (h2 : TyAt w d v2 t2) :
    Calls Tryz.prog 101 #[v1, v2] w (BuiltEnd d (.node 4 [t1, t2]) w) := by
  obtain ⟨ak, aa, an, ac, rfl⟩ := agg_parts h1
  obtain ⟨bk, ba, bn, bc, rfl⟩ := agg_parts h2
  have B : Hid (Below w.heap.size w (((w.alloc (.cells #[.int .i64 ak, .slice aa an ac] 33)).alloc (.cells #[.int .i64 bk, .slice ba bn bc] 33)).alloc (.cells #[.int .i64 0, .slice none 0 0] 33))) := (((Below.refl _ _).alloc (Nat.le_refl _) _).alloc (by simp) _).alloc (by simp; omega) _
  have XA : Hid (BoxAt (((w.alloc (.cells #[.int .i64 ak, .slice aa an ac] 33)).alloc (.cells #[.int .i64 bk, .slice ba bn bc] 33)).alloc (.cells #[.int .i64 0, .slice none 0 0] 33)) w.heap.size #[.int .i64 ak, .slice aa an ac]) := ((BoxAt.new _ _ _).below (below_alloc _ _)).below (below_alloc _ _)
  have XB : Hid (BoxAt (((w.alloc (.cells #[.int .i64 ak, .slice aa an ac] 33)).alloc (.cells #[.int .i64 bk, .slice ba bn bc] 33)).alloc (.cells #[.int .i64 0, .slice none 0 0] 33)) (w.heap.size + 1) #[.int .i64 bk, .slice ba bn bc]) := (box_at (BoxAt.new _ _ _) (by simp)).below (below_alloc _ _)
  have XR : Hid (BoxAt (((w.alloc (.cells #[.int .i64 ak, .slice aa an ac] 33)).alloc (.cells #[.int .i64 bk, .slice ba bn bc] 33)).alloc (.cells #[.int .i64 0, .slice none 0 0] 33)) (w.heap.size + 1 + 1) #[.int .i64 0, .slice none 0 0]) := box_at (BoxAt.new _ _ _) (by simp)
  have XF : Hid (FreeAt (((w.alloc (.cells #[.int .i64 ak, .slice aa an ac] 33)).alloc (.cells #[.int .i64 bk, .slice ba bn bc] 33)).alloc (.cells #[.int .i64 0, .slice none 0 0] 33)) (w.heap.size + 1 + 1)) := free_at (FreeAt.new _ _ _) (by simp)
  have HA := Lib.hid (h1.below B.out)
  have HB := Lib.hid (h2.below B.out)
  clear h1 h2
  go_enter Tryz.func101, Tryz.ntmps101
  go_wp2_with fail
  have hb := below_drew (((w.alloc (.cells #[.int .i64 ak, .slice aa an ac] 33)).alloc (.cells #[.int .i64 bk, .slice ba bn bc] 33)).alloc (.cells #[.int .i64 0, .slice none 0 0] 33))
  replace B := Lib.hid (below_thru B.out (Nat.le_refl _) hb)
  replace HA := Lib.hid (HA.out.below hb)
  replace HB := Lib.hid (HB.out.below hb)
  replace XA := Lib.hid (XA.out.below hb)
  replace XB := Lib.hid (XB.out.below hb)
  replace XR := Lib.hid (XR.out.below hb)
  replace XF := Lib.hid (XF.out.below hb)
  clear hb
  have hzs : (((w.alloc (.cells #[.int .i64 ak, .slice aa an ac] 33)).alloc (.cells #[.int .i64 bk, .slice ba bn bc] 33)).alloc (.cells #[.int .i64 0, .slice none 0 0] 33)).drew.heap.size = w.heap.size + 3 := by simp
  go_region_held3 (fun w' => w'.cell? ⟨w.heap.size, 0, none⟩ = some (.int .i64 ak) ∧ w'.cell? ⟨w.heap.size, 1, none⟩ = some (.slice aa an ac) ∧ w'.cell? ⟨w.heap.size + 1, 0, none⟩ = some (.int .i64 bk) ∧ w'.cell? ⟨w.heap.size + 1, 1, none⟩ = some (.slice ba bn bc))
    (first | exact ⟨XA.out.2 0, XA.out.2 1, XB.out.2 0, XB.out.2 1⟩ | exact ⟨(XA.out.below (below_alloc _ _)).2 0, (XA.out.below (below_alloc _ _)).2 1, (XB.out.below (below_alloc _ _)).2 0, (XB.out.below (below_alloc _ _)).2 1⟩ | exact ⟨(((XA.out.stored (by omega)).stored (by omega)).below (below_alloc _ _)).2 0, (((XA.out.stored (by omega)).stored (by omega)).below (below_alloc _ _)).2 1, (((XB.out.stored (by omega)).stored (by omega)).below (below_alloc _ _)).2 0, (((XB.out.stored (by omega)).stored (by omega)).below (below_alloc _ _)).2 1⟩)
    (first
     | (go_at_call_of 62 (Value.agg #[Value.int IntKind.i64 ak, Value.slice aa an ac])
        refine (specCopy d _ t1 _ hn1 HA.out).mono ?_
        rintro e w1 ⟨x1, f1, rfl, ht, hf1, hb⟩
        obtain ⟨ck, ca, cn, cc, rfl, HC⟩ := ty_parts ht
        have hz1 := hb.size
        rw [hzs] at hz1 hf1
        have F1 := Lib.hid hf1
        clear ht hf1
        replace B := Lib.hid (below_thru B.out (Nat.le_refl _) hb)
        replace HA := Lib.hid (HA.out.below hb)
        replace HB := Lib.hid (HB.out.below hb)
        replace XA := Lib.hid (XA.out.below hb)
        replace XB := Lib.hid (XB.out.below hb)
        replace XR := Lib.hid (XR.out.below hb)
        replace XF := Lib.hid (XF.out.below hb)
        clear hb)
     | (go_at_call_of 62 (Value.agg #[Value.int IntKind.i64 bk, Value.slice ba bn bc])
        refine (specCopy d _ t2 _ hn2 HB.out).mono ?_
        rintro e w2 ⟨x2, f2, rfl, ht, hf2, hb⟩
        obtain ⟨dk, da, dn, dc, rfl, HD⟩ := ty_parts ht
        have hz2 := hb.size
        have F2 := Lib.hid hf2
        clear ht hf2
        replace B := Lib.hid (below_thru B.out (Nat.le_refl _) hb)
        replace HA := Lib.hid (HA.out.below hb)
        replace HB := Lib.hid (HB.out.below hb)
        replace XA := Lib.hid (XA.out.below hb)
        replace XB := Lib.hid (XB.out.below hb)
        replace XR := Lib.hid (XR.out.below hb)
        replace XF := Lib.hid (XF.out.below hb)
        replace HC := Lib.hid (HC.out.below hb)
        clear hb
        have r0 := XR.out.2 0
        have r1 := XR.out.2 1
        have q0 := XF.out.2 0
        have q1 := XF.out.2 1
        have hr := XR.out.1))
  go_wp2_with fail
  have hkeep : ∀ b, w.heap.size + 3 ≤ b → ((w2.setCell ⟨w.heap.size + 1 + 1, 0, none⟩ (.int .i64 4)).setCell ⟨w.heap.size + 1 + 1, 1, none⟩ (.slice (some ⟨w2.heap.size, 0, none⟩) 2 2)).heap[b]? = w2.heap[b]? := fun b hb => by
    rw [heap_setCell_other _ _ _ _ (by simp; omega), heap_setCell_other _ _ _ _ (by simp; omega)]
  have hxz : ((w2.setCell ⟨w.heap.size + 1 + 1, 0, none⟩ (.int .i64 4)).setCell ⟨w.heap.size + 1 + 1, 1, none⟩ (.slice (some ⟨w2.heap.size, 0, none⟩) 2 2)).heap.size = w2.heap.size := by simp
  have hown := row_two (X := ((w2.setCell ⟨w.heap.size + 1 + 1, 0, none⟩ (.int .i64 4)).setCell ⟨w.heap.size + 1 + 1, 1, none⟩ (.slice (some ⟨w2.heap.size, 0, none⟩) 2 2))) hxz.symm (HC.out.kept (by simp) fun b hb => hkeep b (F1.out.2 b hb).1) (HD.out.kept (by simp) fun b hb => hkeep b (by have := (F2.out.2 b hb).1; omega)) F1.out F2.out hz1 hz2
  have g0 : (((w2.setCell ⟨w.heap.size + 1 + 1, 0, none⟩ (.int .i64 4)).setCell ⟨w.heap.size + 1 + 1, 1, none⟩ (.slice (some ⟨w2.heap.size, 0, none⟩) 2 2)).alloc (.cells #[.int .i64 ck, .slice ca cn cc, .int .i64 dk, .slice da dn dc] 33)).cell? ⟨w.heap.size + 1 + 1, 0, none⟩ = some (.int .i64 4) := by
    rw [World.cell?_of_block (heap_alloc_old _ _ (by rw [hxz]; exact hr))]; simp [go_sem, r0]
  have g1 : (((w2.setCell ⟨w.heap.size + 1 + 1, 0, none⟩ (.int .i64 4)).setCell ⟨w.heap.size + 1 + 1, 1, none⟩ (.slice (some ⟨w2.heap.size, 0, none⟩) 2 2)).alloc (.cells #[.int .i64 ck, .slice ca cn cc, .int .i64 dk, .slice da dn dc] 33)).cell? ⟨w.heap.size + 1 + 1, 1, none⟩ = some (.slice (some ⟨w2.heap.size, 0, none⟩) 2 2) := by
    rw [World.cell?_of_block (heap_alloc_old _ _ (by rw [hxz]; exact hr))]; simp [go_sem, r1]
  have hbF : Below w.heap.size w (((w2.setCell ⟨w.heap.size + 1 + 1, 0, none⟩ (.int .i64 4)).setCell ⟨w.heap.size + 1 + 1, 1, none⟩ (.slice (some ⟨w2.heap.size, 0, none⟩) 2 2)).alloc (.cells #[.int .i64 ck, .slice ca cn cc, .int .i64 dk, .slice da dn dc] 33)) := ((B.out.setCell (by simp; omega) _).setCell (by simp; omega) _).alloc (by rw [hxz]; omega) _
  have hzF : w2.heap.size + 1 ≤ (((w2.setCell ⟨w.heap.size + 1 + 1, 0, none⟩ (.int .i64 4)).setCell ⟨w.heap.size + 1 + 1, 1, none⟩ (.slice (some ⟨w2.heap.size, 0, none⟩) 2 2)).alloc (.cells #[.int .i64 ck, .slice ca cn cc, .int .i64 dk, .slice da dn dc] 33)).heap.size := by simp
  generalize ((w2.setCell ⟨w.heap.size + 1 + 1, 0, none⟩ (.int .i64 4)).setCell ⟨w.heap.size + 1 + 1, 1, none⟩ (.slice (some ⟨w2.heap.size, 0, none⟩) 2 2)).alloc (.cells #[.int .i64 ck, .slice ca cn cc, .int .i64 dk, .slice da dn dc] 33) = WF at g0 g1 hown hbF hzF ⊢
  refine bodyPost_ret (v := .agg #[.int .i64 4, .slice (some ⟨w2.heap.size, 0, none⟩) 2 2]) (by simp [results, Tryz.results101, go_sem, g0, g1]) rfl ?_
  exact ⟨_, rfl, ⟨4, _, _, rfl, rfl, by omega, by omega, hown.lower (by omega)⟩, hbF⟩
theorem specArrowType (d : Nat) (v1 v2 : Value) (t1 t2 : Ty) (w : World) (hn1 : t1.size ≤ 1048577) (hn2 : t2.size ≤ 1048577) (h1 : TyAt w d v1 t1) (h2 : TyAt w d v2 t2) :
    Calls Tryz.prog 101 #[v1, v2] w (ToTyEnd (d + 1) (.node 4 [t1, t2]) w) :=
  (specArrowBuilt d v1 v2 t1 t2 w hn1 hn2 h1 h2).mono fun _ _ h => h.to
end Go.Proofs.YteffjeejbdjjpaaGreatDoor
namespace Go.Proofs.YteffjeejbdjjpaaGreatDoor
open Go.RowKit

set_option maxRecDepth 100000 in
set_option maxHeartbeats 2000000 in
theorem specPairBuilt (d : Nat) (v1 v2 : Value) (t1 t2 : Ty) (w : World) (hn1 : t1.size ≤ 1048577) (hn2 : t2.size ≤ 1048577) (h1 : TyAt w d v1 t1) (h2 : TyAt w d v2 t2) :
    Calls Tryz.prog 102 #[v1, v2] w (BuiltEnd d (.node 5 [t1, t2]) w) := by
  obtain ⟨ak, aa, an, ac, rfl⟩ := agg_parts h1
  obtain ⟨bk, ba, bn, bc, rfl⟩ := agg_parts h2
  have B : Hid (Below w.heap.size w (((w.alloc (.cells #[.int .i64 ak, .slice aa an ac] 33)).alloc (.cells #[.int .i64 bk, .slice ba bn bc] 33)).alloc (.cells #[.int .i64 0, .slice none 0 0] 33))) := (((Below.refl _ _).alloc (Nat.le_refl _) _).alloc (by simp) _).alloc (by simp; omega) _
  have XA : Hid (BoxAt (((w.alloc (.cells #[.int .i64 ak, .slice aa an ac] 33)).alloc (.cells #[.int .i64 bk, .slice ba bn bc] 33)).alloc (.cells #[.int .i64 0, .slice none 0 0] 33)) w.heap.size #[.int .i64 ak, .slice aa an ac]) := ((BoxAt.new _ _ _).below (below_alloc _ _)).below (below_alloc _ _)
  have XB : Hid (BoxAt (((w.alloc (.cells #[.int .i64 ak, .slice aa an ac] 33)).alloc (.cells #[.int .i64 bk, .slice ba bn bc] 33)).alloc (.cells #[.int .i64 0, .slice none 0 0] 33)) (w.heap.size + 1) #[.int .i64 bk, .slice ba bn bc]) := (box_at (BoxAt.new _ _ _) (by simp)).below (below_alloc _ _)
  have XR : Hid (BoxAt (((w.alloc (.cells #[.int .i64 ak, .slice aa an ac] 33)).alloc (.cells #[.int .i64 bk, .slice ba bn bc] 33)).alloc (.cells #[.int .i64 0, .slice none 0 0] 33)) (w.heap.size + 1 + 1) #[.int .i64 0, .slice none 0 0]) := box_at (BoxAt.new _ _ _) (by simp)
  have XF : Hid (FreeAt (((w.alloc (.cells #[.int .i64 ak, .slice aa an ac] 33)).alloc (.cells #[.int .i64 bk, .slice ba bn bc] 33)).alloc (.cells #[.int .i64 0, .slice none 0 0] 33)) (w.heap.size + 1 + 1)) := free_at (FreeAt.new _ _ _) (by simp)
  have HA := Lib.hid (h1.below B.out)
  have HB := Lib.hid (h2.below B.out)
  clear h1 h2
  go_enter Tryz.func102, Tryz.ntmps102
  go_wp2_with fail
  have hb := below_drew (((w.alloc (.cells #[.int .i64 ak, .slice aa an ac] 33)).alloc (.cells #[.int .i64 bk, .slice ba bn bc] 33)).alloc (.cells #[.int .i64 0, .slice none 0 0] 33))
  replace B := Lib.hid (below_thru B.out (Nat.le_refl _) hb)
  replace HA := Lib.hid (HA.out.below hb)
  replace HB := Lib.hid (HB.out.below hb)
  replace XA := Lib.hid (XA.out.below hb)
  replace XB := Lib.hid (XB.out.below hb)
  replace XR := Lib.hid (XR.out.below hb)
  replace XF := Lib.hid (XF.out.below hb)
  clear hb
  have hzs : (((w.alloc (.cells #[.int .i64 ak, .slice aa an ac] 33)).alloc (.cells #[.int .i64 bk, .slice ba bn bc] 33)).alloc (.cells #[.int .i64 0, .slice none 0 0] 33)).drew.heap.size = w.heap.size + 3 := by simp
  go_region_held3 (fun w' => w'.cell? ⟨w.heap.size, 0, none⟩ = some (.int .i64 ak) ∧ w'.cell? ⟨w.heap.size, 1, none⟩ = some (.slice aa an ac) ∧ w'.cell? ⟨w.heap.size + 1, 0, none⟩ = some (.int .i64 bk) ∧ w'.cell? ⟨w.heap.size + 1, 1, none⟩ = some (.slice ba bn bc))
    (first | exact ⟨XA.out.2 0, XA.out.2 1, XB.out.2 0, XB.out.2 1⟩ | exact ⟨(XA.out.below (below_alloc _ _)).2 0, (XA.out.below (below_alloc _ _)).2 1, (XB.out.below (below_alloc _ _)).2 0, (XB.out.below (below_alloc _ _)).2 1⟩ | exact ⟨(((XA.out.stored (by omega)).stored (by omega)).below (below_alloc _ _)).2 0, (((XA.out.stored (by omega)).stored (by omega)).below (below_alloc _ _)).2 1, (((XB.out.stored (by omega)).stored (by omega)).below (below_alloc _ _)).2 0, (((XB.out.stored (by omega)).stored (by omega)).below (below_alloc _ _)).2 1⟩)
    (first
     | (go_at_call_of 62 (Value.agg #[Value.int IntKind.i64 ak, Value.slice aa an ac])
        refine (specCopy d _ t1 _ hn1 HA.out).mono ?_
        rintro e w1 ⟨x1, f1, rfl, ht, hf1, hb⟩
        obtain ⟨ck, ca, cn, cc, rfl, HC⟩ := ty_parts ht
        have hz1 := hb.size
        rw [hzs] at hz1 hf1
        have F1 := Lib.hid hf1
        clear ht hf1
        replace B := Lib.hid (below_thru B.out (Nat.le_refl _) hb)
        replace HA := Lib.hid (HA.out.below hb)
        replace HB := Lib.hid (HB.out.below hb)
        replace XA := Lib.hid (XA.out.below hb)
        replace XB := Lib.hid (XB.out.below hb)
        replace XR := Lib.hid (XR.out.below hb)
        replace XF := Lib.hid (XF.out.below hb)
        clear hb)
     | (go_at_call_of 62 (Value.agg #[Value.int IntKind.i64 bk, Value.slice ba bn bc])
        refine (specCopy d _ t2 _ hn2 HB.out).mono ?_
        rintro e w2 ⟨x2, f2, rfl, ht, hf2, hb⟩
        obtain ⟨dk, da, dn, dc, rfl, HD⟩ := ty_parts ht
        have hz2 := hb.size
        have F2 := Lib.hid hf2
        clear ht hf2
        replace B := Lib.hid (below_thru B.out (Nat.le_refl _) hb)
        replace HA := Lib.hid (HA.out.below hb)
        replace HB := Lib.hid (HB.out.below hb)
        replace XA := Lib.hid (XA.out.below hb)
        replace XB := Lib.hid (XB.out.below hb)
        replace XR := Lib.hid (XR.out.below hb)
        replace XF := Lib.hid (XF.out.below hb)
        replace HC := Lib.hid (HC.out.below hb)
        clear hb
        have r0 := XR.out.2 0
        have r1 := XR.out.2 1
        have q0 := XF.out.2 0
        have q1 := XF.out.2 1
        have hr := XR.out.1))
  go_wp2_with fail
  have hkeep : ∀ b, w.heap.size + 3 ≤ b → ((w2.setCell ⟨w.heap.size + 1 + 1, 0, none⟩ (.int .i64 5)).setCell ⟨w.heap.size + 1 + 1, 1, none⟩ (.slice (some ⟨w2.heap.size, 0, none⟩) 2 2)).heap[b]? = w2.heap[b]? := fun b hb => by
    rw [heap_setCell_other _ _ _ _ (by simp; omega), heap_setCell_other _ _ _ _ (by simp; omega)]
  have hxz : ((w2.setCell ⟨w.heap.size + 1 + 1, 0, none⟩ (.int .i64 5)).setCell ⟨w.heap.size + 1 + 1, 1, none⟩ (.slice (some ⟨w2.heap.size, 0, none⟩) 2 2)).heap.size = w2.heap.size := by simp
  have hown := row_two (X := ((w2.setCell ⟨w.heap.size + 1 + 1, 0, none⟩ (.int .i64 5)).setCell ⟨w.heap.size + 1 + 1, 1, none⟩ (.slice (some ⟨w2.heap.size, 0, none⟩) 2 2))) hxz.symm (HC.out.kept (by simp) fun b hb => hkeep b (F1.out.2 b hb).1) (HD.out.kept (by simp) fun b hb => hkeep b (by have := (F2.out.2 b hb).1; omega)) F1.out F2.out hz1 hz2
  have g0 : (((w2.setCell ⟨w.heap.size + 1 + 1, 0, none⟩ (.int .i64 5)).setCell ⟨w.heap.size + 1 + 1, 1, none⟩ (.slice (some ⟨w2.heap.size, 0, none⟩) 2 2)).alloc (.cells #[.int .i64 ck, .slice ca cn cc, .int .i64 dk, .slice da dn dc] 33)).cell? ⟨w.heap.size + 1 + 1, 0, none⟩ = some (.int .i64 5) := by
    rw [World.cell?_of_block (heap_alloc_old _ _ (by rw [hxz]; exact hr))]; simp [go_sem, r0]
  have g1 : (((w2.setCell ⟨w.heap.size + 1 + 1, 0, none⟩ (.int .i64 5)).setCell ⟨w.heap.size + 1 + 1, 1, none⟩ (.slice (some ⟨w2.heap.size, 0, none⟩) 2 2)).alloc (.cells #[.int .i64 ck, .slice ca cn cc, .int .i64 dk, .slice da dn dc] 33)).cell? ⟨w.heap.size + 1 + 1, 1, none⟩ = some (.slice (some ⟨w2.heap.size, 0, none⟩) 2 2) := by
    rw [World.cell?_of_block (heap_alloc_old _ _ (by rw [hxz]; exact hr))]; simp [go_sem, r1]
  have hbF : Below w.heap.size w (((w2.setCell ⟨w.heap.size + 1 + 1, 0, none⟩ (.int .i64 5)).setCell ⟨w.heap.size + 1 + 1, 1, none⟩ (.slice (some ⟨w2.heap.size, 0, none⟩) 2 2)).alloc (.cells #[.int .i64 ck, .slice ca cn cc, .int .i64 dk, .slice da dn dc] 33)) := ((B.out.setCell (by simp; omega) _).setCell (by simp; omega) _).alloc (by rw [hxz]; omega) _
  have hzF : w2.heap.size + 1 ≤ (((w2.setCell ⟨w.heap.size + 1 + 1, 0, none⟩ (.int .i64 5)).setCell ⟨w.heap.size + 1 + 1, 1, none⟩ (.slice (some ⟨w2.heap.size, 0, none⟩) 2 2)).alloc (.cells #[.int .i64 ck, .slice ca cn cc, .int .i64 dk, .slice da dn dc] 33)).heap.size := by simp
  generalize ((w2.setCell ⟨w.heap.size + 1 + 1, 0, none⟩ (.int .i64 5)).setCell ⟨w.heap.size + 1 + 1, 1, none⟩ (.slice (some ⟨w2.heap.size, 0, none⟩) 2 2)).alloc (.cells #[.int .i64 ck, .slice ca cn cc, .int .i64 dk, .slice da dn dc] 33) = WF at g0 g1 hown hbF hzF ⊢
  refine bodyPost_ret (v := .agg #[.int .i64 5, .slice (some ⟨w2.heap.size, 0, none⟩) 2 2]) (by simp [results, Tryz.results102, go_sem, g0, g1]) rfl ?_
  exact ⟨_, rfl, ⟨5, _, _, rfl, rfl, by omega, by omega, hown.lower (by omega)⟩, hbF⟩
theorem specPairType (d : Nat) (v1 v2 : Value) (t1 t2 : Ty) (w : World) (hn1 : t1.size ≤ 1048577) (hn2 : t2.size ≤ 1048577) (h1 : TyAt w d v1 t1) (h2 : TyAt w d v2 t2) :
    Calls Tryz.prog 102 #[v1, v2] w (ToTyEnd (d + 1) (.node 5 [t1, t2]) w) :=
  (specPairBuilt d v1 v2 t1 t2 w hn1 hn2 h1 h2).mono fun _ _ h => h.to
end Go.Proofs.YteffjeejbdjjpaaGreatDoor
