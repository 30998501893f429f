/-
  Proved: impl.LookupCtx gives a copy of the last type of a name, or says that there is none; the memory that was there stays as it was.
-/
import Derived.Test.YteffjeejbdjjpaaGreatDoorWellG4
import Derived.Test.YteffjeejbdjjpaaGreatDoorWellG2
import Derived.Test.YteffjeejbdjjpaaGreatDoorWellG3
import Derived.Test.YteffjeejbdjjpaaGreatDoorWellG5
import Derived.Deep.RegionHeld3
import Derived.Test.YteffjeejbdjjpaaGreatDoorWellG14
/-
  Proved: impl.copyType copies a tree of at most 2^20 nodes into new memory; it leaves the memory that was there as it was.
-/
namespace Go.Proofs.YteffjeejbdjjpaaGreatDoor
open Go.RowKit

theorem own_leaf (w : World) (d : Nat) (k : Int) (h0 : -9223372036854775808 ≤ k) (h1 : k ≤ 9223372036854775807) : TyOwn w (d + 1) (.agg #[.int .i64 k, .slice none 0 0]) (.node k []) [] :=
  ⟨_, rfl, h0, h1, none, 0, [], [], rfl, Nat.le_refl _, by omega, rfl, rfl, (fun b hb => by cases hb), fun j hj => by simp at hj⟩
theorem two_frozen {w wr : World} {cs ds : Array Value} {T U : TypeId} (h : Below (w.heap.size + 2) ((w.alloc (.cells cs T)).alloc (.cells ds U)) wr) (j : Nat) : wr.frozen? ⟨w.heap.size + 1, j, none⟩ = false := by
  rw [h.frozen (p := ⟨w.heap.size + 1, j, none⟩) (Nat.lt_succ_self _)]
  simp [go_sem]

set_option maxRecDepth 100000 in
set_option maxHeartbeats 2000000 in
theorem implCopy : ∀ (d : Nat) (v : Value) (t : Ty) (w : World), t.size ≤ 1048577 → TyAt w d v t →
    Calls Tryz.prog 80 #[v] w (ToTyEnd d t w)
  | 0, _, _, _, _, h => h.elim
  | d + 1, v, .node kd ts, w, hsz, h => by
    have IH : Hid (∀ (v : Value) (t : Ty) (w : World), t.size ≤ 1048577 → TyAt w d v t → Calls Tryz.prog 80 #[v] w (ToTyEnd d t w)) := implCopy d
    obtain ⟨i0, hi, hz0, hz1, hz2⟩ := info_parts info_ty
    have hlen := Ty.length_le ts
    have HSZ : Hid (1 + Ty.sizes ts ≤ 1048577) := by simp [Ty.size] at hsz; show _ ≤ _; omega
    have hn2 : ts.length ≤ 1048577 := by have := HSZ.out; omega
    clear hsz hlen
    obtain ⟨sl, rfl, hk0, hk1, a, cap, rfl, hcap, hcap2, hat⟩ := h
    have HAT := Lib.hid hat; clear hat
    obtain ⟨n, hn⟩ : ∃ n, n = ts.length := ⟨_, rfl⟩
    have HN := Lib.hid hn
    rw [← hn] at hcap hn2 ⊢
    clear hn
    by_cases z : n = 0
    · subst z
      have HTS : Hid (ts = []) := List.eq_nil_of_length_eq_zero HN.out.symm
      go_enter Tryz.func80, Tryz.ntmps80
      go_wp2_with fail
      refine bodyPost_ret (v := .agg #[.int .i64 kd, .slice none 0 0]) (by simp [results, Tryz.results80, go_sem]) rfl ?_
      rw [HTS.out]
      exact ⟨_, [], rfl, own_leaf _ _ _ hk0 hk1, Fp.nil _ _, ((Below.refl _ _).alloc (Nat.le_refl _) _).alloc (by simp) _⟩
    · have z3 : ((n : Int) == 0) = false := by simp [z]
      go_enter Tryz.func80, Tryz.ntmps80
      go_wp2_with (at_make; refine wpList_make_full _ rfl _ _ 31 rfl (w.heap.size + 1 + 1) 33 i0 (.agg #[.int .i64 0, .slice none 0 0]) 2 Tryz.underlying31 hi hz0 hz1 .i64 .i64 _ _ n rfl rfl rfl rfl (by rw [hz2]; omega) (by unfold maxLen; omega) (by simp) ?_; intro w0 hown0 hg0; refine Hid.out ?_)
      refine Lib.hid ?_
      rw [show ((w.alloc (.cells #[.int .i64 kd, .slice a n cap] 33)).alloc (.cells #[.int .i64 0, .slice none 0 0] 33)).heap.size = w.heap.size + 1 + 1 from by simp] at hown0
      have HB0 : Hid (Below (w.heap.size + 2) ((w.alloc (.cells #[.int .i64 kd, .slice a n cap] 33)).alloc (.cells #[.int .i64 0, .slice none 0 0] 33)) w0) := (Below.refl _ _).grown hg0 (by simp) (fun k hk => by cases hk)
      have HO0 := Lib.hid hown0
      clear hown0 hg0 hi hz0 hz1 hz2
      have p00 := two_first HB0.out 0
      have p01 := two_first HB0.out 1
      go_wp2_with fail
      clear p00 p01
      go_loopw [20] (fun i wr => ∃ (k : Nat) (cs : List Value) (fps : List (List Nat)), k ≤ n ∧ i = .int .i64 k ∧ wr.ownsRow (w.heap.size + 1 + 1) 33 2 (.slice (some ⟨w.heap.size + 1 + 1, 0, none⟩) n n) n cs ∧
          fps.length = k ∧ Fp (w.heap.size + 1 + 1 + 1) wr.heap.size (List.flatten fps) ∧ (∀ j (h : j < ts.length), j < k → ∃ c0 c1 f, cs[j * 2]? = some c0 ∧ cs[j * 2 + 1]? = some c1 ∧ fps[j]? = some f ∧ TyOwn wr d (.agg #[c0, c1]) ts[j] f) ∧
          Below (w.heap.size + 2) ((w.alloc (.cells #[.int .i64 kd, .slice a n cap] 33)).alloc (.cells #[.int .i64 0, .slice none 0 0] 33)) wr) (fun i _ => n - (intOf i).toNat)
      case atStart => exact ⟨0, _, [], by omega, rfl, HO0.out, rfl, Fp.nil _ _, fun j h h2 => by omega, HB0.out⟩
      case round =>
        obtain ⟨k, cs, fps, hk, rfl, hown, hfl, hfp, hdone, hb⟩ := hrel
        have HF := Lib.hid hfp; clear hfp
        have HL := Lib.hid hfl; clear hfl
        have HO := Lib.hid hown
        have HD := Lib.hid hdone; clear hdone
        have HB := Lib.hid hb
        have HBW := Lib.hid (two_below hb); clear hb
        have hgl := (hown.lt (w.heap.size + 1 + 1) rfl).2
        clear hown
        by_cases hlt : k < n
        · have hlt2 : k < ts.length := by have := HN.out; omega
          obtain ⟨b, off, x0, x1, rfl, hbl, hc0, hc1, ht⟩ := HAT.out k hlt2
          obtain ⟨yk, ya, yn, yc, rfl, rfl⟩ := at_parts ht
          have hg := Ty.size_get ts k hlt2
          have e0 : wr.cell? ⟨b, off + k * 2, none⟩ = some (.int .i64 yk) := by rw [HBW.out.cell (p := ⟨b, off + k * 2, none⟩) hbl]; exact hc0
          have e1 : wr.cell? ⟨b, off + k * 2 + 1, none⟩ = some (.slice ya yn yc) := by rw [HBW.out.cell (p := ⟨b, off + k * 2 + 1, none⟩) hbl]; exact hc1
          have hp : Below wr.heap.size wr (wr.alloc (.cells #[.int .i64 yk, .slice ya yn yc] 33)) := below_alloc _ _
          have HT := Lib.hid ((ht.below HBW.out).below hp)
          have HP := Lib.hid hp
          have hzk : ts[k].size ≤ 1048577 := by have := HSZ.out; omega
          clear ht hc0 hc1 hp hg
          go_wp2_with fail
          refine (IH.out _ _ _ hzk HT.out).mono ?_
          rintro e w' ⟨v2, fp, rfl, ht, hfp, hb1⟩
          have hb2 := HP.out.trans (hb1.mono HP.out.size)
          have HF1 := Lib.hid (hfp.mono (lo' := wr.heap.size) HP.out.size (Nat.le_refl _)); clear hfp
          have HO1 := Lib.hid (own_below HO.out hb2); clear HO
          have hz1 := hb2.size
          obtain ⟨zk, za, zn, zc, rfl, HY⟩ := ty_parts ht
          clear ht
          have p0 : ∃ u, w'.cell? ⟨w.heap.size + 1 + 1, k * 2, none⟩ = some u := by
            rw [HO1.out.cellAt (k * 2) (by omega)]
            exact ⟨_, List.getElem?_eq_getElem (by rw [HO1.out.1]; omega)⟩
          have p1 : ∃ u, w'.cell? ⟨w.heap.size + 1 + 1, k * 2 + 1, none⟩ = some u := by
            rw [HO1.out.cellAt (k * 2 + 1) (by omega)]
            exact ⟨_, List.getElem?_eq_getElem (by rw [HO1.out.1]; omega)⟩
          obtain ⟨u0, p0⟩ := p0
          obtain ⟨u1, p1⟩ := p1
          have f0 := HO1.out.frozenAt (k * 2)
          have f1 := HO1.out.frozenAt (k * 2 + 1)
          have HB1 := Lib.hid hb2; clear hb1 hb2
          go_wp2_with fail
          have hcs : cs.length = n * 2 := HO1.out.1
          have hs1 := HO1.out.stored (k * 2) (.int .i64 zk)
          have hs2 := hs1.1.stored (k * 2 + 1) (.slice za zn zc)
          have hkeep : ∀ b, w.heap.size + 1 + 1 + 1 ≤ b → b < w'.heap.size → ((w'.setCell ⟨w.heap.size + 1 + 1, k * 2, none⟩ (.int .i64 zk)).setCell ⟨w.heap.size + 1 + 1, k * 2 + 1, none⟩ (.slice za zn zc)).heap[b]? = w'.heap[b]? := fun b h1 h2 => by
            rw [heap_setCell_other _ _ _ _ (by simp; omega), heap_setCell_other _ _ _ _ (by simp; omega)]
          have hF := HF.out
          have hF1 := HF1.out
          have hL := HL.out
          have hz2 : ((w'.setCell ⟨w.heap.size + 1 + 1, k * 2, none⟩ (.int .i64 zk)).setCell ⟨w.heap.size + 1 + 1, k * 2 + 1, none⟩ (.slice za zn zc)).heap.size = w'.heap.size := by simp
          refine ⟨⟨k + 1, _, fps ++ [fp], by omega, by go_num, hs2.1, by simp [hL], ?_, ?_, ((HB.out.trans (HB1.out.mono (by omega))).setCell (Nat.le_refl _) _).setCell (Nat.le_refl _) _⟩, by simp [intOf]; omega⟩
          · rw [hz2, List.flatten_append, List.flatten_cons, List.flatten_nil, List.append_nil]
            exact hF.join hF1 (by omega) hz1
          · intro j hj hjk
            by_cases hjk2 : j = k
            · subst hjk2
              refine ⟨_, _, fp, ?_, ?_, ?_, HY.out.kept (by simp) fun b hb => hkeep b ?_ (hF1.2 b hb).2⟩
              · rw [List.getElem?_set_ne (by omega), List.getElem?_set_self (by omega)]
              · rw [List.getElem?_set_self (by simp; omega)]
              · rw [List.getElem?_append_right (by omega), hL]; simp
              · have := (hF1.2 b hb).1; omega
            · obtain ⟨c0, c1, f, hc0, hc1, hfj, hty⟩ := HD.out j hj (by omega)
              have hsub : ∀ b, b ∈ f → b ∈ fps.flatten := fun b hb => List.mem_flatten.2 ⟨f, List.mem_of_getElem? hfj, hb⟩
              refine ⟨c0, c1, f, ?_, ?_, ?_, hty.kept (by simp; omega) fun b hb => ?_⟩
              · rw [List.getElem?_set_ne (by omega), List.getElem?_set_ne (by omega)]; exact hc0
              · rw [List.getElem?_set_ne (by omega), List.getElem?_set_ne (by omega)]; exact hc1
              · rw [List.getElem?_append_left (by omega)]; exact hfj
              · have hb2 := hF.2 b (hsub b hb)
                rw [hkeep b hb2.1 (by omega)]; exact HB1.out.block b hb2.2
        · obtain rfl : k = n := by omega
          have p00 := two_first HB.out 0
          have p01 := two_first HB.out 1
          have p10 := two_next HB.out 0
          have p11 := two_next HB.out 1
          have q10 := two_frozen HB.out 0
          have q11 := two_frozen HB.out 1
          go_wp2_with fail
          have hkeep : ∀ b, b ≠ w.heap.size + 1 → ((wr.setCell ⟨w.heap.size + 1, 0, none⟩ (.int .i64 kd)).setCell ⟨w.heap.size + 1, 1, none⟩ (.slice (some ⟨w.heap.size + 1 + 1, 0, none⟩) k k)).heap[b]? = wr.heap[b]? := fun b hb => by
            rw [heap_setCell_other _ _ _ _ hb, heap_setCell_other _ _ _ _ hb]
          have hz2 : ((wr.setCell ⟨w.heap.size + 1, 0, none⟩ (.int .i64 kd)).setCell ⟨w.heap.size + 1, 1, none⟩ (.slice (some ⟨w.heap.size + 1 + 1, 0, none⟩) k k)).heap.size = wr.heap.size := by simp
          have g0 : ((wr.setCell ⟨w.heap.size + 1, 0, none⟩ (.int .i64 kd)).setCell ⟨w.heap.size + 1, 1, none⟩ (.slice (some ⟨w.heap.size + 1 + 1, 0, none⟩) k k)).cell? ⟨w.heap.size + 1, 0, none⟩ = some (.int .i64 kd) := by simp [go_sem, p10]
          have g1 : ((wr.setCell ⟨w.heap.size + 1, 0, none⟩ (.int .i64 kd)).setCell ⟨w.heap.size + 1, 1, none⟩ (.slice (some ⟨w.heap.size + 1 + 1, 0, none⟩) k k)).cell? ⟨w.heap.size + 1, 1, none⟩ = some (.slice (some ⟨w.heap.size + 1 + 1, 0, none⟩) k k) := by simp [go_sem, p11]
          refine bodyPost_ret (v := .agg #[.int .i64 kd, .slice (some ⟨w.heap.size + 1 + 1, 0, none⟩) k k]) (by simp [results, Tryz.results80, go_sem, g0, g1]) rfl ?_
          refine ⟨_, [w.heap.size + 1 + 1] ++ fps.flatten, rfl, ⟨_, rfl, hk0, hk1, some ⟨w.heap.size + 1 + 1, 0, none⟩, k, [w.heap.size + 1 + 1], fps, by rw [HN.out], by rw [← HN.out]; exact Nat.le_refl _, by omega, by rw [HL.out, HN.out], rfl, fun b hb => by cases List.mem_singleton.1 hb; rw [hz2]; exact hgl, fun j hj => ?_⟩, ?_, (HBW.out.setCell (by simp) _).setCell (by simp) _⟩
          · obtain ⟨c0, c1, f, hc0, hc1, hfj, hty⟩ := HD.out j hj (by have := HN.out; omega)
            have hjk : j < k := by have := HN.out; omega
            refine ⟨w.heap.size + 1 + 1, 0, c0, c1, f, rfl, rfl, by rw [hz2]; exact hgl, ?_, ?_, ?_, hfj, hty.kept (by rw [hz2]; exact Nat.le_refl _) fun b hb => hkeep b ?_⟩
            · rw [World.cell?_of_block (hkeep _ (show w.heap.size + 1 + 1 ≠ w.heap.size + 1 by omega)), Nat.zero_add, HO.out.cellAt (j * 2) (by omega)]; exact hc0
            · rw [World.frozen?_of_block (hkeep _ (show w.heap.size + 1 + 1 ≠ w.heap.size + 1 by omega))]; exact HO.out.frozenAt _
            · rw [World.cell?_of_block (hkeep _ (show w.heap.size + 1 + 1 ≠ w.heap.size + 1 by omega)), Nat.zero_add, HO.out.cellAt (j * 2 + 1) (by omega)]; exact hc1
            · have := (HF.out.2 b (List.mem_flatten.2 ⟨f, List.mem_of_getElem? hfj, hb⟩)).1; omega
          · rw [hz2]
            exact (Fp.one (Nat.le_refl _) (Nat.lt_succ_self _)).join HF.out (by omega) (by omega) |>.mono (by omega) (Nat.le_refl _)
end Go.Proofs.YteffjeejbdjjpaaGreatDoor
/-
  Proved: impl.ArrowType makes a type of two copied parts in new memory; the memory that was there stays as it was.
-/
namespace Go.Proofs.YteffjeejbdjjpaaGreatDoor
open Go.RowKit

set_option maxRecDepth 100000 in
set_option maxHeartbeats 2000000 in
theorem implArrowType (d : Nat) (v1 v2 : Value) (t1 t2 : Ty) (w : World) (hn1 : t1.size ≤ 1048577) (hn2 : t2.size ≤ 1048577) (h1 : TyAt w d v1 t1) (h2 : TyAt w d v2 t2) :
    Calls Tryz.prog 71 #[v1, v2] w (ToTyEnd (d + 1) (.node 4 [t1, t2]) w) := by
  obtain ⟨ak, aa, an, ac, rfl⟩ := agg_parts h1
  obtain ⟨bk, ba, bn, bc, rfl⟩ := agg_parts h2
  have B : Hid (Below w.heap.size w (((w.alloc (.cells #[.int .i64 ak, .slice aa an ac] 33)).alloc (.cells #[.int .i64 bk, .slice ba bn bc] 33)).alloc (.cells #[.int .i64 0, .slice none 0 0] 33))) := (((Below.refl _ _).alloc (Nat.le_refl _) _).alloc (by simp) _).alloc (by simp; omega) _
  have XA : Hid (BoxAt (((w.alloc (.cells #[.int .i64 ak, .slice aa an ac] 33)).alloc (.cells #[.int .i64 bk, .slice ba bn bc] 33)).alloc (.cells #[.int .i64 0, .slice none 0 0] 33)) w.heap.size #[.int .i64 ak, .slice aa an ac]) := ((BoxAt.new _ _ _).below (below_alloc _ _)).below (below_alloc _ _)
  have XB : Hid (BoxAt (((w.alloc (.cells #[.int .i64 ak, .slice aa an ac] 33)).alloc (.cells #[.int .i64 bk, .slice ba bn bc] 33)).alloc (.cells #[.int .i64 0, .slice none 0 0] 33)) (w.heap.size + 1) #[.int .i64 bk, .slice ba bn bc]) := (box_at (BoxAt.new _ _ _) (by simp)).below (below_alloc _ _)
  have XR : Hid (BoxAt (((w.alloc (.cells #[.int .i64 ak, .slice aa an ac] 33)).alloc (.cells #[.int .i64 bk, .slice ba bn bc] 33)).alloc (.cells #[.int .i64 0, .slice none 0 0] 33)) (w.heap.size + 1 + 1) #[.int .i64 0, .slice none 0 0]) := box_at (BoxAt.new _ _ _) (by simp)
  have XF : Hid (FreeAt (((w.alloc (.cells #[.int .i64 ak, .slice aa an ac] 33)).alloc (.cells #[.int .i64 bk, .slice ba bn bc] 33)).alloc (.cells #[.int .i64 0, .slice none 0 0] 33)) (w.heap.size + 1 + 1)) := free_at (FreeAt.new _ _ _) (by simp)
  have HA := Lib.hid (h1.below B.out)
  have HB := Lib.hid (h2.below B.out)
  clear h1 h2
  go_enter Tryz.func71, Tryz.ntmps71
  go_wp2_with fail
  have hb := below_drew (((w.alloc (.cells #[.int .i64 ak, .slice aa an ac] 33)).alloc (.cells #[.int .i64 bk, .slice ba bn bc] 33)).alloc (.cells #[.int .i64 0, .slice none 0 0] 33))
  replace B := Lib.hid (below_thru B.out (Nat.le_refl _) hb)
  replace HA := Lib.hid (HA.out.below hb)
  replace HB := Lib.hid (HB.out.below hb)
  replace XA := Lib.hid (XA.out.below hb)
  replace XB := Lib.hid (XB.out.below hb)
  replace XR := Lib.hid (XR.out.below hb)
  replace XF := Lib.hid (XF.out.below hb)
  clear hb
  have hzs : (((w.alloc (.cells #[.int .i64 ak, .slice aa an ac] 33)).alloc (.cells #[.int .i64 bk, .slice ba bn bc] 33)).alloc (.cells #[.int .i64 0, .slice none 0 0] 33)).drew.heap.size = w.heap.size + 3 := by simp
  go_region_held3 (fun w' => w'.cell? ⟨w.heap.size, 0, none⟩ = some (.int .i64 ak) ∧ w'.cell? ⟨w.heap.size, 1, none⟩ = some (.slice aa an ac) ∧ w'.cell? ⟨w.heap.size + 1, 0, none⟩ = some (.int .i64 bk) ∧ w'.cell? ⟨w.heap.size + 1, 1, none⟩ = some (.slice ba bn bc))
    (first | exact ⟨XA.out.2 0, XA.out.2 1, XB.out.2 0, XB.out.2 1⟩ | exact ⟨(XA.out.below (below_alloc _ _)).2 0, (XA.out.below (below_alloc _ _)).2 1, (XB.out.below (below_alloc _ _)).2 0, (XB.out.below (below_alloc _ _)).2 1⟩ | exact ⟨(((XA.out.stored (by omega)).stored (by omega)).below (below_alloc _ _)).2 0, (((XA.out.stored (by omega)).stored (by omega)).below (below_alloc _ _)).2 1, (((XB.out.stored (by omega)).stored (by omega)).below (below_alloc _ _)).2 0, (((XB.out.stored (by omega)).stored (by omega)).below (below_alloc _ _)).2 1⟩)
    (first
     | (go_at_call_of 80 (Value.agg #[Value.int IntKind.i64 ak, Value.slice aa an ac])
        refine (implCopy d _ t1 _ hn1 HA.out).mono ?_
        rintro e w1 ⟨x1, f1, rfl, ht, hf1, hb⟩
        obtain ⟨ck, ca, cn, cc, rfl, HC⟩ := ty_parts ht
        have hz1 := hb.size
        rw [hzs] at hz1 hf1
        have F1 := Lib.hid hf1
        clear ht hf1
        replace B := Lib.hid (below_thru B.out (Nat.le_refl _) hb)
        replace HA := Lib.hid (HA.out.below hb)
        replace HB := Lib.hid (HB.out.below hb)
        replace XA := Lib.hid (XA.out.below hb)
        replace XB := Lib.hid (XB.out.below hb)
        replace XR := Lib.hid (XR.out.below hb)
        replace XF := Lib.hid (XF.out.below hb)
        clear hb)
     | (go_at_call_of 80 (Value.agg #[Value.int IntKind.i64 bk, Value.slice ba bn bc])
        refine (implCopy d _ t2 _ hn2 HB.out).mono ?_
        rintro e w2 ⟨x2, f2, rfl, ht, hf2, hb⟩
        obtain ⟨dk, da, dn, dc, rfl, HD⟩ := ty_parts ht
        have hz2 := hb.size
        have F2 := Lib.hid hf2
        clear ht hf2
        replace B := Lib.hid (below_thru B.out (Nat.le_refl _) hb)
        replace HA := Lib.hid (HA.out.below hb)
        replace HB := Lib.hid (HB.out.below hb)
        replace XA := Lib.hid (XA.out.below hb)
        replace XB := Lib.hid (XB.out.below hb)
        replace XR := Lib.hid (XR.out.below hb)
        replace XF := Lib.hid (XF.out.below hb)
        replace HC := Lib.hid (HC.out.below hb)
        clear hb
        have r0 := XR.out.2 0
        have r1 := XR.out.2 1
        have q0 := XF.out.2 0
        have q1 := XF.out.2 1
        have hr := XR.out.1))
  go_wp2_with fail
  have hkeep : ∀ b, w.heap.size + 3 ≤ b → ((w2.setCell ⟨w.heap.size + 1 + 1, 0, none⟩ (.int .i64 4)).setCell ⟨w.heap.size + 1 + 1, 1, none⟩ (.slice (some ⟨w2.heap.size, 0, none⟩) 2 2)).heap[b]? = w2.heap[b]? := fun b hb => by
    rw [heap_setCell_other _ _ _ _ (by simp; omega), heap_setCell_other _ _ _ _ (by simp; omega)]
  have hxz : ((w2.setCell ⟨w.heap.size + 1 + 1, 0, none⟩ (.int .i64 4)).setCell ⟨w.heap.size + 1 + 1, 1, none⟩ (.slice (some ⟨w2.heap.size, 0, none⟩) 2 2)).heap.size = w2.heap.size := by simp
  obtain ⟨fp, hown, hfp⟩ := own_two (X := ((w2.setCell ⟨w.heap.size + 1 + 1, 0, none⟩ (.int .i64 4)).setCell ⟨w.heap.size + 1 + 1, 1, none⟩ (.slice (some ⟨w2.heap.size, 0, none⟩) 2 2))) (k := 4) (by omega) (by omega) hxz.symm (HC.out.kept (by simp) fun b hb => hkeep b (F1.out.2 b hb).1) (HD.out.kept (by simp) fun b hb => hkeep b (by have := (F2.out.2 b hb).1; omega)) F1.out F2.out hz1 hz2
  have g0 : (((w2.setCell ⟨w.heap.size + 1 + 1, 0, none⟩ (.int .i64 4)).setCell ⟨w.heap.size + 1 + 1, 1, none⟩ (.slice (some ⟨w2.heap.size, 0, none⟩) 2 2)).alloc (.cells #[.int .i64 ck, .slice ca cn cc, .int .i64 dk, .slice da dn dc] 33)).cell? ⟨w.heap.size + 1 + 1, 0, none⟩ = some (.int .i64 4) := by
    rw [World.cell?_of_block (heap_alloc_old _ _ (by rw [hxz]; exact hr))]; simp [go_sem, r0]
  have g1 : (((w2.setCell ⟨w.heap.size + 1 + 1, 0, none⟩ (.int .i64 4)).setCell ⟨w.heap.size + 1 + 1, 1, none⟩ (.slice (some ⟨w2.heap.size, 0, none⟩) 2 2)).alloc (.cells #[.int .i64 ck, .slice ca cn cc, .int .i64 dk, .slice da dn dc] 33)).cell? ⟨w.heap.size + 1 + 1, 1, none⟩ = some (.slice (some ⟨w2.heap.size, 0, none⟩) 2 2) := by
    rw [World.cell?_of_block (heap_alloc_old _ _ (by rw [hxz]; exact hr))]; simp [go_sem, r1]
  have hbF : Below w.heap.size w (((w2.setCell ⟨w.heap.size + 1 + 1, 0, none⟩ (.int .i64 4)).setCell ⟨w.heap.size + 1 + 1, 1, none⟩ (.slice (some ⟨w2.heap.size, 0, none⟩) 2 2)).alloc (.cells #[.int .i64 ck, .slice ca cn cc, .int .i64 dk, .slice da dn dc] 33)) := ((B.out.setCell (by simp; omega) _).setCell (by simp; omega) _).alloc (by rw [hxz]; omega) _
  have hzF : w2.heap.size + 1 ≤ (((w2.setCell ⟨w.heap.size + 1 + 1, 0, none⟩ (.int .i64 4)).setCell ⟨w.heap.size + 1 + 1, 1, none⟩ (.slice (some ⟨w2.heap.size, 0, none⟩) 2 2)).alloc (.cells #[.int .i64 ck, .slice ca cn cc, .int .i64 dk, .slice da dn dc] 33)).heap.size := by simp
  generalize ((w2.setCell ⟨w.heap.size + 1 + 1, 0, none⟩ (.int .i64 4)).setCell ⟨w.heap.size + 1 + 1, 1, none⟩ (.slice (some ⟨w2.heap.size, 0, none⟩) 2 2)).alloc (.cells #[.int .i64 ck, .slice ca cn cc, .int .i64 dk, .slice da dn dc] 33) = WF at g0 g1 hown hbF hzF ⊢
  refine bodyPost_ret (v := .agg #[.int .i64 4, .slice (some ⟨w2.heap.size, 0, none⟩) 2 2]) (by simp [results, Tryz.results71, go_sem, g0, g1]) rfl ?_
  exact ⟨_, fp, rfl, hown, hfp.mono (by omega) hzF, hbF⟩
end Go.Proofs.YteffjeejbdjjpaaGreatDoor
/-
  Proved: impl.PairType makes a type of two copied parts in new memory; the memory that was there stays as it was.
-/
namespace Go.Proofs.YteffjeejbdjjpaaGreatDoor
open Go.RowKit

set_option maxRecDepth 100000 in
set_option maxHeartbeats 2000000 in
theorem implPairType (d : Nat) (v1 v2 : Value) (t1 t2 : Ty) (w : World) (hn1 : t1.size ≤ 1048577) (hn2 : t2.size ≤ 1048577) (h1 : TyAt w d v1 t1) (h2 : TyAt w d v2 t2) :
    Calls Tryz.prog 78 #[v1, v2] w (ToTyEnd (d + 1) (.node 5 [t1, t2]) w) := by
  obtain ⟨ak, aa, an, ac, rfl⟩ := agg_parts h1
  obtain ⟨bk, ba, bn, bc, rfl⟩ := agg_parts h2
  have B : Hid (Below w.heap.size w (((w.alloc (.cells #[.int .i64 ak, .slice aa an ac] 33)).alloc (.cells #[.int .i64 bk, .slice ba bn bc] 33)).alloc (.cells #[.int .i64 0, .slice none 0 0] 33))) := (((Below.refl _ _).alloc (Nat.le_refl _) _).alloc (by simp) _).alloc (by simp; omega) _
  have XA : Hid (BoxAt (((w.alloc (.cells #[.int .i64 ak, .slice aa an ac] 33)).alloc (.cells #[.int .i64 bk, .slice ba bn bc] 33)).alloc (.cells #[.int .i64 0, .slice none 0 0] 33)) w.heap.size #[.int .i64 ak, .slice aa an ac]) := ((BoxAt.new _ _ _).below (below_alloc _ _)).below (below_alloc _ _)
  have XB : Hid (BoxAt (((w.alloc (.cells #[.int .i64 ak, .slice aa an ac] 33)).alloc (.cells #[.int .i64 bk, .slice ba bn bc] 33)).alloc (.cells #[.int .i64 0, .slice none 0 0] 33)) (w.heap.size + 1) #[.int .i64 bk, .slice ba bn bc]) := (box_at (BoxAt.new _ _ _) (by simp)).below (below_alloc _ _)
  have XR : Hid (BoxAt (((w.alloc (.cells #[.int .i64 ak, .slice aa an ac] 33)).alloc (.cells #[.int .i64 bk, .slice ba bn bc] 33)).alloc (.cells #[.int .i64 0, .slice none 0 0] 33)) (w.heap.size + 1 + 1) #[.int .i64 0, .slice none 0 0]) := box_at (BoxAt.new _ _ _) (by simp)
  have XF : Hid (FreeAt (((w.alloc (.cells #[.int .i64 ak, .slice aa an ac] 33)).alloc (.cells #[.int .i64 bk, .slice ba bn bc] 33)).alloc (.cells #[.int .i64 0, .slice none 0 0] 33)) (w.heap.size + 1 + 1)) := free_at (FreeAt.new _ _ _) (by simp)
  have HA := Lib.hid (h1.below B.out)
  have HB := Lib.hid (h2.below B.out)
  clear h1 h2
  go_enter Tryz.func78, Tryz.ntmps78
  go_wp2_with fail
  have hb := below_drew (((w.alloc (.cells #[.int .i64 ak, .slice aa an ac] 33)).alloc (.cells #[.int .i64 bk, .slice ba bn bc] 33)).alloc (.cells #[.int .i64 0, .slice none 0 0] 33))
  replace B := Lib.hid (below_thru B.out (Nat.le_refl _) hb)
  replace HA := Lib.hid (HA.out.below hb)
  replace HB := Lib.hid (HB.out.below hb)
  replace XA := Lib.hid (XA.out.below hb)
  replace XB := Lib.hid (XB.out.below hb)
  replace XR := Lib.hid (XR.out.below hb)
  replace XF := Lib.hid (XF.out.below hb)
  clear hb
  have hzs : (((w.alloc (.cells #[.int .i64 ak, .slice aa an ac] 33)).alloc (.cells #[.int .i64 bk, .slice ba bn bc] 33)).alloc (.cells #[.int .i64 0, .slice none 0 0] 33)).drew.heap.size = w.heap.size + 3 := by simp
  go_region_held3 (fun w' => w'.cell? ⟨w.heap.size, 0, none⟩ = some (.int .i64 ak) ∧ w'.cell? ⟨w.heap.size, 1, none⟩ = some (.slice aa an ac) ∧ w'.cell? ⟨w.heap.size + 1, 0, none⟩ = some (.int .i64 bk) ∧ w'.cell? ⟨w.heap.size + 1, 1, none⟩ = some (.slice ba bn bc))
    (first | exact ⟨XA.out.2 0, XA.out.2 1, XB.out.2 0, XB.out.2 1⟩ | exact ⟨(XA.out.below (below_alloc _ _)).2 0, (XA.out.below (below_alloc _ _)).2 1, (XB.out.below (below_alloc _ _)).2 0, (XB.out.below (below_alloc _ _)).2 1⟩ | exact ⟨(((XA.out.stored (by omega)).stored (by omega)).below (below_alloc _ _)).2 0, (((XA.out.stored (by omega)).stored (by omega)).below (below_alloc _ _)).2 1, (((XB.out.stored (by omega)).stored (by omega)).below (below_alloc _ _)).2 0, (((XB.out.stored (by omega)).stored (by omega)).below (below_alloc _ _)).2 1⟩)
    (first
     | (go_at_call_of 80 (Value.agg #[Value.int IntKind.i64 ak, Value.slice aa an ac])
        refine (implCopy d _ t1 _ hn1 HA.out).mono ?_
        rintro e w1 ⟨x1, f1, rfl, ht, hf1, hb⟩
        obtain ⟨ck, ca, cn, cc, rfl, HC⟩ := ty_parts ht
        have hz1 := hb.size
        rw [hzs] at hz1 hf1
        have F1 := Lib.hid hf1
        clear ht hf1
        replace B := Lib.hid (below_thru B.out (Nat.le_refl _) hb)
        replace HA := Lib.hid (HA.out.below hb)
        replace HB := Lib.hid (HB.out.below hb)
        replace XA := Lib.hid (XA.out.below hb)
        replace XB := Lib.hid (XB.out.below hb)
        replace XR := Lib.hid (XR.out.below hb)
        replace XF := Lib.hid (XF.out.below hb)
        clear hb)
     | (go_at_call_of 80 (Value.agg #[Value.int IntKind.i64 bk, Value.slice ba bn bc])
        refine (implCopy d _ t2 _ hn2 HB.out).mono ?_
        rintro e w2 ⟨x2, f2, rfl, ht, hf2, hb⟩
        obtain ⟨dk, da, dn, dc, rfl, HD⟩ := ty_parts ht
        have hz2 := hb.size
        have F2 := Lib.hid hf2
        clear ht hf2
        replace B := Lib.hid (below_thru B.out (Nat.le_refl _) hb)
        replace HA := Lib.hid (HA.out.below hb)
        replace HB := Lib.hid (HB.out.below hb)
        replace XA := Lib.hid (XA.out.below hb)
        replace XB := Lib.hid (XB.out.below hb)
        replace XR := Lib.hid (XR.out.below hb)
        replace XF := Lib.hid (XF.out.below hb)
        replace HC := Lib.hid (HC.out.below hb)
        clear hb
        have r0 := XR.out.2 0
        have r1 := XR.out.2 1
        have q0 := XF.out.2 0
        have q1 := XF.out.2 1
        have hr := XR.out.1))
  go_wp2_with fail
  have hkeep : ∀ b, w.heap.size + 3 ≤ b → ((w2.setCell ⟨w.heap.size + 1 + 1, 0, none⟩ (.int .i64 5)).setCell ⟨w.heap.size + 1 + 1, 1, none⟩ (.slice (some ⟨w2.heap.size, 0, none⟩) 2 2)).heap[b]? = w2.heap[b]? := fun b hb => by
    rw [heap_setCell_other _ _ _ _ (by simp; omega), heap_setCell_other _ _ _ _ (by simp; omega)]
  have hxz : ((w2.setCell ⟨w.heap.size + 1 + 1, 0, none⟩ (.int .i64 5)).setCell ⟨w.heap.size + 1 + 1, 1, none⟩ (.slice (some ⟨w2.heap.size, 0, none⟩) 2 2)).heap.size = w2.heap.size := by simp
  obtain ⟨fp, hown, hfp⟩ := own_two (X := ((w2.setCell ⟨w.heap.size + 1 + 1, 0, none⟩ (.int .i64 5)).setCell ⟨w.heap.size + 1 + 1, 1, none⟩ (.slice (some ⟨w2.heap.size, 0, none⟩) 2 2))) (k := 5) (by omega) (by omega) hxz.symm (HC.out.kept (by simp) fun b hb => hkeep b (F1.out.2 b hb).1) (HD.out.kept (by simp) fun b hb => hkeep b (by have := (F2.out.2 b hb).1; omega)) F1.out F2.out hz1 hz2
  have g0 : (((w2.setCell ⟨w.heap.size + 1 + 1, 0, none⟩ (.int .i64 5)).setCell ⟨w.heap.size + 1 + 1, 1, none⟩ (.slice (some ⟨w2.heap.size, 0, none⟩) 2 2)).alloc (.cells #[.int .i64 ck, .slice ca cn cc, .int .i64 dk, .slice da dn dc] 33)).cell? ⟨w.heap.size + 1 + 1, 0, none⟩ = some (.int .i64 5) := by
    rw [World.cell?_of_block (heap_alloc_old _ _ (by rw [hxz]; exact hr))]; simp [go_sem, r0]
  have g1 : (((w2.setCell ⟨w.heap.size + 1 + 1, 0, none⟩ (.int .i64 5)).setCell ⟨w.heap.size + 1 + 1, 1, none⟩ (.slice (some ⟨w2.heap.size, 0, none⟩) 2 2)).alloc (.cells #[.int .i64 ck, .slice ca cn cc, .int .i64 dk, .slice da dn dc] 33)).cell? ⟨w.heap.size + 1 + 1, 1, none⟩ = some (.slice (some ⟨w2.heap.size, 0, none⟩) 2 2) := by
    rw [World.cell?_of_block (heap_alloc_old _ _ (by rw [hxz]; exact hr))]; simp [go_sem, r1]
  have hbF : Below w.heap.size w (((w2.setCell ⟨w.heap.size + 1 + 1, 0, none⟩ (.int .i64 5)).setCell ⟨w.heap.size + 1 + 1, 1, none⟩ (.slice (some ⟨w2.heap.size, 0, none⟩) 2 2)).alloc (.cells #[.int .i64 ck, .slice ca cn cc, .int .i64 dk, .slice da dn dc] 33)) := ((B.out.setCell (by simp; omega) _).setCell (by simp; omega) _).alloc (by rw [hxz]; omega) _
  have hzF : w2.heap.size + 1 ≤ (((w2.setCell ⟨w.heap.size + 1 + 1, 0, none⟩ (.int .i64 5)).setCell ⟨w.heap.size + 1 + 1, 1, none⟩ (.slice (some ⟨w2.heap.size, 0, none⟩) 2 2)).alloc (.cells #[.int .i64 ck, .slice ca cn cc, .int .i64 dk, .slice da dn dc] 33)).heap.size := by simp
  generalize ((w2.setCell ⟨w.heap.size + 1 + 1, 0, none⟩ (.int .i64 5)).setCell ⟨w.heap.size + 1 + 1, 1, none⟩ (.slice (some ⟨w2.heap.size, 0, none⟩) 2 2)).alloc (.cells #[.int .i64 ck, .slice ca cn cc, .int .i64 dk, .slice da dn dc] 33) = WF at g0 g1 hown hbF hzF ⊢
  refine bodyPost_ret (v := .agg #[.int .i64 5, .slice (some ⟨w2.heap.size, 0, none⟩) 2 2]) (by simp [results, Tryz.results78, go_sem, g0, g1]) rfl ?_
  exact ⟨_, fp, rfl, hown, hfp.mono (by omega) hzF, hbF⟩
end Go.Proofs.YteffjeejbdjjpaaGreatDoor
namespace Go.Proofs.YteffjeejbdjjpaaGreatDoor
open Go.RowKit

set_option maxRecDepth 100000 in
set_option maxHeartbeats 4000000 in
theorem implLook (d : Nat) (v : Value) (nm : ByteArray) (bs : List Bi) (w : World) (h : BisAt w d v bs) (hn : Bi.bulks bs ≤ 1048576) :
    Calls Tryz.prog 68 #[v, .string nm] w (LookEnd d (Bi.look bs nm) w) := by
  obtain ⟨a, cap, rfl, hcap, hcap2, hat⟩ := h
  have HAT := Lib.hid hat; clear hat
  have hlen := Bi.length_le bs
  obtain ⟨W, hW⟩ : ∃ W, W = (w.alloc (.cells #[.int .i64 0, .slice none 0 0] 33)) := ⟨_, rfl⟩
  have B : Hid (Below w.heap.size w W) := by show Below _ _ _; rw [hW]; exact below_alloc _ _
  have XR : Hid (BoxAt W w.heap.size #[.int .i64 0, .slice none 0 0]) := by show BoxAt _ _ _; rw [hW]; exact BoxAt.new _ _ _
  have FR : Hid (FreeAt W w.heap.size) := by show FreeAt _ _; rw [hW]; exact FreeAt.new _ _ _
  have hz0 : W.heap.size = w.heap.size + 1 := by rw [hW]; simp
  go_enter Tryz.func68, Tryz.ntmps68
  go_wp2_with fail
  rw [← hW]
  clear hW
  go_loopw [6] (fun i wr => ∃ k : Nat, k ≤ bs.length ∧ i = .int .i64 (downIdx k) ∧ (∀ j (h : j < bs.length), k ≤ j → bs[j].name ≠ nm) ∧ wr = W) (fun i _ => (intOf i + 1).toNat)
  case atStart => exact ⟨bs.length, Nat.le_refl _, by rw [downIdx_eq], fun j h1 h2 => by omega, rfl⟩
  case round =>
    obtain ⟨k, hk, rfl, hf, hw⟩ := hrel
    subst hw
    have HF0 := Lib.hid hf; clear hf
    cases k with
    | zero =>
      have HL : Hid (Bi.look bs nm = none) := look_none bs nm fun j hj => HF0.out j hj (Nat.zero_le _)
      rw [show downIdx 0 = -1 from rfl]
      have r0 := XR.out.2 0
      have s0 := FR.out.2 0
      have r1 := XR.out.2 1
      have s1 := FR.out.2 1
      go_wp2_with fail
      have XRF : BoxAt ((wr.setCell ⟨w.heap.size, 0, none⟩ (.int .i64 0)).setCell ⟨w.heap.size, 1, none⟩ (.slice none 0 0)) w.heap.size #[.int .i64 0, .slice none 0 0] := by
        have := ((XR.out.put (j := 0) (u := .int .i64 0) (by simp)).put (j := 1) (u := .slice none 0 0) (by simp))
        exact this
      have hBF : Below w.heap.size w ((wr.setCell ⟨w.heap.size, 0, none⟩ (.int .i64 0)).setCell ⟨w.heap.size, 1, none⟩ (.slice none 0 0)) := ((B.out.setCell (Nat.le_refl _) _).setCell (Nat.le_refl _) _)
      have h0 := XRF.2 0
      have h1 := XRF.2 1
      clear XRF
      generalize ((wr.setCell ⟨w.heap.size, 0, none⟩ (.int .i64 0)).setCell ⟨w.heap.size, 1, none⟩ (.slice none 0 0)) = WX at h0 h1 hBF ⊢
      refine bodyPost_ret (v := .tuple #[.agg #[.int .i64 0, .slice none 0 0], .bool false]) (by simp [results, Tryz.results68, go_sem, h0, h1]) rfl ?_
      rw [HL.out]
      exact ⟨_, rfl, ⟨[], look_zero _ d 0 (by omega) (by omega), Fp.nil _ _, Nat.le_refl _⟩, hBF⟩
    | succ j =>
      rw [show downIdx (j + 1) = (j : Int) from rfl]
      have hlt : j < bs.length := hk
      obtain ⟨b, off, x0, x1, x2, rfl, hbl, hc0, hc1, hc2, ht⟩ := HAT.out j hlt
      obtain ⟨tk, ta, tn, tc, rfl, rfl, rfl, hnz, hty⟩ := look_cells ht
      have hg := Bi.bulk_get bs j hlt
      have hgb : bs[j].bulk = bs[j].name.size + (bs[j].ty.size - 1) := rfl
      have hsz : bs[j].ty.size ≤ 1048577 := by omega
      have e0 : wr.cell? ⟨b, off + j * 3, none⟩ = some (.string bs[j].name) := by rw [B.out.cell (p := ⟨b, off + j * 3, none⟩) hbl]; exact hc0
      have e1 : wr.cell? ⟨b, off + j * 3 + 1, none⟩ = some (.int .i64 tk) := by rw [B.out.cell (p := ⟨b, off + j * 3 + 1, none⟩) hbl]; exact hc1
      have e2 : wr.cell? ⟨b, off + j * 3 + 2, none⟩ = some (.slice ta tn tc) := by rw [B.out.cell (p := ⟨b, off + j * 3 + 2, none⟩) hbl]; exact hc2
      have HT := Lib.hid (hty.below B.out).succ
      clear hc0 hc1 hc2 ht hty hgb hg
      by_cases q : bs[j].name = nm
      · have HL : Hid (Bi.look bs nm = some bs[j].ty) := look_at bs nm j hlt (fun i hi hj => HF0.out i hi (by omega)) q
        rw [q] at e0
        clear q
        go_wp2_with fail
        clear e0 e1 e2
        refine (implCopy (d + 1) _ bs[j].ty _ hsz HT.out).mono ?_
        rintro e w1 ⟨v1, fp, rfl, ho, hfp, hb⟩
        obtain ⟨zk, za, zn, zc, rfl, _⟩ := ty_parts ho
        have hz1 := hb.size
        rw [hz0] at hz1 hfp
        have HO := Lib.hid ho
        have HF := Lib.hid hfp
        replace B := Lib.hid (below_thru B.out (Nat.le_refl _) hb)
        replace XR := Lib.hid (XR.out.below hb)
        replace FR := Lib.hid (FR.out.below hb)
        clear ho hfp hb HT
        have r0 := XR.out.2 0
        have s0 := FR.out.2 0
        have r1 := XR.out.2 1
        have s1 := FR.out.2 1
        go_wp2_with fail
        have XRF : BoxAt ((w1.setCell ⟨w.heap.size, 0, none⟩ (.int .i64 zk)).setCell ⟨w.heap.size, 1, none⟩ (.slice za zn zc)) w.heap.size #[.int .i64 zk, .slice za zn zc] := by
          have := ((XR.out.put (j := 0) (u := .int .i64 zk) (by simp)).put (j := 1) (u := .slice za zn zc) (by simp))
          exact this
        have hBF : Below w.heap.size w ((w1.setCell ⟨w.heap.size, 0, none⟩ (.int .i64 zk)).setCell ⟨w.heap.size, 1, none⟩ (.slice za zn zc)) := ((B.out.setCell (Nat.le_refl _) _).setCell (Nat.le_refl _) _)
        have HOF : TyOwn ((w1.setCell ⟨w.heap.size, 0, none⟩ (.int .i64 zk)).setCell ⟨w.heap.size, 1, none⟩ (.slice za zn zc)) (d + 1) (.agg #[.int .i64 zk, .slice za zn zc]) bs[j].ty fp := HO.out.kept (by simp) fun b hb => by rw [heap_setCell_other _ _ _ _ (by have := (HF.out.2 b hb).1; simp; omega), heap_setCell_other _ _ _ _ (by have := (HF.out.2 b hb).1; simp; omega)]
        have hfF : Fp w.heap.size ((w1.setCell ⟨w.heap.size, 0, none⟩ (.int .i64 zk)).setCell ⟨w.heap.size, 1, none⟩ (.slice za zn zc)).heap.size fp := by rw [show ((w1.setCell ⟨w.heap.size, 0, none⟩ (.int .i64 zk)).setCell ⟨w.heap.size, 1, none⟩ (.slice za zn zc)).heap.size = w1.heap.size from by simp]; exact HF.out.mono (by omega) (Nat.le_refl _)
        have h0 := XRF.2 0
        have h1 := XRF.2 1
        clear XRF
        generalize ((w1.setCell ⟨w.heap.size, 0, none⟩ (.int .i64 zk)).setCell ⟨w.heap.size, 1, none⟩ (.slice za zn zc)) = WX at h0 h1 hBF HOF hfF ⊢
        refine bodyPost_ret (v := .tuple #[.agg #[.int .i64 zk, .slice za zn zc], .bool true]) (by simp [results, Tryz.results68, go_sem, h0, h1]) rfl ?_
        rw [HL.out]
        exact ⟨_, rfl, ⟨fp, HOF, hfF, Nat.le_refl _⟩, hBF⟩
      · have qs := text_ne q
        have HQ := Lib.hid q
        clear q
        go_wp2_with fail
        exact ⟨⟨j, by omega, by rw [downIdx_eq], fun i h1 h2 => by
          by_cases e : i = j
          · subst e; exact HQ.out
          · exact HF0.out i h1 (by omega), by first | trivial | rfl⟩, by first | (simp [intOf]; done) | (simp [intOf]; omega)⟩
end Go.Proofs.YteffjeejbdjjpaaGreatDoor
